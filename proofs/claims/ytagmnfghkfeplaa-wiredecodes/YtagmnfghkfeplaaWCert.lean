/- wire.isHost and GoodCert answer what the document says, and turn nothing. -/
import Derived.Test.YtagmnfghkfeplaaWMem
import Derived.Test.YtagmnfghkfeplaaCat
namespace Go.Proofs.Ytagmnfghkfeplaa
open Go.RowKit Go.Proofs.Parclose

theorem isHost_any (c : Int) (w : World) : Calls Try.prog 37 #[.int .i64 c] w fun e w' => e = .returned (.bool (hostB c)) ∧ w' = w := by
  unfold hostB
  by_cases h1 : 0 ≤ c
  · by_cases h2 : c < 4
    · go_enter Try.func37, Try.ntmps37
      go_wp2
      go_ret
      exact ⟨ret_bool (by simp [h1, h2]), rfl⟩
    · go_enter Try.func37, Try.ntmps37
      go_wp2
      go_ret
      exact ⟨ret_bool (by simp [h2]), rfl⟩
  · go_enter Try.func37, Try.ntmps37
    go_wp2
    go_ret
    exact ⟨ret_bool (by simp; omega), rfl⟩

theorem isTime_any (c : Int) (w : World) : Calls Try.prog 31 #[.int .i64 c] w fun e w' => e = .returned (.bool (timeB c)) ∧ w' = w := by
  unfold timeB
  by_cases h1 : 0 ≤ c
  · by_cases h2 : c ≤ 1099511627776
    · go_enter Try.func31, Try.ntmps31
      go_wp2
      go_ret
      exact ⟨ret_bool (by simp [h1, h2]), rfl⟩
    · go_enter Try.func31, Try.ntmps31
      go_wp2
      go_ret
      exact ⟨ret_bool (by simp [h2]), rfl⟩
  · go_enter Try.func31, Try.ntmps31
    go_wp2
    go_ret
    exact ⟨ret_bool (by simp; omega), rfl⟩

theorem areTwo_any (a b : Int) (w : World) : Calls Try.prog 30 #[.int .i64 a, .int .i64 b] w fun e w' => e = .returned (.bool (twoB a b)) ∧ w' = w := by
  unfold twoB
  cases h1 : hostB a <;> cases h2 : hostB b <;> cases h3 : (a == b)
  all_goals
    have h4 : (a != b) = !(a == b) := rfl
    go_enter Try.func30, Try.ntmps30
    go_wp2_with (go_at_call 37; refine (isHost_any _ _).mono ?_; rintro e w' ⟨rfl, rfl⟩)
    go_ret
    exact ⟨ret_bool (by simp [*]), rfl⟩

theorem goodCert_any (x : Crt) (w : World) : Calls Try.prog 16 #[crtV x] w fun e w' => e = .returned (.bool (certB x)) ∧ Below w.heap.size w w' := by
  unfold certB crtV
  cases h1 : catB x.c <;> cases h2 : twoB x.b x.h <;> cases h3 : timeB x.u
  all_goals
    go_enter Try.func16, Try.ntmps16
    go_wp2_with (first | (go_at_call 41; refine (category_any _ _).mono ?_; rintro e w' ⟨rfl, rfl⟩) | (go_at_call 30; refine (areTwo_any _ _ _).mono ?_; rintro e w' ⟨rfl, rfl⟩) | (go_at_call 31; refine (isTime_any _ _).mono ?_; rintro e w' ⟨rfl, rfl⟩))
    go_ret
    exact ⟨ret_bool (by simp), below_box _ _⟩
end Go.Proofs.Ytagmnfghkfeplaa
