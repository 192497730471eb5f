/- The reference: four, IsCategory, GoodCert answer what the document says. -/
import Derived.Test.YtagmnfghkfeplaaWMem
import Derived.Laws.StructEq
import Derived.Deep.QuietTactic
import Derived.BigQuiet
namespace Go.Proofs.Ytagmnfghkfeplaa
open Go.RowKit Go.Proofs.Parclose

theorem rfour_any (c : Int) (w : World) : Calls Try.prog 35 #[.int .i64 c] w fun e w' => e = .returned (.bool (hostB c)) ∧ w' = w := by
  unfold hostB
  by_cases h1 : 0 ≤ c
  · by_cases h2 : c < 4
    · go_enter Try.func35, Try.ntmps35
      go_wp2
      go_ret
      exact ⟨ret_bool (by simp [h1, h2]), rfl⟩
    · go_enter Try.func35, Try.ntmps35
      go_wp2
      go_ret
      exact ⟨ret_bool (by simp [h2]), rfl⟩
  · go_enter Try.func35, Try.ntmps35
    go_wp2
    go_ret
    exact ⟨ret_bool (by simp; omega), rfl⟩

theorem rcat_any (c : Int) (w : World) : Calls Try.prog 42 #[.int .i64 c] w fun e w' => e = .returned (.bool (catB c)) ∧ w' = w := by
  unfold catB
  by_cases h1 : 0 ≤ c
  · by_cases h2 : c ≤ 79
    · go_enter Try.func42, Try.ntmps42
      go_wp2
      go_ret
      exact ⟨ret_bool (by simp; omega), rfl⟩
    · go_enter Try.func42, Try.ntmps42
      go_wp2
      go_ret
      exact ⟨ret_bool (by simp; omega), rfl⟩
  · go_enter Try.func42, Try.ntmps42
    go_wp2
    go_ret
    exact ⟨ret_bool (by simp; omega), rfl⟩

theorem rgoodCert_any (x : Crt) (w : World) : Calls Try.prog 17 #[crtV x] w fun e w' => e = .returned (.bool (certB x)) ∧ Below w.heap.size w w' := by
  have hx : certB x = (catB x.c && (hostB x.b && hostB x.h && !(x.b == x.h)) && timeB x.u) := rfl
  have hn : (x.b != x.h) = !(x.b == x.h) := rfl
  have ht : timeB x.u = (decide (0 ≤ x.u) && decide (x.u ≤ 1099511627776)) := by unfold timeB; simp
  unfold crtV
  rw [ht] at hx
  have HX := hid hx
  clear hx ht
  cases h1 : catB x.c with
  | false =>
    go_enter Try.func17, Try.ntmps17
    go_wp2_with (first | (go_at_call 42; refine (rcat_any _ _).mono ?_; rintro e w' ⟨rfl, rfl⟩) | (go_at_call 35; refine (rfour_any _ _).mono ?_; rintro e w' ⟨rfl, rfl⟩))
    go_ret
    exact ⟨ret_bool (by rw [HX.out, h1]; simp), below_box _ _⟩
  | true =>
    cases h2 : hostB x.b with
    | false =>
      go_enter Try.func17, Try.ntmps17
      go_wp2_with (first | (go_at_call 42; refine (rcat_any _ _).mono ?_; rintro e w' ⟨rfl, rfl⟩) | (go_at_call 35; refine (rfour_any _ _).mono ?_; rintro e w' ⟨rfl, rfl⟩))
      go_ret
      exact ⟨ret_bool (by rw [HX.out, h2]; simp), below_box _ _⟩
    | true =>
      cases h3 : hostB x.h with
      | false =>
        go_enter Try.func17, Try.ntmps17
        go_wp2_with (first | (go_at_call 42; refine (rcat_any _ _).mono ?_; rintro e w' ⟨rfl, rfl⟩) | (go_at_call 35; refine (rfour_any _ _).mono ?_; rintro e w' ⟨rfl, rfl⟩))
        go_ret
        exact ⟨ret_bool (by rw [HX.out, h3]; simp), below_box _ _⟩
      | true =>
        cases h4 : (x.b == x.h) with
        | true =>
          rw [h4] at hn
          go_enter Try.func17, Try.ntmps17
          go_wp2_with (first | (go_at_call 42; refine (rcat_any _ _).mono ?_; rintro e w' ⟨rfl, rfl⟩) | (go_at_call 35; refine (rfour_any _ _).mono ?_; rintro e w' ⟨rfl, rfl⟩))
          go_ret
          exact ⟨ret_bool (by rw [HX.out, h4]; simp), below_box _ _⟩
        | false =>
          rw [h4] at hn
          cases h5 : decide (0 ≤ x.u) with
          | false =>
            go_enter Try.func17, Try.ntmps17
            go_wp2_with (first | (go_at_call 42; refine (rcat_any _ _).mono ?_; rintro e w' ⟨rfl, rfl⟩) | (go_at_call 35; refine (rfour_any _ _).mono ?_; rintro e w' ⟨rfl, rfl⟩))
            go_ret
            exact ⟨ret_bool (by rw [HX.out, h5]; simp), below_box _ _⟩
          | true =>
            cases h6 : decide (x.u ≤ 1099511627776) with
            | false =>
              go_enter Try.func17, Try.ntmps17
              go_wp2_with (first | (go_at_call 42; refine (rcat_any _ _).mono ?_; rintro e w' ⟨rfl, rfl⟩) | (go_at_call 35; refine (rfour_any _ _).mono ?_; rintro e w' ⟨rfl, rfl⟩))
              go_ret
              exact ⟨ret_bool (by rw [HX.out, h6]; simp), below_box _ _⟩
            | true =>
              go_enter Try.func17, Try.ntmps17
              go_wp2_with (first | (go_at_call 42; refine (rcat_any _ _).mono ?_; rintro e w' ⟨rfl, rfl⟩) | (go_at_call 35; refine (rfour_any _ _).mono ?_; rintro e w' ⟨rfl, rfl⟩))
              go_ret
              exact ⟨ret_bool (by rw [HX.out, h1, h2, h3, h4, h5, h6]; simp), below_box _ _⟩
end Go.Proofs.Ytagmnfghkfeplaa
