/- label.Category answers what the document says, and turns nothing. -/
import Derived.Test.YtpdijobakfpnbaaGreatQMem
import Derived.Laws.StructEq
import Derived.Deep.QuietTactic
import Derived.BigQuiet
import Derived.Test.YtpdijobakfpnbaaGreatQWMem
namespace Go.Proofs.YtpdijobakfpnbaaGreat
open Go.RowKit Go.Proofs.Parclose
theorem QH (c : Int) (w : World) : Calls Tryz.prog 175 #[.int .i64 c] w fun e w' => e = .returned (.bool (catB c)) ∧ w' = w := by
 unfold catB
 by_cases h1 : 0 ≤ c
 · by_cases h2 : c < 80
   · go_enter Tryz.func175, Tryz.ntmps175
     go_wp2
     go_ret
     exact ⟨Qn (by simp [h1, h2]), rfl⟩
   · go_enter Tryz.func175, Tryz.ntmps175
     go_wp2
     go_ret
     exact ⟨Qn (by simp [h2]), rfl⟩
 · go_enter Tryz.func175, Tryz.ntmps175
   go_wp2
   go_ret
   exact ⟨Qn (by simp; omega), rfl⟩
theorem Qam (c : Int) (w : World) : Calls Tryz.prog 164 #[.int .i64 c] w fun e w' => e = .returned (.bool (hostB c)) ∧ w' = w := by
 unfold hostB
 by_cases h1 : 0 ≤ c
 · by_cases h2 : c < 4
   · go_enter Tryz.func164, Tryz.ntmps164
     go_wp2
     go_ret
     exact ⟨Qn (by simp [h1, h2]), rfl⟩
   · go_enter Tryz.func164, Tryz.ntmps164
     go_wp2
     go_ret
     exact ⟨Qn (by simp [h2]), rfl⟩
 · go_enter Tryz.func164, Tryz.ntmps164
   go_wp2
   go_ret
   exact ⟨Qn (by simp; omega), rfl⟩
theorem QaV (c : Int) (w : World) : Calls Tryz.prog 184 #[.int .i64 c] w fun e w' => e = .returned (.bool (timeB c)) ∧ w' = w := by
 unfold timeB
 by_cases h1 : 0 ≤ c
 · by_cases h2 : c ≤ 1099511627776
   · go_enter Tryz.func184, Tryz.ntmps184
     go_wp2
     go_ret
     exact ⟨Qn (by simp [h1, h2]), rfl⟩
   · go_enter Tryz.func184, Tryz.ntmps184
     go_wp2
     go_ret
     exact ⟨Qn (by simp [h2]), rfl⟩
 · go_enter Tryz.func184, Tryz.ntmps184
   go_wp2
   go_ret
   exact ⟨Qn (by simp; omega), rfl⟩
theorem Qap (a b : Int) (w : World) : Calls Tryz.prog 183 #[.int .i64 a, .int .i64 b] w fun e w' => e = .returned (.bool (twoB a b)) ∧ w' = w := by
 unfold twoB
 cases h1 : hostB a <;> cases h2 : hostB b <;> cases h3 : (a == b)
 all_goals
  have h4 : (a != b) = !(a == b) := rfl
  go_enter Tryz.func183, Tryz.ntmps183
  go_wp2_with (go_at_call 164; refine (Qam _ _).mono ?_; rintro e w' ⟨rfl, rfl⟩)
  go_ret
  exact ⟨Qn (by simp [*]), rfl⟩
theorem Qbp (x : Crt) (w : World) : Calls Tryz.prog 171 #[crtV x] w fun e w' => e = .returned (.bool (certB x)) ∧ Below w.heap.size w w' := by
 unfold certB crtV
 cases h1 : catB x.c <;> cases h2 : twoB x.b x.h <;> cases h3 : timeB x.u
 all_goals
  go_enter Tryz.func171, Tryz.ntmps171
  go_wp2_with (first | (go_at_call 175; refine (QH _ _).mono ?_; rintro e w' ⟨rfl, rfl⟩) | (go_at_call 183; refine (Qap _ _ _).mono ?_; rintro e w' ⟨rfl, rfl⟩) | (go_at_call 184; refine (QaV _ _).mono ?_; rintro e w' ⟨rfl, rfl⟩))
  go_ret
  exact ⟨Qn (by simp), Qc _ _⟩
end Go.Proofs.YtpdijobakfpnbaaGreat
