/- label.Category answers what the document says, and turns nothing. -/
import Derived.Test.YtpdijobakfpnbaaQMem
import Derived.Laws.StructEq
import Derived.Deep.QuietTactic
import Derived.BigQuiet
import Derived.Test.YtpdijobakfpnbaaQWMem
namespace Go.Proofs.Ytpdijobakfpnbaa
open Go.RowKit Go.Proofs.Parclose
theorem QG (c : Int) (w : World) : Calls Try.prog 66 #[.int .i64 c] w fun e w' => e = .returned (.bool (catB c)) ∧ w' = w := by
 unfold catB
 by_cases h1 : 0 ≤ c
 · by_cases h2 : c < 80
   · go_enter Try.func66, Try.ntmps66
     go_wp2
     go_ret
     exact ⟨Qm (by simp [h1, h2]), rfl⟩
   · go_enter Try.func66, Try.ntmps66
     go_wp2
     go_ret
     exact ⟨Qm (by simp [h2]), rfl⟩
 · go_enter Try.func66, Try.ntmps66
   go_wp2
   go_ret
   exact ⟨Qm (by simp; omega), rfl⟩
theorem Qaq (c : Int) (w : World) : Calls Try.prog 49 #[.int .i64 c] w fun e w' => e = .returned (.bool (hostB c)) ∧ w' = w := by
 unfold hostB
 by_cases h1 : 0 ≤ c
 · by_cases h2 : c < 4
   · go_enter Try.func49, Try.ntmps49
     go_wp2
     go_ret
     exact ⟨Qm (by simp [h1, h2]), rfl⟩
   · go_enter Try.func49, Try.ntmps49
     go_wp2
     go_ret
     exact ⟨Qm (by simp [h2]), rfl⟩
 · go_enter Try.func49, Try.ntmps49
   go_wp2
   go_ret
   exact ⟨Qm (by simp; omega), rfl⟩
end Go.Proofs.Ytpdijobakfpnbaa
