/- wire.isHost and isThread answer what the document says, and turn nothing. -/
import Derived.Test.YtagmnfghkfeplaaWMem
import Derived.Test.YtagmnfghkfeplaaGood
import Derived.Test.YtagmnfghkfeplaaPlainBack
import Derived.Test.YtagmnfghkfeplaaWCert
namespace Go.Proofs.Ytagmnfghkfeplaa
open Go.RowKit Go.Proofs.Parclose

theorem isThread_any (c : Int) (w : World) : Calls Try.prog 32 #[.int .i64 c] w fun e w' => e = .returned (.bool (hostB c)) ∧ w' = w := by
  unfold hostB
  by_cases h1 : 0 ≤ c
  · by_cases h2 : c < 4
    · go_enter Try.func32, Try.ntmps32
      go_wp2
      go_ret
      exact ⟨ret_bool (by simp [h1, h2]), rfl⟩
    · go_enter Try.func32, Try.ntmps32
      go_wp2
      go_ret
      exact ⟨ret_bool (by simp [h2]), rfl⟩
  · go_enter Try.func32, Try.ntmps32
    go_wp2
    go_ret
    exact ⟨ret_bool (by simp; omega), rfl⟩
end Go.Proofs.Ytagmnfghkfeplaa
