/- Two levels compared. -/
import Derived.Test.YtpdijobakfpnbaaQMem
import Derived.Laws.StructEq
import Derived.Deep.QuietTactic
import Derived.BigQuiet
namespace Go.Proofs.Ytpdijobakfpnbaa
open Go.RowKit Go.Proofs.Parclose
theorem QfV (x y : Int × Int) (w : World) : (binOp .neq 86 (.agg #[.int .i64 x.1, .int .i64 x.2]) (.agg #[.int .i64 y.1, .int .i64 y.2])).run Try.prog w = .ok (.bool (!decide (x = y))) w := by
 have u3 := Try.underlying3
 have hS : Try.prog.underlying 86 = some (.struct (Try.prog.fieldsOf 86)) := by kernel_rfl
 have hp : Try.prog.stoodInHeld 86 = false := by kernel_rfl
 rw [run_neq_struct, show (10000 : Nat) = 9999 + 1 from rfl, run_equalIn_agg w 9999 86 _ _ hS hp]
 simp only [Program.fieldsOf, Try.underlying86]
 go_simp
 by_cases h1 : x.fst = y.fst <;> by_cases h2 : x.snd = y.snd <;> simp [h1, h2, Prod.ext_iff]
theorem Qee (op : BinOp) (a b : Operand) (x y : Array Value) (w : World) : (eqGuard op 86 a b (.agg x) (.agg y)).run Try.prog w = .ok () w :=
 run_eqGuard_agg w op 86 a b x y (by kernel_rfl)
end Go.Proofs.Ytpdijobakfpnbaa
