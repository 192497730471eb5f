/- A label, or a list of numbers, that came in: its elements, and where they lie. -/
import Derived.Test.YtpdijobakfpnbaaGreatJMem
import Derived.ProofKit
import Derived.SizedLaws
import Derived.Deep.SlicePairs
namespace Go.Proofs.YtpdijobakfpnbaaGreat
open Go.ChangeShapes Go.WideShapes Go.ChangeAt Go.RowKit Go.Deep
theorem own : ownKnob Tryz.prog.godebug = none := by kernel_rfl
theorem laidOut : laidOutB Tryz.prog = true := by kernel_rfl
theorem cellsInt : Tryz.prog.cellsOf 3 = 1 := by kernel_rfl
theorem cellsLevel : Tryz.prog.cellsOf 54 = 2 := by kernel_rfl
theorem bytesInt : Tryz.prog.bytesOf 3 = 8 := by kernel_rfl
theorem bytesLevel : Tryz.prog.bytesOf 54 = 16 := by kernel_rfl
end Go.Proofs.YtpdijobakfpnbaaGreat
