/- A label, or a list of numbers, that came in: its elements, and where they lie. -/
import Derived.Test.YtpdijobakfpnbaaQMem
import Derived.ProofKit
import Derived.SizedLaws
import Derived.Deep.SlicePairs
namespace Go.Proofs.Ytpdijobakfpnbaa
open Go.ChangeShapes Go.WideShapes Go.ChangeAt Go.RowKit Go.Deep
theorem own : ownKnob Try.prog.godebug = none := by kernel_rfl
theorem laidOut : laidOutB Try.prog = true := by kernel_rfl
theorem cellsInt : Try.prog.cellsOf 3 = 1 := by kernel_rfl
theorem cellsLevel : Try.prog.cellsOf 86 = 2 := by kernel_rfl
theorem bytesInt : Try.prog.bytesOf 3 = 8 := by kernel_rfl
theorem bytesLevel : Try.prog.bytesOf 86 = 16 := by kernel_rfl
end Go.Proofs.Ytpdijobakfpnbaa
