/- label.Same (and slices.Equal beneath it) answers whether two labels are one list, and turns nothing that was there. -/
import Derived.Test.YtlbdaklmlknmbaaGreatJMem
import Derived.Laws.StructEq
import Derived.Deep.QuietTactic
import Derived.BigQuiet
namespace Go.Proofs.YtlbdaklmlknmbaaGreat
open Go.RowKit Go.Proofs.Parclose
end Go.Proofs.YtlbdaklmlknmbaaGreat
