/- The answers of label.Flows, Good and Same in every later world. -/
import Derived.Test.YtichphepfmafjacQFlows
import Derived.Test.YtichphepfmafjacQLabelAll
namespace Go.Proofs.Ytichphepfmafjac
open Go.RowKit Go.Proofs.Parclose

theorem flows_from {w0 w : World} {va vb vo : Value} {a b : List (Int × Int)} {own : List Int} (ha : LabAt w0 va a) (hb : LabAt w0 vb b) (ho : IntsAt w0 vo own) (h : Below w0.heap.size w0 w) :
    Calls Try.prog 13 #[va, vb, vo] w fun e w' => e = .returned (.bool (flowsL a b own)) ∧ Below w0.heap.size w0 w' :=
  (flows_any va vb vo a b own w (ha.below h) (hb.below h) (ho.below h)).mono fun _ _ ⟨he, hw⟩ => ⟨he, below_then h hw⟩
theorem good_from {w0 w : World} {va : Value} {a : List (Int × Int)} (ha : LabAt w0 va a) (h : Below w0.heap.size w0 w) :
    Calls Try.prog 12 #[va] w fun e w' => e = .returned (.bool (goodB a)) ∧ Below w0.heap.size w0 w' :=
  (good_any va a w (ha.below h)).mono fun _ _ ⟨he, hw⟩ => ⟨he, below_then h hw⟩
theorem same_from {w0 w : World} {va vb : Value} {a b : List (Int × Int)} (ha : LabAt w0 va a) (hb : LabAt w0 vb b) (h : Below w0.heap.size w0 w) :
    Calls Try.prog 14 #[va, vb] w fun e w' => e = .returned (.bool (sameB a b)) ∧ Below w0.heap.size w0 w' :=
  (same_any va vb a b w (ha.below h) (hb.below h)).mono fun _ _ ⟨he, hw⟩ => ⟨he, below_then h hw⟩
end Go.Proofs.Ytichphepfmafjac
