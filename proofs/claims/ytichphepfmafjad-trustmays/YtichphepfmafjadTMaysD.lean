/- The statement TrustMays: Home, Trusted, May and Show answer what the reference does. -/
import Derived.Test.YtichphepfmafjadTMays
import Derived.Test.YtichphepfmafjadTMaysB
import Derived.Test.YtichphepfmafjadTMaysE
namespace Go.Proofs.Ytichphepfmafjad
open Go.RowKit Go.Proofs.Parclose

theorem trustMays_any (v vm : Value) (l : List Crt) (c h : Int) (m : Mal) (now : Int) (w : World) (hv : CrtsAt w v l) (hm : MalAt w vm m) (hwl : ∀ x ∈ l, WfC x) (hwm : WfM m) (hc : (Lit.int .i64 c).wf = true) :
    Calls Try.prog 3 #[v, .int .i64 c, .int .i64 h, vm, .int .i64 now] w fun e w' => e = .returned (.bool true) ∧ Below w.heap.size w w' := by
  by_cases h0 : 0 ≤ c
  · exact trustMays_pos v vm l c h m now w hv hm hwl hwm hc h0
  · cases hR : mayB l h m now with
    | false => exact trustMays_neg_no v vm l c h m now w hv hm hwl hwm (by omega) hR
    | true => exact trustMays_neg_yes v vm l c h m now w hv hm hwl hwm (by omega) hR
end Go.Proofs.Ytichphepfmafjad
