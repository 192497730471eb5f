/- The reference's Call is callL, whatever is called. -/
import Derived.Test.YtpdijobakfpnbaaQKRCallT
import Derived.Test.YtpdijobakfpnbaaQKRCallS
import Derived.Test.YtpdijobakfpnbaaQKRCallN
import Derived.Test.YtpdijobakfpnbaaQKRSetA
import Derived.Test.YtpdijobakfpnbaaQKRSetB
import Derived.Test.YtpdijobakfpnbaaQKRSetC
import Derived.Test.YtpdijobakfpnbaaQKRSetD
import Derived.Test.YtpdijobakfpnbaaQKRK1
import Derived.Test.YtpdijobakfpnbaaQKRK2
import Derived.Test.YtpdijobakfpnbaaQKRK3
import Derived.Test.YtpdijobakfpnbaaQKRK4
import Derived.Test.YtpdijobakfpnbaaQKRK7
namespace Go.Proofs.Ytpdijobakfpnbaa
open Go.RowKit Go.Proofs.Parclose
theorem QfM (rb : Nat) (t : Int) (F : List Nat) (V : List ThrV) (K : Ker) (c : Cal) (v : Value) (w : World) (h : RKerAt w rb F V K) (hg : GoodK K) (hv : CalAt w v c) :
 Calls Try.prog 14 #[.pointer (some ⟨rb, 0, none⟩), .int .i64 t, v] w fun e w' => e = .returned (repV (callL K t c).2) ∧ ∃ G V', RKerAt w' rb G V' (callL K t c).1 ∧ RStep rb w F V w' G V' := by
 cases hth : getT K t with
 | none =>
  have e : callL K t c = (K, code 4) := by unfold callL; rw [hth]
  rw [e]
  exact (QfL rb t v c w hv (QaB hg.four hth)).mono fun _ _ ⟨h1, h2⟩ => ⟨h1, _, _, h.below h2, RStep.below h2⟩
 | some th =>
  obtain ⟨n, rfl, hn, rfl⟩ := Q5 hth
  have e : callL K n c = callT K n K.ths[n] c := by unfold callL; rw [hth]
  rw [e]
  have hn4 : n < 4 := by have := hg.four; omega
  have h1 : n < V.length := by rw [h.len]; exact hn4
  have gt := hg.ths _ (List.getElem_mem hn)
  have hwf : WfL K.ths[n].label := QO ((Qx _).2 gt.label)
  by_cases hx : 64 < c.text.length
  · have e : callT K n K.ths[n] c = (K, code 9) := by unfold callT; rw [if_pos hx]
    rw [e]
    exact (QeL rb n v c w hv hn4 hx).mono fun _ _ ⟨h1, h2⟩ => ⟨h1, _, _, h.below h2, RStep.below h2⟩
  have hx' : c.text.length ≤ 64 := by omega
  by_cases k1 : c.kind = 1
  · exact QgS rb n F V K v c w h h1 hn hv hx' k1 hg
  by_cases k2 : c.kind = 2
  · exact QgR rb n F V K v c w h h1 hn hv hx' k2 hg
  by_cases k3 : c.kind = 3
  · exact QgQ rb n F V K v c w h h1 hn hv hx' k3 hg
  by_cases k4 : c.kind = 4
  · exact QgP rb n F V K v c w h h1 hn hv hx' k4 hg
  by_cases k5 : c.kind = 5
  · cases hB : setB K.ths[n].label c.c c.n with
    | false => exact QeN rb n F V K v c w h h1 hn hv hx' k5 hB
    | true =>
     by_cases h8 : 8 < (setL K.ths[n].label c.c c.n).length
     · exact Qd1 rb n F V K v c w h h1 hn hv hx' k5 hB h8
     cases hF : flowsL K.ths[n].label (setL K.ths[n].label c.c c.n) K.ths[n].own with
     | false => exact QeM rb n F V K v c w h h1 hn hv hx' k5 hwf hB h8 hF
     | true => exact QfN rb n F V K v c w h h1 hn hv hx' k5 hwf hB h8 hF
  by_cases k7 : c.kind = 7
  · exact QgO rb n F V K v c w h h1 hn hv hx' k7 hg
  by_cases k9 : c.kind = 9
  · exact QgN rb n F V K v c w h h1 hn hv hx' k9
  by_cases k10 : c.kind = 10
  · exact Qgl rb n F V K v c w h h1 hn hv hx' k10
  exact QeK rb n F V K v c w h h1 hn hv hx' ⟨k1, k2, k3, k4, k5, k7, k9, k10⟩
end Go.Proofs.Ytpdijobakfpnbaa
