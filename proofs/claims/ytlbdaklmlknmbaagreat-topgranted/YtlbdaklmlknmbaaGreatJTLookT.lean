/- The look of TopTrusted: mail comes only where it may flow, and from another host only if that is trusted with all that the mail names. -/
import Derived.Test.YtlbdaklmlknmbaaGreatJCCome
import Derived.Test.YtlbdaklmlknmbaaGreatJTNamed
import Derived.Test.YtlbdaklmlknmbaaGreatJNamed
import Derived.Test.YtlbdaklmlknmbaaGreatJMem
import Derived.Test.YtlbdaklmlknmbaaGreatJKTake
import Derived.Test.YtlbdaklmlknmbaaGreatJPlain
import Derived.BigQuiet
import Derived.Deep.RegionHeld3
namespace Go.Proofs.YtlbdaklmlknmbaaGreat
open Go.RowKit Go.Proofs.Parclose
def JT (Bw : Nat) (w : World) (F : List Nat) (C : Clu) : Prop := Bw ∈ F ∧ NBox w Bw 65 16 (mlen C)
theorem JT.below {Bw : Nat} {w w' : World} {F : List Nat} {C : Clu} (h : JT Bw w F C) (hb : Below w.heap.size w w') : JT Bw w' F C := ⟨h.1, h.2.below hb⟩
theorem JT.step {Bw cb : Nat} {w w' : World} {F G : List Nat} {Z Z' : CluV} {C D : Clu} (h : JT Bw w F C) (hs : CStep cb w F Z w' G Z') (hc : CluAt w cb F Z D) : JT Bw w' G C := ⟨hs.more.1 _ h.1, h.2.step hs hc (by decide)⟩
theorem Qc3 {w : World} {ty : TypeId} {n : Nat} {A : Array Value} (hA : A.size = n) (h0 : ∀ i, i < n → A[i]? = some (.int .i64 0)) : NBox (w.alloc (.cells A ty)) w.heap.size ty n (fun _ => 0) := ⟨A, heap_alloc_new w _, hA, h0⟩
theorem Qd2 (h t : Int) : thrC freshClu h t = zeroThr := by
 unfold thrC
 split
 · show thrOf (freshKer _) t = _
   unfold thrOf getT freshKer
   split
   · generalize t.toNat = n
     match n with
     | 0 => rfl
     | 1 => rfl
     | 2 => rfl
     | 3 => rfl
     | n + 4 => rfl
   · rfl
 · rfl
theorem Qh4 (i : Nat) : mlen freshClu i = 0 := by
 unfold mlen
 rw [Qd2]
 rfl
theorem Qkv (i : Nat) (h : i < 16) : (#[.int .i64 0, .int .i64 0, .int .i64 0, .int .i64 0, .int .i64 0, .int .i64 0, .int .i64 0, .int .i64 0, .int .i64 0, .int .i64 0, .int .i64 0, .int .i64 0, .int .i64 0, .int .i64 0, .int .i64 0, .int .i64 0] : Array Value)[i]? = some (.int .i64 0) := by
 rw [show (#[.int .i64 0, .int .i64 0, .int .i64 0, .int .i64 0, .int .i64 0, .int .i64 0, .int .i64 0, .int .i64 0, .int .i64 0, .int .i64 0, .int .i64 0, .int .i64 0, .int .i64 0, .int .i64 0, .int .i64 0, .int .i64 0] : Array Value) = Array.replicate 16 (.int .i64 0) from rfl, Array.getElem?_replicate, if_pos h]
end Go.Proofs.YtlbdaklmlknmbaaGreat
