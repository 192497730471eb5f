/- A step upon a kernel, and what is looked at before and behind it. -/
import Derived.Test.YtichphepfmafjacQThrAll
import Derived.Test.YtichphepfmafjacQKSteps
import Derived.Test.YtichphepfmafjacQKCalls
import Derived.Test.YtichphepfmafjacQKBlind
namespace Go.Proofs.Ytichphepfmafjac
open Go.RowKit Go.Proofs.Parclose

def stepL (K : Ker) (t : Int) (x : Stp) : Ker × Rep := if x.come then (deliverL K t x.mail, code 0) else callL K t x.call
theorem stepL_good {K : Ker} (h : GoodK K) (t : Int) (x : Stp) : GoodK (stepL K t x).1 := by
  unfold stepL
  split
  · exact deliverL_good h t _
  · exact callL_good h t _
theorem flows_self (l : List (Int × Int)) (own : List Int) : flowsL l l own = true := (flowsL_iff _ _ _).2 fun _ => .inr (Int.le_refl _)

theorem step_labels {K : Ker} {n : Nat} (hn : n < K.ths.length) (x : Stp) :
    flowsL (thrOf K n).label (thrOf (stepL K n x).1 n).label (thrOf K n).own = true ∧
    ((thrOf (stepL K n x).1 n).label = (thrOf K n).label ∨ (x.come = false ∧ x.call.kind = 5 ∧ (stepL K n x).2.code = 0)) ∧
    ∀ c ∈ (thrOf K n).own, c ∈ (thrOf (stepL K n x).1 n).own := by
  unfold stepL
  cases hc : x.come with
  | true =>
    simp only [if_true]
    rw [thrOf_set hn (deliver_moves hn x.mail), if_pos rfl, thrOf_nat hn]
    have e : (boxL K.ths[n] x.mail).label = K.ths[n].label ∧ (boxL K.ths[n] x.mail).own = K.ths[n].own := by
      unfold boxL
      split <;> exact ⟨rfl, rfl⟩
    rw [e.1, e.2]
    exact ⟨flows_self _ _, .inl rfl, fun _ h => h⟩
  | false =>
    simp only [Bool.false_eq_true, if_false]
    rcases call_moves hn x.call with ⟨th2, e, hs⟩ | ⟨_, u, hu, i, hi, y, e, _⟩
    · rw [thrOf_set hn e, if_pos rfl, thrOf_nat hn]
      refine ⟨?_, ?_, hs.own⟩
      · rcases hs.label with g | ⟨_, _, g⟩
        · rw [g]; exact flows_self _ _
        · exact g
      · rcases hs.label with g | ⟨g1, g2, _⟩
        · exact .inl g
        · exact .inr ⟨trivial, g1, g2⟩
    · rw [thrOf_set hu e, thrOf_nat hn]
      by_cases en : (n : Int) = u
      · have en2 : n = u := by omega
        subst en2
        rw [if_pos rfl]
        exact ⟨flows_self _ _, .inl rfl, fun _ h => h⟩
      · rw [if_neg en]
        exact ⟨flows_self _ _, .inl rfl, fun _ h => h⟩

abbrev thrB (pl po pj pm : Option Addr) (cl co cj cm : Nat) (th : Thr) : Array Value := #[.slice pl th.label.length cl, .slice po th.own.length co, .string ⟨th.text.toArray⟩, .slice pj th.objs.length cj, .slice pm th.mails.length cm]
abbrev stpB (pe pf px pn : Option Addr) (ce cf cx cn : Nat) (x : Stp) : Array Value := #[.int .i64 x.t, .bool x.come, .int .i64 x.call.kind, .int .i64 x.call.h, .int .i64 x.call.t, .int .i64 x.call.n, .int .i64 x.call.c, .slice pe x.call.label.length ce, .slice pf x.call.grants.length cf, .string ⟨x.call.text.toArray⟩, .int .i64 x.mail.host, .int .i64 x.mail.thread, .slice px x.mail.label.length cx, .slice pn x.mail.grants.length cn, .string ⟨x.mail.text.toArray⟩]

theorem ThrNew.labAt {w : World} {B : Nat} {vl vo vj vm : Value} {th : Thr} (h : ThrNew w B vl vo vj vm th) (hg : GoodT th) : LabAt w vl th.label := labs_of_own h.lab (Nat.le_trans hg.label.1 (by decide))
theorem ThrNew.ownAt {w : World} {B : Nat} {vl vo vj vm : Value} {th : Thr} (h : ThrNew w B vl vo vj vm th) (hg : GoodT th) : IntsAt w vo th.own := nums_of_own h.own (Nat.le_trans hg.own (by decide))
theorem thrOf_good {K : Ker} (h : GoodK K) (t : Int) : GoodT (thrOf K t) := by
  unfold thrOf
  cases hth : getT K t with
  | none => exact zero_good
  | some th =>
    obtain ⟨n, _, hn, rfl⟩ := getT_some hth
    exact h.ths _ (List.getElem_mem hn)
end Go.Proofs.Ytichphepfmafjac

namespace Go.Proofs.Ytichphepfmafjac
open Go.RowKit Go.Proofs.Parclose

structure Alone (w wr : World) (ka : Nat) (F : List Nat) (V : List ThrV) (K : Ker) : Prop where
  ker : KerAt wr ka F V K
  good : GoodK K
  below : Below w.heap.size w wr
  far : ∀ k ∈ F, w.heap.size ≤ k
theorem Alone.more {w wr ws : World} {ka : Nat} {F : List Nat} {V : List ThrV} {K : Ker} (h : Alone w wr ka F V K) (hb : Below wr.heap.size wr ws) : Alone w ws ka F V K :=
  ⟨h.ker.below hb, h.good, below_then h.below hb, h.far⟩
theorem Alone.step {w wr ws : World} {ka : Nat} {F G : List Nat} {V V' : List ThrV} {K K' : Ker} (h : Alone w wr ka F V K) (hs : KStep ka wr F V ws G V') (hk : KerAt ws ka G V' K') (hg : GoodK K') : Alone w ws ka G V' K' := by
  have hF := hs.keptF h.ker
  have h1 := h.below.size
  refine ⟨hk, hg, ?_, fun k hk' => ?_⟩
  · exact h.below.trans ⟨hF.os, hF.tape, hF.output, hF.size, fun k hk' => hF.block k (by omega) (fun e => by have := h.far _ e; omega)⟩
  · rcases hs.more.2 k hk' with g | g
    · exact h.far k g
    · omega
theorem Alone.reserve {w wr : World} {ka : Nat} {F : List Nat} {V : List ThrV} {K : Ker} (h : Alone w wr ka F V K) (ob : Obj) : Alone w (wr.alloc ob) ka (F ++ [wr.heap.size]) V K :=
  h.step (KStep.reserve ka wr F V ob) (h.ker.reserve ob) h.good

/-- what a round holds: the kernel, and the boxes of the step, of the thread as it was, and of the reply -/
structure Round (w wx : World) (ka : Nat) (F : List Nat) (V : List ThrV) (K : Ker) (Bx Bw Br : Nat) (X A R : Array Value) (B : Nat) (vl vo vj vm : Value) (th : Thr) : Prop where
  al : Alone w wx ka F V K
  xb : wx.heap[Bx]? = some (.cells X 37 (0, 0))
  wb : wx.heap[Bw]? = some (.cells A 31 (0, 0))
  rb : wx.heap[Br]? = some (.cells R 40 (0, 0))
  nw : ThrNew wx B vl vo vj vm th
  mem : Br ∈ F
theorem Round.step {w wx ws : World} {ka : Nat} {F G : List Nat} {V V' : List ThrV} {K K' : Ker} {Bx Bw Br : Nat} {X A R : Array Value} {B : Nat} {vl vo vj vm : Value} {th : Thr} (h : Round w wx ka F V K Bx Bw Br X A R B vl vo vj vm th) (hx : Bx ∉ F) (hw : Bw ∉ F) (hB : ∀ k ∈ F, k < B ∨ k = Br)
    (hs : KStep ka wx F V ws G V') (hk : KerAt ws ka G V' K') (hg : GoodK K') : Round w ws ka G V' K' Bx Bw Br X A R B vl vo vj vm th := by
  have hF := hs.keptF h.al.ker
  refine ⟨h.al.step hs hk hg, hF.heap h.xb hx, hF.heap h.wb hw, box_kstep hs h.al.ker h.rb (by decide) (by decide) (by decide) (by decide), h.nw.keep (fun k hk => ?_) hF, hs.more.1 _ h.mem⟩
  rcases hB k hk with g | rfl
  · exact .inl g
  · exact .inr ⟨_, _, h.rb, by decide, by decide, by decide, by decide⟩
theorem Round.reply {w wx : World} {ka : Nat} {F : List Nat} {V : List ThrV} {K : Ker} {Bx Bw Br : Nat} {X A : Array Value} {y0 y1 y2 : Value} {B : Nat} {vl vo vj vm : Value} {th : Thr} (h : Round w wx ka F V K Bx Bw Br X A #[y0, y1, y2] B vl vo vj vm th) (hx : Bx ≠ Br) (hw : Bw ≠ Br) (x0 x1 x2 : Value) :
    Round w (st3 wx Br x0 x1 x2) ka F V K Bx Bw Br X A #[x0, x1, x2] B vl vo vj vm th := by
  have hg := st3_grown wx Br x0 x1 x2
  have hk : KeptF [Br] wx (st3 wx Br x0 x1 x2) := kept_grown hg fun k e => .inl (by have := Option.some.inj e; simp; omega)
  refine ⟨⟨h.al.ker.boxed hg h.mem h.rb (by decide) (by decide) (by decide) (by decide), h.al.good, h.al.below.grown hg h.al.below.size (fun k e => by have := Option.some.inj e; have := h.al.far _ h.mem; omega), h.al.far⟩, hk.heap h.xb (by simpa using hx), hk.heap h.wb (by simpa using hw), st3_heap _ _ _ h.rb, h.nw.keep (fun k hk => ?_) hk, h.mem⟩
  simp at hk
  subst hk
  exact .inr ⟨_, _, h.rb, by decide, by decide, by decide, by decide⟩

theorem cells15b {w : World} {b : Nat} {t : TypeId} {y0 y1 y2 y3 y4 y5 y6 y7 y8 y9 y10 y11 y12 y13 y14 : Value} (h : w.heap[b]? = some (.cells #[y0, y1, y2, y3, y4, y5, y6, y7, y8, y9, y10, y11, y12, y13, y14] t (0, 0))) : w.cell? ⟨b, 0, none⟩ = some y0 ∧ w.cell? ⟨b, 1, none⟩ = some y1 ∧ w.cell? ⟨b, 2, none⟩ = some y2 ∧ w.cell? ⟨b, 3, none⟩ = some y3 ∧ w.cell? ⟨b, 4, none⟩ = some y4 ∧ w.cell? ⟨b, 5, none⟩ = some y5 ∧ w.cell? ⟨b, 6, none⟩ = some y6 ∧ w.cell? ⟨b, 7, none⟩ = some y7 ∧ w.cell? ⟨b, 8, none⟩ = some y8 ∧ w.cell? ⟨b, 9, none⟩ = some y9 ∧ w.cell? ⟨b, 10, none⟩ = some y10 ∧ w.cell? ⟨b, 11, none⟩ = some y11 ∧ w.cell? ⟨b, 12, none⟩ = some y12 ∧ w.cell? ⟨b, 13, none⟩ = some y13 ∧ w.cell? ⟨b, 14, none⟩ = some y14 :=
  ⟨heap_cell h 0, heap_cell h 1, heap_cell h 2, heap_cell h 3, heap_cell h 4, heap_cell h 5, heap_cell h 6, heap_cell h 7, heap_cell h 8, heap_cell h 9, heap_cell h 10, heap_cell h 11, heap_cell h 12, heap_cell h 13, heap_cell h 14⟩
end Go.Proofs.Ytichphepfmafjac
