/- What a step upon a kernel leaves alone. -/
import Derived.Test.YtichphepfmafjacQLookRAll
import Derived.Test.YtichphepfmafjacQLookAll
namespace Go.Proofs.Ytichphepfmafjac
open Go.RowKit Go.Proofs.Parclose

structure Keeps (th th' own : Thr) (x : Stp) (other : Prop) : Prop where
  len : th.objs.length ≤ th'.objs.length
  obj : ∀ n (h : n < th.objs.length) (h' : n < th'.objs.length), th'.objs[n].label = th.objs[n].label ∧ (th'.objs[n].text = th.objs[n].text ∨ (x.come = false ∧ x.call.kind = 3 ∧ flowsL own.label th.objs[n].label own.own = true))
  oth : other → th'.text = th.text ∧ th'.label = th.label ∧ th'.mails.length = th.mails.length ∧ th'.own = th.own
theorem Keeps.same (th own : Thr) (x : Stp) (o : Prop) : Keeps th th own x o := ⟨Nat.le_refl _, fun _ _ _ => ⟨rfl, .inl rfl⟩, fun _ => ⟨rfl, rfl, rfl, rfl⟩⟩
theorem Keeps.objs {th th' own : Thr} {x : Stp} {o : Prop} (h : th'.objs = th.objs ∨ ∃ y, th'.objs = th.objs ++ [y]) (ho : ¬ o) : Keeps th th' own x o := by
  rcases h with h | ⟨y, h⟩
  · refine ⟨by rw [h]; exact Nat.le_refl _, fun n h1 h2 => ?_, fun g => absurd g ho⟩
    simp [h]
  · refine ⟨by rw [h, List.length_append]; omega, fun n h1 h2 => ?_, fun g => absurd g ho⟩
    simp [h, List.getElem_append_left h1]

theorem step_writes {K : Ker} {t : Nat} (ht : t < K.ths.length) (x : Stp) (u : Nat) : Keeps (thrOf K u) (thrOf (stepL K t x).1 u) (thrOf K t) x (u ≠ t) := by
  unfold stepL
  cases hc : x.come with
  | true =>
    simp only [if_true]
    rw [thrOf_set ht (deliver_moves ht x.mail)]
    split
    · rename_i hq
      have : u = t := by omega
      subst this
      rw [thrOf_nat ht]
      refine Keeps.objs (.inl ?_) (by simp)
      unfold boxL
      split <;> rfl
    · exact Keeps.same _ _ _ _
  | false =>
    simp only [Bool.false_eq_true, if_false]
    rcases call_moves ht x.call with ⟨th2, e, hs⟩ | ⟨hk, m, hm, i, hi, y, e, hf⟩
    · rw [thrOf_set ht e]
      split
      · rename_i hq
        have : u = t := by omega
        subst this
        rw [thrOf_nat ht]
        exact Keeps.objs hs.objs (by simp)
      · exact Keeps.same _ _ _ _
    · rw [thrOf_set hm e]
      split
      · rename_i hq
        have : u = m := by omega
        subst this
        rw [thrOf_nat hm, thrOf_nat ht]
        have el : (putO K.ths[u] i y).objs.length = K.ths[u].objs.length := by unfold putO; simp
        refine ⟨by rw [el]; exact Nat.le_refl _, fun n h1 h2 => ?_, fun _ => ⟨rfl, rfl, rfl, rfl⟩⟩
        unfold putO
        simp only [Int.toNat_natCast, List.getElem_modify]
        split
        · rename_i hin
          subst hin
          exact ⟨rfl, .inr ⟨hc, hk, hf⟩⟩
        · exact ⟨rfl, .inl rfl⟩
      · exact Keeps.same _ _ _ _
end Go.Proofs.Ytichphepfmafjac

namespace Go.Proofs.Ytichphepfmafjac
open Go.RowKit Go.Proofs.Parclose

/-- where the rows of a copy lie -/
structure ThrD where
  pl : Option Addr
  po : Option Addr
  pj : Option Addr
  pm : Option Addr
  cl : Nat
  co : Nat
  cj : Nat
  cm : Nat

abbrev st5at (w : World) (b o : Nat) (x0 x1 x2 x3 x4 : Value) : World := ((((w.setCell ⟨b, o, none⟩ x0).setCell ⟨b, o + 1, none⟩ x1).setCell ⟨b, o + 2, none⟩ x2).setCell ⟨b, o + 3, none⟩ x3).setCell ⟨b, o + 4, none⟩ x4
theorem st5at_grown (w : World) (b o : Nat) (x0 x1 x2 x3 x4 : Value) : w.grownBy (st5at w b o x0 x1 x2 x3 x4) (some b) := grown_trans (grown_trans (grown_trans (grown_trans (grown_setCell w b o x0) (grown_setCell _ b (o + 1) x1)) (grown_setCell _ b (o + 2) x2)) (grown_setCell _ b (o + 3) x3)) (grown_setCell _ b (o + 4) x4)

/-- what one slot of the array holds -/
structure SlotAt (w : World) (A : Array Value) (B : Nat) (d : ThrD) (th : Thr) (j : Nat) : Prop where
  c0 : A[j * 5]? = some (.slice d.pl th.label.length d.cl)
  c1 : A[j * 5 + 1]? = some (.slice d.po th.own.length d.co)
  c2 : A[j * 5 + 2]? = some (.string ⟨th.text.toArray⟩)
  c3 : A[j * 5 + 3]? = some (.slice d.pj th.objs.length d.cj)
  c4 : A[j * 5 + 4]? = some (.slice d.pm th.mails.length d.cm)
  new : ThrNew w B (.slice d.pl th.label.length d.cl) (.slice d.po th.own.length d.co) (.slice d.pj th.objs.length d.cj) (.slice d.pm th.mails.length d.cm) th

structure Wrt (w wx : World) (ka : Nat) (F : List Nat) (V : List ThrV) (K : Ker) (Bx Bw : Nat) (X : Array Value) (B : Nat) (D : Nat → ThrD) (K0 : Ker) (k : Nat) : Prop where
  al : Alone w wx ka F V K
  xb : wx.heap[Bx]? = some (.cells X 37 (0, 0))
  wb : ∃ A, wx.heap[Bw]? = some (.cells A 51 (0, 0)) ∧ A.size = 20 ∧ ∀ j < k, SlotAt wx A B (D j) (thrOf K0 j) j
  mem : Bw ∈ F

theorem Wrt.more {w wx ws : World} {ka : Nat} {F : List Nat} {V : List ThrV} {K : Ker} {Bx Bw : Nat} {X : Array Value} {B : Nat} {D : Nat → ThrD} {K0 : Ker} {k : Nat} (h : Wrt w wx ka F V K Bx Bw X B D K0 k) (hb : Below wx.heap.size wx ws) : Wrt w ws ka F V K Bx Bw X B D K0 k := by
  obtain ⟨A, h1, h2, h3⟩ := h.wb
  exact ⟨h.al.more hb, heap_keep h.xb hb, ⟨A, heap_keep h1 hb, h2, fun j hj => ⟨(h3 j hj).c0, (h3 j hj).c1, (h3 j hj).c2, (h3 j hj).c3, (h3 j hj).c4, (h3 j hj).new.below hb⟩⟩, h.mem⟩

theorem Wrt.step {w wx ws : World} {ka : Nat} {F G : List Nat} {V V' : List ThrV} {K K' : Ker} {Bx Bw : Nat} {X : Array Value} {B : Nat} {D : Nat → ThrD} {K0 : Ker} {k : Nat} (h : Wrt w wx ka F V K Bx Bw X B D K0 k) (hx : Bx ∉ F) (hB : ∀ i ∈ F, i < B ∨ i = Bw)
    (hs : KStep ka wx F V ws G V') (hk : KerAt ws ka G V' K') (hg : GoodK K') : Wrt w ws ka G V' K' Bx Bw X B D K0 k := by
  have hF := hs.keptF h.al.ker
  obtain ⟨A, h1, h2, h3⟩ := h.wb
  refine ⟨h.al.step hs hk hg, hF.heap h.xb hx, ⟨A, box_kstep hs h.al.ker h1 (by decide) (by decide) (by decide) (by decide), h2, fun j hj => ⟨(h3 j hj).c0, (h3 j hj).c1, (h3 j hj).c2, (h3 j hj).c3, (h3 j hj).c4, (h3 j hj).new.keep (fun i hi => ?_) hF⟩⟩, hs.more.1 _ h.mem⟩
  rcases hB i hi with g | rfl
  · exact .inl g
  · exact .inr ⟨_, _, h1, by decide, by decide, by decide, by decide⟩

theorem set5_ne {A : Array Value} {o i : Nat} (h : i < o ∨ o + 4 < i) (x0 x1 x2 x3 x4 : Value) : (((((A.setIfInBounds o x0).setIfInBounds (o + 1) x1).setIfInBounds (o + 2) x2).setIfInBounds (o + 3) x3).setIfInBounds (o + 4) x4)[i]? = A[i]? := by
  rw [Array.getElem?_setIfInBounds_ne (by omega), Array.getElem?_setIfInBounds_ne (by omega), Array.getElem?_setIfInBounds_ne (by omega), Array.getElem?_setIfInBounds_ne (by omega), Array.getElem?_setIfInBounds_ne (by omega)]
theorem set5_at {A : Array Value} {o : Nat} (h : o + 4 < A.size) (x0 x1 x2 x3 x4 : Value) :
    (((((A.setIfInBounds o x0).setIfInBounds (o + 1) x1).setIfInBounds (o + 2) x2).setIfInBounds (o + 3) x3).setIfInBounds (o + 4) x4)[o]? = some x0 ∧
    (((((A.setIfInBounds o x0).setIfInBounds (o + 1) x1).setIfInBounds (o + 2) x2).setIfInBounds (o + 3) x3).setIfInBounds (o + 4) x4)[o + 1]? = some x1 ∧
    (((((A.setIfInBounds o x0).setIfInBounds (o + 1) x1).setIfInBounds (o + 2) x2).setIfInBounds (o + 3) x3).setIfInBounds (o + 4) x4)[o + 2]? = some x2 ∧
    (((((A.setIfInBounds o x0).setIfInBounds (o + 1) x1).setIfInBounds (o + 2) x2).setIfInBounds (o + 3) x3).setIfInBounds (o + 4) x4)[o + 3]? = some x3 ∧
    (((((A.setIfInBounds o x0).setIfInBounds (o + 1) x1).setIfInBounds (o + 2) x2).setIfInBounds (o + 3) x3).setIfInBounds (o + 4) x4)[o + 4]? = some x4 := by
  refine ⟨?_, ?_, ?_, ?_, ?_⟩
  · rw [Array.getElem?_setIfInBounds_ne (by omega), Array.getElem?_setIfInBounds_ne (by omega), Array.getElem?_setIfInBounds_ne (by omega), Array.getElem?_setIfInBounds_ne (by omega), Array.getElem?_setIfInBounds_self_of_lt (by omega)]
  · rw [Array.getElem?_setIfInBounds_ne (by omega), Array.getElem?_setIfInBounds_ne (by omega), Array.getElem?_setIfInBounds_ne (by omega), Array.getElem?_setIfInBounds_self_of_lt (by simp; omega)]
  · rw [Array.getElem?_setIfInBounds_ne (by omega), Array.getElem?_setIfInBounds_ne (by omega), Array.getElem?_setIfInBounds_self_of_lt (by simp; omega)]
  · rw [Array.getElem?_setIfInBounds_ne (by omega), Array.getElem?_setIfInBounds_self_of_lt (by simp; omega)]
  · rw [Array.getElem?_setIfInBounds_self_of_lt (by simp; omega)]

theorem Wrt.put {w wx : World} {ka : Nat} {F : List Nat} {V : List ThrV} {K : Ker} {Bx Bw : Nat} {X : Array Value} {B : Nat} {D : Nat → ThrD} {K0 : Ker} {k : Nat} (h : Wrt w wx ka F V K Bx Bw X B D K0 k) (hne : Bx ≠ Bw) (hk : k < 4) (d : ThrD)
    (hn : ThrNew wx B (.slice d.pl (thrOf K0 k).label.length d.cl) (.slice d.po (thrOf K0 k).own.length d.co) (.slice d.pj (thrOf K0 k).objs.length d.cj) (.slice d.pm (thrOf K0 k).mails.length d.cm) (thrOf K0 k)) :
    Wrt w (st5at wx Bw (k * 5) (.slice d.pl (thrOf K0 k).label.length d.cl) (.slice d.po (thrOf K0 k).own.length d.co) (.string ⟨(thrOf K0 k).text.toArray⟩) (.slice d.pj (thrOf K0 k).objs.length d.cj) (.slice d.pm (thrOf K0 k).mails.length d.cm)) ka F V K Bx Bw X B (fun j => if j = k then d else D j) K0 (k + 1) := by
  obtain ⟨A, h1, h2, h3⟩ := h.wb
  have hg := st5at_grown wx Bw (k * 5) (.slice d.pl (thrOf K0 k).label.length d.cl) (.slice d.po (thrOf K0 k).own.length d.co) (.string ⟨(thrOf K0 k).text.toArray⟩) (.slice d.pj (thrOf K0 k).objs.length d.cj) (.slice d.pm (thrOf K0 k).mails.length d.cm)
  have hkp : KeptF [Bw] wx _ := kept_grown hg fun i e => .inl (by have := Option.some.inj e; simp; omega)
  have hfar : Far wx B [Bw] := fun i hi => .inr ⟨_, _, by simp at hi; subst hi; exact h1, by decide, by decide, by decide, by decide⟩
  have hA := heap_setCell (j := k * 5 + 4) (heap_setCell (j := k * 5 + 3) (heap_setCell (j := k * 5 + 2) (heap_setCell (j := k * 5 + 1) (heap_setCell (j := k * 5) h1 (.slice d.pl (thrOf K0 k).label.length d.cl)) (.slice d.po (thrOf K0 k).own.length d.co)) (.string ⟨(thrOf K0 k).text.toArray⟩)) (.slice d.pj (thrOf K0 k).objs.length d.cj)) (.slice d.pm (thrOf K0 k).mails.length d.cm)
  refine ⟨⟨h.al.ker.boxed hg h.mem h1 (by decide) (by decide) (by decide) (by decide), h.al.good, h.al.below.grown hg h.al.below.size (fun i e => by have := Option.some.inj e; have := h.al.far _ h.mem; omega), h.al.far⟩, hkp.heap h.xb (by simpa using hne), ⟨_, hA, by simp [h2], fun j hj => ?_⟩, h.mem⟩
  by_cases e : j = k
  · subst e
    simp only [if_true]
    obtain ⟨g0, g1, g2, g3, g4⟩ := set5_at (A := A) (o := j * 5) (by omega) (.slice d.pl (thrOf K0 j).label.length d.cl) (.slice d.po (thrOf K0 j).own.length d.co) (.string ⟨(thrOf K0 j).text.toArray⟩) (.slice d.pj (thrOf K0 j).objs.length d.cj) (.slice d.pm (thrOf K0 j).mails.length d.cm)
    exact ⟨g0, g1, g2, g3, g4, hn.keep hfar hkp⟩
  · have hs := h3 j (by omega)
    simp only [if_neg e]
    refine ⟨?_, ?_, ?_, ?_, ?_, hs.new.keep hfar hkp⟩
    · rw [set5_ne (by omega)]; exact hs.c0
    · rw [set5_ne (by omega)]; exact hs.c1
    · rw [set5_ne (by omega)]; exact hs.c2
    · rw [set5_ne (by omega)]; exact hs.c3
    · rw [set5_ne (by omega)]; exact hs.c4

/-- the cells of a slot -/
theorem Wrt.slot {w wx : World} {ka : Nat} {F : List Nat} {V : List ThrV} {K : Ker} {Bx Bw : Nat} {X : Array Value} {B : Nat} {D : Nat → ThrD} {K0 : Ker} {k : Nat} (h : Wrt w wx ka F V K Bx Bw X B D K0 k) (j : Nat) (hj : j < k) :
    wx.cell? ⟨Bw, j * 5, none⟩ = some (.slice (D j).pl (thrOf K0 j).label.length (D j).cl) ∧ wx.cell? ⟨Bw, j * 5 + 1, none⟩ = some (.slice (D j).po (thrOf K0 j).own.length (D j).co) ∧ wx.cell? ⟨Bw, j * 5 + 2, none⟩ = some (.string ⟨(thrOf K0 j).text.toArray⟩) ∧ wx.cell? ⟨Bw, j * 5 + 3, none⟩ = some (.slice (D j).pj (thrOf K0 j).objs.length (D j).cj) ∧ wx.cell? ⟨Bw, j * 5 + 4, none⟩ = some (.slice (D j).pm (thrOf K0 j).mails.length (D j).cm) ∧
    ThrNew wx B (.slice (D j).pl (thrOf K0 j).label.length (D j).cl) (.slice (D j).po (thrOf K0 j).own.length (D j).co) (.slice (D j).pj (thrOf K0 j).objs.length (D j).cj) (.slice (D j).pm (thrOf K0 j).mails.length (D j).cm) (thrOf K0 j) := by
  obtain ⟨A, h1, h2, h3⟩ := h.wb
  have hs := h3 j hj
  exact ⟨(heap_cell h1 _).trans hs.c0, (heap_cell h1 _).trans hs.c1, (heap_cell h1 _).trans hs.c2, (heap_cell h1 _).trans hs.c3, (heap_cell h1 _).trans hs.c4, hs.new⟩
/-- a slot that may be written -/
theorem Wrt.room {w wx : World} {ka : Nat} {F : List Nat} {V : List ThrV} {K : Ker} {Bx Bw : Nat} {X : Array Value} {B : Nat} {D : Nat → ThrD} {K0 : Ker} {k : Nat} (h : Wrt w wx ka F V K Bx Bw X B D K0 k) (i : Nat) (hi : i < 20) : (∃ y, wx.cell? ⟨Bw, i, none⟩ = some y) ∧ wx.frozen? ⟨Bw, i, none⟩ = false := by
  obtain ⟨A, h1, h2, _⟩ := h.wb
  exact ⟨⟨A[i], by rw [heap_cell h1, Array.getElem?_eq_getElem (by omega)]⟩, heap_frozen h1 _⟩
end Go.Proofs.Ytichphepfmafjac
