/- How a kernel's threads lie in memory: what is read alone, what a thread may write, and what keeps both. -/
import Derived.Test.YtgpldlbmjakjhaaGreatQPlainWire
import Derived.Test.YtgpldlbmjakjhaaGreatQPlainTrust
import Derived.Laws.IdiomStrings
import Derived.Laws.Concat
import Derived.Test.YtgpldlbmjakjhaaGreatQTTrusted
import Derived.Lib.SliceRun
import Derived.Test.YtgpldlbmjakjhaaGreatQPlainLine
import Derived.Laws.ResultCell
import Derived.Deep.RegionHeld3
import Derived.Deep.QuietTactic
import Derived.BigQuiet
namespace Go.Proofs.YtgpldlbmjakjhaaGreat
open Go.RowKit Go.Proofs.Parclose

/-- all blocks that were there, but those of F, are as they were -/
structure KeptF (F : List Nat) (w w' : World) : Prop where
  os : w'.os = w.os
  tape : w'.tape = w.tape
  output : w'.output = w.output
  size : w.heap.size ≤ w'.heap.size
  block : ∀ k, k < w.heap.size → k ∉ F → w'.heap[k]? = w.heap[k]?

theorem KeptF.refl (F : List Nat) (w : World) : KeptF F w w := ⟨rfl, rfl, rfl, Nat.le_refl _, fun _ _ _ => rfl⟩
theorem KeptF.trans {F : List Nat} {a b c : World} (h : KeptF F a b) (k : KeptF F b c) : KeptF F a c :=
  ⟨k.os.trans h.os, k.tape.trans h.tape, k.output.trans h.output, Nat.le_trans h.size k.size, fun i hi hn => by rw [k.block i (by have := h.size; omega) hn, h.block i hi hn]⟩
theorem KeptF.sub {F G : List Nat} {a b : World} (h : KeptF F a b) (hs : ∀ k ∈ F, k ∈ G ∨ a.heap.size ≤ k) : KeptF G a b :=
  ⟨h.os, h.tape, h.output, h.size, fun k hk hn => h.block k hk fun e => by
    rcases hs k e with g | g
    · exact hn g
    · omega⟩
theorem kept_below {w w' : World} (F : List Nat) (h : Below w.heap.size w w') : KeptF F w w' := ⟨h.os, h.tape, h.output, h.size, fun k hk _ => h.block k hk⟩
theorem kept_grown {w w' : World} {F : List Nat} {r : Option Nat} (h : w.grownBy w' r) (hr : ∀ k, r = some k → k ∈ F ∨ w.heap.size ≤ k) : KeptF F w w' :=
  ⟨h.os, h.tape, h.output, h.size, fun k hk hn => h.block k hk fun e => by
    rcases hr k e.symm with g | g
    · exact hn g
    · omega⟩
theorem kept_set {F : List Nat} (w : World) (b j : Nat) (u : Value) (hb : b ∈ F) : KeptF F w (w.setCell ⟨b, j, none⟩ u) :=
  ⟨rfl, rfl, rfl, by simp, fun k _ hn => Below.heap_setCell w _ _ k (fun e => hn (by rw [show k = b from e]; exact hb))⟩
theorem KeptF.cell {F : List Nat} {w w' : World} (h : KeptF F w w') {b o : Nat} {u : Value} (hc : w.cell? ⟨b, o, none⟩ = some u) (hb : b ∉ F) : w'.cell? ⟨b, o, none⟩ = some u := by
  rw [World.cell?_of_block (w := w) (h.block b (cell_block hc) hb), hc]
theorem KeptF.heap {F : List Nat} {w w' : World} (h : KeptF F w w') {b : Nat} {o : Obj} (hc : w.heap[b]? = some o) (hb : b ∉ F) : w'.heap[b]? = some o := by
  rw [h.block b (Array.getElem?_eq_some_iff.1 hc).1 hb, hc]

/-- more blocks may be written: new ones -/
def More (w : World) (F G : List Nat) : Prop := (∀ k ∈ F, k ∈ G) ∧ ∀ k ∈ G, k ∈ F ∨ w.heap.size ≤ k
theorem More.refl (w : World) (F : List Nat) : More w F F := ⟨fun _ h => h, fun _ h => .inl h⟩
theorem More.trans {w w' : World} {F G H : List Nat} (h : More w F G) (k : More w' G H) (hs : w.heap.size ≤ w'.heap.size) : More w F H :=
  ⟨fun i hi => k.1 i (h.1 i hi), fun i hi => by
    rcases k.2 i hi with g | g
    · exact h.2 i g
    · exact .inr (by omega)⟩

def RoLab (w : World) (F : List Nat) (v : Value) (l : List (Int × Int)) : Prop := LabAt w v l ∧ (0 < l.length → ∀ k, v.ownBlock = some k → k ∉ F)
def RoInts (w : World) (F : List Nat) (v : Value) (l : List Int) : Prop := IntsAt w v l ∧ (0 < l.length → ∀ k, v.ownBlock = some k → k ∉ F)

theorem RoLab.keep {w w' : World} {F G : List Nat} {v : Value} {l : List (Int × Int)} (h : RoLab w F v l) (hk : KeptF F w w') (hm : More w F G) : RoLab w' G v l := by
  obtain ⟨⟨p, cap, rfl, h1, h2, h3⟩, h4⟩ := h
  have hc : 0 < l.length → ∃ b o, p = some ⟨b, o, none⟩ ∧ Cells2 w b o l ∧ b ∉ F ∧ b < w.heap.size := fun h0 => by
    obtain ⟨b, o, rfl, hc⟩ := h3 h0
    exact ⟨b, o, rfl, hc, h4 h0 b rfl, cell_block (hc 0 h0).1⟩
  refine ⟨⟨p, cap, rfl, h1, h2, fun h0 => ?_⟩, fun h0 k hk2 hG => ?_⟩
  · obtain ⟨b, o, rfl, hcs, hb, _⟩ := hc h0
    exact ⟨b, o, rfl, fun j hj => ⟨hk.cell (hcs j hj).1 hb, hk.cell (hcs j hj).2 hb⟩⟩
  · obtain ⟨b, o, rfl, hcs, hb, hlt⟩ := hc h0
    cases hk2
    rcases hm.2 b hG with g | g
    · exact hb g
    · omega
theorem RoInts.keep {w w' : World} {F G : List Nat} {v : Value} {l : List Int} (h : RoInts w F v l) (hk : KeptF F w w') (hm : More w F G) : RoInts w' G v l := by
  obtain ⟨⟨p, cap, rfl, h1, h2, h3⟩, h4⟩ := h
  have hc : 0 < l.length → ∃ b o, p = some ⟨b, o, none⟩ ∧ Cells1 w b o l ∧ b ∉ F ∧ b < w.heap.size := fun h0 => by
    obtain ⟨b, o, rfl, hc⟩ := h3 h0
    exact ⟨b, o, rfl, hc, h4 h0 b rfl, cell_block (hc 0 h0)⟩
  refine ⟨⟨p, cap, rfl, h1, h2, fun h0 => ?_⟩, fun h0 k hk2 hG => ?_⟩
  · obtain ⟨b, o, rfl, hcs, hb, _⟩ := hc h0
    exact ⟨b, o, rfl, fun j hj => hk.cell (hcs j hj) hb⟩
  · obtain ⟨b, o, rfl, hcs, hb, hlt⟩ := hc h0
    cases hk2
    rcases hm.2 b hG with g | g
    · exact hb g
    · omega

/-- the cells of objects, of mails -/
def flatO : List Value → List Obt → List Value
  | u :: us, o :: os => u :: .string ⟨o.text.toArray⟩ :: flatO us os
  | _, _ => []
def flatM : List (Value × Value) → List Mal → List Value
  | u :: us, m :: ms => .int .i64 m.host :: .int .i64 m.thread :: u.1 :: u.2 :: .string ⟨m.text.toArray⟩ :: flatM us ms
  | _, _ => []

def OwnAt (w : World) (v : Value) (l : List Int) : Prop := w.ownsRow 0 3 1 v l.length (flat1 l)
def ObjsAt (w : World) (F : List Nat) (v : Value) (os : List Obt) : Prop :=
  ∃ vs, vs.length = os.length ∧ w.ownsRow 0 76 2 v os.length (flatO vs os) ∧ ∀ j (h1 : j < vs.length) (h2 : j < os.length), RoLab w F vs[j] os[j].label
def MailsAt (w : World) (F : List Nat) (v : Value) (ms : List Mal) : Prop :=
  ∃ vs, vs.length = ms.length ∧ w.ownsRow 0 46 5 v ms.length (flatM vs ms) ∧ ∀ j (h1 : j < vs.length) (h2 : j < ms.length), RoLab w F vs[j].1 ms[j].label ∧ RoInts w F vs[j].2 ms[j].grants

theorem own_keep {w w' : World} {F : List Nat} {base : Nat} {e : TypeId} {size : Nat} {v : Value} {n : Nat} {xs : List Value} (h : w.ownsRow base e size v n xs) (hk : KeptF F w w') (hv : ∀ k, v.ownBlock = some k → k ∉ F) : w'.ownsRow base e size v n xs := by
  refine ⟨h.1, ?_⟩
  rcases h.2 with hn | ⟨g, cap, cur, rfl, hb, hgg, rest⟩
  · exact .inl hn
  · exact .inr ⟨g, cap, cur, rfl, hb, hk.heap hgg (hv g rfl), rest⟩
theorem ObjsAt.keep {w w' : World} {R F G : List Nat} {v : Value} {os : List Obt} (h : ObjsAt w F v os) (hk : KeptF R w w') (hR : ∀ k ∈ R, k ∈ F) (hm : More w F G) (hv : ∀ k, v.ownBlock = some k → k ∉ R) : ObjsAt w' G v os := by
  obtain ⟨vs, h1, h2, h3⟩ := h
  exact ⟨vs, h1, own_keep h2 hk hv, fun j g1 g2 => (h3 j g1 g2).keep (hk.sub fun k hk => .inl (hR k hk)) hm⟩
theorem MailsAt.keep {w w' : World} {R F G : List Nat} {v : Value} {ms : List Mal} (h : MailsAt w F v ms) (hk : KeptF R w w') (hR : ∀ k ∈ R, k ∈ F) (hm : More w F G) (hv : ∀ k, v.ownBlock = some k → k ∉ R) : MailsAt w' G v ms := by
  obtain ⟨vs, h1, h2, h3⟩ := h
  exact ⟨vs, h1, own_keep h2 hk hv, fun j g1 g2 => ⟨(h3 j g1 g2).1.keep (hk.sub fun k hk => .inl (hR k hk)) hm, (h3 j g1 g2).2.keep (hk.sub fun k hk => .inl (hR k hk)) hm⟩⟩

/-- the values of a thread's lists -/
structure ThrV where
  vl : Value
  vo : Value
  vj : Value
  vm : Value
def rowsOf (v : ThrV) : List Nat := v.vo.ownBlock.toList ++ v.vj.ownBlock.toList ++ v.vm.ownBlock.toList
theorem mem_rows {v : ThrV} {k : Nat} : k ∈ rowsOf v ↔ v.vo.ownBlock = some k ∨ v.vj.ownBlock = some k ∨ v.vm.ownBlock = some k := by
  unfold rowsOf
  simp only [List.mem_append, Option.mem_toList, or_assoc]

def ThrAt (w : World) (F : List Nat) (v : ThrV) (th : Thr) : Prop :=
  RoLab w F v.vl th.label ∧ OwnAt w v.vo th.own ∧ ObjsAt w F v.vj th.objs ∧ MailsAt w F v.vm th.mails
theorem ThrAt.keep {w w' : World} {R F G : List Nat} {v : ThrV} {th : Thr} (h : ThrAt w F v th) (hk : KeptF R w w') (hR : ∀ k ∈ R, k ∈ F) (hm : More w F G) (hv : ∀ k ∈ rowsOf v, k ∉ R) : ThrAt w' G v th :=
  ⟨h.1.keep (hk.sub fun k hk => .inl (hR k hk)) hm, own_keep h.2.1 hk (fun k e => hv k (mem_rows.2 (.inl e))), h.2.2.1.keep hk hR hm (fun k e => hv k (mem_rows.2 (.inr (.inl e)))), h.2.2.2.keep hk hR hm (fun k e => hv k (mem_rows.2 (.inr (.inr e))))⟩

/-- three rows of different kinds are apart -/
theorem own_ne {w : World} {b b' : Nat} {e e' : TypeId} {s s' : Nat} {v v' : Value} {n n' : Nat} {xs xs' : List Value} (h : w.ownsRow b e s v n xs) (h' : w.ownsRow b' e' s' v' n' xs') (hne : e ≠ e') {k : Nat} (hk : v.ownBlock = some k) : v'.ownBlock ≠ some k := by
  intro hk'
  rcases h.2 with ⟨rfl, _⟩ | ⟨g, cap, cur, rfl, _, hh, _⟩
  · cases hk
  · rcases h'.2 with ⟨rfl, _⟩ | ⟨g', cap', cur', rfl, _, hh', _⟩
    · cases hk'
    · cases hk
      cases hk'
      rw [hh] at hh'
      injection hh' with hh'
      injection hh' with _ h2 _
      exact hne h2
theorem own_box {w : World} {b : Nat} {e t : TypeId} {s : Nat} {v : Value} {n : Nat} {xs : List Value} {C : Array Value} {kb : Nat} (h : w.ownsRow b e s v n xs) (hb : w.heap[kb]? = some (.cells C t (0, 0))) (hne : e ≠ t) : v.ownBlock ≠ some kb := by
  intro hk
  rcases h.2 with ⟨rfl, _⟩ | ⟨g, cap, cur, rfl, _, hh, _⟩
  · cases hk
  · cases hk
    rw [hh] at hb
    injection hb with hb
    injection hb with _ h2 _
    exact hne h2

/-- a thread in the kernel's block kb, from offset o on -/
structure TAt (w : World) (kb o : Nat) (F : List Nat) (v : ThrV) (th : Thr) : Prop where
  box : ∃ C, w.heap[kb]? = some (.cells C 131 (0, 0)) ∧ C[o]? = some v.vl ∧ C[o + 1]? = some v.vo ∧ C[o + 2]? = some (.string ⟨th.text.toArray⟩) ∧ C[o + 3]? = some v.vj ∧ C[o + 4]? = some v.vm
  thr : ThrAt w F v th
  rows : ∀ k ∈ rowsOf v, k ∈ F
  kbF : kb ∈ F
  fin : ∀ k ∈ F, k < w.heap.size

theorem TAt.kb_rows {w : World} {kb o : Nat} {F : List Nat} {v : ThrV} {th : Thr} (h : TAt w kb o F v th) : kb ∉ rowsOf v := by
  obtain ⟨C, hC, _⟩ := h.box
  obtain ⟨_, h2, ⟨_, _, h3, _⟩, ⟨_, _, h4, _⟩⟩ := h.thr
  intro hm
  rcases mem_rows.1 hm with e | e | e
  · exact own_box h2 hC (by decide) e
  · exact own_box h3 hC (by decide) e
  · exact own_box h4 hC (by decide) e

/-- what a thread's own doing turns -/
structure TStep (kb o : Nat) (w : World) (F : List Nat) (v : ThrV) (w' : World) (G : List Nat) (v' : ThrV) : Prop where
  kept : KeptF (kb :: rowsOf v) w w'
  box : ∀ C, w.heap[kb]? = some (.cells C 131 (0, 0)) → ∃ C', w'.heap[kb]? = some (.cells C' 131 (0, 0)) ∧ C'.size = C.size ∧ ∀ j, j < o ∨ o + 5 ≤ j → C'[j]? = C[j]?
  rows : ∀ k ∈ rowsOf v', k ∈ rowsOf v ∨ w.heap.size ≤ k
  more : More w F G

theorem TStep.refl {kb o : Nat} (w : World) (F : List Nat) (v : ThrV) : TStep kb o w F v w F v := ⟨KeptF.refl _ _, fun C h => ⟨C, h, rfl, fun _ _ => rfl⟩, fun _ h => .inl h, More.refl _ _⟩
theorem TStep.trans {kb o : Nat} {w w1 w2 : World} {F G H : List Nat} {v v1 v2 : ThrV} (h : TStep kb o w F v w1 G v1) (k : TStep kb o w1 G v1 w2 H v2) : TStep kb o w F v w2 H v2 := by
  refine ⟨?_, fun C hC => ?_, fun i hi => ?_, h.more.trans k.more h.kept.size⟩
  · refine ⟨k.kept.os.trans h.kept.os, k.kept.tape.trans h.kept.tape, k.kept.output.trans h.kept.output, Nat.le_trans h.kept.size k.kept.size, fun i hi hn => ?_⟩
    rw [k.kept.block i (by have := h.kept.size; omega) (fun e => ?_), h.kept.block i hi hn]
    rcases List.mem_cons.1 e with rfl | e
    · exact hn (by simp)
    · rcases h.rows i e with g | g
      · exact hn (List.mem_cons_of_mem _ g)
      · omega
  · obtain ⟨C1, e1, s1, a1⟩ := h.box C hC
    obtain ⟨C2, e2, s2, a2⟩ := k.box C1 e1
    exact ⟨C2, e2, s2.trans s1, fun j hj => (a2 j hj).trans (a1 j hj)⟩
  · rcases k.rows i hi with g | g
    · exact h.rows i g
    · exact .inr (by have := h.kept.size; omega)
theorem TStep.below {kb o : Nat} {w w' : World} {F : List Nat} {v : ThrV} (h : Below w.heap.size w w') : TStep kb o w F v w' F v :=
  ⟨kept_below _ h, fun C hC => ⟨C, by rw [h.block kb (Array.getElem?_eq_some_iff.1 hC).1, hC], rfl, fun _ _ => rfl⟩, fun _ h => .inl h, More.refl _ _⟩
theorem TAt.below {w w' : World} {kb o : Nat} {F : List Nat} {v : ThrV} {th : Thr} (h : TAt w kb o F v th) (hb : Below w.heap.size w w') : TAt w' kb o F v th := by
  obtain ⟨⟨C, hC, hc⟩, h2, h3, h4, h5⟩ := h
  exact ⟨⟨C, by rw [hb.block kb (Array.getElem?_eq_some_iff.1 hC).1, hC], hc⟩, h2.keep (R := []) (kept_below _ hb) (fun _ h => by cases h) (More.refl _ _) (fun _ _ h => by cases h), h3, h4, fun k hk => Nat.lt_of_lt_of_le (h5 k hk) hb.size⟩
end Go.Proofs.YtgpldlbmjakjhaaGreat

namespace Go.Proofs.YtgpldlbmjakjhaaGreat
open Go.RowKit Go.Proofs.Parclose

theorem kheap_set {w : World} {b j : Nat} {C : Array Value} {t : TypeId} {fr : Nat × Nat} (h : w.heap[b]? = some (.cells C t fr)) (u : Value) : (w.setCell ⟨b, j, none⟩ u).heap[b]? = some (.cells (C.setIfInBounds j u) t fr) := by
  simp [World.setCell, Array.getElem?_modify, h]
theorem set_other {C : Array Value} {i j : Nat} {u x : Value} (h : C[j]? = some x) (hne : i ≠ j) : (C.setIfInBounds i u)[j]? = some x := by
  rw [Array.getElem?_setIfInBounds_ne hne, h]
theorem set_same {C : Array Value} {i : Nat} {u x : Value} (h : C[i]? = some x) : (C.setIfInBounds i u)[i]? = some u := by
  rw [Array.getElem?_setIfInBounds_self, if_pos]
  exact (Array.getElem?_eq_some_iff.1 h).1
theorem set_out {C : Array Value} {i o : Nat} {u : Value} (h1 : o ≤ i) (h2 : i < o + 5) (j : Nat) (hj : j < o ∨ o + 5 ≤ j) : (C.setIfInBounds i u)[j]? = C[j]? := Array.getElem?_setIfInBounds_ne (by omega)

/-- a store into one of the five cells of a thread -/
theorem step_cell {kb o i : Nat} {w : World} {F : List Nat} {v : ThrV} (u : Value) (h1 : o ≤ i) (h2 : i < o + 5) (v' : ThrV) (hr : ∀ k ∈ rowsOf v', k ∈ rowsOf v) : TStep kb o w F v (w.setCell ⟨kb, i, none⟩ u) F v' :=
  ⟨kept_set w kb i u (by simp), fun C hC => ⟨_, kheap_set hC u, by simp, fun j hj => set_out h1 h2 j hj⟩, fun k hk => .inl (hr k hk), More.refl _ _⟩

theorem TAt.text {w : World} {kb o : Nat} {F : List Nat} {v : ThrV} {th : Thr} (h : TAt w kb o F v th) (x : List UInt8) :
    TAt (w.setCell ⟨kb, o + 2, none⟩ (.string ⟨x.toArray⟩)) kb o F v { th with text := x } ∧ TStep kb o w F v (w.setCell ⟨kb, o + 2, none⟩ (.string ⟨x.toArray⟩)) F v := by
  have hkr := h.kb_rows
  obtain ⟨⟨C, hC, c0, c1, c2, c3, c4⟩, h2, h3, h4, hfin⟩ := h
  refine ⟨⟨⟨_, kheap_set hC _, set_other c0 (by omega), set_other c1 (by omega), set_same c2, set_other c3 (by omega), set_other c4 (by omega)⟩, ?_, h3, h4, fun k hk => by simpa using hfin k hk⟩, step_cell _ (by omega) (by omega) v (fun _ h => h)⟩
  exact h2.keep (R := [kb]) (kept_set w kb _ _ (by simp)) (fun k hk => by simp at hk; subst hk; exact h4) (More.refl _ _) (fun k hk e => by simp at e; subst e; exact hkr hk)

theorem TAt.lab {w : World} {kb o : Nat} {F : List Nat} {v : ThrV} {th : Thr} (h : TAt w kb o F v th) {vl : Value} {l : List (Int × Int)} (hl : RoLab w F vl l) :
    TAt (w.setCell ⟨kb, o, none⟩ vl) kb o F { v with vl := vl } { th with label := l } ∧ TStep kb o w F v (w.setCell ⟨kb, o, none⟩ vl) F { v with vl := vl } := by
  have hkr := h.kb_rows
  obtain ⟨⟨C, hC, c0, c1, c2, c3, c4⟩, h2, h3, h4, hfin⟩ := h
  have hk : KeptF [kb] w (w.setCell ⟨kb, o, none⟩ vl) := kept_set w kb _ _ (by simp)
  have hF : ∀ k ∈ [kb], k ∈ F := fun k hk => by simp at hk; subst hk; exact h4
  refine ⟨⟨⟨_, kheap_set hC _, set_same c0, set_other c1 (by omega), set_other c2 (by omega), set_other c3 (by omega), set_other c4 (by omega)⟩, ?_, h3, h4, fun k hk => by simpa using hfin k hk⟩, step_cell _ (by omega) (by omega) _ (fun _ h => h)⟩
  have h5 := h2.keep hk hF (More.refl _ _) (fun k hm e => by simp at e; subst e; exact hkr hm)
  exact ⟨hl.keep (hk.sub fun k hk => .inl (hF k hk)) (More.refl _ _), h5.2⟩

theorem more_row (w : World) (F : List Nat) {v v' : Value} (hF : ∀ k, v.ownBlock = some k → k ∈ F) (h : ∀ k, v'.ownBlock = some k → v.ownBlock = some k ∨ w.heap.size ≤ k) : More w F (F ++ v'.ownBlock.toList) :=
  ⟨fun k hk => List.mem_append_left _ hk, fun k hk => by
    rcases List.mem_append.1 hk with g | g
    · exact .inl g
    · rcases h k (by simpa using g) with e | e
      · exact .inl (hF k e)
      · exact .inr e⟩
theorem list_row {v : Value} {k : Nat} (h : k ∈ v.ownBlock.toList) : v.ownBlock = some k := by simpa using h

/-- a row of what is owned that grew, and its header stored -/
theorem TAt.own {w w1 : World} {kb o : Nat} {F : List Nat} {v : ThrV} {th : Thr} (h : TAt w kb o F v th) {vo : Value} {l : List Int} (hg : w.grownBy w1 v.vo.ownBlock) (ho : OwnAt w1 vo l) (hw : ∀ k, vo.ownBlock = some k → v.vo.ownBlock = some k ∨ w.heap.size ≤ k) :
    TAt (w1.setCell ⟨kb, o + 1, none⟩ vo) kb o (F ++ vo.ownBlock.toList) { v with vo := vo } { th with own := l } ∧ TStep kb o w F v (w1.setCell ⟨kb, o + 1, none⟩ vo) (F ++ vo.ownBlock.toList) { v with vo := vo } := by
  have hkr := h.kb_rows
  obtain ⟨⟨C, hC, c0, c1, c2, c3, c4⟩, ⟨t1, t2, t3, t4⟩, h3, h4, hfin⟩ := h
  have hoF : ∀ k, v.vo.ownBlock = some k → k ∈ F := fun k e => h3 k (mem_rows.2 (.inl e))
  have hm := more_row w F hoF hw
  have hk1 : KeptF v.vo.ownBlock.toList w w1 := kept_grown hg fun k e => .inl (by rw [e]; simp)
  have hkbne : v.vo.ownBlock ≠ some kb := fun e => hkr (mem_rows.2 (.inl e))
  have hC1 : w1.heap[kb]? = some (.cells C 131 (0, 0)) := hk1.heap hC (fun e => hkbne (list_row e))
  have hk2 : KeptF [kb] w1 (w1.setCell ⟨kb, o + 1, none⟩ vo) := kept_set w1 kb _ _ (by simp)
  have hk : KeptF (kb :: v.vo.ownBlock.toList) w (w1.setCell ⟨kb, o + 1, none⟩ vo) := (hk1.sub fun k e => .inl (List.mem_cons_of_mem _ e)).trans (hk2.sub fun k e => .inl (by simp at e; simp [e]))
  have hR : ∀ k ∈ kb :: v.vo.ownBlock.toList, k ∈ F := fun k e => by
    rcases List.mem_cons.1 e with rfl | e
    · exact h4
    · exact hoF k (list_row e)
  have t3' := t3
  have t4' := t4
  obtain ⟨_, _, j2, _⟩ := t3'
  obtain ⟨_, _, m2, _⟩ := t4'
  refine ⟨⟨⟨_, kheap_set hC1 _, set_other c0 (by omega), set_same c1, set_other c2 (by omega), set_other c3 (by omega), set_other c4 (by omega)⟩, ⟨?_, ?_, ?_, ?_⟩, ?_, hm.1 kb h4, ?_⟩, ⟨hk.sub ?_, fun C' hC' => ?_, ?_, hm⟩⟩
  · exact t1.keep (hk.sub fun k e => .inl (hR k e)) hm
  · exact own_keep ho hk2 (fun k e g => by simp at g; subst g; exact own_box ho hC1 (by decide) e)
  · refine t3.keep hk hR hm fun k e g => ?_
    rcases List.mem_cons.1 g with rfl | g
    · exact own_box j2 hC (by decide) e
    · exact own_ne j2 t2 (by decide) e (list_row g)
  · refine t4.keep hk hR hm fun k e g => ?_
    rcases List.mem_cons.1 g with rfl | g
    · exact own_box m2 hC (by decide) e
    · exact own_ne m2 t2 (by decide) e (list_row g)
  · intro k hk
    rcases mem_rows.1 hk with e | e | e
    · exact List.mem_append_right _ (by simpa using e)
    · exact List.mem_append_left _ (h3 k (mem_rows.2 (.inr (.inl e))))
    · exact List.mem_append_left _ (h3 k (mem_rows.2 (.inr (.inr e))))
  · intro k hk
    rw [World.size_setCell]
    rcases List.mem_append.1 hk with e | e
    · exact Nat.lt_of_lt_of_le (hfin k e) hg.size
    · exact (ho.lt k (list_row e)).2
  · intro k e
    rcases List.mem_cons.1 e with rfl | e
    · exact .inl (by simp)
    · exact .inl (List.mem_cons_of_mem _ (mem_rows.2 (.inl (list_row e))))
  · rw [hC] at hC'
    cases hC'
    exact ⟨_, kheap_set hC1 _, by simp, fun j hj => set_out (by omega) (by omega) j hj⟩
  · intro k hk
    rcases mem_rows.1 hk with e | e | e
    · rcases hw k e with g | g
      · exact .inl (mem_rows.2 (.inl g))
      · exact .inr g
    · exact .inl (mem_rows.2 (.inr (.inl e)))
    · exact .inl (mem_rows.2 (.inr (.inr e)))

/-- a row of objects that grew or was written, and its header stored -/
theorem TAt.objs {w w1 : World} {kb o : Nat} {F : List Nat} {v : ThrV} {th : Thr} (h : TAt w kb o F v th) {u : Value} {l : List Obt} (hg : w.grownBy w1 v.vj.ownBlock) (ho : ObjsAt w1 (F ++ u.ownBlock.toList) u l) (hw : ∀ k, u.ownBlock = some k → v.vj.ownBlock = some k ∨ w.heap.size ≤ k) :
    TAt (w1.setCell ⟨kb, o + 3, none⟩ u) kb o (F ++ u.ownBlock.toList) { v with vj := u } { th with objs := l } ∧ TStep kb o w F v (w1.setCell ⟨kb, o + 3, none⟩ u) (F ++ u.ownBlock.toList) { v with vj := u } := by
  have hkr := h.kb_rows
  obtain ⟨⟨C, hC, c0, c1, c2, c3, c4⟩, ⟨t1, t2, t3, t4⟩, h3, h4, hfin⟩ := h
  have hoF : ∀ k, v.vj.ownBlock = some k → k ∈ F := fun k e => h3 k (mem_rows.2 (.inr (.inl e)))
  have hm := more_row w F hoF hw
  have hk1 : KeptF v.vj.ownBlock.toList w w1 := kept_grown hg fun k e => .inl (by rw [e]; simp)
  have hkbne : v.vj.ownBlock ≠ some kb := fun e => hkr (mem_rows.2 (.inr (.inl e)))
  have hC1 : w1.heap[kb]? = some (.cells C 131 (0, 0)) := hk1.heap hC (fun e => hkbne (list_row e))
  have hk2 : KeptF [kb] w1 (w1.setCell ⟨kb, o + 3, none⟩ u) := kept_set w1 kb _ _ (by simp)
  have hk : KeptF (kb :: v.vj.ownBlock.toList) w (w1.setCell ⟨kb, o + 3, none⟩ u) := (hk1.sub fun k e => .inl (List.mem_cons_of_mem _ e)).trans (hk2.sub fun k e => .inl (by simp at e; simp [e]))
  have hR : ∀ k ∈ kb :: v.vj.ownBlock.toList, k ∈ F := fun k e => by
    rcases List.mem_cons.1 e with rfl | e
    · exact h4
    · exact hoF k (list_row e)
  have t3' := t3
  have t4' := t4
  have ho' := ho
  obtain ⟨_, _, j2, _⟩ := t3'
  obtain ⟨_, _, m2, _⟩ := t4'
  obtain ⟨_, _, u2, _⟩ := ho'
  refine ⟨⟨⟨_, kheap_set hC1 _, set_other c0 (by omega), set_other c1 (by omega), set_other c2 (by omega), set_same c3, set_other c4 (by omega)⟩, ⟨?_, ?_, ?_, ?_⟩, ?_, hm.1 kb h4, ?_⟩, ⟨hk.sub ?_, fun C' hC' => ?_, ?_, hm⟩⟩
  · exact t1.keep (hk.sub fun k e => .inl (hR k e)) hm
  · refine own_keep t2 hk fun k e g => ?_
    rcases List.mem_cons.1 g with rfl | g
    · exact own_box t2 hC (by decide) e
    · exact own_ne t2 j2 (by decide) e (list_row g)
  · exact ho.keep hk2 (fun k e => by simp at e; subst e; exact hm.1 _ h4) (More.refl _ _) (fun k e g => by simp at g; subst g; exact own_box u2 hC1 (by decide) e)
  · refine t4.keep hk hR hm fun k e g => ?_
    rcases List.mem_cons.1 g with rfl | g
    · exact own_box m2 hC (by decide) e
    · exact own_ne m2 j2 (by decide) e (list_row g)
  · intro k hk
    rcases mem_rows.1 hk with e | e | e
    · exact List.mem_append_left _ (h3 k (mem_rows.2 (.inl e)))
    · exact List.mem_append_right _ (by simpa using e)
    · exact List.mem_append_left _ (h3 k (mem_rows.2 (.inr (.inr e))))
  · intro k hk
    rw [World.size_setCell]
    rcases List.mem_append.1 hk with e | e
    · exact Nat.lt_of_lt_of_le (hfin k e) hg.size
    · exact (u2.lt k (list_row e)).2
  · intro k e
    rcases List.mem_cons.1 e with rfl | e
    · exact .inl (by simp)
    · exact .inl (List.mem_cons_of_mem _ (mem_rows.2 (.inr (.inl (list_row e)))))
  · rw [hC] at hC'
    cases hC'
    exact ⟨_, kheap_set hC1 _, by simp, fun j hj => set_out (by omega) (by omega) j hj⟩
  · intro k hk
    rcases mem_rows.1 hk with e | e | e
    · exact .inl (mem_rows.2 (.inl e))
    · rcases hw k e with g | g
      · exact .inl (mem_rows.2 (.inr (.inl g)))
      · exact .inr g
    · exact .inl (mem_rows.2 (.inr (.inr e)))

/-- a row of mails that grew or was written, and its header stored -/
theorem TAt.mails {w w1 : World} {kb o : Nat} {F : List Nat} {v : ThrV} {th : Thr} (h : TAt w kb o F v th) {u : Value} {l : List Mal} (hg : w.grownBy w1 v.vm.ownBlock) (ho : MailsAt w1 (F ++ u.ownBlock.toList) u l) (hw : ∀ k, u.ownBlock = some k → v.vm.ownBlock = some k ∨ w.heap.size ≤ k) :
    TAt (w1.setCell ⟨kb, o + 4, none⟩ u) kb o (F ++ u.ownBlock.toList) { v with vm := u } { th with mails := l } ∧ TStep kb o w F v (w1.setCell ⟨kb, o + 4, none⟩ u) (F ++ u.ownBlock.toList) { v with vm := u } := by
  have hkr := h.kb_rows
  obtain ⟨⟨C, hC, c0, c1, c2, c3, c4⟩, ⟨t1, t2, t3, t4⟩, h3, h4, hfin⟩ := h
  have hoF : ∀ k, v.vm.ownBlock = some k → k ∈ F := fun k e => h3 k (mem_rows.2 (.inr (.inr e)))
  have hm := more_row w F hoF hw
  have hk1 : KeptF v.vm.ownBlock.toList w w1 := kept_grown hg fun k e => .inl (by rw [e]; simp)
  have hkbne : v.vm.ownBlock ≠ some kb := fun e => hkr (mem_rows.2 (.inr (.inr e)))
  have hC1 : w1.heap[kb]? = some (.cells C 131 (0, 0)) := hk1.heap hC (fun e => hkbne (list_row e))
  have hk2 : KeptF [kb] w1 (w1.setCell ⟨kb, o + 4, none⟩ u) := kept_set w1 kb _ _ (by simp)
  have hk : KeptF (kb :: v.vm.ownBlock.toList) w (w1.setCell ⟨kb, o + 4, none⟩ u) := (hk1.sub fun k e => .inl (List.mem_cons_of_mem _ e)).trans (hk2.sub fun k e => .inl (by simp at e; simp [e]))
  have hR : ∀ k ∈ kb :: v.vm.ownBlock.toList, k ∈ F := fun k e => by
    rcases List.mem_cons.1 e with rfl | e
    · exact h4
    · exact hoF k (list_row e)
  have t3' := t3
  have t4' := t4
  have ho' := ho
  obtain ⟨_, _, j2, _⟩ := t3'
  obtain ⟨_, _, m2, _⟩ := t4'
  obtain ⟨_, _, u2, _⟩ := ho'
  refine ⟨⟨⟨_, kheap_set hC1 _, set_other c0 (by omega), set_other c1 (by omega), set_other c2 (by omega), set_other c3 (by omega), set_same c4⟩, ⟨?_, ?_, ?_, ?_⟩, ?_, hm.1 kb h4, ?_⟩, ⟨hk.sub ?_, fun C' hC' => ?_, ?_, hm⟩⟩
  · exact t1.keep (hk.sub fun k e => .inl (hR k e)) hm
  · refine own_keep t2 hk fun k e g => ?_
    rcases List.mem_cons.1 g with rfl | g
    · exact own_box t2 hC (by decide) e
    · exact own_ne t2 m2 (by decide) e (list_row g)
  · refine t3.keep hk hR hm fun k e g => ?_
    rcases List.mem_cons.1 g with rfl | g
    · exact own_box j2 hC (by decide) e
    · exact own_ne j2 m2 (by decide) e (list_row g)
  · exact ho.keep hk2 (fun k e => by simp at e; subst e; exact hm.1 _ h4) (More.refl _ _) (fun k e g => by simp at g; subst g; exact own_box u2 hC1 (by decide) e)
  · intro k hk
    rcases mem_rows.1 hk with e | e | e
    · exact List.mem_append_left _ (h3 k (mem_rows.2 (.inl e)))
    · exact List.mem_append_left _ (h3 k (mem_rows.2 (.inr (.inl e))))
    · exact List.mem_append_right _ (by simpa using e)
  · intro k hk
    rw [World.size_setCell]
    rcases List.mem_append.1 hk with e | e
    · exact Nat.lt_of_lt_of_le (hfin k e) hg.size
    · exact (u2.lt k (list_row e)).2
  · intro k e
    rcases List.mem_cons.1 e with rfl | e
    · exact .inl (by simp)
    · exact .inl (List.mem_cons_of_mem _ (mem_rows.2 (.inr (.inr (list_row e)))))
  · rw [hC] at hC'
    cases hC'
    exact ⟨_, kheap_set hC1 _, by simp, fun j hj => set_out (by omega) (by omega) j hj⟩
  · intro k hk
    rcases mem_rows.1 hk with e | e | e
    · exact .inl (mem_rows.2 (.inl e))
    · exact .inl (mem_rows.2 (.inr (.inl e)))
    · rcases hw k e with g | g
      · exact .inl (mem_rows.2 (.inr (.inr g)))
      · exact .inr g
end Go.Proofs.YtgpldlbmjakjhaaGreat

namespace Go.Proofs.YtgpldlbmjakjhaaGreat
open Go.RowKit Go.Proofs.Parclose

theorem back_bytes (x : List UInt8) (lo n : Nat) (hn : n = x.length - lo) (w : World) (c cap : Nat) (fr : Nat × Nat) :
    (convert 137 9 (.slice (some ⟨w.heap.size, lo, none⟩) n cap)).run Tryz.prog ((w.alloc (.cells (bytesRow ⟨x.toArray⟩ c) 5 fr)).drew) = .ok (.string ⟨(x.drop lo).toArray⟩) ((w.alloc (.cells (bytesRow ⟨x.toArray⟩ c) 5 fr)).drew) := by
  have hl : (x.drop lo).length = n := by rw [List.length_drop, hn]
  rw [← hl]
  refine run_convert_bytes_back (P := Tryz.prog) _ 137 9 5 ⟨w.heap.size, lo, none⟩ cap (x.drop lo) Tryz.underlying137 Tryz.underlying5 Tryz.underlying9 fun j hj => ?_
  rw [WideShapes.add_plain]
  have h1 := World.cell?_alloc_mark w (bytesRow ⟨x.toArray⟩ c) 5 fr (lo + j)
  have hj' : lo + j < x.length := by rw [hl, hn] at hj; omega
  have h2 := bytesRow_at ⟨x.toArray⟩ c (lo + j) (by simpa using hj')
  show (w.alloc (.cells (bytesRow ⟨x.toArray⟩ c) 5 fr)).cell? ⟨w.heap.size, lo + j, none⟩ = _
  rw [h1, h2]
  simp

set_option maxRecDepth 100000 in
set_option maxHeartbeats 800000 in
theorem last_any (x : List UInt8) (w : World) (hx : x.length < 4611686018427387904) : Calls Tryz.prog 94 #[.string ⟨x.toArray⟩] w fun e w' => e = .returned (.string ⟨(lastL x).toArray⟩) ∧ Below w.heap.size w w' := by
  have hcv := fun wx s => run_bytes_of_string (P := Tryz.prog) wx 9 137 5 s Tryz.underlying9 Tryz.underlying137 Tryz.underlying5
  have hal : ∀ o, Below w.heap.size w (w.alloc o).drew := fun o => (below_box w o).drew
  by_cases h : x.length ≤ 64
  · have HL : Hid (lastL x = x) := hid (lastL_short h)
    have hm : max (0 : Int) ((x.length : Int) - 64) = 0 := by omega
    have hb := fun c fr => back_bytes x 0 x.length (by omega) w c c fr
    simp only [List.drop_zero] at hb
    go_enter Tryz.func94, Tryz.ntmps94
    go_wp2
    go_ret
    exact ⟨by rw [HL.out]; rfl, hal _⟩
  · have HL : Hid (lastL x = x.drop (x.length - 64)) := hid rfl
    obtain ⟨n, hn⟩ : ∃ n, x.length = n + 64 := ⟨x.length - 64, by omega⟩
    have hm : max (0 : Int) ((n : Int) + 64 - 64) = (n : Int) := by omega
    have hb := fun c c2 fr => back_bytes x n 64 (by omega) w c c2 fr
    have hge := grownCap_ge w x.length 0 5
    have HN := hid hn
    rw [hn] at hge
    go_enter Tryz.func94, Tryz.ntmps94
    go_wp2
    go_ret
    exact ⟨by rw [HL.out, HN.out, Nat.add_sub_cancel]; rfl, hal _⟩

theorem TAt.cells {w : World} {kb o : Nat} {F : List Nat} {v : ThrV} {th : Thr} (h : TAt w kb o F v th) : w.cell? ⟨kb, o, none⟩ = some v.vl ∧ w.cell? ⟨kb, o + 1, none⟩ = some v.vo ∧ w.cell? ⟨kb, o + 2, none⟩ = some (.string ⟨th.text.toArray⟩) ∧ w.cell? ⟨kb, o + 3, none⟩ = some v.vj ∧ w.cell? ⟨kb, o + 4, none⟩ = some v.vm := by
  obtain ⟨⟨C, hC, c0, c1, c2, c3, c4⟩, _⟩ := h
  have hx : ∀ j, w.cell? ⟨kb, j, none⟩ = C[j]? := fun j => by simp only [World.cell?]; rw [hC]; rfl
  exact ⟨by rw [hx, c0], by rw [hx, c1], by rw [hx, c2], by rw [hx, c3], by rw [hx, c4]⟩
theorem TAt.frozen {w : World} {kb o : Nat} {F : List Nat} {v : ThrV} {th : Thr} (h : TAt w kb o F v th) (j : Nat) : w.frozen? ⟨kb, j, none⟩ = false := by
  obtain ⟨⟨C, hC, _⟩, _⟩ := h
  simp only [World.frozen?]
  rw [hC]
  simp

set_option maxRecDepth 100000 in
set_option maxHeartbeats 800000 in
theorem learn_any (kb o : Nat) (F : List Nat) (v : ThrV) (th : Thr) (y : List UInt8) (w : World) (h : TAt w kb o F v th) (hx : th.text.length + y.length < 4611686018427387904) :
    Calls Tryz.prog 109 #[.pointer (some ⟨kb, o, none⟩), .string ⟨y.toArray⟩] w fun e w' => e = .returned (.tuple #[]) ∧ TAt w' kb o F v { th with text := lastL (th.text ++ y) } ∧ TStep kb o w F v w' F v := by
  obtain ⟨_, _, c2, _, _⟩ := h.cells
  have hstr : ∀ a b : List UInt8, (⟨a.toArray⟩ : ByteArray) ++ ⟨b.toArray⟩ = ⟨(a ++ b).toArray⟩ := fun a b => ByteArray.mk_append_mk a b
  go_enter Tryz.func109, Tryz.ntmps109
  go_wp2_with (go_at_call 94; refine (last_any (th.text ++ y) _ (by rw [List.length_append]; omega)).mono ?_; rintro e w1 ⟨rfl, hw1⟩; have h1 := h.below hw1; obtain ⟨_, _, d2, _, _⟩ := h1.cells; have f2 := h1.frozen (o + 2))
  go_end0
  exact ⟨rfl, (h1.text _).1, (TStep.below hw1).trans (h1.text _).2⟩
end Go.Proofs.YtgpldlbmjakjhaaGreat

namespace Go.Proofs.YtgpldlbmjakjhaaGreat
open Go.RowKit Go.Proofs.Parclose

theorem heap_cells {b : Nat} {t : TypeId} {fr : Nat × Nat} : ∀ (vs : List Value) (o : Nat) (w : World) (cur : Array Value), w.heap[b]? = some (.cells cur t fr) →
    ∃ cur', (w.setCells b o vs).heap[b]? = some (.cells cur' t fr) ∧ cur'.size = cur.size ∧ ∀ j, cur'[j]? = if o ≤ j ∧ j < o + vs.length ∧ j < cur.size then vs[j - o]? else cur[j]?
  | [], o, w, cur, h => ⟨cur, h, rfl, fun j => by rw [if_neg (by simp; omega)]⟩
  | v :: r, o, w, cur, h => by
    obtain ⟨cur', h1, h2, h3⟩ := heap_cells r (o + 1) (w.setCell ⟨b, o, none⟩ v) _ (kheap_set h v)
    refine ⟨cur', h1, by rw [h2]; simp, fun j => ?_⟩
    rw [h3 j]
    simp only [Array.size_setIfInBounds, List.length_cons]
    by_cases e : j = o
    · subst e
      rw [if_neg (by omega)]
      by_cases hj : j < cur.size
      · rw [if_pos (by omega), Nat.sub_self, Array.getElem?_setIfInBounds_self, if_pos hj]
        rfl
      · rw [if_neg (by omega), Array.getElem?_setIfInBounds_self, if_neg hj, Array.getElem?_eq_none (by omega)]
    · by_cases hc : o + 1 ≤ j ∧ j < o + 1 + r.length ∧ j < cur.size
      · rw [if_pos hc, if_pos (by omega), show j - o = j - (o + 1) + 1 by omega]
        rfl
      · rw [if_neg hc, if_neg (by omega), Array.getElem?_setIfInBounds_ne (fun h => e h.symm)]

theorem grown_cells {b : Nat} : ∀ (vs : List Value) (o : Nat) (w : World), w.grownBy (w.setCells b o vs) (some b)
  | [], _, _ => ⟨rfl, rfl, rfl, Nat.le_refl _, fun _ _ _ => rfl⟩
  | v :: r, o, w => by
    have h := grown_cells (b := b) r (o + 1) (w.setCell ⟨b, o, none⟩ v)
    show w.grownBy ((w.setCell ⟨b, o, none⟩ v).setCells b (o + 1) r) (some b)
    exact ⟨h.os, h.tape, h.output, by have := h.size; simpa using this, fun k hk hr => by
      rw [h.block k (by simpa using hk) hr, Below.heap_setCell w _ _ k (fun e => hr (by rw [e]))]⟩

theorem own_of_cells {w : World} {g : Nat} {e : TypeId} {size n cap : Nat} {cur : Array Value} {xs : List Value} (h : w.heap[g]? = some (.cells cur e (0, 0))) (hn : n ≤ cap) (hm : cap ≤ maxLen) (hs : cur.size = cap * size) (hx : xs.length = n * size) (hc : ∀ j, j < n * size → cur[j]? = xs[j]?) :
    w.ownsRow 0 e size (.slice (some ⟨g, 0, none⟩) n cap) n xs := by
  refine ⟨hx, .inr ⟨g, cap, cur, rfl, Nat.zero_le _, h, hn, hm, hs, ?_⟩⟩
  refine List.ext_getElem? fun j => ?_
  rw [List.getElem?_take]
  split
  · rename_i hj
    rw [Array.getElem?_toList]
    exact hc j hj
  · rename_i hj
    rw [List.getElem?_eq_none (by omega)]

theorem own_get {w : World} {g : Nat} {e : TypeId} {size n cap : Nat} {xs : List Value} (h : w.ownsRow 0 e size (.slice (some ⟨g, 0, none⟩) n cap) n xs) : ∃ cur, w.heap[g]? = some (.cells cur e (0, 0)) ∧ n ≤ cap ∧ cap ≤ maxLen ∧ cur.size = cap * size ∧ ∀ j, j < n * size → cur[j]? = xs[j]? := by
  rcases h.2 with ⟨h1, _⟩ | ⟨g', cap', cur, h1, _, hh, h2, h3, h4, h5⟩
  · cases h1
  · cases h1
    refine ⟨cur, hh, h2, h3, h4, fun j hj => ?_⟩
    rw [← h5, List.getElem?_take, if_pos hj, Array.getElem?_toList]

theorem ins_get (l : List Int) (i : Nat) (c : Int) (hi : i ≤ l.length) (j : Nat) : (flat1 (l.take i ++ c :: l.drop i))[j]? = if j < i then (flat1 l)[j]? else if j = i then some (.int .i64 c) else (flat1 l)[j - 1]? := by
  unfold flat1
  rw [List.getElem?_map, List.getElem?_append]
  rw [List.length_take, Nat.min_eq_left hi]
  by_cases h1 : j < i
  · rw [if_pos h1, if_pos h1, List.getElem?_take, if_pos h1, List.getElem?_map]
  · rw [if_neg h1, if_neg h1]
    by_cases h2 : j = i
    · subst h2
      rw [if_pos rfl, Nat.sub_self]
      rfl
    · rw [if_neg h2, show j - i = j - 1 - i + 1 by omega, List.getElem?_cons_succ, List.getElem?_drop, List.getElem?_map, show i + (j - 1 - i) = j - 1 by omega]
theorem flat1_len (l : List Int) : (flat1 l).length = l.length := by simp [flat1]

theorem zero_size (k : Nat) : (Builtin.zeroCells (Value.int .i64 0).cells k).size = k := by rw [size_zeroCells]; simp [Value.cells]

/-- a new row of numbers, with room behind -/
theorem new_row (W : World) (xs : List Value) (n cap : Nat) (hx : xs.length = n) (hn : n ≤ cap) (hm : cap ≤ maxLen) :
    (W.drew.alloc (.cells (xs.toArray ++ Builtin.zeroCells (Value.int .i64 0).cells (cap - n)) 3)).ownsRow 0 3 1 (.slice (some ⟨W.heap.size, 0, none⟩) n cap) n xs := by
  refine own_of_cells (heap_alloc_new W.drew _) hn hm (by rw [Array.size_append, zero_size]; simp; omega) (by omega) fun j hj => ?_
  rw [Array.getElem?_append_left (by simp; omega)]
  simp

theorem arg_cells (w : World) (c : Int) : ∀ j v, [Value.int .i64 c][j]? = some v → (w.alloc (.cells #[.int .i64 c] 3)).cell? ⟨w.heap.size, 0 + j, none⟩ = some v := by
  intro j v hv
  rw [World.cell?_alloc_mark, Nat.zero_add]
  simpa using hv

theorem grown_new (W : World) (o : Obj) (r : Option Nat) : W.grownBy (W.drew.alloc o) r := ⟨rfl, rfl, rfl, by simp, fun k hk _ => Below.heap_alloc W.drew o k hk⟩

theorem insert_grow (b off n c i vb voff m vc : Nat) (cs vs : List Value) (w : World) (hi : i < n) (hm : 0 < m) (hnc : n ≤ c) (hroom : c < n + m) (hbig : (n + m) * 8 ≤ 140737488355328)
    (hcl : cs.length = n) (hvl : vs.length = m) (hcs : ∀ j v, cs[j]? = some v → w.cell? ⟨b, off + j, none⟩ = some v)
    (hvs : ∀ j v, vs[j]? = some v → w.cell? ⟨vb, voff + j, none⟩ = some v) (h1c : ∀ v ∈ cs, v.oneCell' = true) (h1v : ∀ v ∈ vs, v.oneCell' = true) :
    Calls Tryz.prog 138 #[.slice (some ⟨b, off, none⟩) n c, .int .i64 i, .slice (some ⟨vb, voff, none⟩) m vc] w fun e w' =>
      e = .returned (.slice (some ⟨w.heap.size, 0, none⟩) (n + m) (grownCap w (n + m) c 3)) ∧
      w' = (((w.alloc (.cells ((cs.take i).toArray ++ Builtin.zeroCells (Value.int .i64 0).cells (n + m - i) ++ Builtin.zeroCells (Value.int .i64 0).cells (grownCap w (n + m) c 3 - (n + m))) 3)).drew.setCells w.heap.size i vs).drew).setCells w.heap.size (i + m) (cs.drop i) :=
  Any2.slices_Insert_int_grow Tryz.layInsert b off n c i vb voff m vc cs vs w hi hm hnc hroom hbig hcl hvl hcs hvs h1c h1v

/-- slices.Insert of one number -/
theorem insert_any (v : Value) (l : List Int) (i : Nat) (c : Int) (w : World) (hv : OwnAt w v l) (hi : i ≤ l.length) (hl : l.length ≤ 1000) :
    Calls Tryz.prog 138 #[v, .int .i64 i, .slice (some ⟨w.heap.size, 0, none⟩) 1 1] (w.alloc (.cells #[.int .i64 c] 3)) fun e w' => ∃ v', e = .returned v' ∧ OwnAt w' v' (l.take i ++ c :: l.drop i) ∧ (w.alloc (.cells #[.int .i64 c] 3)).grownBy w' v.ownBlock ∧ ∀ k, v'.ownBlock = some k → v.ownBlock = some k ∨ w.heap.size + 1 ≤ k := by
  have hWs : (w.alloc (.cells #[.int .i64 c] 3)).heap.size = w.heap.size + 1 := by simp
  have harg := arg_cells w c
  have hlen : (l.take i ++ c :: l.drop i).length = l.length + 1 := by simp; omega
  have hone : ∀ u ∈ [Value.int .i64 c], u.oneCell' = true := flat1_one [c]
  have hv0 := hv
  have hml : ∀ n, n ≤ 2000 → n ≤ maxLen := fun n h => by unfold maxLen; omega
  unfold OwnAt
  rw [hlen]
  rcases hv.2 with ⟨rfl, hn⟩ | ⟨g, cap, cur, rfl, _, hg, hnc, hcm, hcs, htk⟩
  · have hl0 : l = [] := List.length_eq_zero_iff.1 hn
    subst hl0
    have hi0 : i = 0 := by simpa using hi
    subst hi0
    refine (Any2.slices_Insert_int_end_grow Tryz.layInsert none 0 0 w.heap.size 0 1 1 [] [.int .i64 c] (w.alloc (.cells #[.int .i64 c] 3)) (by omega) (by omega) (by omega) (by omega) rfl rfl (fun _ => rfl) (fun a h => by cases h) harg hone).mono ?_
    rintro e w' ⟨rfl, rfl⟩
    exact ⟨_, rfl, new_row _ [.int .i64 c] 1 _ rfl (grownCap_ge _ _ _ _) (grownCap_le_maxLen _ _ _ _ (hml _ (by omega))), grown_new _ _ _, fun k hk => .inr (by cases hk; simp)⟩
  · have hgw : g < w.heap.size := (Array.getElem?_eq_some_iff.1 hg).1
    have hgW : (w.alloc (.cells #[.int .i64 c] 3)).heap[g]? = some (.cells cur 3 (0, 0)) := by rw [Below.heap_alloc w _ g hgw, hg]
    have hcell : ∀ j, (w.alloc (.cells #[.int .i64 c] 3)).cell? ⟨g, j, none⟩ = cur[j]? := fun j => by simp only [World.cell?]; rw [hgW]; rfl
    have hfroz : ∀ j, (w.alloc (.cells #[.int .i64 c] 3)).frozen? ⟨g, j, none⟩ = false := fun j => by simp only [World.frozen?]; rw [hgW]; simp
    obtain ⟨cur1, hcur1, _, _, _, hget⟩ := own_get hv0
    rw [hg] at hcur1
    cases hcur1
    have hcsz : cur.size = cap := by omega
    have hold : ∀ j u, (flat1 l)[j]? = some u → (w.alloc (.cells #[.int .i64 c] 3)).cell? ⟨g, 0 + j, none⟩ = some u := fun j u hu => by
      have hj : j < l.length := by have := (List.getElem?_eq_some_iff.1 hu).1; rwa [flat1_len] at this
      rw [Nat.zero_add, hcell, hget j (by omega), hu]
    have hc63 : cap ≤ 9223372036854775807 := by have := hcm; unfold maxLen at this; omega
    by_cases hin : i = l.length
    · subst hin
      by_cases hroom : l.length + 1 ≤ cap
      · refine (Any2.slices_Insert_int_end_room Tryz.layInsert g 0 l.length cap w.heap.size 0 1 1 [.int .i64 c] (w.alloc (.cells #[.int .i64 c] 3)) (by omega) hroom hc63 rfl (fun j hj => ?_) (fun j hj => hfroz _) harg hone).mono ?_
        · rw [hcell, Array.getElem?_eq_getElem (by omega)]; rfl
        · rintro e w' ⟨rfl, rfl⟩
          obtain ⟨cur', h1, h2, h3⟩ := heap_cells [.int .i64 c] (0 + l.length) _ _ hgW
          refine ⟨_, rfl, own_of_cells h1 hroom hcm (by omega) (by rw [flat1_len]; omega) fun j hj => ?_, grown_cells _ _ _, fun k hk => .inl hk⟩
          rw [h3 j, ins_get l l.length c hi j]
          by_cases e1 : j < l.length
          · rw [if_neg (by omega), if_pos e1, hget j (by omega)]
          · have e2 : j = l.length := by omega
            subst e2
            rw [if_pos (by simp; omega), if_neg e1, if_pos rfl, Nat.zero_add, Nat.sub_self]
            rfl
      · refine (Any2.slices_Insert_int_end_grow Tryz.layInsert (some ⟨g, 0, none⟩) l.length cap w.heap.size 0 1 1 (flat1 l) [.int .i64 c] (w.alloc (.cells #[.int .i64 c] 3)) (by omega) hnc (by omega) (by omega) (flat1_len l) rfl (fun h => by cases h) (fun a h j u hu => by cases h; rw [WideShapes.add_plain]; exact hold j u hu) harg hone).mono ?_
        rintro e w' ⟨rfl, rfl⟩
        refine ⟨_, rfl, ?_, grown_new _ _ _, fun k hk => .inr (by cases hk; simp)⟩
        have hr := new_row (w.alloc (.cells #[.int .i64 c] 3)) (flat1 l ++ [.int .i64 c]) (l.length + 1) _ (by rw [List.length_append, flat1_len]; rfl) (grownCap_ge (w.alloc (.cells #[.int .i64 c] 3)) (l.length + 1) cap 3) (grownCap_le_maxLen _ _ _ _ (hml _ (by omega)))
        have e : flat1 (l.take l.length ++ c :: l.drop l.length) = flat1 l ++ [.int .i64 c] := by simp [flat1]
        rw [e]
        exact hr
    · have hilt : i < l.length := by omega
      by_cases hroom : l.length + 1 ≤ cap
      · refine (Any2.slices_Insert_int_shift Tryz.layInsert g 0 l.length cap i w.heap.size 0 1 1 (flat1 l) [.int .i64 c] (w.alloc (.cells #[.int .i64 c] 3)) hilt (by omega) hroom hc63 (by omega) (flat1_len l) rfl hold (fun j hj => ?_) (fun j hj => hfroz _) harg (flat1_one l) hone 3 3 1 cur.size ?_ ?_ (by omega) ?_ ?_).mono ?_
        · rw [hcell, Array.getElem?_eq_getElem (by omega)]; rfl
        · unfold World.shape?; rw [heap_alloc_new]; rfl
        · unfold World.shape?; rw [hgW]
        · simp only [World.frozen?, heap_alloc_new]; simp
        · simp only [World.frozen?, heap_alloc_new]; simp
        · rintro e w' ⟨rfl, rfl⟩
          obtain ⟨cur', h1, h2, h3⟩ := heap_cells ((flat1 l).drop i) (0 + (i + 1)) (w.alloc (.cells #[.int .i64 c] 3)).drew _ hgW
          obtain ⟨cur2, k1, k2, k3⟩ := heap_cells [.int .i64 c] (0 + i) _ _ h1
          have hG : (w.alloc (.cells #[.int .i64 c] 3)).grownBy (((w.alloc (.cells #[.int .i64 c] 3)).drew.setCells g (0 + (i + 1)) ((flat1 l).drop i)).setCells g (0 + i) [.int .i64 c]) (some g) := by
            have a1 := grown_cells (b := g) ((flat1 l).drop i) (0 + (i + 1)) (w.alloc (.cells #[.int .i64 c] 3)).drew
            have a2 := grown_cells (b := g) [.int .i64 c] (0 + i) ((w.alloc (.cells #[.int .i64 c] 3)).drew.setCells g (0 + (i + 1)) ((flat1 l).drop i))
            exact ⟨a2.os.trans a1.os, a2.tape.trans a1.tape, a2.output.trans a1.output, Nat.le_trans a1.size a2.size, fun k hk hr => by rw [a2.block k (Nat.lt_of_lt_of_le hk a1.size) hr, a1.block k hk hr]; rfl⟩
          refine ⟨_, rfl, own_of_cells k1 hroom hcm (by omega) (by rw [flat1_len]; omega) fun j hj => ?_, hG, fun k hk => .inl hk⟩
          rw [k3 j, ins_get l i c hi j]
          by_cases e1 : j < i
          · rw [if_neg (by omega), if_pos e1, h3 j, if_neg (by omega), hget j (by omega)]
          · rw [if_neg e1]
            by_cases e2 : j = i
            · subst e2
              rw [if_pos (by simp; omega), if_pos rfl, Nat.zero_add, Nat.sub_self]
              rfl
            · rw [if_neg (by simp; omega), if_neg e2, h3 j, if_pos (by rw [List.length_drop, flat1_len]; omega), List.getElem?_drop]
              congr 1
              omega
      · refine (insert_grow g 0 l.length cap i w.heap.size 0 1 1 (flat1 l) [.int .i64 c] (w.alloc (.cells #[.int .i64 c] 3)) hilt (by omega) hnc (by omega) (by omega) (flat1_len l) rfl hold harg (flat1_one l) hone).mono ?_
        rintro e w' ⟨rfl, hw'⟩
        have hge := grownCap_ge (w.alloc (.cells #[.int .i64 c] 3)) (l.length + 1) cap 3
        have hle := grownCap_le_maxLen (w.alloc (.cells #[.int .i64 c] 3)) (l.length + 1) cap 3 (hml _ (by omega))
        generalize w.alloc (.cells #[.int .i64 c] 3) = W at *
        generalize grownCap W (l.length + 1) cap 3 = nc at *
        have hA0 : (W.alloc (.cells (((flat1 l).take i).toArray ++ Builtin.zeroCells (Value.int .i64 0).cells (l.length + 1 - i) ++ Builtin.zeroCells (Value.int .i64 0).cells (nc - (l.length + 1))) 3)).drew.heap[W.heap.size]? = _ := heap_alloc_new W _
        have hA : W.grownBy (W.alloc (.cells (((flat1 l).take i).toArray ++ Builtin.zeroCells (Value.int .i64 0).cells (l.length + 1 - i) ++ Builtin.zeroCells (Value.int .i64 0).cells (nc - (l.length + 1))) 3)).drew (some g) := ⟨rfl, rfl, rfl, by simp, fun k hk _ => Below.heap_alloc W _ k hk⟩
        generalize (W.alloc (.cells (((flat1 l).take i).toArray ++ Builtin.zeroCells (Value.int .i64 0).cells (l.length + 1 - i) ++ Builtin.zeroCells (Value.int .i64 0).cells (nc - (l.length + 1))) 3)).drew = A at *
        obtain ⟨cur', h1, h2, h3⟩ := heap_cells [.int .i64 c] i _ _ hA0
        have a1 := grown_cells (b := W.heap.size) [.int .i64 c] i A
        generalize A.setCells W.heap.size i [.int .i64 c] = B at *
        obtain ⟨cur2, k1, k2, k3⟩ := heap_cells ((flat1 l).drop i) (i + 1) B.drew _ h1
        have a2 := grown_cells (b := W.heap.size) ((flat1 l).drop i) (i + 1) B.drew
        rw [← hw'] at k1 a2
        refine ⟨_, rfl, ?_, ?_, fun k hk => .inr (by cases hk; show w.heap.size + 1 ≤ W.heap.size; omega)⟩
        · have hsz : cur'.size = nc := by
            rw [h2]
            simp only [Array.size_append, zero_size, List.size_toArray, List.length_take, flat1_len]
            omega
          refine own_of_cells k1 hge hle (by omega) (by rw [flat1_len]; omega) fun j hj => ?_
          rw [k3 j, ins_get l i c hi j]
          by_cases e1 : j < i
          · rw [if_neg (by omega), if_pos e1, h3 j, if_neg (by omega), Array.append_assoc, Array.getElem?_append_left (by simp [flat1_len]; omega)]
            simp [e1]
          · rw [if_neg e1]
            by_cases e2 : j = i
            · subst e2
              rw [if_neg (by omega), if_pos rfl, h3 j, if_pos (by rw [← h2, hsz]; simp; omega), Nat.sub_self]
              rfl
            · rw [if_neg e2, if_pos (by rw [List.length_drop, flat1_len]; omega), List.getElem?_drop]
              congr 1
              omega
        · exact ⟨a2.os.trans (a1.os.trans hA.os), a2.tape.trans (a1.tape.trans hA.tape), a2.output.trans (a1.output.trans hA.output), Nat.le_trans hA.size (Nat.le_trans a1.size a2.size), fun k hk hr => by
            have n1 : some k ≠ some W.heap.size := fun e => by have := Option.some.inj e; omega
            rw [a2.block k (Nat.lt_of_lt_of_le hk (Nat.le_trans hA.size a1.size)) n1]
            refine (a1.block k (Nat.lt_of_lt_of_le hk hA.size) n1).trans ?_
            exact hA.block k hk hr⟩
end Go.Proofs.YtgpldlbmjakjhaaGreat

namespace Go.Proofs.YtgpldlbmjakjhaaGreat
open Go.RowKit Go.Proofs.Parclose

theorem ksearch_any (v : Value) (l : List Int) (c : Int) (w : World) (hv : OwnAt w v l) (hs : l.Pairwise (· < ·)) (hl : l.length ≤ 1000) :
    Calls Tryz.prog 136 #[v, .int .i64 c] w fun e w' => e = .returned (.tuple #[.int .i64 (l.countP (· < c) : Nat), .bool (l.contains c)]) ∧ Below w.heap.size w w' := by
  have hv0 := hv
  rcases hv.2 with ⟨rfl, hn⟩ | ⟨g, cap, cur, rfl, _, hg, hnc, hcm, hcs, htk⟩
  · have hl0 : l = [] := List.length_eq_zero_iff.1 hn
    subst hl0
    refine (Tryz.slices_BinarySearch_int_empty none 0 c w).mono ?_
    rintro e w' ⟨rfl, rfl⟩
    exact ⟨rfl, Below.refl _ _⟩
  · obtain ⟨cur1, hcur1, _, _, _, hget⟩ := own_get hv0
    refine (Tryz.slices_BinarySearch_int g 0 l.length cap l c w (Nat.le_refl _) (by omega) (fun j hj => ?_) ?_).mono ?_
    · have e : w.cell? ⟨g, 0 + j, none⟩ = cur1[j]? := by simp only [World.cell?]; rw [hcur1, Nat.zero_add]; rfl
      rw [e, hget j (by omega)]
      simp [flat1, hj]
    · rw [List.take_length]
      exact hs.imp fun h => Int.le_of_lt h
    · rintro e w' ⟨rfl, q, rfl⟩
      rw [List.take_length]
      exact ⟨rfl, below_drewN w q⟩

theorem TAt.after {w w1 : World} {kb o : Nat} {F : List Nat} {v : ThrV} {th : Thr} (h : TAt w kb o F v th) {r : Option Nat} (hg : w.grownBy w1 r) (hr : ∀ k, r = some k → k ∈ rowsOf v) {j : Nat} {u : Value} (hc : w.cell? ⟨kb, j, none⟩ = some u) : w1.cell? ⟨kb, j, none⟩ = some u ∧ w1.frozen? ⟨kb, j, none⟩ = false := by
  have hk := h.kb_rows
  have hb := hg.block kb (cell_block hc) (fun e => hk (hr kb e.symm))
  have hf := h.frozen j
  refine ⟨by rw [World.cell?_of_block (w := w) hb, hc], by rw [World.frozen?_of_block (w := w) hb, hf]⟩

theorem ownV {w : World} {v : Value} {l : List Int} (h : OwnAt w v l) : ∃ p cap, v = .slice p l.length cap := by
  obtain ⟨p, cap, e, _⟩ := owns_cells h
  exact ⟨p, cap, e⟩

set_option maxRecDepth 100000 in
set_option maxHeartbeats 1600000 in
theorem own_any (kb o : Nat) (F : List Nat) (v : ThrV) (th : Thr) (c : Int) (w : World) (h : TAt w kb o F v th) (hs : th.own.Pairwise (· < ·)) (hl : th.own.length ≤ 8) :
    Calls Tryz.prog 107 #[.pointer (some ⟨kb, o, none⟩), .int .i64 c] w fun e w' => e = .returned (.int .i64 (ownL th.own c).1) ∧ ∃ G v', TAt w' kb o G v' { th with own := (ownL th.own c).2 } ∧ TStep kb o w F v w' G v' := by
  have HO : Hid (ownL th.own c = if th.own.contains c then (0, th.own) else if 8 ≤ th.own.length then (5, th.own) else (0, insL th.own c)) := hid rfl
  obtain ⟨_, c1, _, _, _⟩ := h.cells
  have ho := h.thr.2.1
  obtain ⟨p, cap, hvo⟩ := ownV ho
  have hbs := ksearch_any v.vo th.own c w ho hs (by omega)
  have HV := hid hvo
  have hcnt : th.own.countP (· < c) ≤ th.own.length := List.countP_le_length
  generalize hk : th.own.countP (· < c) = n at *
  have HK := hid hk
  rw [hvo] at c1 hbs
  clear hvo ho hk hs
  cases hcon : th.own.contains c with
  | true =>
    rw [hcon] at hbs
    have HO2 : Hid (ownL th.own c = (0, th.own)) := hid (by rw [HO.out, hcon]; rfl)
    clear HO
    go_enter Tryz.func107, Tryz.ntmps107
    go_wp2_with (go_at_call 136; refine hbs.mono ?_; rintro e w1 ⟨rfl, hw1⟩)
    go_ret
    rw [HO2.out]
    exact ⟨rfl, F, v, h.below hw1, TStep.below hw1⟩
  | false =>
    rw [hcon] at hbs
    by_cases h8 : 8 ≤ th.own.length
    · have HO2 : Hid (ownL th.own c = (5, th.own)) := hid (by rw [HO.out, hcon, if_pos h8]; rfl)
      clear HO
      go_enter Tryz.func107, Tryz.ntmps107
      go_wp2_with (go_at_call 136; refine hbs.mono ?_; rintro e w1 ⟨rfl, hw1⟩; have h1 := h.below hw1; obtain ⟨_, d1, _, _, _⟩ := h1.cells; rw [HV.out] at d1)
      go_ret
      rw [HO2.out]
      exact ⟨rfl, F, v, h1, TStep.below hw1⟩
    · have HO2 : Hid (ownL th.own c = (0, insL th.own c)) := hid (by rw [HO.out, hcon, if_neg h8]; rfl)
      clear HO
      go_enter Tryz.func107, Tryz.ntmps107
      go_wp2_with (first
        | (go_at_call 136; refine hbs.mono ?_; rintro e w1 ⟨rfl, hw1⟩; have h1 := h.below hw1; obtain ⟨_, d1, _, _, _⟩ := h1.cells; rw [HV.out] at d1; have hins := insert_any v.vo th.own n c w1 h1.thr.2.1 hcnt (by omega); rw [HV.out] at hins; generalize hl2 : th.own.take n ++ c :: th.own.drop n = l2 at hins; have HL2 := hid hl2; clear hl2)
        | (go_at_call 138; refine hins.mono ?_; rintro e w2 ⟨vo2, rfl, hown2, hg2, hwh2⟩; have h1b := h1.below (below_box w1 (.cells #[.int .i64 c] 3)); have hst := h1b.own (by rw [HV.out]; exact hg2) hown2 (by rw [HV.out]; intro k hk; have := hwh2 k hk; simpa using this); obtain ⟨d2, f2⟩ := h1b.after hg2 (fun k hk => mem_rows.2 (.inl (by rw [HV.out]; exact hk))) (h1b.cells.2.1); obtain ⟨p2, cap2, hv2⟩ := ownV hown2; subst hv2))
      go_ret
      rw [HO2.out]
      have e2 : insL th.own c = l2 := by unfold insL; rw [HK.out, HL2.out]
      simp only [e2]
      exact ⟨rfl, _, _, hst.1, (TStep.below hw1).trans ((TStep.below (below_box _ _)).trans hst.2)⟩
end Go.Proofs.YtgpldlbmjakjhaaGreat

namespace Go.Proofs.YtgpldlbmjakjhaaGreat
open Go.RowKit Go.Proofs.Parclose

theorem own_empty (w : World) (base : Nat) (e : TypeId) (size : Nat) (hb : base ≤ w.heap.size) : (w.alloc (.cells #[] e)).ownsRow base e size (.slice (some ⟨w.heap.size, 0, none⟩) 0 0) 0 [] :=
  ⟨by simp, .inr ⟨w.heap.size, 0, #[], rfl, hb, heap_alloc_new w _, Nat.le_refl _, Nat.zero_le _, by simp, by simp⟩⟩

theorem info_object : (Tryz.prog.info? 76).map (fun i => (i.zero, i.size, i.bytes)) = some (some (.agg #[.slice none 0 0, .string ⟨#[]⟩]), 2, 40) := by kernel_rfl
theorem info_mail : (Tryz.prog.info? 46).map (fun i => (i.zero, i.size, i.bytes)) = some (some (.agg #[.int .i64 0, .int .i64 0, .slice none 0 0, .slice none 0 0, .string ⟨#[]⟩]), 5, 80) := by kernel_rfl

set_option maxRecDepth 100000 in
set_option maxHeartbeats 400000 in
theorem cloneL_some (a : Addr) (n cap : Nat) (xs : List Value) (w : World) (hl : xs.length = n * 2) (hn : n ≤ 8796093022208) (hc : ∀ j u, xs[j]? = some u → w.cell? (a.add j) = some u) (h1 : ∀ u ∈ xs, u.oneCell' = true) :
    Calls Tryz.prog 76 #[.slice (some a) n cap] w fun e w' => ∃ v', e = .returned v' ∧ w'.ownsRow w.heap.size 74 2 v' n xs ∧ Below w.heap.size w w' := by
  obtain ⟨i0, hi, hz0, hz1, hz2⟩ := info_parts info_level
  have q : ∀ (wx : World) (p : Option Addr) (n c n' c' : Nat), (binOp .eql 27 (.slice p n c) (.slice none n' c')).run Tryz.prog wx = .ok (.bool p.isNone) wx := fun wx p n c n' c' => Lib.run_eql_slice_nil wx _ _ p n c n' c' Tryz.underlying27
  have HC := hid hc
  clear hc
  go_enter Tryz.func76, Tryz.ntmps76
  go_wp2_with (at_builtin; refine wpList_append_own _ rfl _ _ 27 rfl w.heap.size 74 i0 _ 2 16 Tryz.underlying27 hi hz0 hz1 hz2 rfl (by decide) _ 0 [] rfl (own_empty w _ _ _ (Nat.le_refl _)) a n cap xs rfl hl (fun j u hu => by have := HC.out j u hu; rw [(below_box w _).cell (cell_block this), this]) h1 (by unfold maxLen; omega) (by omega) (by simp) ?_; intro v6 w6 hown6 hgrow6 hnil6)
  have hb6 : Below w.heap.size w w6 := (below_box w (.cells #[] 74)).grown hgrow6 (by simp) (fun k hk => by cases hk; exact Nat.le_refl _)
  clear hgrow6 hnil6
  rw [Nat.zero_add, List.nil_append] at hown6
  go_ret
  exact ⟨v6, rfl, hown6, hb6⟩
theorem cloneL_none (n cap : Nat) (w : World) : Calls Tryz.prog 76 #[.slice none n cap] w fun e w' => e = .returned (.slice none 0 0) ∧ w' = w := by
  have q : ∀ (wx : World) (p : Option Addr) (n c n' c' : Nat), (binOp .eql 27 (.slice p n c) (.slice none n' c')).run Tryz.prog wx = .ok (.bool p.isNone) wx := fun wx p n c n' c' => Lib.run_eql_slice_nil wx _ _ p n c n' c' Tryz.underlying27
  go_enter Tryz.func76, Tryz.ntmps76
  go_wp2
  go_ret
  exact ⟨rfl, rfl⟩

set_option maxRecDepth 100000 in
set_option maxHeartbeats 400000 in
theorem cloneI_some (a : Addr) (n cap : Nat) (xs : List Value) (w : World) (hl : xs.length = n * 1) (hn : n ≤ 17592186044416) (hc : ∀ j u, xs[j]? = some u → w.cell? (a.add j) = some u) (h1 : ∀ u ∈ xs, u.oneCell' = true) :
    Calls Tryz.prog 77 #[.slice (some a) n cap] w fun e w' => ∃ v', e = .returned v' ∧ w'.ownsRow w.heap.size 3 1 v' n xs ∧ Below w.heap.size w w' := by
  obtain ⟨i0, hi, hz0, hz1, hz2⟩ := info_parts info_int
  have q : ∀ (wx : World) (p : Option Addr) (n c n' c' : Nat), (binOp .eql 28 (.slice p n c) (.slice none n' c')).run Tryz.prog wx = .ok (.bool p.isNone) wx := fun wx p n c n' c' => Lib.run_eql_slice_nil wx _ _ p n c n' c' Tryz.underlying28
  have HC := hid hc
  clear hc
  go_enter Tryz.func77, Tryz.ntmps77
  go_wp2_with (at_builtin; refine wpList_append_own _ rfl _ _ 28 rfl w.heap.size 3 i0 _ 1 8 Tryz.underlying28 hi hz0 hz1 hz2 rfl (by decide) _ 0 [] rfl (own_empty w _ _ _ (Nat.le_refl _)) a n cap xs rfl hl (fun j u hu => by have := HC.out j u hu; rw [(below_box w _).cell (cell_block this), this]) h1 (by unfold maxLen; omega) (by omega) (by simp) ?_; intro v6 w6 hown6 hgrow6 hnil6)
  have hb6 : Below w.heap.size w w6 := (below_box w (.cells #[] 3)).grown hgrow6 (by simp) (fun k hk => by cases hk; exact Nat.le_refl _)
  clear hgrow6 hnil6
  rw [Nat.zero_add, List.nil_append] at hown6
  go_ret
  exact ⟨v6, rfl, hown6, hb6⟩
theorem cloneI_none (n cap : Nat) (w : World) : Calls Tryz.prog 77 #[.slice none n cap] w fun e w' => e = .returned (.slice none 0 0) ∧ w' = w := by
  have q : ∀ (wx : World) (p : Option Addr) (n c n' c' : Nat), (binOp .eql 28 (.slice p n c) (.slice none n' c')).run Tryz.prog wx = .ok (.bool p.isNone) wx := fun wx p n c n' c' => Lib.run_eql_slice_nil wx _ _ p n c n' c' Tryz.underlying28
  go_enter Tryz.func77, Tryz.ntmps77
  go_wp2
  go_ret
  exact ⟨rfl, rfl⟩

set_option maxRecDepth 100000 in
set_option maxHeartbeats 400000 in
theorem cloneO_some (a : Addr) (n cap : Nat) (xs : List Value) (w : World) (hl : xs.length = n * 2) (hn : n ≤ 1000) (hc : ∀ j u, xs[j]? = some u → w.cell? (a.add j) = some u) (h1 : ∀ u ∈ xs, u.oneCell' = true) :
    Calls Tryz.prog 78 #[.slice (some a) n cap] w fun e w' => ∃ v', e = .returned v' ∧ w'.ownsRow w.heap.size 76 2 v' n xs ∧ Below w.heap.size w w' := by
  obtain ⟨i0, hi, hz0, hz1, hz2⟩ := info_parts info_object
  have q : ∀ (wx : World) (p : Option Addr) (n c n' c' : Nat), (binOp .eql 39 (.slice p n c) (.slice none n' c')).run Tryz.prog wx = .ok (.bool p.isNone) wx := fun wx p n c n' c' => Lib.run_eql_slice_nil wx _ _ p n c n' c' Tryz.underlying39
  have HC := hid hc
  clear hc
  go_enter Tryz.func78, Tryz.ntmps78
  go_wp2_with (at_builtin; refine wpList_append_own _ rfl _ _ 39 rfl w.heap.size 76 i0 _ 2 40 Tryz.underlying39 hi hz0 hz1 hz2 rfl (by decide) _ 0 [] rfl (own_empty w _ _ _ (Nat.le_refl _)) a n cap xs rfl hl (fun j u hu => by have := HC.out j u hu; rw [(below_box w _).cell (cell_block this), this]) h1 (by unfold maxLen; omega) (by omega) (by simp) ?_; intro v6 w6 hown6 hgrow6 hnil6)
  have hb6 : Below w.heap.size w w6 := (below_box w (.cells #[] 76)).grown hgrow6 (by simp) (fun k hk => by cases hk; exact Nat.le_refl _)
  clear hgrow6 hnil6
  rw [Nat.zero_add, List.nil_append] at hown6
  go_ret
  exact ⟨v6, rfl, hown6, hb6⟩
theorem cloneO_none (n cap : Nat) (w : World) : Calls Tryz.prog 78 #[.slice none n cap] w fun e w' => e = .returned (.slice none 0 0) ∧ w' = w := by
  have q : ∀ (wx : World) (p : Option Addr) (n c n' c' : Nat), (binOp .eql 39 (.slice p n c) (.slice none n' c')).run Tryz.prog wx = .ok (.bool p.isNone) wx := fun wx p n c n' c' => Lib.run_eql_slice_nil wx _ _ p n c n' c' Tryz.underlying39
  go_enter Tryz.func78, Tryz.ntmps78
  go_wp2
  go_ret
  exact ⟨rfl, rfl⟩

set_option maxRecDepth 100000 in
set_option maxHeartbeats 400000 in
theorem cloneM_some (a : Addr) (n cap : Nat) (xs : List Value) (w : World) (hl : xs.length = n * 5) (hn : n ≤ 1000) (hc : ∀ j u, xs[j]? = some u → w.cell? (a.add j) = some u) (h1 : ∀ u ∈ xs, u.oneCell' = true) :
    Calls Tryz.prog 79 #[.slice (some a) n cap] w fun e w' => ∃ v', e = .returned v' ∧ w'.ownsRow w.heap.size 46 5 v' n xs ∧ Below w.heap.size w w' := by
  obtain ⟨i0, hi, hz0, hz1, hz2⟩ := info_parts info_mail
  have q : ∀ (wx : World) (p : Option Addr) (n c n' c' : Nat), (binOp .eql 40 (.slice p n c) (.slice none n' c')).run Tryz.prog wx = .ok (.bool p.isNone) wx := fun wx p n c n' c' => Lib.run_eql_slice_nil wx _ _ p n c n' c' Tryz.underlying40
  have HC := hid hc
  clear hc
  go_enter Tryz.func79, Tryz.ntmps79
  go_wp2_with (at_builtin; refine wpList_append_own _ rfl _ _ 40 rfl w.heap.size 46 i0 _ 5 80 Tryz.underlying40 hi hz0 hz1 hz2 rfl (by decide) _ 0 [] rfl (own_empty w _ _ _ (Nat.le_refl _)) a n cap xs rfl hl (fun j u hu => by have := HC.out j u hu; rw [(below_box w _).cell (cell_block this), this]) h1 (by unfold maxLen; omega) (by omega) (by simp) ?_; intro v6 w6 hown6 hgrow6 hnil6)
  have hb6 : Below w.heap.size w w6 := (below_box w (.cells #[] 46)).grown hgrow6 (by simp) (fun k hk => by cases hk; exact Nat.le_refl _)
  clear hgrow6 hnil6
  rw [Nat.zero_add, List.nil_append] at hown6
  go_ret
  exact ⟨v6, rfl, hown6, hb6⟩
theorem cloneM_none (n cap : Nat) (w : World) : Calls Tryz.prog 79 #[.slice none n cap] w fun e w' => e = .returned (.slice none 0 0) ∧ w' = w := by
  have q : ∀ (wx : World) (p : Option Addr) (n c n' c' : Nat), (binOp .eql 40 (.slice p n c) (.slice none n' c')).run Tryz.prog wx = .ok (.bool p.isNone) wx := fun wx p n c n' c' => Lib.run_eql_slice_nil wx _ _ p n c n' c' Tryz.underlying40
  go_enter Tryz.func79, Tryz.ntmps79
  go_wp2
  go_ret
  exact ⟨rfl, rfl⟩

theorem flat2_len (l : List (Int × Int)) : (flat2 l).length = l.length * 2 := by
  induction l with
  | nil => rfl
  | cons x r ih =>
    have e : flat2 (x :: r) = .int .i64 x.1 :: .int .i64 x.2 :: flat2 r := rfl
    rw [e, List.length_cons, List.length_cons, List.length_cons, ih]
    omega
theorem cloneL_any (v : Value) (l : List (Int × Int)) (w : World) (hv : LabAt w v l) :
    Calls Tryz.prog 76 #[v] w fun e w' => ∃ v', e = .returned v' ∧ w'.ownsRow w.heap.size 74 2 v' l.length (flat2 l) ∧ Below w.heap.size w w' := by
  obtain ⟨p, cap, rfl, hlc, hcap, hcells⟩ := hv
  have hlen := flat2_len l
  cases p with
  | none =>
    have h0 : l = [] := by
      have := hlc.2 rfl
      exact List.length_eq_zero_iff.1 (by omega)
    subst h0
    refine (cloneL_none 0 cap w).mono ?_
    rintro e w' ⟨rfl, rfl⟩
    exact ⟨_, rfl, World.ownsRow_nil _ _ _ _, Below.refl _ _⟩
  | some a =>
    refine cloneL_some a l.length cap (flat2 l) w hlen hcap (fun j u hu => ?_) (flat2_one l)
    have hj := (List.getElem?_eq_some_iff.1 hu).1
    have h0 : 0 < l.length := by omega
    obtain ⟨b, o, e, hc⟩ := hcells h0
    cases e
    rw [WideShapes.add_plain]
    have hj2 : j / 2 < l.length := by omega
    obtain ⟨g1, g2⟩ := flat2_get l (j / 2) hj2
    obtain ⟨k1, k2⟩ := hc (j / 2) hj2
    by_cases hm : j % 2 = 0
    · rw [show j / 2 * 2 = j by omega] at g1 k1
      rw [k1, ← g1, hu]
    · rw [show j / 2 * 2 + 1 = j by omega] at g2
      rw [show o + j / 2 * 2 + 1 = o + j by omega] at k2
      rw [k2, ← g2, hu]

theorem cloneI_any (v : Value) (l : List Int) (w : World) (hv : IntsAt w v l) :
    Calls Tryz.prog 77 #[v] w fun e w' => ∃ v', e = .returned v' ∧ w'.ownsRow w.heap.size 3 1 v' l.length (flat1 l) ∧ Below w.heap.size w w' := by
  obtain ⟨p, cap, rfl, hlc, hcap, hcells⟩ := hv
  cases p with
  | none =>
    have h0 : l = [] := by
      have := hlc.2 rfl
      exact List.length_eq_zero_iff.1 (by omega)
    subst h0
    refine (cloneI_none 0 cap w).mono ?_
    rintro e w' ⟨rfl, rfl⟩
    exact ⟨_, rfl, World.ownsRow_nil _ _ _ _, Below.refl _ _⟩
  | some a =>
    refine cloneI_some a l.length cap (flat1 l) w (by rw [flat1_len]; omega) hcap (fun j u hu => ?_) (flat1_one l)
    have hj := (List.getElem?_eq_some_iff.1 hu).1
    rw [flat1_len] at hj
    obtain ⟨b, o, e, hc⟩ := hcells (by omega)
    cases e
    rw [WideShapes.add_plain, hc j hj, ← hu]
    simp [flat1, hj]
end Go.Proofs.YtgpldlbmjakjhaaGreat

namespace Go.Proofs.YtgpldlbmjakjhaaGreat
open Go.RowKit Go.Proofs.Parclose

theorem info_sent : (Tryz.prog.info? 176).map (fun i => (i.zero, i.size, i.bytes)) = some (some (.agg #[.int .i64 0, .int .i64 0, .int .i64 0, .bool false, .int .i64 0, .int .i64 0, .int .i64 0, .slice none 0 0, .slice none 0 0, .string ⟨#[]⟩, .slice none 0 0, .int .i64 0, .int .i64 0]), 13, 160) := by kernel_rfl
set_option maxRecDepth 100000 in
set_option maxHeartbeats 400000 in
theorem cloneK_some (a : Addr) (n cap : Nat) (xs : List Value) (w : World) (hl : xs.length = n * 4) (hn : n ≤ 4398046511104) (hc : ∀ j u, xs[j]? = some u → w.cell? (a.add j) = some u) (h1 : ∀ u ∈ xs, u.oneCell' = true) :
    Calls Tryz.prog 33 #[.slice (some a) n cap] w fun e w' => ∃ v', e = .returned v' ∧ w'.ownsRow w.heap.size 78 4 v' n xs ∧ Below w.heap.size w w' := by
  obtain ⟨i0, hi, hz0, hz1, hz2⟩ := info_parts info_cert
  have q : ∀ (wx : World) (p : Option Addr) (n c n' c' : Nat), (binOp .eql 37 (.slice p n c) (.slice none n' c')).run Tryz.prog wx = .ok (.bool p.isNone) wx := fun wx p n c n' c' => Lib.run_eql_slice_nil wx _ _ p n c n' c' Tryz.underlying37
  have HC := hid hc
  clear hc
  go_enter Tryz.func33, Tryz.ntmps33
  go_wp2_with (at_builtin; refine wpList_append_own _ rfl _ _ 37 rfl w.heap.size 78 i0 _ 4 32 Tryz.underlying37 hi hz0 hz1 hz2 rfl (by decide) _ 0 [] rfl (own_empty w _ _ _ (Nat.le_refl _)) a n cap xs rfl hl (fun j u hu => by have := HC.out j u hu; rw [(below_box w _).cell (cell_block this), this]) h1 (by unfold maxLen; omega) (by omega) (by simp) ?_; intro v6 w6 hown6 hgrow6 hnil6)
  have hb6 : Below w.heap.size w w6 := (below_box w (.cells #[] 78)).grown hgrow6 (by simp) (fun k hk => by cases hk; exact Nat.le_refl _)
  clear hgrow6 hnil6
  rw [Nat.zero_add, List.nil_append] at hown6
  go_ret
  exact ⟨v6, rfl, hown6, hb6⟩
theorem cloneK_none (n cap : Nat) (w : World) : Calls Tryz.prog 33 #[.slice none n cap] w fun e w' => e = .returned (.slice none 0 0) ∧ w' = w := by
  have q : ∀ (wx : World) (p : Option Addr) (n c n' c' : Nat), (binOp .eql 37 (.slice p n c) (.slice none n' c')).run Tryz.prog wx = .ok (.bool p.isNone) wx := fun wx p n c n' c' => Lib.run_eql_slice_nil wx _ _ p n c n' c' Tryz.underlying37
  go_enter Tryz.func33, Tryz.ntmps33
  go_wp2
  go_ret
  exact ⟨rfl, rfl⟩

set_option maxRecDepth 100000 in
set_option maxHeartbeats 400000 in
theorem cloneS_some (a : Addr) (n cap : Nat) (xs : List Value) (w : World) (hl : xs.length = n * 13) (hn : n ≤ 879609302220) (hc : ∀ j u, xs[j]? = some u → w.cell? (a.add j) = some u) (h1 : ∀ u ∈ xs, u.oneCell' = true) :
    Calls Tryz.prog 141 #[.slice (some a) n cap] w fun e w' => ∃ v', e = .returned v' ∧ w'.ownsRow w.heap.size 176 13 v' n xs ∧ Below w.heap.size w w' := by
  obtain ⟨i0, hi, hz0, hz1, hz2⟩ := info_parts info_sent
  have q : ∀ (wx : World) (p : Option Addr) (n c n' c' : Nat), (binOp .eql 86 (.slice p n c) (.slice none n' c')).run Tryz.prog wx = .ok (.bool p.isNone) wx := fun wx p n c n' c' => Lib.run_eql_slice_nil wx _ _ p n c n' c' Tryz.underlying86
  have HC := hid hc
  clear hc
  go_enter Tryz.func141, Tryz.ntmps141
  go_wp2_with (at_builtin; refine wpList_append_own _ rfl _ _ 86 rfl w.heap.size 176 i0 _ 13 160 Tryz.underlying86 hi hz0 hz1 hz2 rfl (by decide) _ 0 [] rfl (own_empty w _ _ _ (Nat.le_refl _)) a n cap xs rfl hl (fun j u hu => by have := HC.out j u hu; rw [(below_box w _).cell (cell_block this), this]) h1 (by unfold maxLen; omega) (by omega) (by simp) ?_; intro v6 w6 hown6 hgrow6 hnil6)
  have hb6 : Below w.heap.size w w6 := (below_box w (.cells #[] 176)).grown hgrow6 (by simp) (fun k hk => by cases hk; exact Nat.le_refl _)
  clear hgrow6 hnil6
  rw [Nat.zero_add, List.nil_append] at hown6
  go_ret
  exact ⟨v6, rfl, hown6, hb6⟩
theorem cloneS_none (n cap : Nat) (w : World) : Calls Tryz.prog 141 #[.slice none n cap] w fun e w' => e = .returned (.slice none 0 0) ∧ w' = w := by
  have q : ∀ (wx : World) (p : Option Addr) (n c n' c' : Nat), (binOp .eql 86 (.slice p n c) (.slice none n' c')).run Tryz.prog wx = .ok (.bool p.isNone) wx := fun wx p n c n' c' => Lib.run_eql_slice_nil wx _ _ p n c n' c' Tryz.underlying86
  go_enter Tryz.func141, Tryz.ntmps141
  go_wp2
  go_ret
  exact ⟨rfl, rfl⟩

theorem cloneK_any (v : Value) (l : List Crt) (w : World) (hv : CrtsAt w v l) :
    Calls Tryz.prog 33 #[v] w fun e w' => ∃ v', e = .returned v' ∧ w'.ownsRow w.heap.size 78 4 v' l.length (flat4 l) ∧ Below w.heap.size w w' := by
  obtain ⟨p, cap, rfl, hlc, hcap, hcells⟩ := hv
  have hlen := flat4_len l
  cases p with
  | none =>
    have h0 : l = [] := by
      have := hlc.2 rfl
      exact List.length_eq_zero_iff.1 (by omega)
    subst h0
    refine (cloneK_none 0 cap w).mono ?_
    rintro e w' ⟨rfl, rfl⟩
    exact ⟨_, rfl, World.ownsRow_nil _ _ _ _, Below.refl _ _⟩
  | some a =>
    refine cloneK_some a l.length cap (flat4 l) w hlen hcap (fun j u hu => ?_) (flat4_one l)
    have hj := (List.getElem?_eq_some_iff.1 hu).1
    obtain ⟨b, o, e, hc⟩ := hcells (by omega)
    cases e
    rw [WideShapes.add_plain]
    have hj2 : j / 4 < l.length := by omega
    obtain ⟨g1, g2, g3, g4⟩ := flat4_get l (j / 4) hj2
    obtain ⟨k1, k2, k3, k4⟩ := hc (j / 4) hj2
    have hm : j % 4 = 0 ∨ j % 4 = 1 ∨ j % 4 = 2 ∨ j % 4 = 3 := by omega
    rcases hm with hm | hm | hm | hm
    · rw [show j / 4 * 4 = j by omega] at g1 k1
      rw [k1, ← g1, hu]
    · rw [show j / 4 * 4 + 1 = j by omega] at g2
      rw [show o + j / 4 * 4 + 1 = o + j by omega] at k2
      rw [k2, ← g2, hu]
    · rw [show j / 4 * 4 + 2 = j by omega] at g3
      rw [show o + j / 4 * 4 + 2 = o + j by omega] at k3
      rw [k3, ← g3, hu]
    · rw [show j / 4 * 4 + 3 = j by omega] at g4
      rw [show o + j / 4 * 4 + 3 = o + j by omega] at k4
      rw [k4, ← g4, hu]
theorem cloneS_any (v : Value) (q : List SntV) (w : World) (hv : RowAt w v q) (hok : ∀ x ∈ q, x.Ok w) :
    Calls Tryz.prog 141 #[v] w fun e w' => ∃ v', e = .returned v' ∧ w'.ownsRow w.heap.size 176 13 v' q.length (flatS q) ∧ Below w.heap.size w w' := by
  obtain ⟨p, cap, rfl, hlc, hcap, hcells⟩ := hv
  have hlen := flatS_len q
  cases p with
  | none =>
    have h0 : q = [] := by
      have := hlc.2 rfl
      exact List.length_eq_zero_iff.1 (by omega)
    subst h0
    refine (cloneS_none 0 cap w).mono ?_
    rintro e w' ⟨rfl, rfl⟩
    exact ⟨_, rfl, World.ownsRow_nil _ _ _ _, Below.refl _ _⟩
  | some a =>
    refine cloneS_some a q.length cap (flatS q) w hlen hcap (fun j u hu => ?_) (flatS_one hok)
    have hj := (List.getElem?_eq_some_iff.1 hu).1
    obtain ⟨b, o, e, hc⟩ := hcells (by omega)
    cases e
    rw [WideShapes.add_plain]
    exact hc j u hu
end Go.Proofs.YtgpldlbmjakjhaaGreat
