/- How a kernel's threads lie in memory: what is read alone, what a thread may write, and what keeps both. -/
import Derived.Test.YtpdijobakfpnbaaQRows0
import Derived.Test.YtpdijobakfpnbaaQPlain
namespace Go.Proofs.Ytpdijobakfpnbaa
open Go.RowKit Go.Proofs.Parclose
structure KeptF (F : List Nat) (w w' : World) : Prop where
 os : w'.os = w.os
 tape : w'.tape = w.tape
 output : w'.output = w.output
 size : w.heap.size ≤ w'.heap.size
 block : ∀ k, k < w.heap.size → k ∉ F → w'.heap[k]? = w.heap[k]?
theorem KeptF.refl (F : List Nat) (w : World) : KeptF F w w := ⟨rfl, rfl, rfl, Nat.le_refl _, fun _ _ _ => rfl⟩
theorem KeptF.trans {F : List Nat} {a b c : World} (h : KeptF F a b) (k : KeptF F b c) : KeptF F a c :=
 ⟨k.os.trans h.os, k.tape.trans h.tape, k.output.trans h.output, Nat.le_trans h.size k.size, fun i hi hn => by rw [k.block i (by have := h.size; omega) hn, h.block i hi hn]⟩
theorem KeptF.sub {F G : List Nat} {a b : World} (h : KeptF F a b) (hs : ∀ k ∈ F, k ∈ G ∨ a.heap.size ≤ k) : KeptF G a b :=
 ⟨h.os, h.tape, h.output, h.size, fun k hk hn => h.block k hk fun e => by
  rcases hs k e with g | g
  · exact hn g
  · omega⟩
theorem Qk {w w' : World} (F : List Nat) (h : Below w.heap.size w w') : KeptF F w w' := ⟨h.os, h.tape, h.output, h.size, fun k hk _ => h.block k hk⟩
theorem QD {w w' : World} {F : List Nat} {r : Option Nat} (h : w.grownBy w' r) (hr : ∀ k, r = some k → k ∈ F ∨ w.heap.size ≤ k) : KeptF F w w' :=
 ⟨h.os, h.tape, h.output, h.size, fun k hk hn => h.block k hk fun e => by
  rcases hr k e.symm with g | g
  · exact hn g
  · omega⟩
theorem QK {F : List Nat} (w : World) (b j : Nat) (u : Value) (hb : b ∈ F) : KeptF F w (w.setCell ⟨b, j, none⟩ u) :=
 ⟨rfl, rfl, rfl, by simp, fun k _ hn => Below.heap_setCell w _ _ k (fun e => hn (by rw [show k = b from e]; exact hb))⟩
theorem KeptF.cell {F : List Nat} {w w' : World} (h : KeptF F w w') {b o : Nat} {u : Value} (hc : w.cell? ⟨b, o, none⟩ = some u) (hb : b ∉ F) : w'.cell? ⟨b, o, none⟩ = some u := by
 rw [World.cell?_of_block (w := w) (h.block b (Qb hc) hb), hc]
theorem KeptF.heap {F : List Nat} {w w' : World} (h : KeptF F w w') {b : Nat} {o : Obj} (hc : w.heap[b]? = some o) (hb : b ∉ F) : w'.heap[b]? = some o := by
 rw [h.block b (Array.getElem?_eq_some_iff.1 hc).1 hb, hc]
def More (w : World) (F G : List Nat) : Prop := (∀ k ∈ F, k ∈ G) ∧ ∀ k ∈ G, k ∈ F ∨ w.heap.size ≤ k
theorem More.refl (w : World) (F : List Nat) : More w F F := ⟨fun _ h => h, fun _ h => .inl h⟩
theorem More.trans {w w' : World} {F G H : List Nat} (h : More w F G) (k : More w' G H) (hs : w.heap.size ≤ w'.heap.size) : More w F H :=
 ⟨fun i hi => k.1 i (h.1 i hi), fun i hi => by
  rcases k.2 i hi with g | g
  · exact h.2 i g
  · exact .inr (by omega)⟩
def RoLab (w : World) (F : List Nat) (v : Value) (l : List (Int × Int)) : Prop := LabAt w v l ∧ (0 < l.length → ∀ k, v.ownBlock = some k → k ∉ F)
def RoInts (w : World) (F : List Nat) (v : Value) (l : List Int) : Prop := IntsAt w v l ∧ (0 < l.length → ∀ k, v.ownBlock = some k → k ∉ F)
theorem RoLab.keep {w w' : World} {F G : List Nat} {v : Value} {l : List (Int × Int)} (h : RoLab w F v l) (hk : KeptF F w w') (hm : More w F G) : RoLab w' G v l := by
 obtain ⟨⟨p, cap, rfl, h1, h2, h3⟩, h4⟩ := h
 have hc : 0 < l.length → ∃ b o, p = some ⟨b, o, none⟩ ∧ Cells2 w b o l ∧ b ∉ F ∧ b < w.heap.size := fun h0 => by
  obtain ⟨b, o, rfl, hc⟩ := h3 h0
  exact ⟨b, o, rfl, hc, h4 h0 b rfl, Qb (hc 0 h0).1⟩
 refine ⟨⟨p, cap, rfl, h1, h2, fun h0 => ?_⟩, fun h0 k hk2 hG => ?_⟩
 · obtain ⟨b, o, rfl, hcs, hb, _⟩ := hc h0
   exact ⟨b, o, rfl, fun j hj => ⟨hk.cell (hcs j hj).1 hb, hk.cell (hcs j hj).2 hb⟩⟩
 · obtain ⟨b, o, rfl, hcs, hb, hlt⟩ := hc h0
   cases hk2
   rcases hm.2 b hG with g | g
   · exact hb g
   · omega
theorem RoInts.keep {w w' : World} {F G : List Nat} {v : Value} {l : List Int} (h : RoInts w F v l) (hk : KeptF F w w') (hm : More w F G) : RoInts w' G v l := by
 obtain ⟨⟨p, cap, rfl, h1, h2, h3⟩, h4⟩ := h
 have hc : 0 < l.length → ∃ b o, p = some ⟨b, o, none⟩ ∧ Cells1 w b o l ∧ b ∉ F ∧ b < w.heap.size := fun h0 => by
  obtain ⟨b, o, rfl, hc⟩ := h3 h0
  exact ⟨b, o, rfl, hc, h4 h0 b rfl, Qb (hc 0 h0)⟩
 refine ⟨⟨p, cap, rfl, h1, h2, fun h0 => ?_⟩, fun h0 k hk2 hG => ?_⟩
 · obtain ⟨b, o, rfl, hcs, hb, _⟩ := hc h0
   exact ⟨b, o, rfl, fun j hj => hk.cell (hcs j hj) hb⟩
 · obtain ⟨b, o, rfl, hcs, hb, hlt⟩ := hc h0
   cases hk2
   rcases hm.2 b hG with g | g
   · exact hb g
   · omega
def flatO : List Value → List Obt → List Value
 | u :: us, o :: os => u :: .string ⟨o.text.toArray⟩ :: flatO us os
 | _, _ => []
def flatM : List (Value × Value) → List Mal → List Value
 | u :: us, m :: ms => .int .i64 m.host :: .int .i64 m.thread :: u.1 :: u.2 :: .string ⟨m.text.toArray⟩ :: flatM us ms
 | _, _ => []
def OwnAt (w : World) (v : Value) (l : List Int) : Prop := w.ownsRow 0 3 1 v l.length (flat1 l)
def ObjsAt (w : World) (F : List Nat) (v : Value) (os : List Obt) : Prop :=
 ∃ vs, vs.length = os.length ∧ w.ownsRow 0 80 2 v os.length (flatO vs os) ∧ ∀ j (h1 : j < vs.length) (h2 : j < os.length), RoLab w F vs[j] os[j].label
def MailsAt (w : World) (F : List Nat) (v : Value) (ms : List Mal) : Prop :=
 ∃ vs, vs.length = ms.length ∧ w.ownsRow 0 42 5 v ms.length (flatM vs ms) ∧ ∀ j (h1 : j < vs.length) (h2 : j < ms.length), RoLab w F vs[j].1 ms[j].label ∧ RoInts w F vs[j].2 ms[j].grants
theorem QM {w w' : World} {F : List Nat} {base : Nat} {e : TypeId} {size : Nat} {v : Value} {n : Nat} {xs : List Value} (h : w.ownsRow base e size v n xs) (hk : KeptF F w w') (hv : ∀ k, v.ownBlock = some k → k ∉ F) : w'.ownsRow base e size v n xs := by
 refine ⟨h.1, ?_⟩
 rcases h.2 with hn | ⟨g, cap, cur, rfl, hb, hgg, rest⟩
 · exact .inl hn
 · exact .inr ⟨g, cap, cur, rfl, hb, hk.heap hgg (hv g rfl), rest⟩
theorem ObjsAt.keep {w w' : World} {R F G : List Nat} {v : Value} {os : List Obt} (h : ObjsAt w F v os) (hk : KeptF R w w') (hR : ∀ k ∈ R, k ∈ F) (hm : More w F G) (hv : ∀ k, v.ownBlock = some k → k ∉ R) : ObjsAt w' G v os := by
 obtain ⟨vs, h1, h2, h3⟩ := h
 exact ⟨vs, h1, QM h2 hk hv, fun j g1 g2 => (h3 j g1 g2).keep (hk.sub fun k hk => .inl (hR k hk)) hm⟩
theorem MailsAt.keep {w w' : World} {R F G : List Nat} {v : Value} {ms : List Mal} (h : MailsAt w F v ms) (hk : KeptF R w w') (hR : ∀ k ∈ R, k ∈ F) (hm : More w F G) (hv : ∀ k, v.ownBlock = some k → k ∉ R) : MailsAt w' G v ms := by
 obtain ⟨vs, h1, h2, h3⟩ := h
 exact ⟨vs, h1, QM h2 hk hv, fun j g1 g2 => ⟨(h3 j g1 g2).1.keep (hk.sub fun k hk => .inl (hR k hk)) hm, (h3 j g1 g2).2.keep (hk.sub fun k hk => .inl (hR k hk)) hm⟩⟩
structure ThrV where
 vl : Value
 vo : Value
 vj : Value
 vm : Value
def rowsOf (v : ThrV) : List Nat := v.vo.ownBlock.toList ++ v.vj.ownBlock.toList ++ v.vm.ownBlock.toList
theorem mem_rows {v : ThrV} {k : Nat} : k ∈ rowsOf v ↔ v.vo.ownBlock = some k ∨ v.vj.ownBlock = some k ∨ v.vm.ownBlock = some k := by
 unfold rowsOf
 simp only [List.mem_append, Option.mem_toList, or_assoc]
def ThrAt (w : World) (F : List Nat) (v : ThrV) (th : Thr) : Prop :=
 RoLab w F v.vl th.label ∧ OwnAt w v.vo th.own ∧ ObjsAt w F v.vj th.objs ∧ MailsAt w F v.vm th.mails
theorem ThrAt.keep {w w' : World} {R F G : List Nat} {v : ThrV} {th : Thr} (h : ThrAt w F v th) (hk : KeptF R w w') (hR : ∀ k ∈ R, k ∈ F) (hm : More w F G) (hv : ∀ k ∈ rowsOf v, k ∉ R) : ThrAt w' G v th :=
 ⟨h.1.keep (hk.sub fun k hk => .inl (hR k hk)) hm, QM h.2.1 hk (fun k e => hv k (mem_rows.2 (.inl e))), h.2.2.1.keep hk hR hm (fun k e => hv k (mem_rows.2 (.inr (.inl e)))), h.2.2.2.keep hk hR hm (fun k e => hv k (mem_rows.2 (.inr (.inr e))))⟩
theorem Qac {w : World} {b b' : Nat} {e e' : TypeId} {s s' : Nat} {v v' : Value} {n n' : Nat} {xs xs' : List Value} (h : w.ownsRow b e s v n xs) (h' : w.ownsRow b' e' s' v' n' xs') (hne : e ≠ e') {k : Nat} (hk : v.ownBlock = some k) : v'.ownBlock ≠ some k := by
 intro hk'
 rcases h.2 with ⟨rfl, _⟩ | ⟨g, cap, cur, rfl, _, hh, _⟩
 · cases hk
 · rcases h'.2 with ⟨rfl, _⟩ | ⟨g', cap', cur', rfl, _, hh', _⟩
   · cases hk'
   · cases hk
     cases hk'
     rw [hh] at hh'
     injection hh' with hh'
     injection hh' with _ h2 _
     exact hne h2
theorem Qn {w : World} {b : Nat} {e t : TypeId} {s : Nat} {v : Value} {n : Nat} {xs : List Value} {C : Array Value} {kb : Nat} (h : w.ownsRow b e s v n xs) (hb : w.heap[kb]? = some (.cells C t (0, 0))) (hne : e ≠ t) : v.ownBlock ≠ some kb := by
 intro hk
 rcases h.2 with ⟨rfl, _⟩ | ⟨g, cap, cur, rfl, _, hh, _⟩
 · cases hk
 · cases hk
   rw [hh] at hb
   injection hb with hb
   injection hb with _ h2 _
   exact hne h2
structure TAt (w : World) (kb o : Nat) (F : List Nat) (v : ThrV) (th : Thr) : Prop where
 box : ∃ C, w.heap[kb]? = some (.cells C 58 (0, 0)) ∧ C[o]? = some v.vl ∧ C[o + 1]? = some v.vo ∧ C[o + 2]? = some (.string ⟨th.text.toArray⟩) ∧ C[o + 3]? = some v.vj ∧ C[o + 4]? = some v.vm
 thr : ThrAt w F v th
 rows : ∀ k ∈ rowsOf v, k ∈ F
 kbF : kb ∈ F
 fin : ∀ k ∈ F, k < w.heap.size
theorem TAt.kb_rows {w : World} {kb o : Nat} {F : List Nat} {v : ThrV} {th : Thr} (h : TAt w kb o F v th) : kb ∉ rowsOf v := by
 obtain ⟨C, hC, _⟩ := h.box
 obtain ⟨_, h2, ⟨_, _, h3, _⟩, ⟨_, _, h4, _⟩⟩ := h.thr
 intro hm
 rcases mem_rows.1 hm with e | e | e
 · exact Qn h2 hC (by decide) e
 · exact Qn h3 hC (by decide) e
 · exact Qn h4 hC (by decide) e
structure TStep (kb o : Nat) (w : World) (F : List Nat) (v : ThrV) (w' : World) (G : List Nat) (v' : ThrV) : Prop where
 kept : KeptF (kb :: rowsOf v) w w'
 box : ∀ C, w.heap[kb]? = some (.cells C 58 (0, 0)) → ∃ C', w'.heap[kb]? = some (.cells C' 58 (0, 0)) ∧ C'.size = C.size ∧ ∀ j, j < o ∨ o + 5 ≤ j → C'[j]? = C[j]?
 rows : ∀ k ∈ rowsOf v', k ∈ rowsOf v ∨ w.heap.size ≤ k
 more : More w F G
theorem TStep.refl {kb o : Nat} (w : World) (F : List Nat) (v : ThrV) : TStep kb o w F v w F v := ⟨KeptF.refl _ _, fun C h => ⟨C, h, rfl, fun _ _ => rfl⟩, fun _ h => .inl h, More.refl _ _⟩
theorem TStep.trans {kb o : Nat} {w w1 w2 : World} {F G H : List Nat} {v v1 v2 : ThrV} (h : TStep kb o w F v w1 G v1) (k : TStep kb o w1 G v1 w2 H v2) : TStep kb o w F v w2 H v2 := by
 refine ⟨?_, fun C hC => ?_, fun i hi => ?_, h.more.trans k.more h.kept.size⟩
 · refine ⟨k.kept.os.trans h.kept.os, k.kept.tape.trans h.kept.tape, k.kept.output.trans h.kept.output, Nat.le_trans h.kept.size k.kept.size, fun i hi hn => ?_⟩
   rw [k.kept.block i (by have := h.kept.size; omega) (fun e => ?_), h.kept.block i hi hn]
   rcases List.mem_cons.1 e with rfl | e
   · exact hn (by simp)
   · rcases h.rows i e with g | g
     · exact hn (List.mem_cons_of_mem _ g)
     · omega
 · obtain ⟨C1, e1, s1, a1⟩ := h.box C hC
   obtain ⟨C2, e2, s2, a2⟩ := k.box C1 e1
   exact ⟨C2, e2, s2.trans s1, fun j hj => (a2 j hj).trans (a1 j hj)⟩
 · rcases k.rows i hi with g | g
   · exact h.rows i g
   · exact .inr (by have := h.kept.size; omega)
theorem TStep.below {kb o : Nat} {w w' : World} {F : List Nat} {v : ThrV} (h : Below w.heap.size w w') : TStep kb o w F v w' F v :=
 ⟨Qk _ h, fun C hC => ⟨C, by rw [h.block kb (Array.getElem?_eq_some_iff.1 hC).1, hC], rfl, fun _ _ => rfl⟩, fun _ h => .inl h, More.refl _ _⟩
theorem TAt.below {w w' : World} {kb o : Nat} {F : List Nat} {v : ThrV} {th : Thr} (h : TAt w kb o F v th) (hb : Below w.heap.size w w') : TAt w' kb o F v th := by
 obtain ⟨⟨C, hC, hc⟩, h2, h3, h4, h5⟩ := h
 exact ⟨⟨C, by rw [hb.block kb (Array.getElem?_eq_some_iff.1 hC).1, hC], hc⟩, h2.keep (R := []) (Qk _ hb) (fun _ h => by cases h) (More.refl _ _) (fun _ _ h => by cases h), h3, h4, fun k hk => Nat.lt_of_lt_of_le (h5 k hk) hb.size⟩
theorem Q4 {w : World} {b j : Nat} {C : Array Value} {t : TypeId} {fr : Nat × Nat} (h : w.heap[b]? = some (.cells C t fr)) (u : Value) : (w.setCell ⟨b, j, none⟩ u).heap[b]? = some (.cells (C.setIfInBounds j u) t fr) := by
 simp [World.setCell, Array.getElem?_modify, h]
theorem Qu {C : Array Value} {i j : Nat} {u x : Value} (h : C[j]? = some x) (hne : i ≠ j) : (C.setIfInBounds i u)[j]? = some x := by
 rw [Array.getElem?_setIfInBounds_ne hne, h]
theorem QaK {C : Array Value} {i : Nat} {u x : Value} (h : C[i]? = some x) : (C.setIfInBounds i u)[i]? = some u := by
 rw [Array.getElem?_setIfInBounds_self, if_pos]
 exact (Array.getElem?_eq_some_iff.1 h).1
theorem Qcm {C : Array Value} {i o : Nat} {u : Value} (h1 : o ≤ i) (h2 : i < o + 5) (j : Nat) (hj : j < o ∨ o + 5 ≤ j) : (C.setIfInBounds i u)[j]? = C[j]? := Array.getElem?_setIfInBounds_ne (by omega)
theorem Qc6 {kb o i : Nat} {w : World} {F : List Nat} {v : ThrV} (u : Value) (h1 : o ≤ i) (h2 : i < o + 5) (v' : ThrV) (hr : ∀ k ∈ rowsOf v', k ∈ rowsOf v) : TStep kb o w F v (w.setCell ⟨kb, i, none⟩ u) F v' :=
 ⟨QK w kb i u (by simp), fun C hC => ⟨_, Q4 hC u, by simp, fun j hj => Qcm h1 h2 j hj⟩, fun k hk => .inl (hr k hk), More.refl _ _⟩
theorem TAt.text {w : World} {kb o : Nat} {F : List Nat} {v : ThrV} {th : Thr} (h : TAt w kb o F v th) (x : List UInt8) :
 TAt (w.setCell ⟨kb, o + 2, none⟩ (.string ⟨x.toArray⟩)) kb o F v { th with text := x } ∧ TStep kb o w F v (w.setCell ⟨kb, o + 2, none⟩ (.string ⟨x.toArray⟩)) F v := by
 have hkr := h.kb_rows
 obtain ⟨⟨C, hC, c0, c1, c2, c3, c4⟩, h2, h3, h4, hfin⟩ := h
 refine ⟨⟨⟨_, Q4 hC _, Qu c0 (by omega), Qu c1 (by omega), QaK c2, Qu c3 (by omega), Qu c4 (by omega)⟩, ?_, h3, h4, fun k hk => by simpa using hfin k hk⟩, Qc6 _ (by omega) (by omega) v (fun _ h => h)⟩
 exact h2.keep (R := [kb]) (QK w kb _ _ (by simp)) (fun k hk => by simp at hk; subst hk; exact h4) (More.refl _ _) (fun k hk e => by simp at e; subst e; exact hkr hk)
theorem TAt.lab {w : World} {kb o : Nat} {F : List Nat} {v : ThrV} {th : Thr} (h : TAt w kb o F v th) {vl : Value} {l : List (Int × Int)} (hl : RoLab w F vl l) :
 TAt (w.setCell ⟨kb, o, none⟩ vl) kb o F { v with vl := vl } { th with label := l } ∧ TStep kb o w F v (w.setCell ⟨kb, o, none⟩ vl) F { v with vl := vl } := by
 have hkr := h.kb_rows
 obtain ⟨⟨C, hC, c0, c1, c2, c3, c4⟩, h2, h3, h4, hfin⟩ := h
 have hk : KeptF [kb] w (w.setCell ⟨kb, o, none⟩ vl) := QK w kb _ _ (by simp)
 have hF : ∀ k ∈ [kb], k ∈ F := fun k hk => by simp at hk; subst hk; exact h4
 refine ⟨⟨⟨_, Q4 hC _, QaK c0, Qu c1 (by omega), Qu c2 (by omega), Qu c3 (by omega), Qu c4 (by omega)⟩, ?_, h3, h4, fun k hk => by simpa using hfin k hk⟩, Qc6 _ (by omega) (by omega) _ (fun _ h => h)⟩
 have h5 := h2.keep hk hF (More.refl _ _) (fun k hm e => by simp at e; subst e; exact hkr hm)
 exact ⟨hl.keep (hk.sub fun k hk => .inl (hF k hk)) (More.refl _ _), h5.2⟩
theorem Qau (w : World) (F : List Nat) {v v' : Value} (hF : ∀ k, v.ownBlock = some k → k ∈ F) (h : ∀ k, v'.ownBlock = some k → v.ownBlock = some k ∨ w.heap.size ≤ k) : More w F (F ++ v'.ownBlock.toList) :=
 ⟨fun k hk => List.mem_append_left _ hk, fun k hk => by
  rcases List.mem_append.1 hk with g | g
  · exact .inl g
  · rcases h k (by simpa using g) with e | e
    · exact .inl (hF k e)
    · exact .inr e⟩
theorem Qo {v : Value} {k : Nat} (h : k ∈ v.ownBlock.toList) : v.ownBlock = some k := by simpa using h
theorem TAt.own {w w1 : World} {kb o : Nat} {F : List Nat} {v : ThrV} {th : Thr} (h : TAt w kb o F v th) {vo : Value} {l : List Int} (hg : w.grownBy w1 v.vo.ownBlock) (ho : OwnAt w1 vo l) (hw : ∀ k, vo.ownBlock = some k → v.vo.ownBlock = some k ∨ w.heap.size ≤ k) :
 TAt (w1.setCell ⟨kb, o + 1, none⟩ vo) kb o (F ++ vo.ownBlock.toList) { v with vo := vo } { th with own := l } ∧ TStep kb o w F v (w1.setCell ⟨kb, o + 1, none⟩ vo) (F ++ vo.ownBlock.toList) { v with vo := vo } := by
 have hkr := h.kb_rows
 obtain ⟨⟨C, hC, c0, c1, c2, c3, c4⟩, ⟨t1, t2, t3, t4⟩, h3, h4, hfin⟩ := h
 have hoF : ∀ k, v.vo.ownBlock = some k → k ∈ F := fun k e => h3 k (mem_rows.2 (.inl e))
 have hm := Qau w F hoF hw
 have hk1 : KeptF v.vo.ownBlock.toList w w1 := QD hg fun k e => .inl (by rw [e]; simp)
 have hkbne : v.vo.ownBlock ≠ some kb := fun e => hkr (mem_rows.2 (.inl e))
 have hC1 : w1.heap[kb]? = some (.cells C 58 (0, 0)) := hk1.heap hC (fun e => hkbne (Qo e))
 have hk2 : KeptF [kb] w1 (w1.setCell ⟨kb, o + 1, none⟩ vo) := QK w1 kb _ _ (by simp)
 have hk : KeptF (kb :: v.vo.ownBlock.toList) w (w1.setCell ⟨kb, o + 1, none⟩ vo) := (hk1.sub fun k e => .inl (List.mem_cons_of_mem _ e)).trans (hk2.sub fun k e => .inl (by simp at e; simp [e]))
 have hR : ∀ k ∈ kb :: v.vo.ownBlock.toList, k ∈ F := fun k e => by
  rcases List.mem_cons.1 e with rfl | e
  · exact h4
  · exact hoF k (Qo e)
 have t3' := t3
 have t4' := t4
 obtain ⟨_, _, j2, _⟩ := t3'
 obtain ⟨_, _, m2, _⟩ := t4'
 refine ⟨⟨⟨_, Q4 hC1 _, Qu c0 (by omega), QaK c1, Qu c2 (by omega), Qu c3 (by omega), Qu c4 (by omega)⟩, ⟨?_, ?_, ?_, ?_⟩, ?_, hm.1 kb h4, ?_⟩, ⟨hk.sub ?_, fun C' hC' => ?_, ?_, hm⟩⟩
 · exact t1.keep (hk.sub fun k e => .inl (hR k e)) hm
 · exact QM ho hk2 (fun k e g => by simp at g; subst g; exact Qn ho hC1 (by decide) e)
 · refine t3.keep hk hR hm fun k e g => ?_
   rcases List.mem_cons.1 g with rfl | g
   · exact Qn j2 hC (by decide) e
   · exact Qac j2 t2 (by decide) e (Qo g)
 · refine t4.keep hk hR hm fun k e g => ?_
   rcases List.mem_cons.1 g with rfl | g
   · exact Qn m2 hC (by decide) e
   · exact Qac m2 t2 (by decide) e (Qo g)
 · intro k hk
   rcases mem_rows.1 hk with e | e | e
   · exact List.mem_append_right _ (by simpa using e)
   · exact List.mem_append_left _ (h3 k (mem_rows.2 (.inr (.inl e))))
   · exact List.mem_append_left _ (h3 k (mem_rows.2 (.inr (.inr e))))
 · intro k hk
   rw [World.size_setCell]
   rcases List.mem_append.1 hk with e | e
   · exact Nat.lt_of_lt_of_le (hfin k e) hg.size
   · exact (ho.lt k (Qo e)).2
 · intro k e
   rcases List.mem_cons.1 e with rfl | e
   · exact .inl (by simp)
   · exact .inl (List.mem_cons_of_mem _ (mem_rows.2 (.inl (Qo e))))
 · rw [hC] at hC'
   cases hC'
   exact ⟨_, Q4 hC1 _, by simp, fun j hj => Qcm (by omega) (by omega) j hj⟩
 · intro k hk
   rcases mem_rows.1 hk with e | e | e
   · rcases hw k e with g | g
     · exact .inl (mem_rows.2 (.inl g))
     · exact .inr g
   · exact .inl (mem_rows.2 (.inr (.inl e)))
   · exact .inl (mem_rows.2 (.inr (.inr e)))
theorem TAt.objs {w w1 : World} {kb o : Nat} {F : List Nat} {v : ThrV} {th : Thr} (h : TAt w kb o F v th) {u : Value} {l : List Obt} (hg : w.grownBy w1 v.vj.ownBlock) (ho : ObjsAt w1 (F ++ u.ownBlock.toList) u l) (hw : ∀ k, u.ownBlock = some k → v.vj.ownBlock = some k ∨ w.heap.size ≤ k) :
 TAt (w1.setCell ⟨kb, o + 3, none⟩ u) kb o (F ++ u.ownBlock.toList) { v with vj := u } { th with objs := l } ∧ TStep kb o w F v (w1.setCell ⟨kb, o + 3, none⟩ u) (F ++ u.ownBlock.toList) { v with vj := u } := by
 have hkr := h.kb_rows
 obtain ⟨⟨C, hC, c0, c1, c2, c3, c4⟩, ⟨t1, t2, t3, t4⟩, h3, h4, hfin⟩ := h
 have hoF : ∀ k, v.vj.ownBlock = some k → k ∈ F := fun k e => h3 k (mem_rows.2 (.inr (.inl e)))
 have hm := Qau w F hoF hw
 have hk1 : KeptF v.vj.ownBlock.toList w w1 := QD hg fun k e => .inl (by rw [e]; simp)
 have hkbne : v.vj.ownBlock ≠ some kb := fun e => hkr (mem_rows.2 (.inr (.inl e)))
 have hC1 : w1.heap[kb]? = some (.cells C 58 (0, 0)) := hk1.heap hC (fun e => hkbne (Qo e))
 have hk2 : KeptF [kb] w1 (w1.setCell ⟨kb, o + 3, none⟩ u) := QK w1 kb _ _ (by simp)
 have hk : KeptF (kb :: v.vj.ownBlock.toList) w (w1.setCell ⟨kb, o + 3, none⟩ u) := (hk1.sub fun k e => .inl (List.mem_cons_of_mem _ e)).trans (hk2.sub fun k e => .inl (by simp at e; simp [e]))
 have hR : ∀ k ∈ kb :: v.vj.ownBlock.toList, k ∈ F := fun k e => by
  rcases List.mem_cons.1 e with rfl | e
  · exact h4
  · exact hoF k (Qo e)
 have t3' := t3
 have t4' := t4
 have ho' := ho
 obtain ⟨_, _, j2, _⟩ := t3'
 obtain ⟨_, _, m2, _⟩ := t4'
 obtain ⟨_, _, u2, _⟩ := ho'
 refine ⟨⟨⟨_, Q4 hC1 _, Qu c0 (by omega), Qu c1 (by omega), Qu c2 (by omega), QaK c3, Qu c4 (by omega)⟩, ⟨?_, ?_, ?_, ?_⟩, ?_, hm.1 kb h4, ?_⟩, ⟨hk.sub ?_, fun C' hC' => ?_, ?_, hm⟩⟩
 · exact t1.keep (hk.sub fun k e => .inl (hR k e)) hm
 · refine QM t2 hk fun k e g => ?_
   rcases List.mem_cons.1 g with rfl | g
   · exact Qn t2 hC (by decide) e
   · exact Qac t2 j2 (by decide) e (Qo g)
 · exact ho.keep hk2 (fun k e => by simp at e; subst e; exact hm.1 _ h4) (More.refl _ _) (fun k e g => by simp at g; subst g; exact Qn u2 hC1 (by decide) e)
 · refine t4.keep hk hR hm fun k e g => ?_
   rcases List.mem_cons.1 g with rfl | g
   · exact Qn m2 hC (by decide) e
   · exact Qac m2 j2 (by decide) e (Qo g)
 · intro k hk
   rcases mem_rows.1 hk with e | e | e
   · exact List.mem_append_left _ (h3 k (mem_rows.2 (.inl e)))
   · exact List.mem_append_right _ (by simpa using e)
   · exact List.mem_append_left _ (h3 k (mem_rows.2 (.inr (.inr e))))
 · intro k hk
   rw [World.size_setCell]
   rcases List.mem_append.1 hk with e | e
   · exact Nat.lt_of_lt_of_le (hfin k e) hg.size
   · exact (u2.lt k (Qo e)).2
 · intro k e
   rcases List.mem_cons.1 e with rfl | e
   · exact .inl (by simp)
   · exact .inl (List.mem_cons_of_mem _ (mem_rows.2 (.inr (.inl (Qo e)))))
 · rw [hC] at hC'
   cases hC'
   exact ⟨_, Q4 hC1 _, by simp, fun j hj => Qcm (by omega) (by omega) j hj⟩
 · intro k hk
   rcases mem_rows.1 hk with e | e | e
   · exact .inl (mem_rows.2 (.inl e))
   · rcases hw k e with g | g
     · exact .inl (mem_rows.2 (.inr (.inl g)))
     · exact .inr g
   · exact .inl (mem_rows.2 (.inr (.inr e)))
theorem TAt.mails {w w1 : World} {kb o : Nat} {F : List Nat} {v : ThrV} {th : Thr} (h : TAt w kb o F v th) {u : Value} {l : List Mal} (hg : w.grownBy w1 v.vm.ownBlock) (ho : MailsAt w1 (F ++ u.ownBlock.toList) u l) (hw : ∀ k, u.ownBlock = some k → v.vm.ownBlock = some k ∨ w.heap.size ≤ k) :
 TAt (w1.setCell ⟨kb, o + 4, none⟩ u) kb o (F ++ u.ownBlock.toList) { v with vm := u } { th with mails := l } ∧ TStep kb o w F v (w1.setCell ⟨kb, o + 4, none⟩ u) (F ++ u.ownBlock.toList) { v with vm := u } := by
 have hkr := h.kb_rows
 obtain ⟨⟨C, hC, c0, c1, c2, c3, c4⟩, ⟨t1, t2, t3, t4⟩, h3, h4, hfin⟩ := h
 have hoF : ∀ k, v.vm.ownBlock = some k → k ∈ F := fun k e => h3 k (mem_rows.2 (.inr (.inr e)))
 have hm := Qau w F hoF hw
 have hk1 : KeptF v.vm.ownBlock.toList w w1 := QD hg fun k e => .inl (by rw [e]; simp)
 have hkbne : v.vm.ownBlock ≠ some kb := fun e => hkr (mem_rows.2 (.inr (.inr e)))
 have hC1 : w1.heap[kb]? = some (.cells C 58 (0, 0)) := hk1.heap hC (fun e => hkbne (Qo e))
 have hk2 : KeptF [kb] w1 (w1.setCell ⟨kb, o + 4, none⟩ u) := QK w1 kb _ _ (by simp)
 have hk : KeptF (kb :: v.vm.ownBlock.toList) w (w1.setCell ⟨kb, o + 4, none⟩ u) := (hk1.sub fun k e => .inl (List.mem_cons_of_mem _ e)).trans (hk2.sub fun k e => .inl (by simp at e; simp [e]))
 have hR : ∀ k ∈ kb :: v.vm.ownBlock.toList, k ∈ F := fun k e => by
  rcases List.mem_cons.1 e with rfl | e
  · exact h4
  · exact hoF k (Qo e)
 have t3' := t3
 have t4' := t4
 have ho' := ho
 obtain ⟨_, _, j2, _⟩ := t3'
 obtain ⟨_, _, m2, _⟩ := t4'
 obtain ⟨_, _, u2, _⟩ := ho'
 refine ⟨⟨⟨_, Q4 hC1 _, Qu c0 (by omega), Qu c1 (by omega), Qu c2 (by omega), Qu c3 (by omega), QaK c4⟩, ⟨?_, ?_, ?_, ?_⟩, ?_, hm.1 kb h4, ?_⟩, ⟨hk.sub ?_, fun C' hC' => ?_, ?_, hm⟩⟩
 · exact t1.keep (hk.sub fun k e => .inl (hR k e)) hm
 · refine QM t2 hk fun k e g => ?_
   rcases List.mem_cons.1 g with rfl | g
   · exact Qn t2 hC (by decide) e
   · exact Qac t2 m2 (by decide) e (Qo g)
 · refine t3.keep hk hR hm fun k e g => ?_
   rcases List.mem_cons.1 g with rfl | g
   · exact Qn j2 hC (by decide) e
   · exact Qac j2 m2 (by decide) e (Qo g)
 · exact ho.keep hk2 (fun k e => by simp at e; subst e; exact hm.1 _ h4) (More.refl _ _) (fun k e g => by simp at g; subst g; exact Qn u2 hC1 (by decide) e)
 · intro k hk
   rcases mem_rows.1 hk with e | e | e
   · exact List.mem_append_left _ (h3 k (mem_rows.2 (.inl e)))
   · exact List.mem_append_left _ (h3 k (mem_rows.2 (.inr (.inl e))))
   · exact List.mem_append_right _ (by simpa using e)
 · intro k hk
   rw [World.size_setCell]
   rcases List.mem_append.1 hk with e | e
   · exact Nat.lt_of_lt_of_le (hfin k e) hg.size
   · exact (u2.lt k (Qo e)).2
 · intro k e
   rcases List.mem_cons.1 e with rfl | e
   · exact .inl (by simp)
   · exact .inl (List.mem_cons_of_mem _ (mem_rows.2 (.inr (.inr (Qo e)))))
 · rw [hC] at hC'
   cases hC'
   exact ⟨_, Q4 hC1 _, by simp, fun j hj => Qcm (by omega) (by omega) j hj⟩
 · intro k hk
   rcases mem_rows.1 hk with e | e | e
   · exact .inl (mem_rows.2 (.inl e))
   · exact .inl (mem_rows.2 (.inr (.inl e)))
   · rcases hw k e with g | g
     · exact .inl (mem_rows.2 (.inr (.inr g)))
     · exact .inr g
end Go.Proofs.Ytpdijobakfpnbaa
