/- The reference's Call: KRCallL (written by genrcall.py). -/
import Derived.Test.YtpdijobakfpnbaaQKRDelA
import Derived.Test.YtpdijobakfpnbaaQKTake
import Derived.Test.YtpdijobakfpnbaaQMade
import Derived.Test.YtpdijobakfpnbaaQKKer
import Derived.Test.YtpdijobakfpnbaaQKRef0
namespace Go.Proofs.Ytpdijobakfpnbaa
open Go.RowKit Go.Proofs.Parclose
theorem QP {K : Ker} {t n : Int} (h4 : K.ths.length = 4) (h : hostB t = false) : objAt K t n = none := by
 have hg : getT K t = none := by
  unfold getT
  unfold hostB at h
  simp at h
  split
  · rename_i h0
    rw [List.getElem?_eq_none (by have := h h0; omega)]
  · rfl
 unfold objAt
 rw [hg]
theorem QQ {K : Ker} {t n : Int} (h : ¬ 0 ≤ n) : objAt K t n = none := by
 unfold objAt
 cases getT K t with
 | none => rfl
 | some th =>
  show (if 0 ≤ n then th.objs[n.toNat]? else none) = none
  rw [if_neg h]
theorem Q2 {K : Ker} {t n : Int} {u : Nat} (hu : u < K.ths.length) (ht : t = u) (hn : 0 ≤ n) : (objAt K t n).isSome = decide (n < (K.ths[u].objs.length : Int)) := by
 have hg : getT K t = some K.ths[u] := by
  unfold getT
  rw [if_pos (by omega), ht]
  simp
 unfold objAt
 rw [hg]
 show (if 0 ≤ n then K.ths[u].objs[n.toNat]? else none).isSome = _
 rw [if_pos hn]
 by_cases h : n < (K.ths[u].objs.length : Int)
 · rw [List.getElem?_eq_getElem (by omega)]
   simp [h]
 · rw [List.getElem?_eq_none (by omega)]
   simp [h]
theorem and3 {u : Nat} (h : u < 4) : bits .and .i64 (u : Int) 3 = (u : Int) := by
 match u, h with
 | 0, _ => rfl
 | 1, _ => rfl
 | 2, _ => rfl
 | 3, _ => rfl
theorem Qcq {w : World} {rb B : Nat} {C D : Array Value} {t u : TypeId} (h : w.heap[rb]? = some (.cells C t (0, 0))) (k : w.heap[B]? = some (.cells D u (0, 0))) (hn : t ≠ u) : B ≠ rb := by
 intro e
 rw [e, h] at k
 injection k with k
 injection k with _ h2 _
 exact hn h2
theorem QU {w : World} {b B : Nat} {o : Obj} (h : w.heap[B]? = some o) (hn : B ≠ b) (j : Nat) (u : Value) : (w.setCell ⟨b, j, none⟩ u).heap[B]? = some o := Qr h hn j u
theorem RKerAt.text {w : World} {rb : Nat} {F : List Nat} {V : List ThrV} {K : Ker} {t : Nat} {x : List UInt8} (h : RKerAt w rb F V K) (h1 : t < V.length) (h2 : t < K.ths.length) :
 RKerAt (w.setCell ⟨rb, 1 + t * 5 + 2, none⟩ (.string ⟨x.toArray⟩)) rb F (V.set t V[t]) { K with ths := K.ths.set t { K.ths[t] with text := x } } ∧ RStep rb w F V (w.setCell ⟨rb, 1 + t * 5 + 2, none⟩ (.string ⟨x.toArray⟩)) F (V.set t V[t]) :=
 ⟨h.store h1 h2 (KeptF.refl _ _) 2 (by omega) _ rfl (h.thr t h1 h2) (fun _ e => .inl e) (h.rows t h1) (More.refl _ _) h.fin, RStep.store h1 (KeptF.refl _ _) (fun _ e => .inl e) (More.refl _ _) _ _⟩
theorem RKerAt.lab {w : World} {rb : Nat} {F : List Nat} {V : List ThrV} {K : Ker} {t : Nat} {v' : Value} {l : List (Int × Int)} (h : RKerAt w rb F V K) (h1 : t < V.length) (h2 : t < K.ths.length) (hl : RoLab w F v' l) :
 RKerAt (w.setCell ⟨rb, 1 + t * 5, none⟩ v') rb F (V.set t { V[t] with vl := v' }) { K with ths := K.ths.set t { K.ths[t] with label := l } } ∧ RStep rb w F V (w.setCell ⟨rb, 1 + t * 5, none⟩ v') F (V.set t { V[t] with vl := v' }) :=
 ⟨h.store (v' := { V[t] with vl := v' }) h1 h2 (KeptF.refl _ _) 0 (by omega) v' rfl ⟨hl, (h.thr t h1 h2).2⟩ (fun _ e => .inl e) (fun k e => h.rows t h1 k e) (More.refl _ _) h.fin, RStep.store (v' := { V[t] with vl := v' }) h1 (KeptF.refl _ _) (fun _ e => .inl e) (More.refl _ _) _ _⟩
theorem Qgj {l : List (Int × Int)} {c n : Int} (h : setB l c n = false) : setE l c n = 2 := by unfold setE; simp [h]
theorem QfG {l : List (Int × Int)} {c n : Int} (h : setB l c n = true) (h8 : 8 < (setL l c n).length) : setE l c n = 5 := by unfold setE; simp [h, h8]
theorem Qfr {l : List (Int × Int)} {c n : Int} (h : setB l c n = true) (h8 : ¬ 8 < (setL l c n).length) : setE l c n = 0 := by unfold setE; simp [h, h8]
theorem Qgc {l : List (Int × Int)} {c n : Int} (h : setB l c n = true) (h8 : ¬ 8 < (setL l c n).length) : WfL (setL l c n) := by
 unfold setB at h
 simp only [Bool.and_eq_true] at h
 obtain ⟨⟨g1, g2⟩, g3⟩ := h
 exact QO ((Qx _).2 (Qdf ((Qx _).1 g1) g2 g3 (by omega)))
theorem RKerAt.own {w : World} {rb : Nat} {F : List Nat} {V : List ThrV} {K : Ker} {t : Nat} {v' : Value} {l : List Int} (h : RKerAt w rb F V K) (h1 : t < V.length) (h2 : t < K.ths.length) (hl : RoInts w F v' l) :
 RKerAt (w.setCell ⟨rb, 1 + t * 5 + 1, none⟩ v') rb F (V.set t { V[t] with vo := v' }) { K with ths := K.ths.set t { K.ths[t] with own := l } } ∧ RStep rb w F V (w.setCell ⟨rb, 1 + t * 5 + 1, none⟩ v') F (V.set t { V[t] with vo := v' }) :=
 ⟨h.store (v' := { V[t] with vo := v' }) h1 h2 (KeptF.refl _ _) 1 (by omega) v' rfl ⟨(h.thr t h1 h2).1, hl, (h.thr t h1 h2).2.2⟩ (fun _ e => .inl e) (fun k e => h.rows t h1 k e) (More.refl _ _) h.fin, RStep.store (v' := { V[t] with vo := v' }) h1 (KeptF.refl _ _) (fun _ e => .inl e) (More.refl _ _) _ _⟩
theorem RKerAt.cut {w : World} {rb : Nat} {F : List Nat} {V : List ThrV} {K : Ker} {t : Nat} {v' : Value} {ms : List Mal} (h : RKerAt w rb F V K) (h1 : t < V.length) (h2 : t < K.ths.length) (hm : RMails w F v' ms) (hb : v'.ownBlock = V[t].vm.ownBlock) :
 RKerAt (w.setCell ⟨rb, 1 + t * 5 + 4, none⟩ v') rb F (V.set t { V[t] with vm := v' }) { K with ths := K.ths.set t { K.ths[t] with mails := ms } } ∧ RStep rb w F V (w.setCell ⟨rb, 1 + t * 5 + 4, none⟩ v') F (V.set t { V[t] with vm := v' }) := by
 have hr : ∀ k ∈ rrows { V[t] with vm := v' }, k ∈ rrows V[t] := fun k e => by
  rcases mem_rrows.1 e with e | e
  · exact mem_rrows.2 (.inl e)
  · exact mem_rrows.2 (.inr (by rw [← hb]; exact e))
 exact ⟨h.store (v' := { V[t] with vm := v' }) h1 h2 (KeptF.refl _ _) 4 (by omega) v' rfl ⟨(h.thr t h1 h2).1, (h.thr t h1 h2).2.1, (h.thr t h1 h2).2.2.1, hm⟩ (fun k e => .inl (hr k e)) (fun k e => h.rows t h1 k (hr k e)) (More.refl _ _) h.fin, RStep.store (v' := { V[t] with vm := v' }) h1 (KeptF.refl _ _) (fun k e => .inl (hr k e)) (More.refl _ _) _ _⟩
theorem RKerAt.made {w : World} {rb : Nat} {F : List Nat} {V : List ThrV} {K : Ker} (h : RKerAt w rb F V K) (m : Int) :
 RKerAt (w.setCell ⟨rb, 21, none⟩ (.int .i64 m)) rb F V { K with made := m } ∧ RStep rb w F V (w.setCell ⟨rb, 21, none⟩ (.int .i64 m)) F V := by
 obtain ⟨C, hC, csz, c0, c1, hc⟩ := h.box
 have hks : KeptF [rb] w (w.setCell ⟨rb, 21, none⟩ (.int .i64 m)) := QK w rb _ _ (by simp)
 have hV := h.len
 have hK := h.lenK
 refine ⟨⟨h.len, h.lenK, ⟨_, heap_setCell (j := 21) hC (.int .i64 m), by simp [csz], ?_, ?_, fun t g1 g2 => ?_⟩, fun t g1 g2 => (h.thr t g1 g2).keep hks (fun k e => ?_) (More.refl _ _) (fun k hk e => ?_), h.rows, h.apart, h.kbF, fun k hk => by simpa using h.fin k hk⟩, ⟨hks.sub fun k e => .inl (by rw [List.mem_singleton] at e; subst e; simp), fun _ e => .inl e, More.refl _ _⟩⟩
 · rw [Array.getElem?_setIfInBounds_ne (by omega), c0]
 · rw [Array.getElem?_setIfInBounds_self_of_lt (by omega)]
 · have ht : t < 4 := by omega
   obtain ⟨d0, d1, d2, d3, d4⟩ := hc t g1 g2
   refine ⟨?_, ?_, ?_, ?_, ?_⟩
   · rw [Array.getElem?_setIfInBounds_ne (by omega), d0]
   · rw [Array.getElem?_setIfInBounds_ne (by omega), d1]
   · rw [Array.getElem?_setIfInBounds_ne (by omega), d2]
   · rw [Array.getElem?_setIfInBounds_ne (by omega), d3]
   · rw [Array.getElem?_setIfInBounds_ne (by omega), d4]
 · rw [List.mem_singleton] at e
   subst e
   exact h.kbF
 · rw [List.mem_singleton] at e
   subst e
   exact (h.thr t g1 g2).box hC hk
theorem RKerAt.objs {w w1 : World} {rb : Nat} {F : List Nat} {V : List ThrV} {K : Ker} {t : Nat} {v7 : Value} {os : List Obt} (h : RKerAt w rb F V K) (h1 : t < V.length) (h2 : t < K.ths.length) (hg : w.grownBy w1 V[t].vj.ownBlock) (hm : ObjsAt w1 (F ++ v7.ownBlock.toList) v7 os) (hwh : ∀ k, v7.ownBlock = some k → V[t].vj.ownBlock = some k ∨ w.heap.size ≤ k) :
 RKerAt (w1.setCell ⟨rb, 1 + t * 5 + 3, none⟩ v7) rb (F ++ v7.ownBlock.toList) (V.set t { V[t] with vj := v7 }) { K with ths := K.ths.set t { K.ths[t] with objs := os } } ∧ RStep rb w F V (w1.setCell ⟨rb, 1 + t * 5 + 3, none⟩ v7) (F ++ v7.ownBlock.toList) (V.set t { V[t] with vj := v7 }) := by
 have hthr := h.thr t h1 h2
 have hv : ∀ k, V[t].vj.ownBlock = some k → k ∈ F := fun k e => h.rows t h1 k (mem_rrows.2 (.inl e))
 have hmr := Qau w F hv hwh
 have hk0 : KeptF V[t].vj.ownBlock.toList w w1 := QD hg fun k e => .inl (by rw [e]; simp)
 have hk : KeptF (rrows V[t]) w w1 := hk0.sub fun k e => .inl (mem_rrows.2 (.inl (Qo e)))
 have hR : ∀ k ∈ V[t].vj.ownBlock.toList, k ∈ F := fun k e => hv k (Qo e)
 have hr : ∀ k ∈ rrows { V[t] with vj := v7 }, k ∈ rrows V[t] ∨ w.heap.size ≤ k := fun k e => by
  rcases mem_rrows.1 e with e | e
  · rcases hwh k e with g | g
    · exact .inl (mem_rrows.2 (.inl g))
    · exact .inr g
  · exact .inl (mem_rrows.2 (.inr e))
 obtain ⟨r1, r2, r3, r4⟩ := hthr
 obtain ⟨_, _, o3, _⟩ := id r3
 obtain ⟨_, _, o4, _⟩ := id r4
 have ht : RThr w1 (F ++ v7.ownBlock.toList) { V[t] with vj := v7 } { K.ths[t] with objs := os } :=
  ⟨r1.keep (hk0.sub fun k e => .inl (hR k e)) hmr, r2.keep (hk0.sub fun k e => .inl (hR k e)) hmr, hm, r4.keep hk0 hR hmr (fun k e e2 => QbL (Qax o3) o4 (by decide) (Qo e2) e)⟩
 obtain ⟨_, _, o7, _⟩ := id hm
 refine ⟨h.store h1 h2 hk 3 (by omega) v7 rfl ht hr (fun k e => ?_) hmr (fun k e => ?_), RStep.store h1 hk hr hmr _ _⟩
 · rcases mem_rrows.1 e with e | e
   · exact List.mem_append_right _ (by rw [e]; simp)
   · exact List.mem_append_left _ (h.rows t h1 k (mem_rrows.2 (.inr e)))
 · rcases List.mem_append.1 e with g | g
   · exact Nat.lt_of_lt_of_le (h.fin k g) hg.size
   · exact Qgf (Qax o7) (Qo g)
theorem RKerAt.put {w : World} {rb : Nat} {F : List Nat} {V : List ThrV} {K : Ker} {u : Nat} (h : RKerAt w rb F V K) (h1 : u < V.length) (h2 : u < K.ths.length) {g cap i : Nat} (hv : V[u].vj = .slice (some ⟨g, 0, none⟩) K.ths[u].objs.length cap) (hi : i < K.ths[u].objs.length) (x : List UInt8) :
 RKerAt (w.setCell ⟨g, i * 2 + 1, none⟩ (.string ⟨x.toArray⟩)) rb F V { K with ths := K.ths.set u (putO K.ths[u] i x) } ∧ RStep rb w F V (w.setCell ⟨g, i * 2 + 1, none⟩ (.string ⟨x.toArray⟩)) F V := by
 obtain ⟨C, hC, csz, c0, c1, hc⟩ := h.box
 have hgv : V[u].vj.ownBlock = some g := by rw [hv]; rfl
 have hgr : g ∈ rrows V[u] := mem_rrows.2 (.inl hgv)
 have hgF : g ∈ F := h.rows u h1 g hgr
 have hne : rb ≠ g := fun e => (h.thr u h1 h2).box hC (by rw [e]; exact hgr)
 have hk : KeptF [g] w (w.setCell ⟨g, i * 2 + 1, none⟩ (.string ⟨x.toArray⟩)) := QK w g _ _ (by simp)
 have hR : ∀ k ∈ [g], k ∈ F := fun k e => by simp at e; subst e; exact hgF
 obtain ⟨t1, t2, t3, t4⟩ := h.thr u h1 h2
 obtain ⟨vs, j1, j2, j3⟩ := t3
 obtain ⟨_, _, m2, _⟩ := id t4
 have eV : V.set u V[u] = V := by simp
 have hT : RThr (w.setCell ⟨g, i * 2 + 1, none⟩ (.string ⟨x.toArray⟩)) F V[u] (putO K.ths[u] i x) := by
  refine ⟨t1.keep (hk.sub fun k e => .inl (hR k e)) (More.refl _ _), t2.keep (hk.sub fun k e => .inl (hR k e)) (More.refl _ _), ⟨vs, ?_, ?_, fun j g1 g2 => ?_⟩, t4.keep hk hR (More.refl _ _) (fun k e g2 => ?_)⟩
  · show vs.length = (K.ths[u].objs.modify _ _).length
    rw [List.length_modify]; exact j1
  · show (w.setCell _ _).ownsRow 0 80 2 V[u].vj (K.ths[u].objs.modify _ _).length (flatO vs (K.ths[u].objs.modify _ _))
    rw [List.length_modify, Int.toNat_natCast, ← Qdh vs K.ths[u].objs j1 i hi x]
    rw [hv] at j2 ⊢
    exact Qdo j2 (by omega) _
  · have e : ((putO K.ths[u] i x).objs[j]'g2).label = (K.ths[u].objs[j]'(by have := g2; simp [putO] at this; exact this)).label := by
     simp only [putO, List.getElem_modify]
     split <;> rfl
    rw [e]
    exact (j3 j g1 _).keep (hk.sub fun k e => .inl (hR k e)) (More.refl _ _)
  · simp at g2; subst g2; exact QbL (Qax j2) m2 (by decide) hgv e
 have hks : KeptF (rb :: rrows V[u]) w (w.setCell ⟨g, i * 2 + 1, none⟩ (.string ⟨x.toArray⟩)) := hk.sub fun k e => .inl (by rw [List.mem_singleton] at e; subst e; exact List.mem_cons_of_mem _ hgr)
 have hh := h.turn (made' := K.made) h1 hks (fun D hD => by
  rw [hC] at hD
  cases hD
  exact ⟨C, hk.heap hC (by simpa using hne), rfl, fun _ _ _ => rfl, c1, hc u h1 h2⟩) hT (fun _ e => .inl e) (h.rows u h1) (More.refl _ _) (fun k e => by simpa using h.fin k e)
 rw [eV] at hh
 exact ⟨hh, ⟨hk.sub fun k e => .inl (by rw [List.mem_singleton] at e; subst e; exact List.mem_cons_of_mem _ (Q9.2 ⟨u, h1, hgr⟩)), fun _ e => .inl e, More.refl _ _⟩⟩
theorem RMails.first {w : World} {F : List Nat} {v : Value} {m : Mal} {r : List Mal} (h : RMails w F v (m :: r)) : ∃ g a cap ul ug, v = .slice (some ⟨g, a, none⟩) (r.length + 1) cap ∧ r.length + 1 ≤ cap ∧ RoLab w F ul m.label ∧ RoInts w F ug m.grants ∧
 (w.cell? ⟨g, a, none⟩ = some (.int .i64 m.host) ∧ w.cell? ⟨g, a + 1, none⟩ = some (.int .i64 m.thread) ∧ w.cell? ⟨g, a + 2, none⟩ = some ul ∧ w.cell? ⟨g, a + 3, none⟩ = some ug ∧ w.cell? ⟨g, a + 4, none⟩ = some (.string ⟨m.text.toArray⟩)) ∧
 RMails w F (.slice (if cap = 1 then some ⟨g, a, none⟩ else some ⟨g, a + 5, none⟩) r.length (cap - 1)) r := by
 obtain ⟨vs, h1, h2, h3⟩ := h
 cases vs with
 | nil => simp at h1
 | cons x us =>
  obtain ⟨p, cap, rfl, hnc, _, hcell⟩ := Q6 h2
  obtain ⟨g, a, rfl, hc⟩ := hcell (by simp)
  have h0 := h3 0 (by simp) (by simp)
  have hf := Qf3 (n := r.length) h2
  exact ⟨g, a, cap, x.1, x.2, rfl, hnc, h0.1, h0.2, ⟨hc 0 _ rfl, hc 1 _ rfl, hc 2 _ rfl, hc 3 _ rfl, hc 4 _ rfl⟩, us, by simpa using h1, hf, fun j g1 g2 => h3 (j + 1) (by simpa using g1) (by simpa using g2)⟩
theorem QdJ (F : List Nat) (v : Value) (l : List Int) (c : Int) (w : World) (hv : RoInts w F v l) (hs : l.Pairwise (· < ·)) (hl : l.length ≤ 8) (hF : ∀ k ∈ F, k < w.heap.size) :
 Calls Try.prog 40 #[v, .int .i64 c] w fun e w' => ∃ p5 c5, e = .returned (.tuple #[.slice p5 (ownL l c).2.length c5, .bool ((ownL l c).1 == 0)]) ∧ RoInts w' F (.slice p5 (ownL l c).2.length c5) (ownL l c).2 ∧ Below w.heap.size w w' := by
 refine (QfJ v l c w hv.1 hs hl).mono ?_
 rintro e w' ⟨v', rfl, h5, hw⟩
 rcases h5 with ⟨rfl, h5⟩ | h5
 · have hk := hv.keep (Qk _ hw) (More.refl _ _)
   obtain ⟨p, cp, rfl, _⟩ := id hv.1
   rw [h5]
   exact ⟨p, cp, rfl, hk, hw⟩
 · obtain ⟨p, cp, rfl⟩ := Qi h5
   refine ⟨p, cp, rfl, ⟨QX h5 ?_, fun _ k e hk => ?_⟩, hw⟩
   · unfold ownL
     split
     · simp; omega
     · split
       · simp; omega
       · simp [insL]; omega
   · have := QE h5 e
     have := hF k hk
     omega
theorem QfS (l : List Int) (c : Int) (h : ¬ (ownL l c).1 = 0) : (ownL l c).1 = 5 := by
 unfold ownL at h ⊢
 split at h
 · exact absurd rfl h
 · split at h
   · rename_i h1 h2
     rw [if_neg h1, if_pos h2]
   · exact absurd rfl h
def inK (K : Ker) (t : Nat) (th : Thr) : Ker := { K with ths := K.ths.set t th }
theorem Qgy {K : Ker} {t : Nat} (h : t < K.ths.length) : inK K t K.ths[t] = K := by
 unfold inK
 rw [List.set_getElem_self]
theorem Qco {K : Ker} {t : Nat} {th : Thr} : (inK K t th).ths.length = K.ths.length := by simp [inK]
theorem Qcp {K : Ker} {t : Nat} {th : Thr} (h : t < (inK K t th).ths.length) : (inK K t th).ths[t] = th := by simp [inK]
theorem Qey {K : Ker} {t : Nat} {th th' : Thr} : inK (inK K t th) t th' = inK K t th' := by simp [inK]
theorem RKerAt.cellsS {w : World} {rb : Nat} {F : List Nat} {V : List ThrV} {K : Ker} {t : Nat} {th : Thr} (h : RKerAt w rb F V (inK K t th)) (h2 : t < K.ths.length) : ∃ (h1 : t < V.length) (p0 p1 p4 : Option Addr) (c0 c1 c4 : Nat), V[t].vm = .slice p4 th.mails.length c4 ∧
 (w.cell? ⟨rb, 1 + t * 5, none⟩ = some (.slice p0 th.label.length c0) ∧ w.cell? ⟨rb, 1 + t * 5 + 1, none⟩ = some (.slice p1 th.own.length c1) ∧ w.cell? ⟨rb, 1 + t * 5 + 2, none⟩ = some (.string ⟨th.text.toArray⟩) ∧ w.cell? ⟨rb, 1 + t * 5 + 4, none⟩ = some (.slice p4 th.mails.length c4)) ∧
 LabAt w (.slice p0 th.label.length c0) th.label ∧ IntsAt w (.slice p1 th.own.length c1) th.own ∧ RoInts w F (.slice p1 th.own.length c1) th.own ∧ RMails w F (.slice p4 th.mails.length c4) th.mails ∧ (∀ j, w.frozen? ⟨rb, j, none⟩ = false) := by
 have h3 : t < (inK K t th).ths.length := by rw [Qco]; exact h2
 have h1 : t < V.length := by have := h.len; have := h.lenK; omega
 obtain ⟨C, hC, _, _, _, hc⟩ := h.box
 obtain ⟨d0, d1, d2, _, d4⟩ := hc t h1 h3
 obtain ⟨r1, r2, _, r4⟩ := h.thr t h1 h3
 rw [Qcp h3] at d2 r1 r2 r4
 obtain ⟨p0, c0, e0, _⟩ := id r1.1
 obtain ⟨p1, c1, e1, _⟩ := id r2.1
 obtain ⟨_, _, o4, _⟩ := id r4
 obtain ⟨p4, c4, e4, _⟩ := Q6 o4
 rw [e0] at d0 r1
 rw [e1] at d1 r2
 rw [e4] at d4 r4
 exact ⟨h1, p0, p1, p4, c0, c1, c4, e4, ⟨by rw [Qa hC, d0], by rw [Qa hC, d1], by rw [Qa hC, d2], by rw [Qa hC, d4]⟩, r1.1, r2.1, r2, r4, Qf hC⟩
theorem RKerAt.ownS {w : World} {rb : Nat} {F : List Nat} {V : List ThrV} {K : Ker} {t : Nat} {th : Thr} {v' : Value} {l : List Int} (h : RKerAt w rb F V (inK K t th)) (h2 : t < K.ths.length) (hl : RoInts w F v' l) :
 ∃ V', RKerAt (w.setCell ⟨rb, 1 + t * 5 + 1, none⟩ v') rb F V' (inK K t { th with own := l }) ∧ RStep rb w F V (w.setCell ⟨rb, 1 + t * 5 + 1, none⟩ v') F V' := by
 have h3 : t < (inK K t th).ths.length := by rw [Qco]; exact h2
 have hh := h.own (by have := h.len; have := h.lenK; omega) h3 hl
 rw [Qcp h3] at hh
 rw [← Qey (th := th)]
 exact ⟨_, hh⟩
theorem RKerAt.textS {w : World} {rb : Nat} {F : List Nat} {V : List ThrV} {K : Ker} {t : Nat} {th : Thr} {x : List UInt8} (h : RKerAt w rb F V (inK K t th)) (h2 : t < K.ths.length) :
 ∃ V', RKerAt (w.setCell ⟨rb, 1 + t * 5 + 2, none⟩ (.string ⟨x.toArray⟩)) rb F V' (inK K t { th with text := x }) ∧ RStep rb w F V (w.setCell ⟨rb, 1 + t * 5 + 2, none⟩ (.string ⟨x.toArray⟩)) F V' := by
 have h3 : t < (inK K t th).ths.length := by rw [Qco]; exact h2
 have hh := h.text (x := x) (by have := h.len; have := h.lenK; omega) h3
 rw [Qcp h3] at hh
 rw [← Qey (th := th)]
 exact ⟨_, hh⟩
theorem RKerAt.cutS {w : World} {rb : Nat} {F : List Nat} {V : List ThrV} {K : Ker} {t : Nat} {th : Thr} {v' : Value} {ms : List Mal} (h : RKerAt w rb F V (inK K t th)) (h1 : t < V.length) (h2 : t < K.ths.length) (hm : RMails w F v' ms) (hb : v'.ownBlock = V[t].vm.ownBlock) :
 ∃ V', RKerAt (w.setCell ⟨rb, 1 + t * 5 + 4, none⟩ v') rb F V' (inK K t { th with mails := ms }) ∧ RStep rb w F V (w.setCell ⟨rb, 1 + t * 5 + 4, none⟩ v') F V' := by
 have h3 : t < (inK K t th).ths.length := by rw [Qco]; exact h2
 have hh := h.cut h1 h3 hm hb
 rw [Qcp h3] at hh
 rw [← Qey (th := th)]
 exact ⟨_, hh⟩
end Go.Proofs.Ytpdijobakfpnbaa
