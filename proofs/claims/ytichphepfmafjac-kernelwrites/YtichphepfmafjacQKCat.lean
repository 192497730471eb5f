/- kernel.makeCategory. -/
import Derived.Test.YtichphepfmafjacQKNew
namespace Go.Proofs.Ytichphepfmafjac
open Go.RowKit Go.Proofs.Parclose

theorem KerAt.reserve {w : World} {kb : Nat} {F : List Nat} {V : List ThrV} {K : Ker} (h : KerAt w kb F V K) (ob : Obj) : KerAt (w.alloc ob) kb (F ++ [w.heap.size]) V K := by
  have hb := below_box w ob
  have hm := more_new w F
  obtain ⟨C, hC, hc⟩ := h.box
  refine ⟨h.len, h.lenK, ⟨C, heap_keep hC hb, hc⟩, fun t g1 g2 => (h.thr t g1 g2).keep (R := []) (kept_below _ hb) (fun _ h => by cases h) hm (fun _ _ h => by cases h), fun t g1 k hk => hm.1 k (h.rows t g1 k hk), h.apart, hm.1 kb h.kbF, fun k hk => ?_⟩
  rw [World.size_alloc]
  rcases List.mem_append.1 hk with g | g
  · have := h.fin k g; omega
  · simp at g; omega
theorem KerAt.boxed {w w' : World} {kb : Nat} {F : List Nat} {V : List ThrV} {K : Ker} {B : Nat} {C : Array Value} {t : TypeId} (h : KerAt w kb F V K) (hg : w.grownBy w' (some B)) (hB : B ∈ F) (hC : w.heap[B]? = some (.cells C t (0, 0))) (t1 : (90 : Nat) ≠ t) (t2 : (3 : Nat) ≠ t) (t3 : (55 : Nat) ≠ t) (t4 : (35 : Nat) ≠ t) : KerAt w' kb F V K := by
  have hx : ∀ s (g1 : s < V.length) (g2 : s < K.ths.length), TAt w' kb (2 + s * 5) F V[s] K.ths[s] := fun s g1 g2 => (h.tat s g1 g2).boxed hg hB hC t1 t2 t3 t4
  obtain ⟨D, hD, hd⟩ := h.box
  have hne : kb ≠ B := fun e => by
    subst e
    rw [hC] at hD
    injection hD with hD
    injection hD with _ e2 _
    exact t1 e2.symm
  exact ⟨h.len, h.lenK, ⟨D, by rw [hg.block kb (heap_lt hD) (fun e => hne (Option.some.inj e)), hD], hd⟩, fun s g1 g2 => (hx s g1 g2).thr, h.rows, h.apart, h.kbF, fun k hk => Nat.lt_of_lt_of_le (h.fin k hk) hg.size⟩

/-- the blocks that hold a kernel's rows -/
def rowsAll (V : List ThrV) : List Nat := V.flatMap rowsOf
theorem mem_all {V : List ThrV} {k : Nat} : k ∈ rowsAll V ↔ ∃ t, ∃ h : t < V.length, k ∈ rowsOf V[t] := by
  unfold rowsAll
  rw [List.mem_flatMap]
  constructor
  · rintro ⟨v, hv, hk⟩
    obtain ⟨t, ht, rfl⟩ := List.mem_iff_getElem.1 hv
    exact ⟨t, ht, hk⟩
  · rintro ⟨t, ht, hk⟩
    exact ⟨V[t], List.getElem_mem ht, hk⟩

/-- what a kernel's own doing turns -/
structure KStep (kb : Nat) (w : World) (F : List Nat) (V : List ThrV) (w' : World) (G : List Nat) (V' : List ThrV) : Prop where
  kept : KeptF (kb :: rowsAll V) w w'
  rows : ∀ k ∈ rowsAll V', k ∈ rowsAll V ∨ w.heap.size ≤ k
  more : More w F G
theorem KStep.refl (kb : Nat) (w : World) (F : List Nat) (V : List ThrV) : KStep kb w F V w F V := ⟨KeptF.refl _ _, fun _ h => .inl h, More.refl _ _⟩
theorem KStep.trans {kb : Nat} {a b c : World} {F G H : List Nat} {V V1 V2 : List ThrV} (h : KStep kb a F V b G V1) (k : KStep kb b G V1 c H V2) : KStep kb a F V c H V2 :=
  ⟨⟨k.kept.os.trans h.kept.os, k.kept.tape.trans h.kept.tape, k.kept.output.trans h.kept.output, Nat.le_trans h.kept.size k.kept.size, fun i hi hn => by
    rw [k.kept.block i (by have := h.kept.size; omega) (fun e => ?_), h.kept.block i hi hn]
    rcases List.mem_cons.1 e with rfl | e
    · exact hn (by simp)
    · rcases h.rows i e with g | g
      · exact hn (List.mem_cons_of_mem _ g)
      · omega⟩, fun i hi => by
    rcases k.rows i hi with g | g
    · exact h.rows i g
    · exact .inr (by have := h.kept.size; omega), h.more.trans k.more h.kept.size⟩
theorem KStep.below {kb : Nat} {w w' : World} {F : List Nat} {V : List ThrV} (h : Below w.heap.size w w') : KStep kb w F V w' F V := ⟨kept_below _ h, fun _ h => .inl h, More.refl _ _⟩
theorem KStep.reserve (kb : Nat) (w : World) (F : List Nat) (V : List ThrV) (ob : Obj) : KStep kb w F V (w.alloc ob) (F ++ [w.heap.size]) V := ⟨kept_below _ (below_box _ _), fun _ h => .inl h, more_new w F⟩
theorem KStep.boxed {kb : Nat} {w0 w w' : World} {F G : List Nat} {V V' : List ThrV} {B : Nat} (h : KStep kb w0 F V w G V') (hg : w.grownBy w' (some B)) (hB : w0.heap.size ≤ B) : KStep kb w0 F V w' G V' :=
  ⟨⟨hg.os.trans h.kept.os, hg.tape.trans h.kept.tape, hg.output.trans h.kept.output, Nat.le_trans h.kept.size hg.size, fun k hk hn => by
    rw [hg.block k (by have := h.kept.size; omega) (fun e => by have := Option.some.inj e; omega), h.kept.block k hk hn]⟩, h.rows, h.more⟩
theorem KStep.of {w w' : World} {kb o t : Nat} {F G : List Nat} {V : List ThrV} {v' : ThrV} (ht : t < V.length) (h : TStep kb o w F V[t] w' G v') : KStep kb w F V w' G (V.set t v') := by
  refine ⟨h.kept.sub fun k e => .inl ?_, fun k hk => ?_, h.more⟩
  · rcases List.mem_cons.1 e with rfl | e
    · simp
    · exact List.mem_cons_of_mem _ (mem_all.2 ⟨t, ht, e⟩)
  · obtain ⟨s, hs, hk⟩ := mem_all.1 hk
    rw [List.length_set] at hs
    by_cases e : t = s
    · subst e
      rw [List.getElem_set_self] at hk
      rcases h.rows k hk with g | g
      · exact .inl (mem_all.2 ⟨t, ht, g⟩)
      · exact .inr g
    · rw [List.getElem_set_ne e] at hk
      exact .inl (mem_all.2 ⟨s, hs, hk⟩)
theorem KStep.set {w : World} {kb : Nat} {F : List Nat} {V : List ThrV} (j : Nat) (u : Value) : KStep kb w F V (w.setCell ⟨kb, j, none⟩ u) F V := ⟨kept_set w kb j u (by simp), fun _ h => .inl h, More.refl _ _⟩
/-- blocks that the kernel may not write stay -/
theorem KStep.keptF {kb : Nat} {w w' : World} {F G : List Nat} {V V' : List ThrV} {K : Ker} (h : KStep kb w F V w' G V') (hk : KerAt w kb F V K) : KeptF F w w' := h.kept.sub fun k e => .inl (by
  rcases List.mem_cons.1 e with rfl | e
  · exact hk.kbF
  · obtain ⟨t, ht, hk2⟩ := mem_all.1 e
    exact hk.rows t ht k hk2)

/-- a box that nobody but the call writes is kept by a kernel's step -/
theorem box_kstep {w w' : World} {kb : Nat} {F G : List Nat} {V V' : List ThrV} {K : Ker} {B : Nat} {C : Array Value} {t : TypeId} (h : KStep kb w F V w' G V') (hk : KerAt w kb F V K) (hC : w.heap[B]? = some (.cells C t (0, 0))) (t1 : (90 : Nat) ≠ t) (t2 : (3 : Nat) ≠ t) (t3 : (55 : Nat) ≠ t) (t4 : (35 : Nat) ≠ t) : w'.heap[B]? = some (.cells C t (0, 0)) := by
  obtain ⟨D, hD, _⟩ := hk.box
  refine h.kept.heap hC fun e => ?_
  rcases List.mem_cons.1 e with rfl | e
  · rw [hC] at hD
    injection hD with hD
    injection hD with _ e2 _
    exact t1 e2.symm
  · obtain ⟨s, hs, e⟩ := mem_all.1 e
    obtain ⟨_, o1, ⟨_, _, o2, _⟩, ⟨_, _, o3, _⟩⟩ := hk.thr s hs (by rw [hk.lenK, ← hk.len]; exact hs)
    rcases mem_rows.1 e with e | e | e
    · exact own_box o1 hC t2 e
    · exact own_box o2 hC t3 e
    · exact own_box o3 hC t4 e

/-- the end of a call of a kernel whose reply lies in a box -/
theorem kreply_end {kb : Nat} {w w1 : World} {F G : List Nat} {V V1 : List ThrV} {K1 : Ker} {y0 y1 y2 : Value} (x0 x1 : Int) (x2 : List UInt8) (hb : w1.heap[w.heap.size]? = some (.cells #[y0, y1, y2] 40 (0, 0))) (hF : w.heap.size ∈ G) (h1 : KerAt w1 kb G V1 K1) (hs : KStep kb w F V w1 G V1) :
    (st3 w1 w.heap.size (.int .i64 x0) (.int .i64 x1) (.string ⟨x2.toArray⟩)).heap[w.heap.size]? = some (.cells #[.int .i64 x0, .int .i64 x1, .string ⟨x2.toArray⟩] 40 (0, 0)) ∧ KerAt (st3 w1 w.heap.size (.int .i64 x0) (.int .i64 x1) (.string ⟨x2.toArray⟩)) kb G V1 K1 ∧ KStep kb w F V (st3 w1 w.heap.size (.int .i64 x0) (.int .i64 x1) (.string ⟨x2.toArray⟩)) G V1 :=
  ⟨st3_heap _ _ _ hb, h1.boxed (st3_grown _ _ _ _ _) hF hb (by decide) (by decide) (by decide) (by decide), hs.boxed (st3_grown _ _ _ _ _) (Nat.le_refl _)⟩

/-- a box that nobody but the call writes is kept by a kernel's step that does not name it -/
theorem box_tstep {w w' : World} {kb o : Nat} {F G : List Nat} {v v' : ThrV} {B : Nat} {C : Array Value} {t : TypeId} {th : Thr} (h : TStep kb o w F v w' G v') (ht : TAt w kb o F v th) (hC : w.heap[B]? = some (.cells C t (0, 0))) (t1 : (90 : Nat) ≠ t) (t2 : (3 : Nat) ≠ t) (t3 : (55 : Nat) ≠ t) (t4 : (35 : Nat) ≠ t) : w'.heap[B]? = some (.cells C t (0, 0)) := by
  obtain ⟨D, hD, _⟩ := ht.box
  obtain ⟨_, o1, ⟨_, _, o2, _⟩, ⟨_, _, o3, _⟩⟩ := ht.thr
  refine h.kept.heap hC fun e => ?_
  rcases List.mem_cons.1 e with rfl | e
  · rw [hC] at hD
    injection hD with hD
    injection hD with _ e2 _
    exact t1 e2.symm
  · rcases mem_rows.1 e with e | e | e
    · exact own_box o1 hC t2 e
    · exact own_box o2 hC t3 e
    · exact own_box o3 hC t4 e

set_option maxRecDepth 100000 in
set_option maxHeartbeats 3200000 in
theorem makeCat_any (kb t : Nat) (F : List Nat) (V : List ThrV) (K : Ker) (w : World) (h : KerAt w kb F V K) (h1 : t < V.length) (h2 : t < K.ths.length) (hs : K.ths[t].own.Pairwise (· < ·)) (hl : K.ths[t].own.length ≤ 8) (hh : 0 ≤ K.host ∧ K.host < 4) (hm : 0 ≤ K.made ∧ K.made ≤ 20) :
    Calls Try.prog 50 #[.pointer (some ⟨kb, 0, none⟩), .pointer (some ⟨kb, 2 + t * 5, none⟩)] w fun e w' => e = .returned (repV (categoryL K t K.ths[t]).2) ∧ ∃ G V', KerAt w' kb G V' (categoryL K t K.ths[t]).1 ∧ KStep kb w F V w' G V' := by
  have HC : Hid (categoryL K t K.ths[t] = if 20 ≤ K.made then (K, code 5)
    else if (ownL K.ths[t].own (K.host * 20 + K.made)).1 = 0 then ({ setT K t { K.ths[t] with own := (ownL K.ths[t].own (K.host * 20 + K.made)).2 } with made := K.made + 1 }, ⟨0, K.host * 20 + K.made, []⟩)
    else (K, code (ownL K.ths[t].own (K.host * 20 + K.made)).1)) := hid rfl
  have hkb := h.fin kb h.kbF
  have HR := hid (h.reserve (.cells #[.int .i64 0, .int .i64 0, .string ⟨#[]⟩] 40))
  have HS := hid (KStep.reserve kb w F V (.cells #[.int .i64 0, .int .i64 0, .string ⟨#[]⟩] 40))
  have HBX := hid (zero_box w)
  have HMEM : Hid (w.heap.size ∈ F ++ [w.heap.size]) := hid (by simp)
  obtain ⟨k0, k1, _⟩ := h.head
  by_cases h20 : 20 ≤ K.made
  · have HC2 : Hid (categoryL K t K.ths[t] = (K, code 5)) := hid (by rw [HC.out, if_pos h20])
    clear HC
    go_enter Try.func50, Try.ntmps50
    go_wp2_with (go_at_call 49; refine (answer_lit _ _).mono ?_; rintro e w2 ⟨rfl, hw2⟩; have HB2 := hid hw2; have hb2 := heap_keep HBX.out HB2.out; obtain ⟨c0, c1, c2, f0, f1, f2⟩ := cells3 hb2; have HX2 := hid hb2; clear hb2 hw2)
    obtain ⟨e1, e2, e3⟩ := kreply_end 5 0 [] HX2.out HMEM.out (HR.out.below HB2.out) (HS.out.trans (KStep.below HB2.out))
    refine bodyPost_ret (results_cell_row rfl _ _ w.heap.size 40 _ (0, 0) _ rfl e1 Try.underlying40 rfl (by kernel_rfl)) rfl ⟨?_, ?_⟩
    · rw [HC2.out]; rfl
    · rw [HC2.out]; exact ⟨_, _, e2, e3⟩
  · have HC2 : Hid (categoryL K t K.ths[t] = if (ownL K.ths[t].own (K.host * 20 + K.made)).1 = 0 then ({ setT K t { K.ths[t] with own := (ownL K.ths[t].own (K.host * 20 + K.made)).2 } with made := K.made + 1 }, ⟨0, K.host * 20 + K.made, []⟩)
      else (K, code (ownL K.ths[t].own (K.host * 20 + K.made)).1)) := hid (by rw [HC.out, if_neg h20])
    clear HC
    have hw1 : wrap64 (K.host * 20) = K.host * 20 := by unfold wrap64; omega
    have hw2 : wrap64 (K.host * 20 + K.made) = K.host * 20 + K.made := by unfold wrap64; omega
    have hw3 : wrap64 (K.made + 1) = K.made + 1 := by unfold wrap64; omega
    have hlt := h20
    have hT := fun wx (hb : Below (w.alloc (.cells #[.int .i64 0, .int .i64 0, .string ⟨#[]⟩] 40)).heap.size (w.alloc (.cells #[.int .i64 0, .int .i64 0, .string ⟨#[]⟩] 40)) wx) => own_any kb (2 + t * 5) (F ++ [w.heap.size]) V[t] K.ths[t] (K.host * 20 + K.made) wx ((HR.out.tat t h1 h2).below hb) hs hl
    have HT := hid hT
    clear hT
    have HL0 : Hid ((ownL K.ths[t].own (K.host * 20 + K.made)).1 ≠ 0 → (ownL K.ths[t].own (K.host * 20 + K.made)).2 = K.ths[t].own) := hid (by
      unfold ownL
      split
      · exact fun h => absurd rfl h
      · split
        · exact fun _ => rfl
        · exact fun h => absurd rfl h)
    clear h
    by_cases hz : (ownL K.ths[t].own (K.host * 20 + K.made)).1 = 0
    · have hne : ((ownL K.ths[t].own (K.host * 20 + K.made)).1 != 0) = false := by simpa using hz
      have HC3 : Hid (categoryL K t K.ths[t] = ({ setT K t { K.ths[t] with own := (ownL K.ths[t].own (K.host * 20 + K.made)).2 } with made := K.made + 1 }, ⟨0, K.host * 20 + K.made, []⟩)) := hid (by rw [HC2.out, if_pos hz])
      clear HC2 HL0
      generalize ownL K.ths[t].own (K.host * 20 + K.made) = ow at *
      go_enter Try.func50, Try.ntmps50
      go_wp2_with fail
      go_quiet (fail)
      go_wp2_with fail
      refine (HT.out _ (below_drewN _ _)).mono ?_
      rintro e w2 ⟨rfl, G, v', hT2, hS2⟩
      have hK1 := HR.out.below (below_drewN (w.alloc (.cells #[.int .i64 0, .int .i64 0, .string ⟨#[]⟩] 40)) nq)
      have hK2 := hK1.step h1 h2 hT2 hS2
      have hx2 := box_tstep hS2 (hK1.tat t h1 h2) (heap_keep HBX.out (below_drewN _ nq)) (by decide) (by decide) (by decide) (by decide)
      have hst2 := (HS.out.trans (KStep.below (below_drewN _ nq))).trans (KStep.of h1 hS2)
      obtain ⟨m0, m1, mf⟩ := hK2.head
      have hK3 := hK2.madeMore (K.made + 1)
      have hne2 : w.heap.size ≠ kb := by omega
      have hx3 := heap_store hx2 hne2 1 (.int .i64 (K.made + 1))
      have hst3 := hst2.trans (KStep.set 1 (.int .i64 (K.made + 1)))
      obtain ⟨e1, e2, e3⟩ := kreply_end 0 (K.host * 20 + K.made) [] hx3 (hS2.more.1 _ HMEM.out) hK3 hst3
      obtain ⟨c0, c1, c2, f0, f1, f2⟩ := cells3 hx3
      have E1 := hid e1
      have E2 := hid e2
      have E3 := hid e3
      clear e1 e2 e3 hK1 hK2 hK3 hx2 hx3 hst2 hst3 hT2 hS2 HT HR HS
      go_wp2
      refine bodyPost_ret (results_cell_row rfl _ _ w.heap.size 40 _ (0, 0) _ rfl E1.out Try.underlying40 rfl (by kernel_rfl)) rfl ⟨?_, ?_⟩
      · rw [HC3.out]; rfl
      · rw [HC3.out]; exact ⟨_, _, E2.out, E3.out⟩
    · have hne : ((ownL K.ths[t].own (K.host * 20 + K.made)).1 != 0) = true := by simpa using hz
      have HC3 : Hid (categoryL K t K.ths[t] = (K, code (ownL K.ths[t].own (K.host * 20 + K.made)).1)) := hid (by rw [HC2.out, if_neg hz])
      have HL1 := hid (HL0.out hz)
      clear HC2 HL0
      generalize ownL K.ths[t].own (K.host * 20 + K.made) = ow at *
      go_enter Try.func50, Try.ntmps50
      go_wp2_with fail
      go_quiet (fail)
      go_wp2_with fail
      refine (HT.out _ (below_drewN _ _)).mono ?_
      rintro e w2 ⟨rfl, G, v', hT2, hS2⟩
      have hK1 := HR.out.below (below_drewN (w.alloc (.cells #[.int .i64 0, .int .i64 0, .string ⟨#[]⟩] 40)) nq)
      have hK2 := hK1.step h1 h2 hT2 hS2
      have hx2 := box_tstep hS2 (hK1.tat t h1 h2) (heap_keep HBX.out (below_drewN _ nq)) (by decide) (by decide) (by decide) (by decide)
      have HST := hid ((HS.out.trans (KStep.below (below_drewN _ nq))).trans (KStep.of h1 hS2))
      have HX := hid hx2
      have HG : Hid (w.heap.size ∈ G) := hid (hS2.more.1 _ HMEM.out)
      have HK2 : Hid (KerAt w2 kb G (V.set t v') K) := hid (by
        have e : ({ K with ths := K.ths.set t { K.ths[t] with own := ow.2 } } : Ker) = K := by
          rw [HL1.out]
          show ({ K with ths := K.ths.set t K.ths[t] } : Ker) = K
          rw [List.set_getElem_self]
        rw [e] at hK2
        exact hK2)
      clear hK1 hK2 hx2 hT2 hS2 HT HR HS
      go_wp2_with (go_at_call 49; refine (answer_lit _ _).mono ?_; rintro e w3 ⟨rfl, hw3⟩; have HB3 := hid hw3; have hb3 := heap_keep HX.out hw3; obtain ⟨c0, c1, c2, f0, f1, f2⟩ := cells3 hb3; have HX3 := hid hb3; clear hb3 hw3)
      obtain ⟨e1, e2, e3⟩ := kreply_end ow.1 0 [] HX3.out HG.out (HK2.out.below HB3.out) (HST.out.trans (KStep.below HB3.out))
      refine bodyPost_ret (results_cell_row rfl _ _ w.heap.size 40 _ (0, 0) _ rfl e1 Try.underlying40 rfl (by kernel_rfl)) rfl ⟨?_, ?_⟩
      · rw [HC3.out]; rfl
      · rw [HC3.out]; exact ⟨_, _, e2, e3⟩
end Go.Proofs.Ytichphepfmafjac
