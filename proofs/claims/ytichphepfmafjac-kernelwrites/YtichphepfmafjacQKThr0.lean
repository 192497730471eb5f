/- kernel.copyThread of a thread without objects and mails; Thread of such a one, and of none. -/
import Derived.Test.YtichphepfmafjacQKCat
namespace Go.Proofs.Ytichphepfmafjac
open Go.RowKit Go.Proofs.Parclose

abbrev st5 (w : World) (b : Nat) (x0 x1 x2 x3 x4 : Value) : World := ((((w.setCell ⟨b, 0, none⟩ x0).setCell ⟨b, 1, none⟩ x1).setCell ⟨b, 2, none⟩ x2).setCell ⟨b, 3, none⟩ x3).setCell ⟨b, 4, none⟩ x4
theorem st5_heap {w : World} {b : Nat} {t : TypeId} {y0 y1 y2 y3 y4 : Value} (x0 x1 x2 x3 x4 : Value) (h : w.heap[b]? = some (.cells #[y0, y1, y2, y3, y4] t (0, 0))) : (st5 w b x0 x1 x2 x3 x4).heap[b]? = some (.cells #[x0, x1, x2, x3, x4] t (0, 0)) := by
  have h0 : (w.setCell ⟨b, 0, none⟩ x0).heap[b]? = some (.cells #[x0, y1, y2, y3, y4] t (0, 0)) := by rw [heap_setCell h x0]; rfl
  have h1 : ((w.setCell ⟨b, 0, none⟩ x0).setCell ⟨b, 1, none⟩ x1).heap[b]? = some (.cells #[x0, x1, y2, y3, y4] t (0, 0)) := by rw [heap_setCell h0 x1]; rfl
  have h2 : (((w.setCell ⟨b, 0, none⟩ x0).setCell ⟨b, 1, none⟩ x1).setCell ⟨b, 2, none⟩ x2).heap[b]? = some (.cells #[x0, x1, x2, y3, y4] t (0, 0)) := by rw [heap_setCell h1 x2]; rfl
  have h3 : ((((w.setCell ⟨b, 0, none⟩ x0).setCell ⟨b, 1, none⟩ x1).setCell ⟨b, 2, none⟩ x2).setCell ⟨b, 3, none⟩ x3).heap[b]? = some (.cells #[x0, x1, x2, x3, y4] t (0, 0)) := by rw [heap_setCell h2 x3]; rfl
  rw [heap_setCell h3 x4]; rfl
theorem st5_grown (w : World) (b : Nat) (x0 x1 x2 x3 x4 : Value) : w.grownBy (st5 w b x0 x1 x2 x3 x4) (some b) := grown_trans (grown_trans (grown_trans (grown_trans (grown_setCell w b 0 x0) (grown_setCell _ b 1 x1)) (grown_setCell _ b 2 x2)) (grown_setCell _ b 3 x3)) (grown_setCell _ b 4 x4)
theorem cells5 {w : World} {b : Nat} {t : TypeId} {y0 y1 y2 y3 y4 : Value} (h : w.heap[b]? = some (.cells #[y0, y1, y2, y3, y4] t (0, 0))) : (w.cell? ⟨b, 0, none⟩ = some y0 ∧ w.cell? ⟨b, 1, none⟩ = some y1 ∧ w.cell? ⟨b, 2, none⟩ = some y2 ∧ w.cell? ⟨b, 3, none⟩ = some y3 ∧ w.cell? ⟨b, 4, none⟩ = some y4) ∧ w.frozen? ⟨b, 0, none⟩ = false ∧ w.frozen? ⟨b, 1, none⟩ = false ∧ w.frozen? ⟨b, 2, none⟩ = false ∧ w.frozen? ⟨b, 3, none⟩ = false ∧ w.frozen? ⟨b, 4, none⟩ = false :=
  ⟨⟨heap_cell h 0, heap_cell h 1, heap_cell h 2, heap_cell h 3, heap_cell h 4⟩, heap_frozen h 0, heap_frozen h 1, heap_frozen h 2, heap_frozen h 3, heap_frozen h 4⟩

theorem empty_slice {w : World} {e : TypeId} {s : Nat} {v : Value} {xs : List Value} (h : w.ownsRow 0 e s v 0 xs) : ∃ p c, v = .slice p 0 c := by
  obtain ⟨p, c, rfl⟩ := own_slice h
  exact ⟨p, c, rfl⟩
theorem cloneO_zero (p : Option Addr) (c : Nat) (w : World) : Calls Try.prog 79 #[.slice p 0 c] w fun e w' => ∃ p' c', e = .returned (.slice p' 0 c') ∧ Below w.heap.size w w' := by
  cases p with
  | none =>
    refine (cloneO_none 0 c w).mono ?_
    rintro e w' ⟨rfl, rfl⟩
    exact ⟨none, 0, rfl, Below.refl _ _⟩
  | some a =>
    refine (cloneO_some a 0 c [] w rfl (by omega) (fun j u h => by simp at h) (fun u h => by simp at h)).mono ?_
    rintro e w' ⟨v', rfl, h1, h2⟩
    obtain ⟨p', c', rfl⟩ := own_slice h1
    exact ⟨p', c', rfl, h2⟩
theorem cloneM_zero (p : Option Addr) (c : Nat) (w : World) : Calls Try.prog 80 #[.slice p 0 c] w fun e w' => ∃ p' c', e = .returned (.slice p' 0 c') ∧ Below w.heap.size w w' := by
  cases p with
  | none =>
    refine (cloneM_none 0 c w).mono ?_
    rintro e w' ⟨rfl, rfl⟩
    exact ⟨none, 0, rfl, Below.refl _ _⟩
  | some a =>
    refine (cloneM_some a 0 c [] w rfl (by omega) (fun j u h => by simp at h) (fun u h => by simp at h)).mono ?_
    rintro e w' ⟨v', rfl, h1, h2⟩
    obtain ⟨p', c', rfl⟩ := own_slice h1
    exact ⟨p', c', rfl, h2⟩

set_option maxRecDepth 100000 in
set_option maxHeartbeats 3200000 in
theorem copyThread0 (vl vo : Value) (pj pm : Option Addr) (cj cm : Nat) (l : List (Int × Int)) (own : List Int) (x : List UInt8) (w : World) (hl : LabAt w vl l) (ho : IntsAt w vo own) :
    Calls Try.prog 40 #[.agg #[vl, vo, .string ⟨x.toArray⟩, .slice pj 0 cj, .slice pm 0 cm]] w fun e w' => ∃ p q p' q' p5 q5 p6 q6, e = .returned (.agg #[.slice p l.length q, .slice p' own.length q', .string ⟨x.toArray⟩, .slice p5 0 q5, .slice p6 0 q6]) ∧ Below w.heap.size w w' := by
  have HL := hid hl
  have HO := hid ho
  obtain ⟨pl, cl, rfl, _⟩ := id hl
  obtain ⟨po, co, rfl, _⟩ := id ho
  clear hl ho
  have hb0 : Below w.heap.size w ((w.alloc (.cells #[.slice pl l.length cl, .slice po own.length co, .string ⟨x.toArray⟩, .slice pj 0 cj, .slice pm 0 cm] 31)).alloc (.cells #[.slice none 0 0, .slice none 0 0, .string ⟨#[]⟩, .slice none 0 0, .slice none 0 0] 31)) := (below_box w _).alloc (by simp) _
  go_enter Try.func40, Try.ntmps40
  go_wp2_with fail
  refine (cloneL_any _ l _ (HL.out.below hb0)).mono ?_
  rintro e w1 ⟨v1, rfl, hown1, hw1⟩
  obtain ⟨p1, q1, rfl⟩ := own_slice hown1
  have hbx1 := heap_keep (heap_alloc2_old w _ _) hw1
  have hrs1 := heap_keep (heap_alloc2_new w _ _) hw1
  have hbw1 := below_then hb0 hw1
  obtain ⟨⟨c0, c1, c2, c3, c4⟩, f0, f1, f2, f3, f4⟩ := cells5 hbx1
  clear hown1 hw1 hb0
  go_wp2_with fail
  have hbx2 := heap_setCell (j := 0) hbx1 (.slice p1 l.length q1)
  have hrs2 := heap_store hrs1 (show w.heap.size + 1 ≠ w.heap.size by omega) 0 (.slice p1 l.length q1)
  have hbw2 := hbw1.grown (grown_setCell w1 w.heap.size 0 (.slice p1 l.length q1)) hbw1.size (fun k hk => by cases hk; exact Nat.le_refl _)
  clear hbx1 hrs1 hbw1 c0 c1 c2 c3 c4 f0 f1 f2 f3 f4
  generalize w1.setCell ⟨w.heap.size, 0, none⟩ (.slice p1 l.length q1) = w2 at *
  refine (cloneI_any _ own _ (HO.out.below hbw2)).mono ?_
  rintro e w3 ⟨v3, rfl, hown3, hw3⟩
  obtain ⟨p3, q3, rfl⟩ := own_slice hown3
  have hbx3 := heap_keep hbx2 hw3
  have hrs3 := heap_keep hrs2 hw3
  have hbw3 := below_then hbw2 hw3
  clear hown3 hw3 hbx2 hrs2 hbw2
  obtain ⟨⟨c0, c1, c2, c3, c4⟩, f0, f1, f2, f3, f4⟩ := cells5 hbx3
  go_wp2_with fail
  have hbx4 := heap_setCell (j := 1) hbx3 (.slice p3 own.length q3)
  have hrs4 := heap_store hrs3 (show w.heap.size + 1 ≠ w.heap.size by omega) 1 (.slice p3 own.length q3)
  have hbw4 := hbw3.grown (grown_setCell w3 w.heap.size 1 (.slice p3 own.length q3)) hbw3.size (fun k hk => by cases hk; exact Nat.le_refl _)
  clear hbx3 hrs3 hbw3 c0 c1 c2 c3 c4 f0 f1 f2 f3 f4
  generalize w3.setCell ⟨w.heap.size, 1, none⟩ (.slice p3 own.length q3) = w4 at *
  refine (cloneO_zero pj cj w4).mono ?_
  rintro e w' ⟨p5, q5, rfl, hw4⟩
  have hbx4 := heap_keep hbx4 hw4
  have hrs4 := heap_keep hrs4 hw4
  have hbw4 := below_then hbw4 hw4
  clear hw4
  obtain ⟨⟨c0, c1, c2, c3, c4⟩, f0, f1, f2, f3, f4⟩ := cells5 hbx4
  go_wp2
  refine wp_loop_rounds 1 ?_
  rw [rounds_succ]
  go_wp2_with fail
  have hbx5 := heap_setCell (j := 3) hbx4 (.slice p5 0 q5)
  have hrs5 := heap_store hrs4 (show w.heap.size + 1 ≠ w.heap.size by omega) 3 (.slice p5 0 q5)
  have hbw5 := hbw4.grown (grown_setCell w' w.heap.size 3 (.slice p5 0 q5)) hbw4.size (fun k hk => by cases hk; exact Nat.le_refl _)
  clear hbx4 hrs4 hbw4 c0 c1 c2 c3 c4 f0 f1 f2 f3 f4
  generalize w'.setCell ⟨w.heap.size, 3, none⟩ (.slice p5 0 q5) = w5 at *
  refine (cloneM_zero pm cm w5).mono ?_
  rintro e w6 ⟨p6, q6, rfl, hw5⟩
  have hbx5 := heap_keep hbx5 hw5
  have hrs5 := heap_keep hrs5 hw5
  have hbw5 := below_then hbw5 hw5
  clear hw5
  obtain ⟨⟨c0, c1, c2, c3, c4⟩, f0, f1, f2, f3, f4⟩ := cells5 hbx5
  obtain ⟨⟨d0, d1, d2, d3, d4⟩, g0, g1, g2, g3, g4⟩ := cells5 hrs5
  have hne : w.heap.size ≠ w.heap.size + 1 := by omega
  have hne2 : w.heap.size + 1 ≠ w.heap.size := by omega
  go_wp2
  refine wp_loop_rounds 1 ?_
  rw [rounds_succ]
  go_wp2
  have hrs6 := heap_store hrs5 hne2 4 (.slice p6 0 q6)
  have hbw6 := hbw5.grown (grown_setCell w6 w.heap.size 4 (.slice p6 0 q6)) hbw5.size (fun k hk => by cases hk; exact Nat.le_refl _)
  have hW := st5_heap (.slice p1 l.length q1) (.slice p3 own.length q3) (.string ⟨x.toArray⟩) (.slice p5 0 q5) (.slice p6 0 q6) hrs6
  have hS := st5_grown (w6.setCell ⟨w.heap.size, 4, none⟩ (.slice p6 0 q6)) (w.heap.size + 1) (.slice p1 l.length q1) (.slice p3 own.length q3) (.string ⟨x.toArray⟩) (.slice p5 0 q5) (.slice p6 0 q6)
  have hb7 := hbw6.grown hS hbw6.size (fun k hk => by cases hk; omega)
  exact bodyPost_ret (results_cell_row rfl _ _ (w.heap.size + 1) 31 _ (0, 0) _ rfl hW Try.underlying31 rfl (by kernel_rfl)) rfl ⟨p1, q1, p3, q3, p5, q5, p6, q6, rfl, hb7⟩

theorem Thread_none (t : Int) (w : World) : Calls Try.prog 11 #[.pointer none, .int .i64 t] w fun e w' => e = .returned (.agg #[.slice none 0 0, .slice none 0 0, .string ⟨#[]⟩, .slice none 0 0, .slice none 0 0]) ∧ Below w.heap.size w w' := by
  go_enter Try.func11, Try.ntmps11
  go_wp2_with (go_at_call 39; refine (thread_none t _).mono ?_; rintro e w1 ⟨rfl, rfl⟩)
  exact bodyPost_ret (results_cell_row rfl _ _ w.heap.size 31 _ (0, 0) _ rfl (heap_alloc_new w _) Try.underlying31 rfl (by kernel_rfl)) rfl ⟨rfl, below_box _ _⟩

set_option maxRecDepth 100000 in
set_option maxHeartbeats 1600000 in
theorem Thread0 (kb t : Nat) (F : List Nat) (V : List ThrV) (K : Ker) (w : World) (h : KerAt w kb F V K) (h1 : t < V.length) (h2 : t < K.ths.length) (h4 : t < 4) (hl : K.ths[t].own.length ≤ 1000) (ho : K.ths[t].objs = []) (hms : K.ths[t].mails = []) :
    Calls Try.prog 11 #[.pointer (some ⟨kb, 0, none⟩), .int .i64 t] w fun e w' => ∃ p q p' q' p5 q5 p6 q6, e = .returned (.agg #[.slice p K.ths[t].label.length q, .slice p' K.ths[t].own.length q', .string ⟨K.ths[t].text.toArray⟩, .slice p5 0 q5, .slice p6 0 q6]) ∧ Below w.heap.size w w' := by
  have hT := h.tat t h1 h2
  obtain ⟨t0, t1, t2, t3, t4⟩ := hT.cells
  obtain ⟨ptl, ctl, hvl, _⟩ := id hT.thr.1.1
  obtain ⟨po, co, hvo⟩ := ownV hT.thr.2.1
  obtain ⟨pj, cj, hj⟩ : ∃ p c, V[t].vj = .slice p 0 c := by
    obtain ⟨_, _, j2, _⟩ := hT.thr.2.2.1
    rw [ho] at j2
    exact empty_slice j2
  obtain ⟨pm, cm, hm⟩ : ∃ p c, V[t].vm = .slice p 0 c := by
    obtain ⟨_, _, j2, _⟩ := hT.thr.2.2.2
    rw [hms] at j2
    exact empty_slice j2
  have hcp := fun wx (hb : Below w.heap.size w wx) => copyThread0 V[t].vl V[t].vo pj pm cj cm K.ths[t].label K.ths[t].own K.ths[t].text wx (hT.thr.1.1.below hb) ((own_ints hT.thr.2.1 hl).below hb)
  rw [hvl] at t0
  rw [hvo] at t1
  rw [hj] at t3
  rw [hm] at t4
  rw [hvl, hvo] at hcp
  have hkb := h.fin kb h.kbF
  clear hT h
  generalize K.ths[t] = th at *
  go_enter Try.func11, Try.ntmps11
  go_wp2_with (first
    | (go_at_call 39; refine (thread_in kb t _ h4).mono ?_; rintro e w1 ⟨rfl, rfl⟩)
    | (go_at_call 40; refine (hcp _ (below_box _ _)).mono ?_; rintro e w2 ⟨p, q, p', q', p5, q5, p6, q6, rfl, hw2⟩; have hx := heap_keep (heap_alloc_new w _) hw2; obtain ⟨⟨c0, c1, c2, c3, c4⟩, f0, f1, f2, f3, f4⟩ := cells5 hx; have HX := hid hx; have HB := hid (below_then (below_box _ _) hw2); clear hx hw2))
  have hW := st5_heap (.slice p th.label.length q) (.slice p' th.own.length q') (.string ⟨th.text.toArray⟩) (.slice p5 0 q5) (.slice p6 0 q6) HX.out
  have hb7 := HB.out.grown (st5_grown w2 w.heap.size (.slice p th.label.length q) (.slice p' th.own.length q') (.string ⟨th.text.toArray⟩) (.slice p5 0 q5) (.slice p6 0 q6)) HB.out.size (fun k hk => by cases hk; exact Nat.le_refl _)
  exact bodyPost_ret (results_cell_row rfl _ _ w.heap.size 31 _ (0, 0) _ rfl hW Try.underlying31 rfl (by kernel_rfl)) rfl ⟨p, q, p', q', p5, q5, p6, q6, rfl, hb7⟩
end Go.Proofs.Ytichphepfmafjac
