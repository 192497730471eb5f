/- line.shifted answers what was seen, shifted; line.due when a frame is sent again. -/
import Derived.Test.YtpdijobakfpnbaaGreatJLMem
import Derived.Laws.ResultCell
import Derived.Laws.CopyOwn
import Derived.Deep.RegionLaw
namespace Go.Proofs.YtpdijobakfpnbaaGreat
open Go.RowKit Go.Proofs.Parclose
theorem Qae : (Tryz.prog.info? 4).map (·.size) = some 1 := by kernel_rfl
section
variable {w : World} {b : Nat} {t : TypeId} {y0 y1 y2 y3 y4 y5 y6 y7 : Value}
theorem clls8 (h : w.heap[b]? = some (.cells #[y0, y1, y2, y3, y4, y5, y6, y7] t (0, 0))) : w.cell? ⟨b, 0, none⟩ = some y0 ∧ w.cell? ⟨b, 1, none⟩ = some y1 ∧ w.cell? ⟨b, 2, none⟩ = some y2 ∧ w.cell? ⟨b, 3, none⟩ = some y3 ∧ w.cell? ⟨b, 4, none⟩ = some y4 ∧ w.cell? ⟨b, 5, none⟩ = some y5 ∧ w.cell? ⟨b, 6, none⟩ = some y6 ∧ w.cell? ⟨b, 7, none⟩ = some y7 := ⟨Qa h 0, Qa h 1, Qa h 2, Qa h 3, Qa h 4, Qa h 5, Qa h 6, Qa h 7⟩
theorem frz8 (h : w.heap[b]? = some (.cells #[y0, y1, y2, y3, y4, y5, y6, y7] t (0, 0))) : w.frozen? ⟨b, 0, none⟩ = false ∧ w.frozen? ⟨b, 1, none⟩ = false ∧ w.frozen? ⟨b, 2, none⟩ = false ∧ w.frozen? ⟨b, 3, none⟩ = false ∧ w.frozen? ⟨b, 4, none⟩ = false ∧ w.frozen? ⟨b, 5, none⟩ = false ∧ w.frozen? ⟨b, 6, none⟩ = false ∧ w.frozen? ⟨b, 7, none⟩ = false := ⟨Qb h 0, Qb h 1, Qb h 2, Qb h 3, Qb h 4, Qb h 5, Qb h 6, Qb h 7⟩
theorem Qay (x0 x1 x2 x3 x4 x5 x6 x7 : Value) (h : w.heap[b]? = some (.cells #[y0, y1, y2, y3, y4, y5, y6, y7] t (0, 0))) : ((((((((w.setCell ⟨b, 0, none⟩ x0).setCell ⟨b, 1, none⟩ x1).setCell ⟨b, 2, none⟩ x2).setCell ⟨b, 3, none⟩ x3).setCell ⟨b, 4, none⟩ x4).setCell ⟨b, 5, none⟩ x5).setCell ⟨b, 6, none⟩ x6).setCell ⟨b, 7, none⟩ x7).heap[b]? = some (.cells #[x0, x1, x2, x3, x4, x5, x6, x7] t (0, 0)) := by
 have h0 : (w.setCell ⟨b, 0, none⟩ x0).heap[b]? = some (.cells #[x0, y1, y2, y3, y4, y5, y6, y7] t (0, 0)) := by rw [heap_setCell h x0]; rfl
 have h1 : ((w.setCell ⟨b, 0, none⟩ x0).setCell ⟨b, 1, none⟩ x1).heap[b]? = some (.cells #[x0, x1, y2, y3, y4, y5, y6, y7] t (0, 0)) := by rw [heap_setCell h0 x1]; rfl
 have h2 : (((w.setCell ⟨b, 0, none⟩ x0).setCell ⟨b, 1, none⟩ x1).setCell ⟨b, 2, none⟩ x2).heap[b]? = some (.cells #[x0, x1, x2, y3, y4, y5, y6, y7] t (0, 0)) := by rw [heap_setCell h1 x2]; rfl
 have h3 : ((((w.setCell ⟨b, 0, none⟩ x0).setCell ⟨b, 1, none⟩ x1).setCell ⟨b, 2, none⟩ x2).setCell ⟨b, 3, none⟩ x3).heap[b]? = some (.cells #[x0, x1, x2, x3, y4, y5, y6, y7] t (0, 0)) := by rw [heap_setCell h2 x3]; rfl
 have h4 : (((((w.setCell ⟨b, 0, none⟩ x0).setCell ⟨b, 1, none⟩ x1).setCell ⟨b, 2, none⟩ x2).setCell ⟨b, 3, none⟩ x3).setCell ⟨b, 4, none⟩ x4).heap[b]? = some (.cells #[x0, x1, x2, x3, x4, y5, y6, y7] t (0, 0)) := by rw [heap_setCell h3 x4]; rfl
 have h5 : ((((((w.setCell ⟨b, 0, none⟩ x0).setCell ⟨b, 1, none⟩ x1).setCell ⟨b, 2, none⟩ x2).setCell ⟨b, 3, none⟩ x3).setCell ⟨b, 4, none⟩ x4).setCell ⟨b, 5, none⟩ x5).heap[b]? = some (.cells #[x0, x1, x2, x3, x4, x5, y6, y7] t (0, 0)) := by rw [heap_setCell h4 x5]; rfl
 have h6 : (((((((w.setCell ⟨b, 0, none⟩ x0).setCell ⟨b, 1, none⟩ x1).setCell ⟨b, 2, none⟩ x2).setCell ⟨b, 3, none⟩ x3).setCell ⟨b, 4, none⟩ x4).setCell ⟨b, 5, none⟩ x5).setCell ⟨b, 6, none⟩ x6).heap[b]? = some (.cells #[x0, x1, x2, x3, x4, x5, x6, y7] t (0, 0)) := by rw [heap_setCell h5 x6]; rfl
 have h7 : ((((((((w.setCell ⟨b, 0, none⟩ x0).setCell ⟨b, 1, none⟩ x1).setCell ⟨b, 2, none⟩ x2).setCell ⟨b, 3, none⟩ x3).setCell ⟨b, 4, none⟩ x4).setCell ⟨b, 5, none⟩ x5).setCell ⟨b, 6, none⟩ x6).setCell ⟨b, 7, none⟩ x7).heap[b]? = some (.cells #[x0, x1, x2, x3, x4, x5, x6, x7] t (0, 0)) := by rw [heap_setCell h6 x7]; rfl
 exact h7
end
theorem Qam (w : World) (b : Nat) (x0 x1 x2 x3 x4 x5 x6 x7 : Value) : w.grownBy ((((((((w.setCell ⟨b, 0, none⟩ x0).setCell ⟨b, 1, none⟩ x1).setCell ⟨b, 2, none⟩ x2).setCell ⟨b, 3, none⟩ x3).setCell ⟨b, 4, none⟩ x4).setCell ⟨b, 5, none⟩ x5).setCell ⟨b, 6, none⟩ x6).setCell ⟨b, 7, none⟩ x7) (some b) := Qh (Qh (Qh (Qh (Qh (Qh (Qh (Qg w b 0 x0) (Qg _ b 1 x1)) (Qg _ b 2 x2)) (Qg _ b 3 x3)) (Qg _ b 4 x4)) (Qg _ b 5 x5)) (Qg _ b 6 x6)) (Qg _ b 7 x7)
theorem Qcz (b0 b1 b2 b3 b4 b5 b6 b7 : Bool) (w : World) : ∃ W : World, ((w.alloc (.cells #[.bool b0, .bool b1, .bool b2, .bool b3, .bool b4, .bool b5, .bool b6, .bool b7] 69)).alloc (.cells #[.bool false, .bool false, .bool false, .bool false, .bool false, .bool false, .bool false, .bool false] 69)).alloc (.cells #[.bool false, .bool false, .bool false, .bool false, .bool false, .bool false, .bool false, .bool false] 69) = W ∧ Below w.heap.size w W ∧ W.heap[w.heap.size]? = some (.cells #[.bool b0, .bool b1, .bool b2, .bool b3, .bool b4, .bool b5, .bool b6, .bool b7] 69 (0, 0)) ∧ W.heap[w.heap.size + 1]? = some (.cells #[.bool false, .bool false, .bool false, .bool false, .bool false, .bool false, .bool false, .bool false] 69 (0, 0)) ∧ W.heap[w.heap.size + 2]? = some (.cells [.bool false, .bool false, .bool false, .bool false, .bool false, .bool false, .bool false, .bool false].toArray 69 (0, 0)) := by
 refine ⟨_, rfl, ((Qd w _).alloc (by simp) _).alloc (by simp; omega) _, Qz (heap_alloc2_old w _ _) _, Qz (heap_alloc2_new w _ _) _, ?_⟩
 have := heap_alloc_new ((w.alloc (.cells #[.bool b0, .bool b1, .bool b2, .bool b3, .bool b4, .bool b5, .bool b6, .bool b7] 69)).alloc (.cells #[.bool false, .bool false, .bool false, .bool false, .bool false, .bool false, .bool false, .bool false] 69)) (.cells #[.bool false, .bool false, .bool false, .bool false, .bool false, .bool false, .bool false, .bool false] 69)
 simpa using this
theorem Qcn {W : World} {k : Nat} {b0 b1 b2 b3 b4 b5 b6 b7 : Bool} (h : W.heap[k]? = some (.cells #[.bool b0, .bool b1, .bool b2, .bool b3, .bool b4, .bool b5, .bool b6, .bool b7] 69 (0, 0))) (m j : Nat) (v : Value) (hv : (([.bool b0, .bool b1, .bool b2, .bool b3, .bool b4, .bool b5, .bool b6, .bool b7] : List Value).take m)[j]? = some v) : W.cell? ((⟨k, 0, none⟩ : Addr).add j) = some v := by
 rw [WideShapes.add_plain, Nat.zero_add, Qa h j]
 rw [List.getElem?_take] at hv
 split at hv
 · simpa using hv
 · cases hv
set_option maxRecDepth 100000 in
set_option maxHeartbeats 1600000 in
theorem Qlx (b0 b1 b2 b3 b4 b5 b6 b7 : Bool) (w : World) :
 Calls Tryz.prog 147 #[.agg #[.bool b0, .bool b1, .bool b2, .bool b3, .bool b4, .bool b5, .bool b6, .bool b7], .int .i64 1] w fun e w' => e = .returned (.agg #[.bool false, .bool b0, .bool b1, .bool b2, .bool b3, .bool b4, .bool b5, .bool b6]) ∧ Below w.heap.size w w' := by
 obtain ⟨W, hW0, hb0, hA, hR, hM⟩ := Qcz b0 b1 b2 b3 b4 b5 b6 b7 w
 go_enter Tryz.func147, Tryz.ntmps147
 go_wp2
 clear hW0
 go_region_law (first | (refine step_copy_splice (by rfl) (.tmp 8) (.tmp 9) 226 226 (by rfl) 4 Tryz.underlying226 Qae (some ⟨w.heap.size + 2, 1, none⟩) (some ⟨w.heap.size, 0, none⟩) 7 7 8 8 (by rfl) (by rfl) (w.heap.size + 2) 1 [.bool false, .bool false, .bool false, .bool false, .bool false, .bool false, .bool false, .bool false] 69 hM [.bool b0, .bool b1, .bool b2, .bool b3, .bool b4, .bool b5, .bool b6] (by rfl) (fun _ => ⟨rfl, ⟨w.heap.size, 0, none⟩, rfl, fun j v hv => Qcn hA 7 j v hv⟩) (by simp) (by simp [Value.oneCell']) (w.heap.size + 2) W ⟨rfl, rfl, rfl, Nat.le_refl _, fun _ _ => rfl⟩ (Nat.le_refl _) ?_; intro w4 hg4 hb4) | fail)
 all_goals
  have hm4 : w4.heap[w.heap.size + 2]? = some (.cells #[.bool false, .bool b0, .bool b1, .bool b2, .bool b3, .bool b4, .bool b5, .bool b6] 69 (0, 0)) := hg4.out
  have hr4 : w4.heap[w.heap.size + 1]? = some (.cells #[.bool false, .bool false, .bool false, .bool false, .bool false, .bool false, .bool false, .bool false] 69 (0, 0)) := by rw [hb4.block _ (by omega), hR]
  have hbw : Below w.heap.size w w4 := hb0.trans (hb4.mono (by omega))
  clear hg4 hb4 hA hR hM hb0
  obtain ⟨m0, m1, m2, m3, m4, m5, m6, m7⟩ := clls8 hm4
  obtain ⟨d0, d1, d2, d3, d4, d5, d6, d7⟩ := clls8 hr4
  obtain ⟨g0, g1, g2, g3, g4, g5, g6, g7⟩ := frz8 hr4
  have HR := hid hr4
  clear hm4 hr4
  have hne : w.heap.size + 1 ≠ w.heap.size + 2 := by omega
  have hne2 : w.heap.size + 2 ≠ w.heap.size + 1 := by omega
  go_wp2
  exact bodyPost_ret (results_cell_row rfl _ _ (w.heap.size + 1) 69 _ (0, 0) _ rfl (Qay (.bool false) (.bool b0) (.bool b1) (.bool b2) (.bool b3) (.bool b4) (.bool b5) (.bool b6) HR.out) Tryz.underlying69 rfl (by kernel_rfl)) rfl ⟨rfl, hbw.grown (Qam w4 (w.heap.size + 1) (.bool false) (.bool b0) (.bool b1) (.bool b2) (.bool b3) (.bool b4) (.bool b5) (.bool b6)) hbw.size (fun k hk => by have := Option.some.inj hk; omega)⟩
set_option maxRecDepth 100000 in
set_option maxHeartbeats 1600000 in
theorem Qlw (b0 b1 b2 b3 b4 b5 b6 b7 : Bool) (w : World) :
 Calls Tryz.prog 147 #[.agg #[.bool b0, .bool b1, .bool b2, .bool b3, .bool b4, .bool b5, .bool b6, .bool b7], .int .i64 2] w fun e w' => e = .returned (.agg #[.bool false, .bool false, .bool b0, .bool b1, .bool b2, .bool b3, .bool b4, .bool b5]) ∧ Below w.heap.size w w' := by
 obtain ⟨W, hW0, hb0, hA, hR, hM⟩ := Qcz b0 b1 b2 b3 b4 b5 b6 b7 w
 go_enter Tryz.func147, Tryz.ntmps147
 go_wp2
 clear hW0
 go_region_law (first | (refine step_copy_splice (by rfl) (.tmp 8) (.tmp 9) 226 226 (by rfl) 4 Tryz.underlying226 Qae (some ⟨w.heap.size + 2, 2, none⟩) (some ⟨w.heap.size, 0, none⟩) 6 6 8 8 (by rfl) (by rfl) (w.heap.size + 2) 2 [.bool false, .bool false, .bool false, .bool false, .bool false, .bool false, .bool false, .bool false] 69 hM [.bool b0, .bool b1, .bool b2, .bool b3, .bool b4, .bool b5] (by rfl) (fun _ => ⟨rfl, ⟨w.heap.size, 0, none⟩, rfl, fun j v hv => Qcn hA 6 j v hv⟩) (by simp) (by simp [Value.oneCell']) (w.heap.size + 2) W ⟨rfl, rfl, rfl, Nat.le_refl _, fun _ _ => rfl⟩ (Nat.le_refl _) ?_; intro w4 hg4 hb4) | fail)
 all_goals
  have hm4 : w4.heap[w.heap.size + 2]? = some (.cells #[.bool false, .bool false, .bool b0, .bool b1, .bool b2, .bool b3, .bool b4, .bool b5] 69 (0, 0)) := hg4.out
  have hr4 : w4.heap[w.heap.size + 1]? = some (.cells #[.bool false, .bool false, .bool false, .bool false, .bool false, .bool false, .bool false, .bool false] 69 (0, 0)) := by rw [hb4.block _ (by omega), hR]
  have hbw : Below w.heap.size w w4 := hb0.trans (hb4.mono (by omega))
  clear hg4 hb4 hA hR hM hb0
  obtain ⟨m0, m1, m2, m3, m4, m5, m6, m7⟩ := clls8 hm4
  obtain ⟨d0, d1, d2, d3, d4, d5, d6, d7⟩ := clls8 hr4
  obtain ⟨g0, g1, g2, g3, g4, g5, g6, g7⟩ := frz8 hr4
  have HR := hid hr4
  clear hm4 hr4
  have hne : w.heap.size + 1 ≠ w.heap.size + 2 := by omega
  have hne2 : w.heap.size + 2 ≠ w.heap.size + 1 := by omega
  go_wp2
  exact bodyPost_ret (results_cell_row rfl _ _ (w.heap.size + 1) 69 _ (0, 0) _ rfl (Qay (.bool false) (.bool false) (.bool b0) (.bool b1) (.bool b2) (.bool b3) (.bool b4) (.bool b5) HR.out) Tryz.underlying69 rfl (by kernel_rfl)) rfl ⟨rfl, hbw.grown (Qam w4 (w.heap.size + 1) (.bool false) (.bool false) (.bool b0) (.bool b1) (.bool b2) (.bool b3) (.bool b4) (.bool b5)) hbw.size (fun k hk => by have := Option.some.inj hk; omega)⟩
set_option maxRecDepth 100000 in
set_option maxHeartbeats 1600000 in
theorem Qlv (b0 b1 b2 b3 b4 b5 b6 b7 : Bool) (w : World) :
 Calls Tryz.prog 147 #[.agg #[.bool b0, .bool b1, .bool b2, .bool b3, .bool b4, .bool b5, .bool b6, .bool b7], .int .i64 3] w fun e w' => e = .returned (.agg #[.bool false, .bool false, .bool false, .bool b0, .bool b1, .bool b2, .bool b3, .bool b4]) ∧ Below w.heap.size w w' := by
 obtain ⟨W, hW0, hb0, hA, hR, hM⟩ := Qcz b0 b1 b2 b3 b4 b5 b6 b7 w
 go_enter Tryz.func147, Tryz.ntmps147
 go_wp2
 clear hW0
 go_region_law (first | (refine step_copy_splice (by rfl) (.tmp 8) (.tmp 9) 226 226 (by rfl) 4 Tryz.underlying226 Qae (some ⟨w.heap.size + 2, 3, none⟩) (some ⟨w.heap.size, 0, none⟩) 5 5 8 8 (by rfl) (by rfl) (w.heap.size + 2) 3 [.bool false, .bool false, .bool false, .bool false, .bool false, .bool false, .bool false, .bool false] 69 hM [.bool b0, .bool b1, .bool b2, .bool b3, .bool b4] (by rfl) (fun _ => ⟨rfl, ⟨w.heap.size, 0, none⟩, rfl, fun j v hv => Qcn hA 5 j v hv⟩) (by simp) (by simp [Value.oneCell']) (w.heap.size + 2) W ⟨rfl, rfl, rfl, Nat.le_refl _, fun _ _ => rfl⟩ (Nat.le_refl _) ?_; intro w4 hg4 hb4) | fail)
 all_goals
  have hm4 : w4.heap[w.heap.size + 2]? = some (.cells #[.bool false, .bool false, .bool false, .bool b0, .bool b1, .bool b2, .bool b3, .bool b4] 69 (0, 0)) := hg4.out
  have hr4 : w4.heap[w.heap.size + 1]? = some (.cells #[.bool false, .bool false, .bool false, .bool false, .bool false, .bool false, .bool false, .bool false] 69 (0, 0)) := by rw [hb4.block _ (by omega), hR]
  have hbw : Below w.heap.size w w4 := hb0.trans (hb4.mono (by omega))
  clear hg4 hb4 hA hR hM hb0
  obtain ⟨m0, m1, m2, m3, m4, m5, m6, m7⟩ := clls8 hm4
  obtain ⟨d0, d1, d2, d3, d4, d5, d6, d7⟩ := clls8 hr4
  obtain ⟨g0, g1, g2, g3, g4, g5, g6, g7⟩ := frz8 hr4
  have HR := hid hr4
  clear hm4 hr4
  have hne : w.heap.size + 1 ≠ w.heap.size + 2 := by omega
  have hne2 : w.heap.size + 2 ≠ w.heap.size + 1 := by omega
  go_wp2
  exact bodyPost_ret (results_cell_row rfl _ _ (w.heap.size + 1) 69 _ (0, 0) _ rfl (Qay (.bool false) (.bool false) (.bool false) (.bool b0) (.bool b1) (.bool b2) (.bool b3) (.bool b4) HR.out) Tryz.underlying69 rfl (by kernel_rfl)) rfl ⟨rfl, hbw.grown (Qam w4 (w.heap.size + 1) (.bool false) (.bool false) (.bool false) (.bool b0) (.bool b1) (.bool b2) (.bool b3) (.bool b4)) hbw.size (fun k hk => by have := Option.some.inj hk; omega)⟩
set_option maxRecDepth 100000 in
set_option maxHeartbeats 1600000 in
theorem Qlu (b0 b1 b2 b3 b4 b5 b6 b7 : Bool) (w : World) :
 Calls Tryz.prog 147 #[.agg #[.bool b0, .bool b1, .bool b2, .bool b3, .bool b4, .bool b5, .bool b6, .bool b7], .int .i64 4] w fun e w' => e = .returned (.agg #[.bool false, .bool false, .bool false, .bool false, .bool b0, .bool b1, .bool b2, .bool b3]) ∧ Below w.heap.size w w' := by
 obtain ⟨W, hW0, hb0, hA, hR, hM⟩ := Qcz b0 b1 b2 b3 b4 b5 b6 b7 w
 go_enter Tryz.func147, Tryz.ntmps147
 go_wp2
 clear hW0
 go_region_law (first | (refine step_copy_splice (by rfl) (.tmp 8) (.tmp 9) 226 226 (by rfl) 4 Tryz.underlying226 Qae (some ⟨w.heap.size + 2, 4, none⟩) (some ⟨w.heap.size, 0, none⟩) 4 4 8 8 (by rfl) (by rfl) (w.heap.size + 2) 4 [.bool false, .bool false, .bool false, .bool false, .bool false, .bool false, .bool false, .bool false] 69 hM [.bool b0, .bool b1, .bool b2, .bool b3] (by rfl) (fun _ => ⟨rfl, ⟨w.heap.size, 0, none⟩, rfl, fun j v hv => Qcn hA 4 j v hv⟩) (by simp) (by simp [Value.oneCell']) (w.heap.size + 2) W ⟨rfl, rfl, rfl, Nat.le_refl _, fun _ _ => rfl⟩ (Nat.le_refl _) ?_; intro w4 hg4 hb4) | fail)
 all_goals
  have hm4 : w4.heap[w.heap.size + 2]? = some (.cells #[.bool false, .bool false, .bool false, .bool false, .bool b0, .bool b1, .bool b2, .bool b3] 69 (0, 0)) := hg4.out
  have hr4 : w4.heap[w.heap.size + 1]? = some (.cells #[.bool false, .bool false, .bool false, .bool false, .bool false, .bool false, .bool false, .bool false] 69 (0, 0)) := by rw [hb4.block _ (by omega), hR]
  have hbw : Below w.heap.size w w4 := hb0.trans (hb4.mono (by omega))
  clear hg4 hb4 hA hR hM hb0
  obtain ⟨m0, m1, m2, m3, m4, m5, m6, m7⟩ := clls8 hm4
  obtain ⟨d0, d1, d2, d3, d4, d5, d6, d7⟩ := clls8 hr4
  obtain ⟨g0, g1, g2, g3, g4, g5, g6, g7⟩ := frz8 hr4
  have HR := hid hr4
  clear hm4 hr4
  have hne : w.heap.size + 1 ≠ w.heap.size + 2 := by omega
  have hne2 : w.heap.size + 2 ≠ w.heap.size + 1 := by omega
  go_wp2
  exact bodyPost_ret (results_cell_row rfl _ _ (w.heap.size + 1) 69 _ (0, 0) _ rfl (Qay (.bool false) (.bool false) (.bool false) (.bool false) (.bool b0) (.bool b1) (.bool b2) (.bool b3) HR.out) Tryz.underlying69 rfl (by kernel_rfl)) rfl ⟨rfl, hbw.grown (Qam w4 (w.heap.size + 1) (.bool false) (.bool false) (.bool false) (.bool false) (.bool b0) (.bool b1) (.bool b2) (.bool b3)) hbw.size (fun k hk => by have := Option.some.inj hk; omega)⟩
set_option maxRecDepth 100000 in
set_option maxHeartbeats 1600000 in
theorem Qlt (b0 b1 b2 b3 b4 b5 b6 b7 : Bool) (w : World) :
 Calls Tryz.prog 147 #[.agg #[.bool b0, .bool b1, .bool b2, .bool b3, .bool b4, .bool b5, .bool b6, .bool b7], .int .i64 5] w fun e w' => e = .returned (.agg #[.bool false, .bool false, .bool false, .bool false, .bool false, .bool b0, .bool b1, .bool b2]) ∧ Below w.heap.size w w' := by
 obtain ⟨W, hW0, hb0, hA, hR, hM⟩ := Qcz b0 b1 b2 b3 b4 b5 b6 b7 w
 go_enter Tryz.func147, Tryz.ntmps147
 go_wp2
 clear hW0
 go_region_law (first | (refine step_copy_splice (by rfl) (.tmp 8) (.tmp 9) 226 226 (by rfl) 4 Tryz.underlying226 Qae (some ⟨w.heap.size + 2, 5, none⟩) (some ⟨w.heap.size, 0, none⟩) 3 3 8 8 (by rfl) (by rfl) (w.heap.size + 2) 5 [.bool false, .bool false, .bool false, .bool false, .bool false, .bool false, .bool false, .bool false] 69 hM [.bool b0, .bool b1, .bool b2] (by rfl) (fun _ => ⟨rfl, ⟨w.heap.size, 0, none⟩, rfl, fun j v hv => Qcn hA 3 j v hv⟩) (by simp) (by simp [Value.oneCell']) (w.heap.size + 2) W ⟨rfl, rfl, rfl, Nat.le_refl _, fun _ _ => rfl⟩ (Nat.le_refl _) ?_; intro w4 hg4 hb4) | fail)
 all_goals
  have hm4 : w4.heap[w.heap.size + 2]? = some (.cells #[.bool false, .bool false, .bool false, .bool false, .bool false, .bool b0, .bool b1, .bool b2] 69 (0, 0)) := hg4.out
  have hr4 : w4.heap[w.heap.size + 1]? = some (.cells #[.bool false, .bool false, .bool false, .bool false, .bool false, .bool false, .bool false, .bool false] 69 (0, 0)) := by rw [hb4.block _ (by omega), hR]
  have hbw : Below w.heap.size w w4 := hb0.trans (hb4.mono (by omega))
  clear hg4 hb4 hA hR hM hb0
  obtain ⟨m0, m1, m2, m3, m4, m5, m6, m7⟩ := clls8 hm4
  obtain ⟨d0, d1, d2, d3, d4, d5, d6, d7⟩ := clls8 hr4
  obtain ⟨g0, g1, g2, g3, g4, g5, g6, g7⟩ := frz8 hr4
  have HR := hid hr4
  clear hm4 hr4
  have hne : w.heap.size + 1 ≠ w.heap.size + 2 := by omega
  have hne2 : w.heap.size + 2 ≠ w.heap.size + 1 := by omega
  go_wp2
  exact bodyPost_ret (results_cell_row rfl _ _ (w.heap.size + 1) 69 _ (0, 0) _ rfl (Qay (.bool false) (.bool false) (.bool false) (.bool false) (.bool false) (.bool b0) (.bool b1) (.bool b2) HR.out) Tryz.underlying69 rfl (by kernel_rfl)) rfl ⟨rfl, hbw.grown (Qam w4 (w.heap.size + 1) (.bool false) (.bool false) (.bool false) (.bool false) (.bool false) (.bool b0) (.bool b1) (.bool b2)) hbw.size (fun k hk => by have := Option.some.inj hk; omega)⟩
set_option maxRecDepth 100000 in
set_option maxHeartbeats 1600000 in
theorem Qls (b0 b1 b2 b3 b4 b5 b6 b7 : Bool) (w : World) :
 Calls Tryz.prog 147 #[.agg #[.bool b0, .bool b1, .bool b2, .bool b3, .bool b4, .bool b5, .bool b6, .bool b7], .int .i64 6] w fun e w' => e = .returned (.agg #[.bool false, .bool false, .bool false, .bool false, .bool false, .bool false, .bool b0, .bool b1]) ∧ Below w.heap.size w w' := by
 obtain ⟨W, hW0, hb0, hA, hR, hM⟩ := Qcz b0 b1 b2 b3 b4 b5 b6 b7 w
 go_enter Tryz.func147, Tryz.ntmps147
 go_wp2
 clear hW0
 go_region_law (first | (refine step_copy_splice (by rfl) (.tmp 8) (.tmp 9) 226 226 (by rfl) 4 Tryz.underlying226 Qae (some ⟨w.heap.size + 2, 6, none⟩) (some ⟨w.heap.size, 0, none⟩) 2 2 8 8 (by rfl) (by rfl) (w.heap.size + 2) 6 [.bool false, .bool false, .bool false, .bool false, .bool false, .bool false, .bool false, .bool false] 69 hM [.bool b0, .bool b1] (by rfl) (fun _ => ⟨rfl, ⟨w.heap.size, 0, none⟩, rfl, fun j v hv => Qcn hA 2 j v hv⟩) (by simp) (by simp [Value.oneCell']) (w.heap.size + 2) W ⟨rfl, rfl, rfl, Nat.le_refl _, fun _ _ => rfl⟩ (Nat.le_refl _) ?_; intro w4 hg4 hb4) | fail)
 all_goals
  have hm4 : w4.heap[w.heap.size + 2]? = some (.cells #[.bool false, .bool false, .bool false, .bool false, .bool false, .bool false, .bool b0, .bool b1] 69 (0, 0)) := hg4.out
  have hr4 : w4.heap[w.heap.size + 1]? = some (.cells #[.bool false, .bool false, .bool false, .bool false, .bool false, .bool false, .bool false, .bool false] 69 (0, 0)) := by rw [hb4.block _ (by omega), hR]
  have hbw : Below w.heap.size w w4 := hb0.trans (hb4.mono (by omega))
  clear hg4 hb4 hA hR hM hb0
  obtain ⟨m0, m1, m2, m3, m4, m5, m6, m7⟩ := clls8 hm4
  obtain ⟨d0, d1, d2, d3, d4, d5, d6, d7⟩ := clls8 hr4
  obtain ⟨g0, g1, g2, g3, g4, g5, g6, g7⟩ := frz8 hr4
  have HR := hid hr4
  clear hm4 hr4
  have hne : w.heap.size + 1 ≠ w.heap.size + 2 := by omega
  have hne2 : w.heap.size + 2 ≠ w.heap.size + 1 := by omega
  go_wp2
  exact bodyPost_ret (results_cell_row rfl _ _ (w.heap.size + 1) 69 _ (0, 0) _ rfl (Qay (.bool false) (.bool false) (.bool false) (.bool false) (.bool false) (.bool false) (.bool b0) (.bool b1) HR.out) Tryz.underlying69 rfl (by kernel_rfl)) rfl ⟨rfl, hbw.grown (Qam w4 (w.heap.size + 1) (.bool false) (.bool false) (.bool false) (.bool false) (.bool false) (.bool false) (.bool b0) (.bool b1)) hbw.size (fun k hk => by have := Option.some.inj hk; omega)⟩
set_option maxRecDepth 100000 in
set_option maxHeartbeats 1600000 in
theorem Qlr (b0 b1 b2 b3 b4 b5 b6 b7 : Bool) (w : World) :
 Calls Tryz.prog 147 #[.agg #[.bool b0, .bool b1, .bool b2, .bool b3, .bool b4, .bool b5, .bool b6, .bool b7], .int .i64 7] w fun e w' => e = .returned (.agg #[.bool false, .bool false, .bool false, .bool false, .bool false, .bool false, .bool false, .bool b0]) ∧ Below w.heap.size w w' := by
 obtain ⟨W, hW0, hb0, hA, hR, hM⟩ := Qcz b0 b1 b2 b3 b4 b5 b6 b7 w
 go_enter Tryz.func147, Tryz.ntmps147
 go_wp2
 clear hW0
 go_region_law (first | (refine step_copy_splice (by rfl) (.tmp 8) (.tmp 9) 226 226 (by rfl) 4 Tryz.underlying226 Qae (some ⟨w.heap.size + 2, 7, none⟩) (some ⟨w.heap.size, 0, none⟩) 1 1 8 8 (by rfl) (by rfl) (w.heap.size + 2) 7 [.bool false, .bool false, .bool false, .bool false, .bool false, .bool false, .bool false, .bool false] 69 hM [.bool b0] (by rfl) (fun _ => ⟨rfl, ⟨w.heap.size, 0, none⟩, rfl, fun j v hv => Qcn hA 1 j v hv⟩) (by simp) (by simp [Value.oneCell']) (w.heap.size + 2) W ⟨rfl, rfl, rfl, Nat.le_refl _, fun _ _ => rfl⟩ (Nat.le_refl _) ?_; intro w4 hg4 hb4) | fail)
 all_goals
  have hm4 : w4.heap[w.heap.size + 2]? = some (.cells #[.bool false, .bool false, .bool false, .bool false, .bool false, .bool false, .bool false, .bool b0] 69 (0, 0)) := hg4.out
  have hr4 : w4.heap[w.heap.size + 1]? = some (.cells #[.bool false, .bool false, .bool false, .bool false, .bool false, .bool false, .bool false, .bool false] 69 (0, 0)) := by rw [hb4.block _ (by omega), hR]
  have hbw : Below w.heap.size w w4 := hb0.trans (hb4.mono (by omega))
  clear hg4 hb4 hA hR hM hb0
  obtain ⟨m0, m1, m2, m3, m4, m5, m6, m7⟩ := clls8 hm4
  obtain ⟨d0, d1, d2, d3, d4, d5, d6, d7⟩ := clls8 hr4
  obtain ⟨g0, g1, g2, g3, g4, g5, g6, g7⟩ := frz8 hr4
  have HR := hid hr4
  clear hm4 hr4
  have hne : w.heap.size + 1 ≠ w.heap.size + 2 := by omega
  have hne2 : w.heap.size + 2 ≠ w.heap.size + 1 := by omega
  go_wp2
  exact bodyPost_ret (results_cell_row rfl _ _ (w.heap.size + 1) 69 _ (0, 0) _ rfl (Qay (.bool false) (.bool false) (.bool false) (.bool false) (.bool false) (.bool false) (.bool false) (.bool b0) HR.out) Tryz.underlying69 rfl (by kernel_rfl)) rfl ⟨rfl, hbw.grown (Qam w4 (w.heap.size + 1) (.bool false) (.bool false) (.bool false) (.bool false) (.bool false) (.bool false) (.bool false) (.bool b0)) hbw.size (fun k hk => by have := Option.some.inj hk; omega)⟩
set_option maxRecDepth 100000 in
set_option maxHeartbeats 1600000 in
theorem Qlq (b0 b1 b2 b3 b4 b5 b6 b7 : Bool) (w : World) :
 Calls Tryz.prog 147 #[.agg #[.bool b0, .bool b1, .bool b2, .bool b3, .bool b4, .bool b5, .bool b6, .bool b7], .int .i64 8] w fun e w' => e = .returned (.agg #[.bool false, .bool false, .bool false, .bool false, .bool false, .bool false, .bool false, .bool false]) ∧ Below w.heap.size w w' := by
 obtain ⟨W, hW0, hb0, hA, hR, hM⟩ := Qcz b0 b1 b2 b3 b4 b5 b6 b7 w
 go_enter Tryz.func147, Tryz.ntmps147
 go_wp2
 clear hW0
 go_region_law (first | (refine step_copy_splice (by rfl) (.tmp 8) (.tmp 9) 226 226 (by rfl) 4 Tryz.underlying226 Qae _ _ _ _ _ _ (by rfl) (by rfl) (w.heap.size + 2) 8 [.bool false, .bool false, .bool false, .bool false, .bool false, .bool false, .bool false, .bool false] 69 hM [] (by rfl) (fun h => absurd h (by simp)) (by simp) (by simp [Value.oneCell']) (w.heap.size + 2) W ⟨rfl, rfl, rfl, Nat.le_refl _, fun _ _ => rfl⟩ (Nat.le_refl _) ?_; intro w4 hg4 hb4) | fail)
 all_goals
  have hm4 : w4.heap[w.heap.size + 2]? = some (.cells #[.bool false, .bool false, .bool false, .bool false, .bool false, .bool false, .bool false, .bool false] 69 (0, 0)) := hg4.out
  have hr4 : w4.heap[w.heap.size + 1]? = some (.cells #[.bool false, .bool false, .bool false, .bool false, .bool false, .bool false, .bool false, .bool false] 69 (0, 0)) := by rw [hb4.block _ (by omega), hR]
  have hbw : Below w.heap.size w w4 := hb0.trans (hb4.mono (by omega))
  clear hg4 hb4 hA hR hM hb0
  obtain ⟨m0, m1, m2, m3, m4, m5, m6, m7⟩ := clls8 hm4
  obtain ⟨d0, d1, d2, d3, d4, d5, d6, d7⟩ := clls8 hr4
  obtain ⟨g0, g1, g2, g3, g4, g5, g6, g7⟩ := frz8 hr4
  have HR := hid hr4
  clear hm4 hr4
  have hne : w.heap.size + 1 ≠ w.heap.size + 2 := by omega
  have hne2 : w.heap.size + 2 ≠ w.heap.size + 1 := by omega
  go_wp2
  exact bodyPost_ret (results_cell_row rfl _ _ (w.heap.size + 1) 69 _ (0, 0) _ rfl (Qay (.bool false) (.bool false) (.bool false) (.bool false) (.bool false) (.bool false) (.bool false) (.bool false) HR.out) Tryz.underlying69 rfl (by kernel_rfl)) rfl ⟨rfl, hbw.grown (Qam w4 (w.heap.size + 1) (.bool false) (.bool false) (.bool false) (.bool false) (.bool false) (.bool false) (.bool false) (.bool false)) hbw.size (fun k hk => by have := Option.some.inj hk; omega)⟩
set_option maxRecDepth 100000 in
set_option maxHeartbeats 1600000 in
theorem Qlp (b0 b1 b2 b3 b4 b5 b6 b7 : Bool) (n : Int) (hn : 8 < n) (w : World) :
 Calls Tryz.prog 147 #[.agg #[.bool b0, .bool b1, .bool b2, .bool b3, .bool b4, .bool b5, .bool b6, .bool b7], .int .i64 n] w fun e w' => e = .returned (.agg #[.bool false, .bool false, .bool false, .bool false, .bool false, .bool false, .bool false, .bool false]) ∧ Below w.heap.size w w' := by
 obtain ⟨W, hW0, hb0, hA, hR, hM⟩ := Qcz b0 b1 b2 b3 b4 b5 b6 b7 w
 go_enter Tryz.func147, Tryz.ntmps147
 go_wp2
 clear hW0
 go_region_law (first | (refine step_copy_splice (by rfl) (.tmp 8) (.tmp 9) 226 226 (by rfl) 4 Tryz.underlying226 Qae _ _ _ _ _ _ (by rfl) (by rfl) (w.heap.size + 2) 8 [.bool false, .bool false, .bool false, .bool false, .bool false, .bool false, .bool false, .bool false] 69 hM [] (by rfl) (fun h => absurd h (by simp)) (by simp) (by simp [Value.oneCell']) (w.heap.size + 2) W ⟨rfl, rfl, rfl, Nat.le_refl _, fun _ _ => rfl⟩ (Nat.le_refl _) ?_; intro w4 hg4 hb4) | fail)
 all_goals
  have hm4 : w4.heap[w.heap.size + 2]? = some (.cells #[.bool false, .bool false, .bool false, .bool false, .bool false, .bool false, .bool false, .bool false] 69 (0, 0)) := hg4.out
  have hr4 : w4.heap[w.heap.size + 1]? = some (.cells #[.bool false, .bool false, .bool false, .bool false, .bool false, .bool false, .bool false, .bool false] 69 (0, 0)) := by rw [hb4.block _ (by omega), hR]
  have hbw : Below w.heap.size w w4 := hb0.trans (hb4.mono (by omega))
  clear hg4 hb4 hA hR hM hb0
  obtain ⟨m0, m1, m2, m3, m4, m5, m6, m7⟩ := clls8 hm4
  obtain ⟨d0, d1, d2, d3, d4, d5, d6, d7⟩ := clls8 hr4
  obtain ⟨g0, g1, g2, g3, g4, g5, g6, g7⟩ := frz8 hr4
  have HR := hid hr4
  clear hm4 hr4
  have hne : w.heap.size + 1 ≠ w.heap.size + 2 := by omega
  have hne2 : w.heap.size + 2 ≠ w.heap.size + 1 := by omega
  go_wp2
  exact bodyPost_ret (results_cell_row rfl _ _ (w.heap.size + 1) 69 _ (0, 0) _ rfl (Qay (.bool false) (.bool false) (.bool false) (.bool false) (.bool false) (.bool false) (.bool false) (.bool false) HR.out) Tryz.underlying69 rfl (by kernel_rfl)) rfl ⟨rfl, hbw.grown (Qam w4 (w.heap.size + 1) (.bool false) (.bool false) (.bool false) (.bool false) (.bool false) (.bool false) (.bool false) (.bool false)) hbw.size (fun k hk => by have := Option.some.inj hk; omega)⟩
theorem Qh4 (b0 b1 b2 b3 b4 b5 b6 b7 : Bool) (n : Int) (hn : 1 ≤ n) (w : World) :
 Calls Tryz.prog 147 #[.agg #[.bool b0, .bool b1, .bool b2, .bool b3, .bool b4, .bool b5, .bool b6, .bool b7], .int .i64 n] w fun e w' => ∃ c0 c1 c2 c3 c4 c5 c6 c7, shiftL n.toNat [b0, b1, b2, b3, b4, b5, b6, b7] = [c0, c1, c2, c3, c4, c5, c6, c7] ∧ e = .returned (.agg #[.bool c0, .bool c1, .bool c2, .bool c3, .bool c4, .bool c5, .bool c6, .bool c7]) ∧ Below w.heap.size w w' := by
 by_cases h1 : n = 1
 · subst h1
   refine (Qlx b0 b1 b2 b3 b4 b5 b6 b7 w).mono ?_
   rintro e w' ⟨rfl, hw⟩
   exact ⟨false, b0, b1, b2, b3, b4, b5, b6, rfl, rfl, hw⟩
 by_cases h2 : n = 2
 · subst h2
   refine (Qlw b0 b1 b2 b3 b4 b5 b6 b7 w).mono ?_
   rintro e w' ⟨rfl, hw⟩
   exact ⟨false, false, b0, b1, b2, b3, b4, b5, rfl, rfl, hw⟩
 by_cases h3 : n = 3
 · subst h3
   refine (Qlv b0 b1 b2 b3 b4 b5 b6 b7 w).mono ?_
   rintro e w' ⟨rfl, hw⟩
   exact ⟨false, false, false, b0, b1, b2, b3, b4, rfl, rfl, hw⟩
 by_cases h4 : n = 4
 · subst h4
   refine (Qlu b0 b1 b2 b3 b4 b5 b6 b7 w).mono ?_
   rintro e w' ⟨rfl, hw⟩
   exact ⟨false, false, false, false, b0, b1, b2, b3, rfl, rfl, hw⟩
 by_cases h5 : n = 5
 · subst h5
   refine (Qlt b0 b1 b2 b3 b4 b5 b6 b7 w).mono ?_
   rintro e w' ⟨rfl, hw⟩
   exact ⟨false, false, false, false, false, b0, b1, b2, rfl, rfl, hw⟩
 by_cases h6 : n = 6
 · subst h6
   refine (Qls b0 b1 b2 b3 b4 b5 b6 b7 w).mono ?_
   rintro e w' ⟨rfl, hw⟩
   exact ⟨false, false, false, false, false, false, b0, b1, rfl, rfl, hw⟩
 by_cases h7 : n = 7
 · subst h7
   refine (Qlr b0 b1 b2 b3 b4 b5 b6 b7 w).mono ?_
   rintro e w' ⟨rfl, hw⟩
   exact ⟨false, false, false, false, false, false, false, b0, rfl, rfl, hw⟩
 by_cases h8 : n = 8
 · subst h8
   refine (Qlq b0 b1 b2 b3 b4 b5 b6 b7 w).mono ?_
   rintro e w' ⟨rfl, hw⟩
   exact ⟨false, false, false, false, false, false, false, false, rfl, rfl, hw⟩
 refine (Qlp b0 b1 b2 b3 b4 b5 b6 b7 n (by omega) w).mono ?_
 rintro e w' ⟨rfl, hw⟩
 refine ⟨false, false, false, false, false, false, false, false, ?_, rfl, hw⟩
 unfold shiftL
 rw [show min n.toNat 8 = 8 by omega]
 rfl
theorem Qf9 (t now : Int) (h1 : 1 ≤ t) (h2 : t ≤ 5) (h3 : 0 ≤ now) (h4 : now ≤ 1099511627776) (w : World) : Calls Tryz.prog 150 #[.int .i64 t, .int .i64 now] w fun e w' => e = .returned (.int .i64 (now + 2 ^ t.toNat)) ∧ w' = w := by
 have h : t = 1 ∨ t = 2 ∨ t = 3 ∨ t = 4 ∨ t = 5 := by omega
 rcases h with rfl | rfl | rfl | rfl | rfl
 all_goals
  go_enter Tryz.func150, Tryz.ntmps150
  go_wp2
  go_ret
  exact ⟨QE (by go_num), rfl⟩
end Go.Proofs.YtpdijobakfpnbaaGreat
