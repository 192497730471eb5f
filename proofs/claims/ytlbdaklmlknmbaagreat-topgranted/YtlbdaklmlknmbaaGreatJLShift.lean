/- line.shifted answers what was seen, shifted; line.due when a frame is sent again. -/
import Derived.Test.YtlbdaklmlknmbaaGreatJHeap0
import Derived.Laws.ResultCell
import Derived.Laws.CopyOwn
import Derived.Deep.RegionLaw
namespace Go.Proofs.YtlbdaklmlknmbaaGreat
open Go.RowKit Go.Proofs.Parclose
theorem Qad : (Tryz.prog.info? 4).map (·.size) = some 1 := by kernel_rfl
set_option maxRecDepth 100000 in
set_option maxHeartbeats 1600000 in
theorem Qlw (b0 b1 b2 b3 b4 b5 b6 b7 : Bool) (w : World) :
 Calls Tryz.prog 108 #[.agg #[.bool b0, .bool b1, .bool b2, .bool b3, .bool b4, .bool b5, .bool b6, .bool b7], .int .i64 1] w fun e w' => e = .returned (.agg #[.bool false, .bool b0, .bool b1, .bool b2, .bool b3, .bool b4, .bool b5, .bool b6]) ∧ Below w.heap.size w w' := by
 have hb0 : Below w.heap.size w (((w.alloc (.cells #[.bool b0, .bool b1, .bool b2, .bool b3, .bool b4, .bool b5, .bool b6, .bool b7] 75)).alloc (.cells #[.bool false, .bool false, .bool false, .bool false, .bool false, .bool false, .bool false, .bool false] 75)).alloc (.cells #[.bool false, .bool false, .bool false, .bool false, .bool false, .bool false, .bool false, .bool false] 75)) := ((Qc w _).alloc (by simp) _).alloc (by simp; omega) _
 have hA : (((w.alloc (.cells #[.bool b0, .bool b1, .bool b2, .bool b3, .bool b4, .bool b5, .bool b6, .bool b7] 75)).alloc (.cells #[.bool false, .bool false, .bool false, .bool false, .bool false, .bool false, .bool false, .bool false] 75)).alloc (.cells #[.bool false, .bool false, .bool false, .bool false, .bool false, .bool false, .bool false, .bool false] 75)).heap[w.heap.size]? = some (.cells #[.bool b0, .bool b1, .bool b2, .bool b3, .bool b4, .bool b5, .bool b6, .bool b7] 75 (0, 0)) := Qr (heap_alloc2_old w _ _) _
 have hR : (((w.alloc (.cells #[.bool b0, .bool b1, .bool b2, .bool b3, .bool b4, .bool b5, .bool b6, .bool b7] 75)).alloc (.cells #[.bool false, .bool false, .bool false, .bool false, .bool false, .bool false, .bool false, .bool false] 75)).alloc (.cells #[.bool false, .bool false, .bool false, .bool false, .bool false, .bool false, .bool false, .bool false] 75)).heap[w.heap.size + 1]? = some (.cells #[.bool false, .bool false, .bool false, .bool false, .bool false, .bool false, .bool false, .bool false] 75 (0, 0)) := Qr (heap_alloc2_new w _ _) _
 have hM : (((w.alloc (.cells #[.bool b0, .bool b1, .bool b2, .bool b3, .bool b4, .bool b5, .bool b6, .bool b7] 75)).alloc (.cells #[.bool false, .bool false, .bool false, .bool false, .bool false, .bool false, .bool false, .bool false] 75)).alloc (.cells #[.bool false, .bool false, .bool false, .bool false, .bool false, .bool false, .bool false, .bool false] 75)).heap[w.heap.size + 2]? = some (.cells [.bool false, .bool false, .bool false, .bool false, .bool false, .bool false, .bool false, .bool false].toArray 75 (0, 0)) := by
  have := heap_alloc_new ((w.alloc (.cells #[.bool b0, .bool b1, .bool b2, .bool b3, .bool b4, .bool b5, .bool b6, .bool b7] 75)).alloc (.cells #[.bool false, .bool false, .bool false, .bool false, .bool false, .bool false, .bool false, .bool false] 75)) (.cells #[.bool false, .bool false, .bool false, .bool false, .bool false, .bool false, .bool false, .bool false] 75)
  simpa using this
 have hsrc : ∀ j v, ([.bool b0, .bool b1, .bool b2, .bool b3, .bool b4, .bool b5, .bool b6] : List Value)[j]? = some v → (((w.alloc (.cells #[.bool b0, .bool b1, .bool b2, .bool b3, .bool b4, .bool b5, .bool b6, .bool b7] 75)).alloc (.cells #[.bool false, .bool false, .bool false, .bool false, .bool false, .bool false, .bool false, .bool false] 75)).alloc (.cells #[.bool false, .bool false, .bool false, .bool false, .bool false, .bool false, .bool false, .bool false] 75)).cell? ((⟨w.heap.size, 0, none⟩ : Addr).add j) = some v := by
  intro j v hv
  rw [WideShapes.add_plain, Nat.zero_add]
  match j, hv with
  | 0, hv => cases hv; exact Qa hA 0
  | 1, hv => cases hv; exact Qa hA 1
  | 2, hv => cases hv; exact Qa hA 2
  | 3, hv => cases hv; exact Qa hA 3
  | 4, hv => cases hv; exact Qa hA 4
  | 5, hv => cases hv; exact Qa hA 5
  | 6, hv => cases hv; exact Qa hA 6
 go_enter Tryz.func108, Tryz.ntmps108
 go_wp2
 generalize (((w.alloc (.cells #[.bool b0, .bool b1, .bool b2, .bool b3, .bool b4, .bool b5, .bool b6, .bool b7] 75)).alloc (.cells #[.bool false, .bool false, .bool false, .bool false, .bool false, .bool false, .bool false, .bool false] 75)).alloc (.cells #[.bool false, .bool false, .bool false, .bool false, .bool false, .bool false, .bool false, .bool false] 75)) = W at *
 go_region_law (first | (refine step_copy_splice (by rfl) (.tmp 8) (.tmp 9) 202 202 (by rfl) 4 Tryz.underlying202 Qad (some ⟨w.heap.size + 2, 1, none⟩) (some ⟨w.heap.size, 0, none⟩) 7 7 8 8 (by rfl) (by rfl) (w.heap.size + 2) 1 [.bool false, .bool false, .bool false, .bool false, .bool false, .bool false, .bool false, .bool false] 75 hM [.bool b0, .bool b1, .bool b2, .bool b3, .bool b4, .bool b5, .bool b6] (by rfl) (fun _ => ⟨rfl, ⟨w.heap.size, 0, none⟩, rfl, hsrc⟩) (by simp) (by simp [Value.oneCell']) (w.heap.size + 2) W ⟨rfl, rfl, rfl, Nat.le_refl _, fun _ _ => rfl⟩ (Nat.le_refl _) ?_; intro w4 hg4 hb4) | fail)
 all_goals
  have hm4 : w4.heap[w.heap.size + 2]? = some (.cells #[.bool false, .bool b0, .bool b1, .bool b2, .bool b3, .bool b4, .bool b5, .bool b6] 75 (0, 0)) := hg4.out
  have hr4 : w4.heap[w.heap.size + 1]? = some (.cells #[.bool false, .bool false, .bool false, .bool false, .bool false, .bool false, .bool false, .bool false] 75 (0, 0)) := by rw [hb4.block _ (by omega), hR]
  have hbw : Below w.heap.size w w4 := hb0.trans (hb4.mono (by omega))
  clear hg4 hb4 hA hR hM hsrc hb0
  have m0 := Qa hm4 0
  have d0 := Qa hr4 0
  have g0 := Qb hr4 0
  have m1 := Qa hm4 1
  have d1 := Qa hr4 1
  have g1 := Qb hr4 1
  have m2 := Qa hm4 2
  have d2 := Qa hr4 2
  have g2 := Qb hr4 2
  have m3 := Qa hm4 3
  have d3 := Qa hr4 3
  have g3 := Qb hr4 3
  have m4 := Qa hm4 4
  have d4 := Qa hr4 4
  have g4 := Qb hr4 4
  have m5 := Qa hm4 5
  have d5 := Qa hr4 5
  have g5 := Qb hr4 5
  have m6 := Qa hm4 6
  have d6 := Qa hr4 6
  have g6 := Qb hr4 6
  have m7 := Qa hm4 7
  have d7 := Qa hr4 7
  have g7 := Qb hr4 7
  have HR := hid hr4
  clear hm4 hr4
  have hne : w.heap.size + 1 ≠ w.heap.size + 2 := by omega
  have hne2 : w.heap.size + 2 ≠ w.heap.size + 1 := by omega
  go_wp2
  have hW := heap_setCell (j := 7) (heap_setCell (j := 6) (heap_setCell (j := 5) (heap_setCell (j := 4) (heap_setCell (j := 3) (heap_setCell (j := 2) (heap_setCell (j := 1) (heap_setCell (j := 0) HR.out (.bool false)) (.bool b0)) (.bool b1)) (.bool b2)) (.bool b3)) (.bool b4)) (.bool b5)) (.bool b6)
  have hS := Qh (Qh (Qh (Qh (Qh (Qh (Qh (Qe w4 (w.heap.size + 1) 0 (.bool false)) (Qe _ (w.heap.size + 1) 1 (.bool b0))) (Qe _ (w.heap.size + 1) 2 (.bool b1))) (Qe _ (w.heap.size + 1) 3 (.bool b2))) (Qe _ (w.heap.size + 1) 4 (.bool b3))) (Qe _ (w.heap.size + 1) 5 (.bool b4))) (Qe _ (w.heap.size + 1) 6 (.bool b5))) (Qe _ (w.heap.size + 1) 7 (.bool b6))
  exact bodyPost_ret (results_cell_row rfl _ _ (w.heap.size + 1) 75 _ (0, 0) _ rfl hW Tryz.underlying75 rfl (by kernel_rfl)) rfl ⟨rfl, hbw.grown hS hbw.size (fun k hk => by have := Option.some.inj hk; omega)⟩
set_option maxRecDepth 100000 in
set_option maxHeartbeats 1600000 in
theorem Qlv (b0 b1 b2 b3 b4 b5 b6 b7 : Bool) (w : World) :
 Calls Tryz.prog 108 #[.agg #[.bool b0, .bool b1, .bool b2, .bool b3, .bool b4, .bool b5, .bool b6, .bool b7], .int .i64 2] w fun e w' => e = .returned (.agg #[.bool false, .bool false, .bool b0, .bool b1, .bool b2, .bool b3, .bool b4, .bool b5]) ∧ Below w.heap.size w w' := by
 have hb0 : Below w.heap.size w (((w.alloc (.cells #[.bool b0, .bool b1, .bool b2, .bool b3, .bool b4, .bool b5, .bool b6, .bool b7] 75)).alloc (.cells #[.bool false, .bool false, .bool false, .bool false, .bool false, .bool false, .bool false, .bool false] 75)).alloc (.cells #[.bool false, .bool false, .bool false, .bool false, .bool false, .bool false, .bool false, .bool false] 75)) := ((Qc w _).alloc (by simp) _).alloc (by simp; omega) _
 have hA : (((w.alloc (.cells #[.bool b0, .bool b1, .bool b2, .bool b3, .bool b4, .bool b5, .bool b6, .bool b7] 75)).alloc (.cells #[.bool false, .bool false, .bool false, .bool false, .bool false, .bool false, .bool false, .bool false] 75)).alloc (.cells #[.bool false, .bool false, .bool false, .bool false, .bool false, .bool false, .bool false, .bool false] 75)).heap[w.heap.size]? = some (.cells #[.bool b0, .bool b1, .bool b2, .bool b3, .bool b4, .bool b5, .bool b6, .bool b7] 75 (0, 0)) := Qr (heap_alloc2_old w _ _) _
 have hR : (((w.alloc (.cells #[.bool b0, .bool b1, .bool b2, .bool b3, .bool b4, .bool b5, .bool b6, .bool b7] 75)).alloc (.cells #[.bool false, .bool false, .bool false, .bool false, .bool false, .bool false, .bool false, .bool false] 75)).alloc (.cells #[.bool false, .bool false, .bool false, .bool false, .bool false, .bool false, .bool false, .bool false] 75)).heap[w.heap.size + 1]? = some (.cells #[.bool false, .bool false, .bool false, .bool false, .bool false, .bool false, .bool false, .bool false] 75 (0, 0)) := Qr (heap_alloc2_new w _ _) _
 have hM : (((w.alloc (.cells #[.bool b0, .bool b1, .bool b2, .bool b3, .bool b4, .bool b5, .bool b6, .bool b7] 75)).alloc (.cells #[.bool false, .bool false, .bool false, .bool false, .bool false, .bool false, .bool false, .bool false] 75)).alloc (.cells #[.bool false, .bool false, .bool false, .bool false, .bool false, .bool false, .bool false, .bool false] 75)).heap[w.heap.size + 2]? = some (.cells [.bool false, .bool false, .bool false, .bool false, .bool false, .bool false, .bool false, .bool false].toArray 75 (0, 0)) := by
  have := heap_alloc_new ((w.alloc (.cells #[.bool b0, .bool b1, .bool b2, .bool b3, .bool b4, .bool b5, .bool b6, .bool b7] 75)).alloc (.cells #[.bool false, .bool false, .bool false, .bool false, .bool false, .bool false, .bool false, .bool false] 75)) (.cells #[.bool false, .bool false, .bool false, .bool false, .bool false, .bool false, .bool false, .bool false] 75)
  simpa using this
 have hsrc : ∀ j v, ([.bool b0, .bool b1, .bool b2, .bool b3, .bool b4, .bool b5] : List Value)[j]? = some v → (((w.alloc (.cells #[.bool b0, .bool b1, .bool b2, .bool b3, .bool b4, .bool b5, .bool b6, .bool b7] 75)).alloc (.cells #[.bool false, .bool false, .bool false, .bool false, .bool false, .bool false, .bool false, .bool false] 75)).alloc (.cells #[.bool false, .bool false, .bool false, .bool false, .bool false, .bool false, .bool false, .bool false] 75)).cell? ((⟨w.heap.size, 0, none⟩ : Addr).add j) = some v := by
  intro j v hv
  rw [WideShapes.add_plain, Nat.zero_add]
  match j, hv with
  | 0, hv => cases hv; exact Qa hA 0
  | 1, hv => cases hv; exact Qa hA 1
  | 2, hv => cases hv; exact Qa hA 2
  | 3, hv => cases hv; exact Qa hA 3
  | 4, hv => cases hv; exact Qa hA 4
  | 5, hv => cases hv; exact Qa hA 5
 go_enter Tryz.func108, Tryz.ntmps108
 go_wp2
 generalize (((w.alloc (.cells #[.bool b0, .bool b1, .bool b2, .bool b3, .bool b4, .bool b5, .bool b6, .bool b7] 75)).alloc (.cells #[.bool false, .bool false, .bool false, .bool false, .bool false, .bool false, .bool false, .bool false] 75)).alloc (.cells #[.bool false, .bool false, .bool false, .bool false, .bool false, .bool false, .bool false, .bool false] 75)) = W at *
 go_region_law (first | (refine step_copy_splice (by rfl) (.tmp 8) (.tmp 9) 202 202 (by rfl) 4 Tryz.underlying202 Qad (some ⟨w.heap.size + 2, 2, none⟩) (some ⟨w.heap.size, 0, none⟩) 6 6 8 8 (by rfl) (by rfl) (w.heap.size + 2) 2 [.bool false, .bool false, .bool false, .bool false, .bool false, .bool false, .bool false, .bool false] 75 hM [.bool b0, .bool b1, .bool b2, .bool b3, .bool b4, .bool b5] (by rfl) (fun _ => ⟨rfl, ⟨w.heap.size, 0, none⟩, rfl, hsrc⟩) (by simp) (by simp [Value.oneCell']) (w.heap.size + 2) W ⟨rfl, rfl, rfl, Nat.le_refl _, fun _ _ => rfl⟩ (Nat.le_refl _) ?_; intro w4 hg4 hb4) | fail)
 all_goals
  have hm4 : w4.heap[w.heap.size + 2]? = some (.cells #[.bool false, .bool false, .bool b0, .bool b1, .bool b2, .bool b3, .bool b4, .bool b5] 75 (0, 0)) := hg4.out
  have hr4 : w4.heap[w.heap.size + 1]? = some (.cells #[.bool false, .bool false, .bool false, .bool false, .bool false, .bool false, .bool false, .bool false] 75 (0, 0)) := by rw [hb4.block _ (by omega), hR]
  have hbw : Below w.heap.size w w4 := hb0.trans (hb4.mono (by omega))
  clear hg4 hb4 hA hR hM hsrc hb0
  have m0 := Qa hm4 0
  have d0 := Qa hr4 0
  have g0 := Qb hr4 0
  have m1 := Qa hm4 1
  have d1 := Qa hr4 1
  have g1 := Qb hr4 1
  have m2 := Qa hm4 2
  have d2 := Qa hr4 2
  have g2 := Qb hr4 2
  have m3 := Qa hm4 3
  have d3 := Qa hr4 3
  have g3 := Qb hr4 3
  have m4 := Qa hm4 4
  have d4 := Qa hr4 4
  have g4 := Qb hr4 4
  have m5 := Qa hm4 5
  have d5 := Qa hr4 5
  have g5 := Qb hr4 5
  have m6 := Qa hm4 6
  have d6 := Qa hr4 6
  have g6 := Qb hr4 6
  have m7 := Qa hm4 7
  have d7 := Qa hr4 7
  have g7 := Qb hr4 7
  have HR := hid hr4
  clear hm4 hr4
  have hne : w.heap.size + 1 ≠ w.heap.size + 2 := by omega
  have hne2 : w.heap.size + 2 ≠ w.heap.size + 1 := by omega
  go_wp2
  have hW := heap_setCell (j := 7) (heap_setCell (j := 6) (heap_setCell (j := 5) (heap_setCell (j := 4) (heap_setCell (j := 3) (heap_setCell (j := 2) (heap_setCell (j := 1) (heap_setCell (j := 0) HR.out (.bool false)) (.bool false)) (.bool b0)) (.bool b1)) (.bool b2)) (.bool b3)) (.bool b4)) (.bool b5)
  have hS := Qh (Qh (Qh (Qh (Qh (Qh (Qh (Qe w4 (w.heap.size + 1) 0 (.bool false)) (Qe _ (w.heap.size + 1) 1 (.bool false))) (Qe _ (w.heap.size + 1) 2 (.bool b0))) (Qe _ (w.heap.size + 1) 3 (.bool b1))) (Qe _ (w.heap.size + 1) 4 (.bool b2))) (Qe _ (w.heap.size + 1) 5 (.bool b3))) (Qe _ (w.heap.size + 1) 6 (.bool b4))) (Qe _ (w.heap.size + 1) 7 (.bool b5))
  exact bodyPost_ret (results_cell_row rfl _ _ (w.heap.size + 1) 75 _ (0, 0) _ rfl hW Tryz.underlying75 rfl (by kernel_rfl)) rfl ⟨rfl, hbw.grown hS hbw.size (fun k hk => by have := Option.some.inj hk; omega)⟩
set_option maxRecDepth 100000 in
set_option maxHeartbeats 1600000 in
theorem Qlu (b0 b1 b2 b3 b4 b5 b6 b7 : Bool) (w : World) :
 Calls Tryz.prog 108 #[.agg #[.bool b0, .bool b1, .bool b2, .bool b3, .bool b4, .bool b5, .bool b6, .bool b7], .int .i64 3] w fun e w' => e = .returned (.agg #[.bool false, .bool false, .bool false, .bool b0, .bool b1, .bool b2, .bool b3, .bool b4]) ∧ Below w.heap.size w w' := by
 have hb0 : Below w.heap.size w (((w.alloc (.cells #[.bool b0, .bool b1, .bool b2, .bool b3, .bool b4, .bool b5, .bool b6, .bool b7] 75)).alloc (.cells #[.bool false, .bool false, .bool false, .bool false, .bool false, .bool false, .bool false, .bool false] 75)).alloc (.cells #[.bool false, .bool false, .bool false, .bool false, .bool false, .bool false, .bool false, .bool false] 75)) := ((Qc w _).alloc (by simp) _).alloc (by simp; omega) _
 have hA : (((w.alloc (.cells #[.bool b0, .bool b1, .bool b2, .bool b3, .bool b4, .bool b5, .bool b6, .bool b7] 75)).alloc (.cells #[.bool false, .bool false, .bool false, .bool false, .bool false, .bool false, .bool false, .bool false] 75)).alloc (.cells #[.bool false, .bool false, .bool false, .bool false, .bool false, .bool false, .bool false, .bool false] 75)).heap[w.heap.size]? = some (.cells #[.bool b0, .bool b1, .bool b2, .bool b3, .bool b4, .bool b5, .bool b6, .bool b7] 75 (0, 0)) := Qr (heap_alloc2_old w _ _) _
 have hR : (((w.alloc (.cells #[.bool b0, .bool b1, .bool b2, .bool b3, .bool b4, .bool b5, .bool b6, .bool b7] 75)).alloc (.cells #[.bool false, .bool false, .bool false, .bool false, .bool false, .bool false, .bool false, .bool false] 75)).alloc (.cells #[.bool false, .bool false, .bool false, .bool false, .bool false, .bool false, .bool false, .bool false] 75)).heap[w.heap.size + 1]? = some (.cells #[.bool false, .bool false, .bool false, .bool false, .bool false, .bool false, .bool false, .bool false] 75 (0, 0)) := Qr (heap_alloc2_new w _ _) _
 have hM : (((w.alloc (.cells #[.bool b0, .bool b1, .bool b2, .bool b3, .bool b4, .bool b5, .bool b6, .bool b7] 75)).alloc (.cells #[.bool false, .bool false, .bool false, .bool false, .bool false, .bool false, .bool false, .bool false] 75)).alloc (.cells #[.bool false, .bool false, .bool false, .bool false, .bool false, .bool false, .bool false, .bool false] 75)).heap[w.heap.size + 2]? = some (.cells [.bool false, .bool false, .bool false, .bool false, .bool false, .bool false, .bool false, .bool false].toArray 75 (0, 0)) := by
  have := heap_alloc_new ((w.alloc (.cells #[.bool b0, .bool b1, .bool b2, .bool b3, .bool b4, .bool b5, .bool b6, .bool b7] 75)).alloc (.cells #[.bool false, .bool false, .bool false, .bool false, .bool false, .bool false, .bool false, .bool false] 75)) (.cells #[.bool false, .bool false, .bool false, .bool false, .bool false, .bool false, .bool false, .bool false] 75)
  simpa using this
 have hsrc : ∀ j v, ([.bool b0, .bool b1, .bool b2, .bool b3, .bool b4] : List Value)[j]? = some v → (((w.alloc (.cells #[.bool b0, .bool b1, .bool b2, .bool b3, .bool b4, .bool b5, .bool b6, .bool b7] 75)).alloc (.cells #[.bool false, .bool false, .bool false, .bool false, .bool false, .bool false, .bool false, .bool false] 75)).alloc (.cells #[.bool false, .bool false, .bool false, .bool false, .bool false, .bool false, .bool false, .bool false] 75)).cell? ((⟨w.heap.size, 0, none⟩ : Addr).add j) = some v := by
  intro j v hv
  rw [WideShapes.add_plain, Nat.zero_add]
  match j, hv with
  | 0, hv => cases hv; exact Qa hA 0
  | 1, hv => cases hv; exact Qa hA 1
  | 2, hv => cases hv; exact Qa hA 2
  | 3, hv => cases hv; exact Qa hA 3
  | 4, hv => cases hv; exact Qa hA 4
 go_enter Tryz.func108, Tryz.ntmps108
 go_wp2
 generalize (((w.alloc (.cells #[.bool b0, .bool b1, .bool b2, .bool b3, .bool b4, .bool b5, .bool b6, .bool b7] 75)).alloc (.cells #[.bool false, .bool false, .bool false, .bool false, .bool false, .bool false, .bool false, .bool false] 75)).alloc (.cells #[.bool false, .bool false, .bool false, .bool false, .bool false, .bool false, .bool false, .bool false] 75)) = W at *
 go_region_law (first | (refine step_copy_splice (by rfl) (.tmp 8) (.tmp 9) 202 202 (by rfl) 4 Tryz.underlying202 Qad (some ⟨w.heap.size + 2, 3, none⟩) (some ⟨w.heap.size, 0, none⟩) 5 5 8 8 (by rfl) (by rfl) (w.heap.size + 2) 3 [.bool false, .bool false, .bool false, .bool false, .bool false, .bool false, .bool false, .bool false] 75 hM [.bool b0, .bool b1, .bool b2, .bool b3, .bool b4] (by rfl) (fun _ => ⟨rfl, ⟨w.heap.size, 0, none⟩, rfl, hsrc⟩) (by simp) (by simp [Value.oneCell']) (w.heap.size + 2) W ⟨rfl, rfl, rfl, Nat.le_refl _, fun _ _ => rfl⟩ (Nat.le_refl _) ?_; intro w4 hg4 hb4) | fail)
 all_goals
  have hm4 : w4.heap[w.heap.size + 2]? = some (.cells #[.bool false, .bool false, .bool false, .bool b0, .bool b1, .bool b2, .bool b3, .bool b4] 75 (0, 0)) := hg4.out
  have hr4 : w4.heap[w.heap.size + 1]? = some (.cells #[.bool false, .bool false, .bool false, .bool false, .bool false, .bool false, .bool false, .bool false] 75 (0, 0)) := by rw [hb4.block _ (by omega), hR]
  have hbw : Below w.heap.size w w4 := hb0.trans (hb4.mono (by omega))
  clear hg4 hb4 hA hR hM hsrc hb0
  have m0 := Qa hm4 0
  have d0 := Qa hr4 0
  have g0 := Qb hr4 0
  have m1 := Qa hm4 1
  have d1 := Qa hr4 1
  have g1 := Qb hr4 1
  have m2 := Qa hm4 2
  have d2 := Qa hr4 2
  have g2 := Qb hr4 2
  have m3 := Qa hm4 3
  have d3 := Qa hr4 3
  have g3 := Qb hr4 3
  have m4 := Qa hm4 4
  have d4 := Qa hr4 4
  have g4 := Qb hr4 4
  have m5 := Qa hm4 5
  have d5 := Qa hr4 5
  have g5 := Qb hr4 5
  have m6 := Qa hm4 6
  have d6 := Qa hr4 6
  have g6 := Qb hr4 6
  have m7 := Qa hm4 7
  have d7 := Qa hr4 7
  have g7 := Qb hr4 7
  have HR := hid hr4
  clear hm4 hr4
  have hne : w.heap.size + 1 ≠ w.heap.size + 2 := by omega
  have hne2 : w.heap.size + 2 ≠ w.heap.size + 1 := by omega
  go_wp2
  have hW := heap_setCell (j := 7) (heap_setCell (j := 6) (heap_setCell (j := 5) (heap_setCell (j := 4) (heap_setCell (j := 3) (heap_setCell (j := 2) (heap_setCell (j := 1) (heap_setCell (j := 0) HR.out (.bool false)) (.bool false)) (.bool false)) (.bool b0)) (.bool b1)) (.bool b2)) (.bool b3)) (.bool b4)
  have hS := Qh (Qh (Qh (Qh (Qh (Qh (Qh (Qe w4 (w.heap.size + 1) 0 (.bool false)) (Qe _ (w.heap.size + 1) 1 (.bool false))) (Qe _ (w.heap.size + 1) 2 (.bool false))) (Qe _ (w.heap.size + 1) 3 (.bool b0))) (Qe _ (w.heap.size + 1) 4 (.bool b1))) (Qe _ (w.heap.size + 1) 5 (.bool b2))) (Qe _ (w.heap.size + 1) 6 (.bool b3))) (Qe _ (w.heap.size + 1) 7 (.bool b4))
  exact bodyPost_ret (results_cell_row rfl _ _ (w.heap.size + 1) 75 _ (0, 0) _ rfl hW Tryz.underlying75 rfl (by kernel_rfl)) rfl ⟨rfl, hbw.grown hS hbw.size (fun k hk => by have := Option.some.inj hk; omega)⟩
set_option maxRecDepth 100000 in
set_option maxHeartbeats 1600000 in
theorem Qlt (b0 b1 b2 b3 b4 b5 b6 b7 : Bool) (w : World) :
 Calls Tryz.prog 108 #[.agg #[.bool b0, .bool b1, .bool b2, .bool b3, .bool b4, .bool b5, .bool b6, .bool b7], .int .i64 4] w fun e w' => e = .returned (.agg #[.bool false, .bool false, .bool false, .bool false, .bool b0, .bool b1, .bool b2, .bool b3]) ∧ Below w.heap.size w w' := by
 have hb0 : Below w.heap.size w (((w.alloc (.cells #[.bool b0, .bool b1, .bool b2, .bool b3, .bool b4, .bool b5, .bool b6, .bool b7] 75)).alloc (.cells #[.bool false, .bool false, .bool false, .bool false, .bool false, .bool false, .bool false, .bool false] 75)).alloc (.cells #[.bool false, .bool false, .bool false, .bool false, .bool false, .bool false, .bool false, .bool false] 75)) := ((Qc w _).alloc (by simp) _).alloc (by simp; omega) _
 have hA : (((w.alloc (.cells #[.bool b0, .bool b1, .bool b2, .bool b3, .bool b4, .bool b5, .bool b6, .bool b7] 75)).alloc (.cells #[.bool false, .bool false, .bool false, .bool false, .bool false, .bool false, .bool false, .bool false] 75)).alloc (.cells #[.bool false, .bool false, .bool false, .bool false, .bool false, .bool false, .bool false, .bool false] 75)).heap[w.heap.size]? = some (.cells #[.bool b0, .bool b1, .bool b2, .bool b3, .bool b4, .bool b5, .bool b6, .bool b7] 75 (0, 0)) := Qr (heap_alloc2_old w _ _) _
 have hR : (((w.alloc (.cells #[.bool b0, .bool b1, .bool b2, .bool b3, .bool b4, .bool b5, .bool b6, .bool b7] 75)).alloc (.cells #[.bool false, .bool false, .bool false, .bool false, .bool false, .bool false, .bool false, .bool false] 75)).alloc (.cells #[.bool false, .bool false, .bool false, .bool false, .bool false, .bool false, .bool false, .bool false] 75)).heap[w.heap.size + 1]? = some (.cells #[.bool false, .bool false, .bool false, .bool false, .bool false, .bool false, .bool false, .bool false] 75 (0, 0)) := Qr (heap_alloc2_new w _ _) _
 have hM : (((w.alloc (.cells #[.bool b0, .bool b1, .bool b2, .bool b3, .bool b4, .bool b5, .bool b6, .bool b7] 75)).alloc (.cells #[.bool false, .bool false, .bool false, .bool false, .bool false, .bool false, .bool false, .bool false] 75)).alloc (.cells #[.bool false, .bool false, .bool false, .bool false, .bool false, .bool false, .bool false, .bool false] 75)).heap[w.heap.size + 2]? = some (.cells [.bool false, .bool false, .bool false, .bool false, .bool false, .bool false, .bool false, .bool false].toArray 75 (0, 0)) := by
  have := heap_alloc_new ((w.alloc (.cells #[.bool b0, .bool b1, .bool b2, .bool b3, .bool b4, .bool b5, .bool b6, .bool b7] 75)).alloc (.cells #[.bool false, .bool false, .bool false, .bool false, .bool false, .bool false, .bool false, .bool false] 75)) (.cells #[.bool false, .bool false, .bool false, .bool false, .bool false, .bool false, .bool false, .bool false] 75)
  simpa using this
 have hsrc : ∀ j v, ([.bool b0, .bool b1, .bool b2, .bool b3] : List Value)[j]? = some v → (((w.alloc (.cells #[.bool b0, .bool b1, .bool b2, .bool b3, .bool b4, .bool b5, .bool b6, .bool b7] 75)).alloc (.cells #[.bool false, .bool false, .bool false, .bool false, .bool false, .bool false, .bool false, .bool false] 75)).alloc (.cells #[.bool false, .bool false, .bool false, .bool false, .bool false, .bool false, .bool false, .bool false] 75)).cell? ((⟨w.heap.size, 0, none⟩ : Addr).add j) = some v := by
  intro j v hv
  rw [WideShapes.add_plain, Nat.zero_add]
  match j, hv with
  | 0, hv => cases hv; exact Qa hA 0
  | 1, hv => cases hv; exact Qa hA 1
  | 2, hv => cases hv; exact Qa hA 2
  | 3, hv => cases hv; exact Qa hA 3
 go_enter Tryz.func108, Tryz.ntmps108
 go_wp2
 generalize (((w.alloc (.cells #[.bool b0, .bool b1, .bool b2, .bool b3, .bool b4, .bool b5, .bool b6, .bool b7] 75)).alloc (.cells #[.bool false, .bool false, .bool false, .bool false, .bool false, .bool false, .bool false, .bool false] 75)).alloc (.cells #[.bool false, .bool false, .bool false, .bool false, .bool false, .bool false, .bool false, .bool false] 75)) = W at *
 go_region_law (first | (refine step_copy_splice (by rfl) (.tmp 8) (.tmp 9) 202 202 (by rfl) 4 Tryz.underlying202 Qad (some ⟨w.heap.size + 2, 4, none⟩) (some ⟨w.heap.size, 0, none⟩) 4 4 8 8 (by rfl) (by rfl) (w.heap.size + 2) 4 [.bool false, .bool false, .bool false, .bool false, .bool false, .bool false, .bool false, .bool false] 75 hM [.bool b0, .bool b1, .bool b2, .bool b3] (by rfl) (fun _ => ⟨rfl, ⟨w.heap.size, 0, none⟩, rfl, hsrc⟩) (by simp) (by simp [Value.oneCell']) (w.heap.size + 2) W ⟨rfl, rfl, rfl, Nat.le_refl _, fun _ _ => rfl⟩ (Nat.le_refl _) ?_; intro w4 hg4 hb4) | fail)
 all_goals
  have hm4 : w4.heap[w.heap.size + 2]? = some (.cells #[.bool false, .bool false, .bool false, .bool false, .bool b0, .bool b1, .bool b2, .bool b3] 75 (0, 0)) := hg4.out
  have hr4 : w4.heap[w.heap.size + 1]? = some (.cells #[.bool false, .bool false, .bool false, .bool false, .bool false, .bool false, .bool false, .bool false] 75 (0, 0)) := by rw [hb4.block _ (by omega), hR]
  have hbw : Below w.heap.size w w4 := hb0.trans (hb4.mono (by omega))
  clear hg4 hb4 hA hR hM hsrc hb0
  have m0 := Qa hm4 0
  have d0 := Qa hr4 0
  have g0 := Qb hr4 0
  have m1 := Qa hm4 1
  have d1 := Qa hr4 1
  have g1 := Qb hr4 1
  have m2 := Qa hm4 2
  have d2 := Qa hr4 2
  have g2 := Qb hr4 2
  have m3 := Qa hm4 3
  have d3 := Qa hr4 3
  have g3 := Qb hr4 3
  have m4 := Qa hm4 4
  have d4 := Qa hr4 4
  have g4 := Qb hr4 4
  have m5 := Qa hm4 5
  have d5 := Qa hr4 5
  have g5 := Qb hr4 5
  have m6 := Qa hm4 6
  have d6 := Qa hr4 6
  have g6 := Qb hr4 6
  have m7 := Qa hm4 7
  have d7 := Qa hr4 7
  have g7 := Qb hr4 7
  have HR := hid hr4
  clear hm4 hr4
  have hne : w.heap.size + 1 ≠ w.heap.size + 2 := by omega
  have hne2 : w.heap.size + 2 ≠ w.heap.size + 1 := by omega
  go_wp2
  have hW := heap_setCell (j := 7) (heap_setCell (j := 6) (heap_setCell (j := 5) (heap_setCell (j := 4) (heap_setCell (j := 3) (heap_setCell (j := 2) (heap_setCell (j := 1) (heap_setCell (j := 0) HR.out (.bool false)) (.bool false)) (.bool false)) (.bool false)) (.bool b0)) (.bool b1)) (.bool b2)) (.bool b3)
  have hS := Qh (Qh (Qh (Qh (Qh (Qh (Qh (Qe w4 (w.heap.size + 1) 0 (.bool false)) (Qe _ (w.heap.size + 1) 1 (.bool false))) (Qe _ (w.heap.size + 1) 2 (.bool false))) (Qe _ (w.heap.size + 1) 3 (.bool false))) (Qe _ (w.heap.size + 1) 4 (.bool b0))) (Qe _ (w.heap.size + 1) 5 (.bool b1))) (Qe _ (w.heap.size + 1) 6 (.bool b2))) (Qe _ (w.heap.size + 1) 7 (.bool b3))
  exact bodyPost_ret (results_cell_row rfl _ _ (w.heap.size + 1) 75 _ (0, 0) _ rfl hW Tryz.underlying75 rfl (by kernel_rfl)) rfl ⟨rfl, hbw.grown hS hbw.size (fun k hk => by have := Option.some.inj hk; omega)⟩
set_option maxRecDepth 100000 in
set_option maxHeartbeats 1600000 in
theorem Qls (b0 b1 b2 b3 b4 b5 b6 b7 : Bool) (w : World) :
 Calls Tryz.prog 108 #[.agg #[.bool b0, .bool b1, .bool b2, .bool b3, .bool b4, .bool b5, .bool b6, .bool b7], .int .i64 5] w fun e w' => e = .returned (.agg #[.bool false, .bool false, .bool false, .bool false, .bool false, .bool b0, .bool b1, .bool b2]) ∧ Below w.heap.size w w' := by
 have hb0 : Below w.heap.size w (((w.alloc (.cells #[.bool b0, .bool b1, .bool b2, .bool b3, .bool b4, .bool b5, .bool b6, .bool b7] 75)).alloc (.cells #[.bool false, .bool false, .bool false, .bool false, .bool false, .bool false, .bool false, .bool false] 75)).alloc (.cells #[.bool false, .bool false, .bool false, .bool false, .bool false, .bool false, .bool false, .bool false] 75)) := ((Qc w _).alloc (by simp) _).alloc (by simp; omega) _
 have hA : (((w.alloc (.cells #[.bool b0, .bool b1, .bool b2, .bool b3, .bool b4, .bool b5, .bool b6, .bool b7] 75)).alloc (.cells #[.bool false, .bool false, .bool false, .bool false, .bool false, .bool false, .bool false, .bool false] 75)).alloc (.cells #[.bool false, .bool false, .bool false, .bool false, .bool false, .bool false, .bool false, .bool false] 75)).heap[w.heap.size]? = some (.cells #[.bool b0, .bool b1, .bool b2, .bool b3, .bool b4, .bool b5, .bool b6, .bool b7] 75 (0, 0)) := Qr (heap_alloc2_old w _ _) _
 have hR : (((w.alloc (.cells #[.bool b0, .bool b1, .bool b2, .bool b3, .bool b4, .bool b5, .bool b6, .bool b7] 75)).alloc (.cells #[.bool false, .bool false, .bool false, .bool false, .bool false, .bool false, .bool false, .bool false] 75)).alloc (.cells #[.bool false, .bool false, .bool false, .bool false, .bool false, .bool false, .bool false, .bool false] 75)).heap[w.heap.size + 1]? = some (.cells #[.bool false, .bool false, .bool false, .bool false, .bool false, .bool false, .bool false, .bool false] 75 (0, 0)) := Qr (heap_alloc2_new w _ _) _
 have hM : (((w.alloc (.cells #[.bool b0, .bool b1, .bool b2, .bool b3, .bool b4, .bool b5, .bool b6, .bool b7] 75)).alloc (.cells #[.bool false, .bool false, .bool false, .bool false, .bool false, .bool false, .bool false, .bool false] 75)).alloc (.cells #[.bool false, .bool false, .bool false, .bool false, .bool false, .bool false, .bool false, .bool false] 75)).heap[w.heap.size + 2]? = some (.cells [.bool false, .bool false, .bool false, .bool false, .bool false, .bool false, .bool false, .bool false].toArray 75 (0, 0)) := by
  have := heap_alloc_new ((w.alloc (.cells #[.bool b0, .bool b1, .bool b2, .bool b3, .bool b4, .bool b5, .bool b6, .bool b7] 75)).alloc (.cells #[.bool false, .bool false, .bool false, .bool false, .bool false, .bool false, .bool false, .bool false] 75)) (.cells #[.bool false, .bool false, .bool false, .bool false, .bool false, .bool false, .bool false, .bool false] 75)
  simpa using this
 have hsrc : ∀ j v, ([.bool b0, .bool b1, .bool b2] : List Value)[j]? = some v → (((w.alloc (.cells #[.bool b0, .bool b1, .bool b2, .bool b3, .bool b4, .bool b5, .bool b6, .bool b7] 75)).alloc (.cells #[.bool false, .bool false, .bool false, .bool false, .bool false, .bool false, .bool false, .bool false] 75)).alloc (.cells #[.bool false, .bool false, .bool false, .bool false, .bool false, .bool false, .bool false, .bool false] 75)).cell? ((⟨w.heap.size, 0, none⟩ : Addr).add j) = some v := by
  intro j v hv
  rw [WideShapes.add_plain, Nat.zero_add]
  match j, hv with
  | 0, hv => cases hv; exact Qa hA 0
  | 1, hv => cases hv; exact Qa hA 1
  | 2, hv => cases hv; exact Qa hA 2
 go_enter Tryz.func108, Tryz.ntmps108
 go_wp2
 generalize (((w.alloc (.cells #[.bool b0, .bool b1, .bool b2, .bool b3, .bool b4, .bool b5, .bool b6, .bool b7] 75)).alloc (.cells #[.bool false, .bool false, .bool false, .bool false, .bool false, .bool false, .bool false, .bool false] 75)).alloc (.cells #[.bool false, .bool false, .bool false, .bool false, .bool false, .bool false, .bool false, .bool false] 75)) = W at *
 go_region_law (first | (refine step_copy_splice (by rfl) (.tmp 8) (.tmp 9) 202 202 (by rfl) 4 Tryz.underlying202 Qad (some ⟨w.heap.size + 2, 5, none⟩) (some ⟨w.heap.size, 0, none⟩) 3 3 8 8 (by rfl) (by rfl) (w.heap.size + 2) 5 [.bool false, .bool false, .bool false, .bool false, .bool false, .bool false, .bool false, .bool false] 75 hM [.bool b0, .bool b1, .bool b2] (by rfl) (fun _ => ⟨rfl, ⟨w.heap.size, 0, none⟩, rfl, hsrc⟩) (by simp) (by simp [Value.oneCell']) (w.heap.size + 2) W ⟨rfl, rfl, rfl, Nat.le_refl _, fun _ _ => rfl⟩ (Nat.le_refl _) ?_; intro w4 hg4 hb4) | fail)
 all_goals
  have hm4 : w4.heap[w.heap.size + 2]? = some (.cells #[.bool false, .bool false, .bool false, .bool false, .bool false, .bool b0, .bool b1, .bool b2] 75 (0, 0)) := hg4.out
  have hr4 : w4.heap[w.heap.size + 1]? = some (.cells #[.bool false, .bool false, .bool false, .bool false, .bool false, .bool false, .bool false, .bool false] 75 (0, 0)) := by rw [hb4.block _ (by omega), hR]
  have hbw : Below w.heap.size w w4 := hb0.trans (hb4.mono (by omega))
  clear hg4 hb4 hA hR hM hsrc hb0
  have m0 := Qa hm4 0
  have d0 := Qa hr4 0
  have g0 := Qb hr4 0
  have m1 := Qa hm4 1
  have d1 := Qa hr4 1
  have g1 := Qb hr4 1
  have m2 := Qa hm4 2
  have d2 := Qa hr4 2
  have g2 := Qb hr4 2
  have m3 := Qa hm4 3
  have d3 := Qa hr4 3
  have g3 := Qb hr4 3
  have m4 := Qa hm4 4
  have d4 := Qa hr4 4
  have g4 := Qb hr4 4
  have m5 := Qa hm4 5
  have d5 := Qa hr4 5
  have g5 := Qb hr4 5
  have m6 := Qa hm4 6
  have d6 := Qa hr4 6
  have g6 := Qb hr4 6
  have m7 := Qa hm4 7
  have d7 := Qa hr4 7
  have g7 := Qb hr4 7
  have HR := hid hr4
  clear hm4 hr4
  have hne : w.heap.size + 1 ≠ w.heap.size + 2 := by omega
  have hne2 : w.heap.size + 2 ≠ w.heap.size + 1 := by omega
  go_wp2
  have hW := heap_setCell (j := 7) (heap_setCell (j := 6) (heap_setCell (j := 5) (heap_setCell (j := 4) (heap_setCell (j := 3) (heap_setCell (j := 2) (heap_setCell (j := 1) (heap_setCell (j := 0) HR.out (.bool false)) (.bool false)) (.bool false)) (.bool false)) (.bool false)) (.bool b0)) (.bool b1)) (.bool b2)
  have hS := Qh (Qh (Qh (Qh (Qh (Qh (Qh (Qe w4 (w.heap.size + 1) 0 (.bool false)) (Qe _ (w.heap.size + 1) 1 (.bool false))) (Qe _ (w.heap.size + 1) 2 (.bool false))) (Qe _ (w.heap.size + 1) 3 (.bool false))) (Qe _ (w.heap.size + 1) 4 (.bool false))) (Qe _ (w.heap.size + 1) 5 (.bool b0))) (Qe _ (w.heap.size + 1) 6 (.bool b1))) (Qe _ (w.heap.size + 1) 7 (.bool b2))
  exact bodyPost_ret (results_cell_row rfl _ _ (w.heap.size + 1) 75 _ (0, 0) _ rfl hW Tryz.underlying75 rfl (by kernel_rfl)) rfl ⟨rfl, hbw.grown hS hbw.size (fun k hk => by have := Option.some.inj hk; omega)⟩
set_option maxRecDepth 100000 in
set_option maxHeartbeats 1600000 in
theorem Qlr (b0 b1 b2 b3 b4 b5 b6 b7 : Bool) (w : World) :
 Calls Tryz.prog 108 #[.agg #[.bool b0, .bool b1, .bool b2, .bool b3, .bool b4, .bool b5, .bool b6, .bool b7], .int .i64 6] w fun e w' => e = .returned (.agg #[.bool false, .bool false, .bool false, .bool false, .bool false, .bool false, .bool b0, .bool b1]) ∧ Below w.heap.size w w' := by
 have hb0 : Below w.heap.size w (((w.alloc (.cells #[.bool b0, .bool b1, .bool b2, .bool b3, .bool b4, .bool b5, .bool b6, .bool b7] 75)).alloc (.cells #[.bool false, .bool false, .bool false, .bool false, .bool false, .bool false, .bool false, .bool false] 75)).alloc (.cells #[.bool false, .bool false, .bool false, .bool false, .bool false, .bool false, .bool false, .bool false] 75)) := ((Qc w _).alloc (by simp) _).alloc (by simp; omega) _
 have hA : (((w.alloc (.cells #[.bool b0, .bool b1, .bool b2, .bool b3, .bool b4, .bool b5, .bool b6, .bool b7] 75)).alloc (.cells #[.bool false, .bool false, .bool false, .bool false, .bool false, .bool false, .bool false, .bool false] 75)).alloc (.cells #[.bool false, .bool false, .bool false, .bool false, .bool false, .bool false, .bool false, .bool false] 75)).heap[w.heap.size]? = some (.cells #[.bool b0, .bool b1, .bool b2, .bool b3, .bool b4, .bool b5, .bool b6, .bool b7] 75 (0, 0)) := Qr (heap_alloc2_old w _ _) _
 have hR : (((w.alloc (.cells #[.bool b0, .bool b1, .bool b2, .bool b3, .bool b4, .bool b5, .bool b6, .bool b7] 75)).alloc (.cells #[.bool false, .bool false, .bool false, .bool false, .bool false, .bool false, .bool false, .bool false] 75)).alloc (.cells #[.bool false, .bool false, .bool false, .bool false, .bool false, .bool false, .bool false, .bool false] 75)).heap[w.heap.size + 1]? = some (.cells #[.bool false, .bool false, .bool false, .bool false, .bool false, .bool false, .bool false, .bool false] 75 (0, 0)) := Qr (heap_alloc2_new w _ _) _
 have hM : (((w.alloc (.cells #[.bool b0, .bool b1, .bool b2, .bool b3, .bool b4, .bool b5, .bool b6, .bool b7] 75)).alloc (.cells #[.bool false, .bool false, .bool false, .bool false, .bool false, .bool false, .bool false, .bool false] 75)).alloc (.cells #[.bool false, .bool false, .bool false, .bool false, .bool false, .bool false, .bool false, .bool false] 75)).heap[w.heap.size + 2]? = some (.cells [.bool false, .bool false, .bool false, .bool false, .bool false, .bool false, .bool false, .bool false].toArray 75 (0, 0)) := by
  have := heap_alloc_new ((w.alloc (.cells #[.bool b0, .bool b1, .bool b2, .bool b3, .bool b4, .bool b5, .bool b6, .bool b7] 75)).alloc (.cells #[.bool false, .bool false, .bool false, .bool false, .bool false, .bool false, .bool false, .bool false] 75)) (.cells #[.bool false, .bool false, .bool false, .bool false, .bool false, .bool false, .bool false, .bool false] 75)
  simpa using this
 have hsrc : ∀ j v, ([.bool b0, .bool b1] : List Value)[j]? = some v → (((w.alloc (.cells #[.bool b0, .bool b1, .bool b2, .bool b3, .bool b4, .bool b5, .bool b6, .bool b7] 75)).alloc (.cells #[.bool false, .bool false, .bool false, .bool false, .bool false, .bool false, .bool false, .bool false] 75)).alloc (.cells #[.bool false, .bool false, .bool false, .bool false, .bool false, .bool false, .bool false, .bool false] 75)).cell? ((⟨w.heap.size, 0, none⟩ : Addr).add j) = some v := by
  intro j v hv
  rw [WideShapes.add_plain, Nat.zero_add]
  match j, hv with
  | 0, hv => cases hv; exact Qa hA 0
  | 1, hv => cases hv; exact Qa hA 1
 go_enter Tryz.func108, Tryz.ntmps108
 go_wp2
 generalize (((w.alloc (.cells #[.bool b0, .bool b1, .bool b2, .bool b3, .bool b4, .bool b5, .bool b6, .bool b7] 75)).alloc (.cells #[.bool false, .bool false, .bool false, .bool false, .bool false, .bool false, .bool false, .bool false] 75)).alloc (.cells #[.bool false, .bool false, .bool false, .bool false, .bool false, .bool false, .bool false, .bool false] 75)) = W at *
 go_region_law (first | (refine step_copy_splice (by rfl) (.tmp 8) (.tmp 9) 202 202 (by rfl) 4 Tryz.underlying202 Qad (some ⟨w.heap.size + 2, 6, none⟩) (some ⟨w.heap.size, 0, none⟩) 2 2 8 8 (by rfl) (by rfl) (w.heap.size + 2) 6 [.bool false, .bool false, .bool false, .bool false, .bool false, .bool false, .bool false, .bool false] 75 hM [.bool b0, .bool b1] (by rfl) (fun _ => ⟨rfl, ⟨w.heap.size, 0, none⟩, rfl, hsrc⟩) (by simp) (by simp [Value.oneCell']) (w.heap.size + 2) W ⟨rfl, rfl, rfl, Nat.le_refl _, fun _ _ => rfl⟩ (Nat.le_refl _) ?_; intro w4 hg4 hb4) | fail)
 all_goals
  have hm4 : w4.heap[w.heap.size + 2]? = some (.cells #[.bool false, .bool false, .bool false, .bool false, .bool false, .bool false, .bool b0, .bool b1] 75 (0, 0)) := hg4.out
  have hr4 : w4.heap[w.heap.size + 1]? = some (.cells #[.bool false, .bool false, .bool false, .bool false, .bool false, .bool false, .bool false, .bool false] 75 (0, 0)) := by rw [hb4.block _ (by omega), hR]
  have hbw : Below w.heap.size w w4 := hb0.trans (hb4.mono (by omega))
  clear hg4 hb4 hA hR hM hsrc hb0
  have m0 := Qa hm4 0
  have d0 := Qa hr4 0
  have g0 := Qb hr4 0
  have m1 := Qa hm4 1
  have d1 := Qa hr4 1
  have g1 := Qb hr4 1
  have m2 := Qa hm4 2
  have d2 := Qa hr4 2
  have g2 := Qb hr4 2
  have m3 := Qa hm4 3
  have d3 := Qa hr4 3
  have g3 := Qb hr4 3
  have m4 := Qa hm4 4
  have d4 := Qa hr4 4
  have g4 := Qb hr4 4
  have m5 := Qa hm4 5
  have d5 := Qa hr4 5
  have g5 := Qb hr4 5
  have m6 := Qa hm4 6
  have d6 := Qa hr4 6
  have g6 := Qb hr4 6
  have m7 := Qa hm4 7
  have d7 := Qa hr4 7
  have g7 := Qb hr4 7
  have HR := hid hr4
  clear hm4 hr4
  have hne : w.heap.size + 1 ≠ w.heap.size + 2 := by omega
  have hne2 : w.heap.size + 2 ≠ w.heap.size + 1 := by omega
  go_wp2
  have hW := heap_setCell (j := 7) (heap_setCell (j := 6) (heap_setCell (j := 5) (heap_setCell (j := 4) (heap_setCell (j := 3) (heap_setCell (j := 2) (heap_setCell (j := 1) (heap_setCell (j := 0) HR.out (.bool false)) (.bool false)) (.bool false)) (.bool false)) (.bool false)) (.bool false)) (.bool b0)) (.bool b1)
  have hS := Qh (Qh (Qh (Qh (Qh (Qh (Qh (Qe w4 (w.heap.size + 1) 0 (.bool false)) (Qe _ (w.heap.size + 1) 1 (.bool false))) (Qe _ (w.heap.size + 1) 2 (.bool false))) (Qe _ (w.heap.size + 1) 3 (.bool false))) (Qe _ (w.heap.size + 1) 4 (.bool false))) (Qe _ (w.heap.size + 1) 5 (.bool false))) (Qe _ (w.heap.size + 1) 6 (.bool b0))) (Qe _ (w.heap.size + 1) 7 (.bool b1))
  exact bodyPost_ret (results_cell_row rfl _ _ (w.heap.size + 1) 75 _ (0, 0) _ rfl hW Tryz.underlying75 rfl (by kernel_rfl)) rfl ⟨rfl, hbw.grown hS hbw.size (fun k hk => by have := Option.some.inj hk; omega)⟩
set_option maxRecDepth 100000 in
set_option maxHeartbeats 1600000 in
theorem Qlq (b0 b1 b2 b3 b4 b5 b6 b7 : Bool) (w : World) :
 Calls Tryz.prog 108 #[.agg #[.bool b0, .bool b1, .bool b2, .bool b3, .bool b4, .bool b5, .bool b6, .bool b7], .int .i64 7] w fun e w' => e = .returned (.agg #[.bool false, .bool false, .bool false, .bool false, .bool false, .bool false, .bool false, .bool b0]) ∧ Below w.heap.size w w' := by
 have hb0 : Below w.heap.size w (((w.alloc (.cells #[.bool b0, .bool b1, .bool b2, .bool b3, .bool b4, .bool b5, .bool b6, .bool b7] 75)).alloc (.cells #[.bool false, .bool false, .bool false, .bool false, .bool false, .bool false, .bool false, .bool false] 75)).alloc (.cells #[.bool false, .bool false, .bool false, .bool false, .bool false, .bool false, .bool false, .bool false] 75)) := ((Qc w _).alloc (by simp) _).alloc (by simp; omega) _
 have hA : (((w.alloc (.cells #[.bool b0, .bool b1, .bool b2, .bool b3, .bool b4, .bool b5, .bool b6, .bool b7] 75)).alloc (.cells #[.bool false, .bool false, .bool false, .bool false, .bool false, .bool false, .bool false, .bool false] 75)).alloc (.cells #[.bool false, .bool false, .bool false, .bool false, .bool false, .bool false, .bool false, .bool false] 75)).heap[w.heap.size]? = some (.cells #[.bool b0, .bool b1, .bool b2, .bool b3, .bool b4, .bool b5, .bool b6, .bool b7] 75 (0, 0)) := Qr (heap_alloc2_old w _ _) _
 have hR : (((w.alloc (.cells #[.bool b0, .bool b1, .bool b2, .bool b3, .bool b4, .bool b5, .bool b6, .bool b7] 75)).alloc (.cells #[.bool false, .bool false, .bool false, .bool false, .bool false, .bool false, .bool false, .bool false] 75)).alloc (.cells #[.bool false, .bool false, .bool false, .bool false, .bool false, .bool false, .bool false, .bool false] 75)).heap[w.heap.size + 1]? = some (.cells #[.bool false, .bool false, .bool false, .bool false, .bool false, .bool false, .bool false, .bool false] 75 (0, 0)) := Qr (heap_alloc2_new w _ _) _
 have hM : (((w.alloc (.cells #[.bool b0, .bool b1, .bool b2, .bool b3, .bool b4, .bool b5, .bool b6, .bool b7] 75)).alloc (.cells #[.bool false, .bool false, .bool false, .bool false, .bool false, .bool false, .bool false, .bool false] 75)).alloc (.cells #[.bool false, .bool false, .bool false, .bool false, .bool false, .bool false, .bool false, .bool false] 75)).heap[w.heap.size + 2]? = some (.cells [.bool false, .bool false, .bool false, .bool false, .bool false, .bool false, .bool false, .bool false].toArray 75 (0, 0)) := by
  have := heap_alloc_new ((w.alloc (.cells #[.bool b0, .bool b1, .bool b2, .bool b3, .bool b4, .bool b5, .bool b6, .bool b7] 75)).alloc (.cells #[.bool false, .bool false, .bool false, .bool false, .bool false, .bool false, .bool false, .bool false] 75)) (.cells #[.bool false, .bool false, .bool false, .bool false, .bool false, .bool false, .bool false, .bool false] 75)
  simpa using this
 have hsrc : ∀ j v, ([.bool b0] : List Value)[j]? = some v → (((w.alloc (.cells #[.bool b0, .bool b1, .bool b2, .bool b3, .bool b4, .bool b5, .bool b6, .bool b7] 75)).alloc (.cells #[.bool false, .bool false, .bool false, .bool false, .bool false, .bool false, .bool false, .bool false] 75)).alloc (.cells #[.bool false, .bool false, .bool false, .bool false, .bool false, .bool false, .bool false, .bool false] 75)).cell? ((⟨w.heap.size, 0, none⟩ : Addr).add j) = some v := by
  intro j v hv
  rw [WideShapes.add_plain, Nat.zero_add]
  match j, hv with
  | 0, hv => cases hv; exact Qa hA 0
 go_enter Tryz.func108, Tryz.ntmps108
 go_wp2
 generalize (((w.alloc (.cells #[.bool b0, .bool b1, .bool b2, .bool b3, .bool b4, .bool b5, .bool b6, .bool b7] 75)).alloc (.cells #[.bool false, .bool false, .bool false, .bool false, .bool false, .bool false, .bool false, .bool false] 75)).alloc (.cells #[.bool false, .bool false, .bool false, .bool false, .bool false, .bool false, .bool false, .bool false] 75)) = W at *
 go_region_law (first | (refine step_copy_splice (by rfl) (.tmp 8) (.tmp 9) 202 202 (by rfl) 4 Tryz.underlying202 Qad (some ⟨w.heap.size + 2, 7, none⟩) (some ⟨w.heap.size, 0, none⟩) 1 1 8 8 (by rfl) (by rfl) (w.heap.size + 2) 7 [.bool false, .bool false, .bool false, .bool false, .bool false, .bool false, .bool false, .bool false] 75 hM [.bool b0] (by rfl) (fun _ => ⟨rfl, ⟨w.heap.size, 0, none⟩, rfl, hsrc⟩) (by simp) (by simp [Value.oneCell']) (w.heap.size + 2) W ⟨rfl, rfl, rfl, Nat.le_refl _, fun _ _ => rfl⟩ (Nat.le_refl _) ?_; intro w4 hg4 hb4) | fail)
 all_goals
  have hm4 : w4.heap[w.heap.size + 2]? = some (.cells #[.bool false, .bool false, .bool false, .bool false, .bool false, .bool false, .bool false, .bool b0] 75 (0, 0)) := hg4.out
  have hr4 : w4.heap[w.heap.size + 1]? = some (.cells #[.bool false, .bool false, .bool false, .bool false, .bool false, .bool false, .bool false, .bool false] 75 (0, 0)) := by rw [hb4.block _ (by omega), hR]
  have hbw : Below w.heap.size w w4 := hb0.trans (hb4.mono (by omega))
  clear hg4 hb4 hA hR hM hsrc hb0
  have m0 := Qa hm4 0
  have d0 := Qa hr4 0
  have g0 := Qb hr4 0
  have m1 := Qa hm4 1
  have d1 := Qa hr4 1
  have g1 := Qb hr4 1
  have m2 := Qa hm4 2
  have d2 := Qa hr4 2
  have g2 := Qb hr4 2
  have m3 := Qa hm4 3
  have d3 := Qa hr4 3
  have g3 := Qb hr4 3
  have m4 := Qa hm4 4
  have d4 := Qa hr4 4
  have g4 := Qb hr4 4
  have m5 := Qa hm4 5
  have d5 := Qa hr4 5
  have g5 := Qb hr4 5
  have m6 := Qa hm4 6
  have d6 := Qa hr4 6
  have g6 := Qb hr4 6
  have m7 := Qa hm4 7
  have d7 := Qa hr4 7
  have g7 := Qb hr4 7
  have HR := hid hr4
  clear hm4 hr4
  have hne : w.heap.size + 1 ≠ w.heap.size + 2 := by omega
  have hne2 : w.heap.size + 2 ≠ w.heap.size + 1 := by omega
  go_wp2
  have hW := heap_setCell (j := 7) (heap_setCell (j := 6) (heap_setCell (j := 5) (heap_setCell (j := 4) (heap_setCell (j := 3) (heap_setCell (j := 2) (heap_setCell (j := 1) (heap_setCell (j := 0) HR.out (.bool false)) (.bool false)) (.bool false)) (.bool false)) (.bool false)) (.bool false)) (.bool false)) (.bool b0)
  have hS := Qh (Qh (Qh (Qh (Qh (Qh (Qh (Qe w4 (w.heap.size + 1) 0 (.bool false)) (Qe _ (w.heap.size + 1) 1 (.bool false))) (Qe _ (w.heap.size + 1) 2 (.bool false))) (Qe _ (w.heap.size + 1) 3 (.bool false))) (Qe _ (w.heap.size + 1) 4 (.bool false))) (Qe _ (w.heap.size + 1) 5 (.bool false))) (Qe _ (w.heap.size + 1) 6 (.bool false))) (Qe _ (w.heap.size + 1) 7 (.bool b0))
  exact bodyPost_ret (results_cell_row rfl _ _ (w.heap.size + 1) 75 _ (0, 0) _ rfl hW Tryz.underlying75 rfl (by kernel_rfl)) rfl ⟨rfl, hbw.grown hS hbw.size (fun k hk => by have := Option.some.inj hk; omega)⟩
set_option maxRecDepth 100000 in
set_option maxHeartbeats 1600000 in
theorem Qlp (b0 b1 b2 b3 b4 b5 b6 b7 : Bool) (w : World) :
 Calls Tryz.prog 108 #[.agg #[.bool b0, .bool b1, .bool b2, .bool b3, .bool b4, .bool b5, .bool b6, .bool b7], .int .i64 8] w fun e w' => e = .returned (.agg #[.bool false, .bool false, .bool false, .bool false, .bool false, .bool false, .bool false, .bool false]) ∧ Below w.heap.size w w' := by
 have hb0 : Below w.heap.size w (((w.alloc (.cells #[.bool b0, .bool b1, .bool b2, .bool b3, .bool b4, .bool b5, .bool b6, .bool b7] 75)).alloc (.cells #[.bool false, .bool false, .bool false, .bool false, .bool false, .bool false, .bool false, .bool false] 75)).alloc (.cells #[.bool false, .bool false, .bool false, .bool false, .bool false, .bool false, .bool false, .bool false] 75)) := ((Qc w _).alloc (by simp) _).alloc (by simp; omega) _
 have hA : (((w.alloc (.cells #[.bool b0, .bool b1, .bool b2, .bool b3, .bool b4, .bool b5, .bool b6, .bool b7] 75)).alloc (.cells #[.bool false, .bool false, .bool false, .bool false, .bool false, .bool false, .bool false, .bool false] 75)).alloc (.cells #[.bool false, .bool false, .bool false, .bool false, .bool false, .bool false, .bool false, .bool false] 75)).heap[w.heap.size]? = some (.cells #[.bool b0, .bool b1, .bool b2, .bool b3, .bool b4, .bool b5, .bool b6, .bool b7] 75 (0, 0)) := Qr (heap_alloc2_old w _ _) _
 have hR : (((w.alloc (.cells #[.bool b0, .bool b1, .bool b2, .bool b3, .bool b4, .bool b5, .bool b6, .bool b7] 75)).alloc (.cells #[.bool false, .bool false, .bool false, .bool false, .bool false, .bool false, .bool false, .bool false] 75)).alloc (.cells #[.bool false, .bool false, .bool false, .bool false, .bool false, .bool false, .bool false, .bool false] 75)).heap[w.heap.size + 1]? = some (.cells #[.bool false, .bool false, .bool false, .bool false, .bool false, .bool false, .bool false, .bool false] 75 (0, 0)) := Qr (heap_alloc2_new w _ _) _
 have hM : (((w.alloc (.cells #[.bool b0, .bool b1, .bool b2, .bool b3, .bool b4, .bool b5, .bool b6, .bool b7] 75)).alloc (.cells #[.bool false, .bool false, .bool false, .bool false, .bool false, .bool false, .bool false, .bool false] 75)).alloc (.cells #[.bool false, .bool false, .bool false, .bool false, .bool false, .bool false, .bool false, .bool false] 75)).heap[w.heap.size + 2]? = some (.cells [.bool false, .bool false, .bool false, .bool false, .bool false, .bool false, .bool false, .bool false].toArray 75 (0, 0)) := by
  have := heap_alloc_new ((w.alloc (.cells #[.bool b0, .bool b1, .bool b2, .bool b3, .bool b4, .bool b5, .bool b6, .bool b7] 75)).alloc (.cells #[.bool false, .bool false, .bool false, .bool false, .bool false, .bool false, .bool false, .bool false] 75)) (.cells #[.bool false, .bool false, .bool false, .bool false, .bool false, .bool false, .bool false, .bool false] 75)
  simpa using this
 go_enter Tryz.func108, Tryz.ntmps108
 go_wp2
 generalize (((w.alloc (.cells #[.bool b0, .bool b1, .bool b2, .bool b3, .bool b4, .bool b5, .bool b6, .bool b7] 75)).alloc (.cells #[.bool false, .bool false, .bool false, .bool false, .bool false, .bool false, .bool false, .bool false] 75)).alloc (.cells #[.bool false, .bool false, .bool false, .bool false, .bool false, .bool false, .bool false, .bool false] 75)) = W at *
 go_region_law (first | (refine step_copy_splice (by rfl) (.tmp 8) (.tmp 9) 202 202 (by rfl) 4 Tryz.underlying202 Qad _ _ _ _ _ _ (by rfl) (by rfl) (w.heap.size + 2) 8 [.bool false, .bool false, .bool false, .bool false, .bool false, .bool false, .bool false, .bool false] 75 hM [] (by rfl) (fun h => absurd h (by simp)) (by simp) (by simp [Value.oneCell']) (w.heap.size + 2) W ⟨rfl, rfl, rfl, Nat.le_refl _, fun _ _ => rfl⟩ (Nat.le_refl _) ?_; intro w4 hg4 hb4) | fail)
 all_goals
  have hm4 : w4.heap[w.heap.size + 2]? = some (.cells #[.bool false, .bool false, .bool false, .bool false, .bool false, .bool false, .bool false, .bool false] 75 (0, 0)) := hg4.out
  have hr4 : w4.heap[w.heap.size + 1]? = some (.cells #[.bool false, .bool false, .bool false, .bool false, .bool false, .bool false, .bool false, .bool false] 75 (0, 0)) := by rw [hb4.block _ (by omega), hR]
  have hbw : Below w.heap.size w w4 := hb0.trans (hb4.mono (by omega))
  clear hg4 hb4 hA hR hM hb0
  have m0 := Qa hm4 0
  have d0 := Qa hr4 0
  have g0 := Qb hr4 0
  have m1 := Qa hm4 1
  have d1 := Qa hr4 1
  have g1 := Qb hr4 1
  have m2 := Qa hm4 2
  have d2 := Qa hr4 2
  have g2 := Qb hr4 2
  have m3 := Qa hm4 3
  have d3 := Qa hr4 3
  have g3 := Qb hr4 3
  have m4 := Qa hm4 4
  have d4 := Qa hr4 4
  have g4 := Qb hr4 4
  have m5 := Qa hm4 5
  have d5 := Qa hr4 5
  have g5 := Qb hr4 5
  have m6 := Qa hm4 6
  have d6 := Qa hr4 6
  have g6 := Qb hr4 6
  have m7 := Qa hm4 7
  have d7 := Qa hr4 7
  have g7 := Qb hr4 7
  have HR := hid hr4
  clear hm4 hr4
  have hne : w.heap.size + 1 ≠ w.heap.size + 2 := by omega
  have hne2 : w.heap.size + 2 ≠ w.heap.size + 1 := by omega
  go_wp2
  have hW := heap_setCell (j := 7) (heap_setCell (j := 6) (heap_setCell (j := 5) (heap_setCell (j := 4) (heap_setCell (j := 3) (heap_setCell (j := 2) (heap_setCell (j := 1) (heap_setCell (j := 0) HR.out (.bool false)) (.bool false)) (.bool false)) (.bool false)) (.bool false)) (.bool false)) (.bool false)) (.bool false)
  have hS := Qh (Qh (Qh (Qh (Qh (Qh (Qh (Qe w4 (w.heap.size + 1) 0 (.bool false)) (Qe _ (w.heap.size + 1) 1 (.bool false))) (Qe _ (w.heap.size + 1) 2 (.bool false))) (Qe _ (w.heap.size + 1) 3 (.bool false))) (Qe _ (w.heap.size + 1) 4 (.bool false))) (Qe _ (w.heap.size + 1) 5 (.bool false))) (Qe _ (w.heap.size + 1) 6 (.bool false))) (Qe _ (w.heap.size + 1) 7 (.bool false))
  exact bodyPost_ret (results_cell_row rfl _ _ (w.heap.size + 1) 75 _ (0, 0) _ rfl hW Tryz.underlying75 rfl (by kernel_rfl)) rfl ⟨rfl, hbw.grown hS hbw.size (fun k hk => by have := Option.some.inj hk; omega)⟩
set_option maxRecDepth 100000 in
set_option maxHeartbeats 1600000 in
theorem Qlo (b0 b1 b2 b3 b4 b5 b6 b7 : Bool) (n : Int) (hn : 8 < n) (w : World) :
 Calls Tryz.prog 108 #[.agg #[.bool b0, .bool b1, .bool b2, .bool b3, .bool b4, .bool b5, .bool b6, .bool b7], .int .i64 n] w fun e w' => e = .returned (.agg #[.bool false, .bool false, .bool false, .bool false, .bool false, .bool false, .bool false, .bool false]) ∧ Below w.heap.size w w' := by
 have hb0 : Below w.heap.size w (((w.alloc (.cells #[.bool b0, .bool b1, .bool b2, .bool b3, .bool b4, .bool b5, .bool b6, .bool b7] 75)).alloc (.cells #[.bool false, .bool false, .bool false, .bool false, .bool false, .bool false, .bool false, .bool false] 75)).alloc (.cells #[.bool false, .bool false, .bool false, .bool false, .bool false, .bool false, .bool false, .bool false] 75)) := ((Qc w _).alloc (by simp) _).alloc (by simp; omega) _
 have hA : (((w.alloc (.cells #[.bool b0, .bool b1, .bool b2, .bool b3, .bool b4, .bool b5, .bool b6, .bool b7] 75)).alloc (.cells #[.bool false, .bool false, .bool false, .bool false, .bool false, .bool false, .bool false, .bool false] 75)).alloc (.cells #[.bool false, .bool false, .bool false, .bool false, .bool false, .bool false, .bool false, .bool false] 75)).heap[w.heap.size]? = some (.cells #[.bool b0, .bool b1, .bool b2, .bool b3, .bool b4, .bool b5, .bool b6, .bool b7] 75 (0, 0)) := Qr (heap_alloc2_old w _ _) _
 have hR : (((w.alloc (.cells #[.bool b0, .bool b1, .bool b2, .bool b3, .bool b4, .bool b5, .bool b6, .bool b7] 75)).alloc (.cells #[.bool false, .bool false, .bool false, .bool false, .bool false, .bool false, .bool false, .bool false] 75)).alloc (.cells #[.bool false, .bool false, .bool false, .bool false, .bool false, .bool false, .bool false, .bool false] 75)).heap[w.heap.size + 1]? = some (.cells #[.bool false, .bool false, .bool false, .bool false, .bool false, .bool false, .bool false, .bool false] 75 (0, 0)) := Qr (heap_alloc2_new w _ _) _
 have hM : (((w.alloc (.cells #[.bool b0, .bool b1, .bool b2, .bool b3, .bool b4, .bool b5, .bool b6, .bool b7] 75)).alloc (.cells #[.bool false, .bool false, .bool false, .bool false, .bool false, .bool false, .bool false, .bool false] 75)).alloc (.cells #[.bool false, .bool false, .bool false, .bool false, .bool false, .bool false, .bool false, .bool false] 75)).heap[w.heap.size + 2]? = some (.cells [.bool false, .bool false, .bool false, .bool false, .bool false, .bool false, .bool false, .bool false].toArray 75 (0, 0)) := by
  have := heap_alloc_new ((w.alloc (.cells #[.bool b0, .bool b1, .bool b2, .bool b3, .bool b4, .bool b5, .bool b6, .bool b7] 75)).alloc (.cells #[.bool false, .bool false, .bool false, .bool false, .bool false, .bool false, .bool false, .bool false] 75)) (.cells #[.bool false, .bool false, .bool false, .bool false, .bool false, .bool false, .bool false, .bool false] 75)
  simpa using this
 go_enter Tryz.func108, Tryz.ntmps108
 go_wp2
 generalize (((w.alloc (.cells #[.bool b0, .bool b1, .bool b2, .bool b3, .bool b4, .bool b5, .bool b6, .bool b7] 75)).alloc (.cells #[.bool false, .bool false, .bool false, .bool false, .bool false, .bool false, .bool false, .bool false] 75)).alloc (.cells #[.bool false, .bool false, .bool false, .bool false, .bool false, .bool false, .bool false, .bool false] 75)) = W at *
 go_region_law (first | (refine step_copy_splice (by rfl) (.tmp 8) (.tmp 9) 202 202 (by rfl) 4 Tryz.underlying202 Qad _ _ _ _ _ _ (by rfl) (by rfl) (w.heap.size + 2) 8 [.bool false, .bool false, .bool false, .bool false, .bool false, .bool false, .bool false, .bool false] 75 hM [] (by rfl) (fun h => absurd h (by simp)) (by simp) (by simp [Value.oneCell']) (w.heap.size + 2) W ⟨rfl, rfl, rfl, Nat.le_refl _, fun _ _ => rfl⟩ (Nat.le_refl _) ?_; intro w4 hg4 hb4) | fail)
 all_goals
  have hm4 : w4.heap[w.heap.size + 2]? = some (.cells #[.bool false, .bool false, .bool false, .bool false, .bool false, .bool false, .bool false, .bool false] 75 (0, 0)) := hg4.out
  have hr4 : w4.heap[w.heap.size + 1]? = some (.cells #[.bool false, .bool false, .bool false, .bool false, .bool false, .bool false, .bool false, .bool false] 75 (0, 0)) := by rw [hb4.block _ (by omega), hR]
  have hbw : Below w.heap.size w w4 := hb0.trans (hb4.mono (by omega))
  clear hg4 hb4 hA hR hM hb0
  have m0 := Qa hm4 0
  have d0 := Qa hr4 0
  have g0 := Qb hr4 0
  have m1 := Qa hm4 1
  have d1 := Qa hr4 1
  have g1 := Qb hr4 1
  have m2 := Qa hm4 2
  have d2 := Qa hr4 2
  have g2 := Qb hr4 2
  have m3 := Qa hm4 3
  have d3 := Qa hr4 3
  have g3 := Qb hr4 3
  have m4 := Qa hm4 4
  have d4 := Qa hr4 4
  have g4 := Qb hr4 4
  have m5 := Qa hm4 5
  have d5 := Qa hr4 5
  have g5 := Qb hr4 5
  have m6 := Qa hm4 6
  have d6 := Qa hr4 6
  have g6 := Qb hr4 6
  have m7 := Qa hm4 7
  have d7 := Qa hr4 7
  have g7 := Qb hr4 7
  have HR := hid hr4
  clear hm4 hr4
  have hne : w.heap.size + 1 ≠ w.heap.size + 2 := by omega
  have hne2 : w.heap.size + 2 ≠ w.heap.size + 1 := by omega
  go_wp2
  have hW := heap_setCell (j := 7) (heap_setCell (j := 6) (heap_setCell (j := 5) (heap_setCell (j := 4) (heap_setCell (j := 3) (heap_setCell (j := 2) (heap_setCell (j := 1) (heap_setCell (j := 0) HR.out (.bool false)) (.bool false)) (.bool false)) (.bool false)) (.bool false)) (.bool false)) (.bool false)) (.bool false)
  have hS := Qh (Qh (Qh (Qh (Qh (Qh (Qh (Qe w4 (w.heap.size + 1) 0 (.bool false)) (Qe _ (w.heap.size + 1) 1 (.bool false))) (Qe _ (w.heap.size + 1) 2 (.bool false))) (Qe _ (w.heap.size + 1) 3 (.bool false))) (Qe _ (w.heap.size + 1) 4 (.bool false))) (Qe _ (w.heap.size + 1) 5 (.bool false))) (Qe _ (w.heap.size + 1) 6 (.bool false))) (Qe _ (w.heap.size + 1) 7 (.bool false))
  exact bodyPost_ret (results_cell_row rfl _ _ (w.heap.size + 1) 75 _ (0, 0) _ rfl hW Tryz.underlying75 rfl (by kernel_rfl)) rfl ⟨rfl, hbw.grown hS hbw.size (fun k hk => by have := Option.some.inj hk; omega)⟩
theorem Qh9 (b0 b1 b2 b3 b4 b5 b6 b7 : Bool) (n : Int) (hn : 1 ≤ n) (w : World) :
 Calls Tryz.prog 108 #[.agg #[.bool b0, .bool b1, .bool b2, .bool b3, .bool b4, .bool b5, .bool b6, .bool b7], .int .i64 n] w fun e w' => ∃ c0 c1 c2 c3 c4 c5 c6 c7, shiftL n.toNat [b0, b1, b2, b3, b4, b5, b6, b7] = [c0, c1, c2, c3, c4, c5, c6, c7] ∧ e = .returned (.agg #[.bool c0, .bool c1, .bool c2, .bool c3, .bool c4, .bool c5, .bool c6, .bool c7]) ∧ Below w.heap.size w w' := by
 by_cases h1 : n = 1
 · subst h1
   refine (Qlw b0 b1 b2 b3 b4 b5 b6 b7 w).mono ?_
   rintro e w' ⟨rfl, hw⟩
   exact ⟨false, b0, b1, b2, b3, b4, b5, b6, rfl, rfl, hw⟩
 by_cases h2 : n = 2
 · subst h2
   refine (Qlv b0 b1 b2 b3 b4 b5 b6 b7 w).mono ?_
   rintro e w' ⟨rfl, hw⟩
   exact ⟨false, false, b0, b1, b2, b3, b4, b5, rfl, rfl, hw⟩
 by_cases h3 : n = 3
 · subst h3
   refine (Qlu b0 b1 b2 b3 b4 b5 b6 b7 w).mono ?_
   rintro e w' ⟨rfl, hw⟩
   exact ⟨false, false, false, b0, b1, b2, b3, b4, rfl, rfl, hw⟩
 by_cases h4 : n = 4
 · subst h4
   refine (Qlt b0 b1 b2 b3 b4 b5 b6 b7 w).mono ?_
   rintro e w' ⟨rfl, hw⟩
   exact ⟨false, false, false, false, b0, b1, b2, b3, rfl, rfl, hw⟩
 by_cases h5 : n = 5
 · subst h5
   refine (Qls b0 b1 b2 b3 b4 b5 b6 b7 w).mono ?_
   rintro e w' ⟨rfl, hw⟩
   exact ⟨false, false, false, false, false, b0, b1, b2, rfl, rfl, hw⟩
 by_cases h6 : n = 6
 · subst h6
   refine (Qlr b0 b1 b2 b3 b4 b5 b6 b7 w).mono ?_
   rintro e w' ⟨rfl, hw⟩
   exact ⟨false, false, false, false, false, false, b0, b1, rfl, rfl, hw⟩
 by_cases h7 : n = 7
 · subst h7
   refine (Qlq b0 b1 b2 b3 b4 b5 b6 b7 w).mono ?_
   rintro e w' ⟨rfl, hw⟩
   exact ⟨false, false, false, false, false, false, false, b0, rfl, rfl, hw⟩
 by_cases h8 : n = 8
 · subst h8
   refine (Qlp b0 b1 b2 b3 b4 b5 b6 b7 w).mono ?_
   rintro e w' ⟨rfl, hw⟩
   exact ⟨false, false, false, false, false, false, false, false, rfl, rfl, hw⟩
 refine (Qlo b0 b1 b2 b3 b4 b5 b6 b7 n (by omega) w).mono ?_
 rintro e w' ⟨rfl, hw⟩
 refine ⟨false, false, false, false, false, false, false, false, ?_, rfl, hw⟩
 unfold shiftL
 rw [show min n.toNat 8 = 8 by omega]
 rfl
theorem Qgj (t now : Int) (h1 : 1 ≤ t) (h2 : t ≤ 5) (h3 : 0 ≤ now) (h4 : now ≤ 1099511627776) (w : World) : Calls Tryz.prog 111 #[.int .i64 t, .int .i64 now] w fun e w' => e = .returned (.int .i64 (now + 2 ^ t.toNat)) ∧ w' = w := by
 have h : t = 1 ∨ t = 2 ∨ t = 3 ∨ t = 4 ∨ t = 5 := by omega
 rcases h with rfl | rfl | rfl | rfl | rfl
 all_goals
  go_enter Tryz.func111, Tryz.ntmps111
  go_wp2
  go_ret
  exact ⟨QG (by go_num), rfl⟩
end Go.Proofs.YtlbdaklmlknmbaaGreat
