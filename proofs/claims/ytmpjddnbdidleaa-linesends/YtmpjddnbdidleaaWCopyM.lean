/- The reference: CopyMail answers the same mail in memory of its own: the walk. -/
import Derived.Test.YtmpjddnbdidleaaWCopy
import Derived.Deep.RegionLaw
import Derived.Deep.RegionLawGrows
namespace Go.Proofs.Ytmpjddnbdidleaa
open Go.RowKit Go.Proofs.Parclose

theorem heap_none {w w' : World} {b : Nat} {o : Obj} (h : w.heap[b]? = some o) (hg : w.grownBy w' none) : w'.heap[b]? = some o := by
  rw [hg.block b (heap_lt h) (by simp), h]
theorem below_none {w w' : World} (hg : w.grownBy w' none) : Below w.heap.size w w' := ⟨hg.os, hg.tape, hg.output, hg.size, fun k hk => hg.block k hk (by simp)⟩

set_option maxRecDepth 100000 in
set_option maxHeartbeats 1600000 in
theorem rcopyMail_any (v : Value) (m : Mal) (w : World) (hv : MalAt w v m) :
    Calls Try.prog 31 #[v] w fun e w' => ∃ v', e = .returned v' ∧ (∀ w'', Since w.heap.size w' w'' → MalAt w'' v' m) ∧ Below w.heap.size w w' := by
  obtain ⟨vl, vg, rfl, hl, hg⟩ := hv
  obtain ⟨pl, cl, rfl, _⟩ := id hl
  obtain ⟨pg, cg, rfl, _⟩ := id hg
  unfold malV
  have hm := heap_alloc2_old w (.cells #[.int .i64 m.host, .int .i64 m.thread, .slice pl m.label.length cl, .slice pg m.grants.length cg, .string ⟨m.text.toArray⟩] 30) (.cells #[.int .i64 0, .int .i64 0, .slice none 0 0, .slice none 0 0, .string ⟨#[]⟩] 30)
  have hr := heap_alloc2_new w (.cells #[.int .i64 m.host, .int .i64 m.thread, .slice pl m.label.length cl, .slice pg m.grants.length cg, .string ⟨m.text.toArray⟩] 30) (.cells #[.int .i64 0, .int .i64 0, .slice none 0 0, .slice none 0 0, .string ⟨#[]⟩] 30)
  have hb0 : Below w.heap.size w ((w.alloc (.cells #[.int .i64 m.host, .int .i64 m.thread, .slice pl m.label.length cl, .slice pg m.grants.length cg, .string ⟨m.text.toArray⟩] 30)).alloc (.cells #[.int .i64 0, .int .i64 0, .slice none 0 0, .slice none 0 0, .string ⟨#[]⟩] 30)) := (below_box w _).alloc (by simp) _
  have hlt0 : (w.heap.size + 2 : Nat) = ((w.alloc (.cells #[.int .i64 m.host, .int .i64 m.thread, .slice pl m.label.length cl, .slice pg m.grants.length cg, .string ⟨m.text.toArray⟩] 30)).alloc (.cells #[.int .i64 0, .int .i64 0, .slice none 0 0, .slice none 0 0, .string ⟨#[]⟩] 30)).heap.size := by simp
  go_enter Try.func31, Try.ntmps31
  go_wp2
  generalize ((w.alloc (.cells #[.int .i64 m.host, .int .i64 m.thread, .slice pl m.label.length cl, .slice pg m.grants.length cg, .string ⟨m.text.toArray⟩] 30)).alloc (.cells #[.int .i64 0, .int .i64 0, .slice none 0 0, .slice none 0 0, .string ⟨#[]⟩] 30)) = W at *
  have c2 := heap_cell hm 2
  have c3 := heap_cell hm 3
  have k2 := heap_frozen hm 2
  have k3 := heap_frozen hm 3
  have hdec : (30 : Nat) ≠ 72 := by decide
  have hdec2 : (30 : Nat) ≠ 3 := by decide
  have hlW := hl.below hb0
  have hgW := hg.below hb0
  have hbase : w.heap.size + 2 ≤ W.heap.size := by omega
  go_region_law ((first
    | (refine step_copy2 (by rfl) (.tmp 4) (by rfl) (w.heap.size + 2) _ m.label (by rfl) (hlW.below (below_none hgB)) (by have := hgB.size; omega) ?_; intro vC wC hownC hgC; obtain ⟨pC, cC, rfl, _⟩ := owns_cells hownC; have hmC := heap_none hmB hgC; have hrC := heap_none hrB hgC; have hownB2 := hownB.kept hgC (Classical.em _); have hbC := below_then hb0 (below_then (below_none hgB) (below_none hgC)); have c2C := heap_cell hmC 2; have c3C := heap_cell hmC 3; have k2C := heap_frozen hmC 2; have k3C := heap_frozen hmC 3)
    | (refine step_copy1 (by rfl) (.tmp 7) (by rfl) (w.heap.size + 2) _ m.grants (by rfl) (hgW.below (below_none hgA)) (by have := hgA.size; omega) ?_; intro vD wD hownD hgD; obtain ⟨pD, cD, rfl, _⟩ := owns_cells hownD; have hmD := heap_none hmA hgD; have hrD := heap_none hrA hgD; have hownA2 := hownA.kept hgD (Classical.em _); have hbD := below_then hb0 (below_then (below_none hgA) (below_none hgD)); have c2D := heap_cell hmD 2; have c3D := heap_cell hmD 3; have k2D := heap_frozen hmD 2; have k3D := heap_frozen hmD 3)
    | (refine step_copy2 (by rfl) (.tmp 4) (by rfl) (w.heap.size + 2) _ m.label (by rfl) hlW hbase ?_; intro vA wA hownA hgA0; obtain ⟨pA, cA, rfl, _⟩ := owns_cells hownA; have hgA : W.grownBy wA none := grown_drew hgA0; have hmA := heap_none hm hgA; have hrA := heap_none hr hgA; have c2A := heap_cell hmA 2; have c3A := heap_cell hmA 3; have k2A := heap_frozen hmA 2; have k3A := heap_frozen hmA 3)
    | (refine step_copy1 (by rfl) (.tmp 7) (by rfl) (w.heap.size + 2) _ m.grants (by rfl) hgW hbase ?_; intro vB wB hownB hgB0; obtain ⟨pB, cB, rfl, _⟩ := owns_cells hownB; have hgB : W.grownBy wB none := grown_drew hgB0; have hmB := heap_none hm hgB; have hrB := heap_none hr hgB; have c2B := heap_cell hmB 2; have c3B := heap_cell hmB 3; have k2B := heap_frozen hmB 2; have k3B := heap_frozen hmB 3)))
  all_goals
    have h1 : (wD.setCell ⟨w.heap.size, 2, none⟩ (.slice pA m.label.length cA)).heap[w.heap.size]? = some (.cells #[.int .i64 m.host, .int .i64 m.thread, .slice pA m.label.length cA, .slice pg m.grants.length cg, .string ⟨m.text.toArray⟩] 30 (0, 0)) := by rw [heap_setCell hmD _]; rfl
    have hmF : ((wD.setCell ⟨w.heap.size, 2, none⟩ (.slice pA m.label.length cA)).setCell ⟨w.heap.size, 3, none⟩ (.slice pD m.grants.length cD)).heap[w.heap.size]? = some (.cells #[.int .i64 m.host, .int .i64 m.thread, .slice pA m.label.length cA, .slice pD m.grants.length cD, .string ⟨m.text.toArray⟩] 30 (0, 0)) := by rw [heap_setCell h1 _]; rfl
    have hrF := heap_store (heap_store hrD (show w.heap.size + 1 ≠ w.heap.size by omega) 2 (.slice pA m.label.length cA)) (show w.heap.size + 1 ≠ w.heap.size by omega) 3 (.slice pD m.grants.length cD)
    have hLF := own_store (own_store hownA2 hmD hdec 2 (.slice pA m.label.length cA)) h1 hdec 3 (.slice pD m.grants.length cD)
    have hGF := own_store (own_store hownD hmD hdec2 2 (.slice pA m.label.length cA)) h1 hdec2 3 (.slice pD m.grants.length cD)
    have hbF := (hbD.setCell (p := ⟨w.heap.size, 2, none⟩) (Nat.le_refl _) (.slice pA m.label.length cA)).setCell (p := ⟨w.heap.size, 3, none⟩) (Nat.le_refl _) (.slice pD m.grants.length cD)
    clear h1 hmD hrD hownA2 hownD hbD c2D c3D k2D k3D hownA hgA hgA0 hmA hrA c2A c3A k2A k3A c2 c3 k2 k3 hgD hm hr hlW hgW
    generalize (wD.setCell ⟨w.heap.size, 2, none⟩ (.slice pA m.label.length cA)).setCell ⟨w.heap.size, 3, none⟩ (.slice pD m.grants.length cD) = wE at *
    have c0 := heap_cell hmF 0
    have c1 := heap_cell hmF 1
    have c2 := heap_cell hmF 2
    have c3 := heap_cell hmF 3
    have c4 := heap_cell hmF 4
    have d0 := heap_cell hrF 0
    have d1 := heap_cell hrF 1
    have d2 := heap_cell hrF 2
    have d3 := heap_cell hrF 3
    have d4 := heap_cell hrF 4
    have q0 := heap_frozen hrF 0
    have q1 := heap_frozen hrF 1
    have q2 := heap_frozen hrF 2
    have q3 := heap_frozen hrF 3
    have q4 := heap_frozen hrF 4
    have HR := hid hrF
    clear hmF hrF
    go_wp2
    have hS := grown_trans (grown_trans (grown_trans (grown_trans (grown_setCell wE (w.heap.size + 1) 0 (.int .i64 m.host)) (grown_setCell _ (w.heap.size + 1) 1 (.int .i64 m.thread))) (grown_setCell _ (w.heap.size + 1) 2 (.slice pA m.label.length cA))) (grown_setCell _ (w.heap.size + 1) 3 (.slice pD m.grants.length cD))) (grown_setCell _ (w.heap.size + 1) 4 (.string ⟨m.text.toArray⟩))
    have hW := heap_setCell (j := 4) (heap_setCell (j := 3) (heap_setCell (j := 2) (heap_setCell (j := 1) (heap_setCell (j := 0) HR.out (.int .i64 m.host)) (.int .i64 m.thread)) (.slice pA m.label.length cA)) (.slice pD m.grants.length cD)) (.string ⟨m.text.toArray⟩)
    have hL2 := own_block hLF HR.out hdec hS
    have hG2 := own_block hGF HR.out hdec2 hS
    have hb2 := hbF.grown hS (by have := hbF.size; omega) (fun k hk => by have := Option.some.inj hk; omega)
    refine bodyPost_ret (results_cell_row rfl _ _ (w.heap.size + 1) 30 _ (0, 0) _ rfl hW Try.underlying30 rfl (by kernel_rfl)) rfl ⟨_, rfl, ?_, hb2⟩
    intro w'' hs
    exact ⟨(.slice pA m.label.length cA), (.slice pD m.grants.length cD), rfl, labs_of_own (own_since hL2 (fun k hk => hs k (by omega))) hl.len, nums_of_own (own_since hG2 (fun k hk => hs k (by omega))) hg.len⟩
end Go.Proofs.Ytmpjddnbdidleaa
