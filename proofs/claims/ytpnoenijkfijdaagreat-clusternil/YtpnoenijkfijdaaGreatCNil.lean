/- A cluster that is nil: what it answers; ClusterNil answers true. -/
import Derived.Test.YtpnoenijkfijdaaGreatWMem
import Derived.Test.YtpnoenijkfijdaaGreatHeap0
import Derived.WalkSpells
namespace Go.Proofs.YtpnoenijkfijdaaGreat
open Go.RowKit Go.Proofs.Parclose

theorem sameLabel_nil (w : World) : Calls Tryz.prog 14 #[.slice none 0 0, .slice none 0 0] w fun e w' => e = .returned (.bool true) ∧ w' = w := by
  go_enter Tryz.func14, Tryz.ntmps14
  go_wp2
  refine wp_loop_rounds 1 ?_
  rw [rounds_succ]
  go_wp2
  go_ret
  exact ⟨rfl, rfl⟩
theorem sameNumbers_nil (w : World) : Calls Tryz.prog 15 #[.slice none 0 0, .slice none 0 0] w fun e w' => e = .returned (.bool true) ∧ w' = w := by
  go_enter Tryz.func15, Tryz.ntmps15
  go_wp2
  refine wp_loop_rounds 1 ?_
  rw [rounds_succ]
  go_wp2
  go_ret
  exact ⟨rfl, rfl⟩
abbrev zeroT : Value := .agg #[.slice none 0 0, .slice none 0 0, .string ⟨#[]⟩, .slice none 0 0, .slice none 0 0]

set_option maxRecDepth 100000 in
set_option maxHeartbeats 1600000 in
theorem sameThread_zero (w : World) : Calls Tryz.prog 6 #[zeroT, zeroT] w fun e w' => e = .returned (.bool true) ∧ Below w.heap.size w w' := by
  go_enter Tryz.func6, Tryz.ntmps6
  go_wp2_with (first | (go_at_call 14; refine (sameLabel_nil _).mono ?_; rintro e w1 ⟨rfl, rfl⟩) | (go_at_call 15; refine (sameNumbers_nil _).mono ?_; rintro e w1 ⟨rfl, rfl⟩))
  refine wp_loop_rounds 1 ?_
  rw [rounds_succ]
  go_wp2
  refine wp_loop_rounds 1 ?_
  rw [rounds_succ]
  go_wp2
  go_ret
  exact ⟨rfl, (below_box w _).alloc (by simp) _⟩

theorem canswer_any (n : Int) (w : World) : Calls Tryz.prog 10 #[.int .i64 n] w fun e w' => e = .returned (.agg #[.int .i64 n, .int .i64 0, .string ⟨#[]⟩]) ∧ Below w.heap.size w w' := by
  go_enter Tryz.func10, Tryz.ntmps10
  go_wp2
  refine bodyPost_ret (results_cell_row rfl _ _ w.heap.size 32 _ (0, 0) _ rfl (heap_alloc_new w _) Tryz.underlying32 rfl (by kernel_rfl)) rfl ⟨rfl, below_box _ _⟩
theorem cnow_none (w : World) : Calls Tryz.prog 5 #[.pointer none] w fun e w' => e = .returned (.int .i64 0) ∧ w' = w := by
  go_enter Tryz.func5, Tryz.ntmps5
  go_wp2
  go_ret
  exact ⟨rfl, rfl⟩
theorem cnet_none (w : World) : Calls Tryz.prog 9 #[.pointer none] w fun e w' => e = .returned (.slice none 0 0) ∧ w' = w := by
  go_enter Tryz.func9, Tryz.ntmps9
  go_wp2
  go_ret
  exact ⟨rfl, rfl⟩
theorem ccerts_none (h : Int) (w : World) : Calls Tryz.prog 8 #[.pointer none, .int .i64 h] w fun e w' => e = .returned (.slice none 0 0) ∧ w' = w := by
  go_enter Tryz.func8, Tryz.ntmps8
  go_wp2
  go_ret
  exact ⟨rfl, rfl⟩
theorem cthread_none (h t : Int) (w : World) : Calls Tryz.prog 7 #[.pointer none, .int .i64 h, .int .i64 t] w fun e w' => e = .returned zeroT ∧ Below w.heap.size w w' := by
  go_enter Tryz.func7, Tryz.ntmps7
  go_wp2
  refine bodyPost_ret (results_cell_row rfl _ _ w.heap.size 39 _ (0, 0) _ rfl (heap_alloc_new w _) Tryz.underlying39 rfl (by kernel_rfl)) rfl ⟨rfl, below_box _ _⟩
set_option maxRecDepth 100000 in
theorem cdo_none (c0 c1 c2 c3 c4 c5 c6 c7 c8 c9 c10 c11 : Value) (w : World) : Calls Tryz.prog 4 #[.pointer none, .agg #[c0, c1, c2, c3, c4, c5, c6, c7, c8, c9, c10, c11]] w fun e w' => e = .returned (.agg #[.int .i64 4, .int .i64 0, .string ⟨#[]⟩]) ∧ Below w.heap.size w w' := by
  go_enter Tryz.func4, Tryz.ntmps4
  go_wp2_with fail
  refine (canswer_any _ _).mono ?_
  rintro e w1 ⟨rfl, hw1⟩
  have hX := heap_keep (heap_alloc2_new w _ _) hw1
  have hb := below_then ((below_box w _).alloc (by simp) _) hw1
  have x0 := heap_cell hX 0
  have x1 := heap_cell hX 1
  have x2 := heap_cell hX 2
  have f0 := heap_frozen hX 0
  have f1 := heap_frozen hX 1
  have f2 := heap_frozen hX 2
  have hE : (((w1.setCell ⟨w.heap.size + 1, 0, none⟩ (.int .i64 4)).setCell ⟨w.heap.size + 1, 1, none⟩ (.int .i64 0)).setCell ⟨w.heap.size + 1, 2, none⟩ (.string ⟨#[]⟩)).heap[w.heap.size + 1]? = some (.cells #[.int .i64 4, .int .i64 0, .string ⟨#[]⟩] 32 (0, 0)) := heap_setCell (j := 2) (heap_setCell (j := 1) (heap_setCell (j := 0) hX (.int .i64 4)) (.int .i64 0)) (.string ⟨#[]⟩)
  have hb2 := ((hb.setCell (p := ⟨w.heap.size + 1, 0, none⟩) (by simp) (.int .i64 4)).setCell (p := ⟨w.heap.size + 1, 1, none⟩) (by simp) (.int .i64 0)).setCell (p := ⟨w.heap.size + 1, 2, none⟩) (by simp) (.string ⟨#[]⟩)
  clear hX hw1
  go_wp2
  exact bodyPost_ret (results_cell_row rfl _ _ (w.heap.size + 1) 32 _ (0, 0) _ rfl hE Tryz.underlying32 rfl (by kernel_rfl)) rfl ⟨rfl, hb2⟩

theorem eql_reply (e : Int) (w : World) : (binOp .eql 32 (.agg #[.int .i64 e, .int .i64 0, .string ⟨#[]⟩]) (.agg #[.int .i64 e, .int .i64 0, .string ⟨#[]⟩])).run Tryz.prog w = .ok (.bool true) w := by
  have u3 := Tryz.underlying3
  have u4 := Tryz.underlying9
  have u5 := Tryz.underlying30
  have hS : Tryz.prog.underlying 32 = some (.struct (Tryz.prog.fieldsOf 32)) := by kernel_rfl
  have hp : Tryz.prog.stoodInHeld 32 = false := by kernel_rfl
  rw [run_eql_struct, show (10000 : Nat) = 9999 + 1 from rfl, run_equalIn_agg w 9999 32 _ _ hS hp]
  simp only [Program.fieldsOf, Tryz.underlying32]
  go_simp
theorem guard_reply (op : BinOp) (a b : Operand) (x y : Array Value) (w : World) : (eqGuard op 32 a b (.agg x) (.agg y)).run Tryz.prog w = .ok () w :=
  run_eqGuard_agg w op 32 a b x y (by kernel_rfl)
set_option maxRecDepth 100000 in
set_option maxHeartbeats 1600000 in
theorem clusterNil_any (c0 c1 c2 c3 c4 c5 c6 c7 c8 c9 c10 c11 : Value) (h t : Int) (w : World) : Calls Tryz.prog 3 #[.agg #[c0, c1, c2, c3, c4, c5, c6, c7, c8, c9, c10, c11], .int .i64 h, .int .i64 t] w fun e w' => e = .returned (.bool true) ∧ Below w.heap.size w w' := by
  have he := fun wx => eql_reply 4 wx
  have hgd := fun op a b x y wx => guard_reply op a b x y wx
  go_enter Tryz.func3, Tryz.ntmps3
  go_wp2_with (first
    | (go_at_call 4; refine (cdo_none _ _ _ _ _ _ _ _ _ _ _ _ _).mono ?_; rintro e w1 ⟨rfl, hw1⟩)
    | (go_at_call 5; refine (cnow_none _).mono ?_; rintro e w2 ⟨rfl, rfl⟩)
    | (go_at_call 7; refine (cthread_none _ _ _).mono ?_; rintro e w3 ⟨rfl, hw3⟩)
    | (go_at_call 6; refine (sameThread_zero _).mono ?_; rintro e w4 ⟨rfl, hw4⟩)
    | (go_at_call 8; refine (ccerts_none _ _).mono ?_; rintro e w5 ⟨rfl, rfl⟩)
    | (go_at_call 9; refine (cnet_none _).mono ?_; rintro e w6 ⟨rfl, rfl⟩))
  go_ret
  exact ⟨rfl, below_then (below_then (below_then (below_box w _) hw1) hw3) hw4⟩
end Go.Proofs.YtpnoenijkfijdaaGreat
