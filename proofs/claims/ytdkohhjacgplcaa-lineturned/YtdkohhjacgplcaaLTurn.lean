/- The statement LineTurned. -/
import Derived.Test.YtdkohhjacgplcaaLBox
import Derived.Deep.DeepCutAuto
import Derived.Deep.RegionHeld3
import Derived.Test.YtdkohhjacgplcaaTakeD
namespace Go.Proofs.Ytdkohhjacgplcaa
open Go.RowKit Go.Proofs.Parclose

theorem eight_at (w : World) : IntsAt (w.alloc (.cells #[.int .i64 1, .int .i64 2, .int .i64 3, .int .i64 4, .int .i64 5, .int .i64 6, .int .i64 7, .int .i64 8] 3)) (.slice (some ⟨w.heap.size, 0, none⟩) 8 8) [1, 2, 3, 4, 5, 6, 7, 8] := by
  refine ⟨_, _, rfl, ⟨Nat.le_refl _, fun e => by cases e⟩, by simp, fun _ => ⟨w.heap.size, 0, rfl, fun j hj => ?_⟩⟩
  rw [heap_cell (heap_alloc_new w _)]
  have hj8 : j < 8 := hj
  match j, hj8 with
  | 0, _ => rfl
  | 1, _ => rfl
  | 2, _ => rfl
  | 3, _ => rfl
  | 4, _ => rfl
  | 5, _ => rfl
  | 6, _ => rfl
  | 7, _ => rfl

set_option linter.unusedSimpArgs false in
set_option maxRecDepth 100000 in
set_option maxHeartbeats 6400000 in
theorem lineTurned_any (vo : Value) (order : List Int) (w : World) (ho : IntsAt w vo order) :
    Calls Try.prog 7 #[vo] w fun e w' => e = .returned (.bool true) ∧ Below w.heap.size w w' := by
  obtain ⟨po, co, rfl, _, _, hco⟩ := ho
  go_enter Try.func7, Try.ntmps7
  go_wp2
  go_loopw [4, 5] (fun lv i wr => ∃ (L : Lne) (left : List Int) (k : Nat), Turn L left ∧ i = .int .i64 k ∧ k + left.length = 8 ∧ IntsAt wr lv left ∧ (∀ i, lv.ownBlock = some i → w.heap.size + 1 ≤ i) ∧ LBox wr w.heap.size (w.heap.size + 1) L ∧ Below w.heap.size w wr) (fun _ i _ => 8 - (intOf i).toNat)
  case atStart => exact ⟨zeroLne, [1, 2, 3, 4, 5, 6, 7, 8], 0, turn_start, rfl, rfl, (by have := eight_at (w.alloc (.cells #[.int .i64 0, .slice none 0 0, .int .i64 0, .bool false, .bool false, .bool false, .bool false, .bool false, .bool false, .bool false, .bool false] 25)); rwa [size_box] at this), (fun i hi => by cases hi; exact Nat.le_refl _), lbox_zero w _ _, (below_box w _).alloc (by simp) _⟩
  case round =>
    obtain ⟨L, left, k, ht, rfl, hk8, hlv, hlb, hbx, hb⟩ := hrel
    have HT := hid ht
    have HLV := hid hlv
    have HBX := hid hbx
    obtain ⟨pv, cv, rfl, hlc, hl43, hcv⟩ := id hlv
    by_cases h0 : 0 < left.length
    · have hI : (0 : Int) < (left.length : Int) := by omega
      obtain ⟨bv, ov, rfl, hcells⟩ := hcv h0
      have hbv := hlb bv rfl
      clear hlb
      have HCV := hid hcells
      clear hlv hbx ht hcv hcells
      go_upto_if 20 with fail
      go_cut [6] (fun v6 wx => ∃ j : Nat, v6 = .int .i64 j ∧ j < left.length ∧ wx = wr)
      case first =>
        by_cases hio : k < order.length
        · have hI2 : (k : Int) < (order.length : Int) := by omega
          obtain ⟨bo, oo, rfl, hcO⟩ := hco (by omega)
          have co := (hcO.below hb) k hio
          have hpk := fun wx => lpick_any order[k] (left.length : Int) wx (by omega) (by omega)
          go_wp2_with (go_at_call 24; refine (hpk _).mono ?_; rintro e w1 ⟨j, rfl, hj, hw1⟩; rw [hw1]; clear hw1 w1)
          go_meet
          exact ⟨j, rfl, by omega, rfl⟩
        · have hI2 : ¬ (k : Int) < (order.length : Int) := by omega
          go_wp2_with fail
          go_meet
          exact ⟨0, rfl, h0, rfl⟩
      case rest =>
        obtain ⟨j, rfl, hj, hwx⟩ := hcut
        have hwy := hwx.symm
        subst hwy
        clear hwx
        have hjI : (j : Int) < (left.length : Int) := by omega
        have cj := HCV.out j hj
        have hok := HT.out.ok j hj
        have HOK := hid hok
        have HSTEP := hid (HT.out.step j hj)
        clear HT
        have hlt0 := HBX.out.lt
        obtain ⟨nx0, st0, hi0, b00, b10, b20, b30, b40, b50, b60, b70, p0, cap0, rfl, hX0, hS0⟩ := HBX.out.open
        have HX0 := hid hX0
        have hL0 := lne_of hS0 nx0 hi0 b00 b10 b20 b30 b40 b50 b60 b70
        have x0 := heap_cell hX0 0
        have x1 := heap_cell hX0 1
        have x2 := heap_cell hX0 2
        have x3 := heap_cell hX0 3
        have x4 := heap_cell hX0 4
        have x5 := heap_cell hX0 5
        have x6 := heap_cell hX0 6
        have x7 := heap_cell hX0 7
        have x8 := heap_cell hX0 8
        have x9 := heap_cell hX0 9
        have x10 := heap_cell hX0 10
        clear hX0
        go_upto_region 9 with fail
        go_cut [7, 8] (fun v7 v8 wx => ∃ c : Nat, v7 = .pointer (some ⟨c, 0, none⟩) ∧ v8 = .int .i64 0 ∧ wr.heap.size ≤ c ∧ LBox wx c (w.heap.size + 1) (takeLn ⟨nx0, st0, hi0, [b00, b10, b20, b30, b40, b50, b60, b70]⟩ left[j]).1 ∧ Below wr.heap.size wr wx)
        case first =>
          have HS9 : Hid (∀ w', Below wr.heap.size wr w' → w'.cell? ⟨w.heap.size, 0, none⟩ = some (.int .i64 nx0) ∧ w'.cell? ⟨w.heap.size, 1, none⟩ = some (.slice p0 st0.length cap0) ∧ w'.cell? ⟨w.heap.size, 2, none⟩ = some (.int .i64 hi0) ∧ w'.cell? ⟨w.heap.size, 3, none⟩ = some (.bool b00) ∧ w'.cell? ⟨w.heap.size, 4, none⟩ = some (.bool b10) ∧ w'.cell? ⟨w.heap.size, 5, none⟩ = some (.bool b20) ∧ w'.cell? ⟨w.heap.size, 6, none⟩ = some (.bool b30) ∧ w'.cell? ⟨w.heap.size, 7, none⟩ = some (.bool b40) ∧ w'.cell? ⟨w.heap.size, 8, none⟩ = some (.bool b50) ∧ w'.cell? ⟨w.heap.size, 9, none⟩ = some (.bool b60) ∧ w'.cell? ⟨w.heap.size, 10, none⟩ = some (.bool b70) ∧ w'.cell? ⟨bv, ov + j, none⟩ = some (.int .i64 left[j])) := hid (fun w' hb' => ⟨(hb'.cell (cell_block x0)).trans x0, (hb'.cell (cell_block x1)).trans x1, (hb'.cell (cell_block x2)).trans x2, (hb'.cell (cell_block x3)).trans x3, (hb'.cell (cell_block x4)).trans x4, (hb'.cell (cell_block x5)).trans x5, (hb'.cell (cell_block x6)).trans x6, (hb'.cell (cell_block x7)).trans x7, (hb'.cell (cell_block x8)).trans x8, (hb'.cell (cell_block x9)).trans x9, (hb'.cell (cell_block x10)).trans x10, (hb'.cell (cell_block cj)).trans cj⟩)
          refine wp_region_held_drew (S := (fun w' => w'.cell? ⟨w.heap.size, 0, none⟩ = some (.int .i64 nx0) ∧ w'.cell? ⟨w.heap.size, 1, none⟩ = some (.slice p0 st0.length cap0) ∧ w'.cell? ⟨w.heap.size, 2, none⟩ = some (.int .i64 hi0) ∧ w'.cell? ⟨w.heap.size, 3, none⟩ = some (.bool b00) ∧ w'.cell? ⟨w.heap.size, 4, none⟩ = some (.bool b10) ∧ w'.cell? ⟨w.heap.size, 5, none⟩ = some (.bool b20) ∧ w'.cell? ⟨w.heap.size, 6, none⟩ = some (.bool b30) ∧ w'.cell? ⟨w.heap.size, 7, none⟩ = some (.bool b40) ∧ w'.cell? ⟨w.heap.size, 8, none⟩ = some (.bool b50) ∧ w'.cell? ⟨w.heap.size, 9, none⟩ = some (.bool b60) ∧ w'.cell? ⟨w.heap.size, 10, none⟩ = some (.bool b70) ∧ w'.cell? ⟨bv, ov + j, none⟩ = some (.int .i64 left[j]))) (by as_aux_lemma => kernel_rfl) ⟨x0, x1, x2, x3, x4, x5, x6, x7, x8, x9, x10, cj⟩ (fun hHeld => ?_)
          refine takeD 0 29 ?v9 rfl (by as_aux_lemma => kernel_rfl) (by as_aux_lemma => kernel_rfl) (by as_aux_lemma => kernel_rfl) (by as_aux_lemma => kernel_rfl) (fun _ _ _ h => h) (Or.inl ⟨by rfl, ?hy9⟩) (by assumption) ?rest9
          case hy9 => intro wz hSw; (try dsimp only at hSw); go_simp; try with_reducible rfl
          simp only [Act.put, List.setIfInBounds_toArray, List.set_cons_zero, List.set_cons_succ]
          refine takeD 1 30 ?v10 rfl (by as_aux_lemma => kernel_rfl) (by as_aux_lemma => kernel_rfl) (by as_aux_lemma => kernel_rfl) (by as_aux_lemma => kernel_rfl) (fun _ _ _ h => h) (Or.inl ⟨by rfl, ?hy10⟩) (by assumption) ?rest10
          case hy10 => intro wz hSw; (try dsimp only at hSw); go_simp; try with_reducible rfl
          simp only [Act.put, List.setIfInBounds_toArray, List.set_cons_zero, List.set_cons_succ]
          refine takeD 2 31 ?v11 rfl (by as_aux_lemma => kernel_rfl) (by as_aux_lemma => kernel_rfl) (by as_aux_lemma => kernel_rfl) (by as_aux_lemma => kernel_rfl) (fun _ _ _ h => h) (Or.inl ⟨by rfl, ?hy11⟩) (by assumption) ?rest11
          case hy11 => intro wz hSw; (try dsimp only at hSw); go_simp; try with_reducible rfl
          simp only [Act.put, List.setIfInBounds_toArray, List.set_cons_zero, List.set_cons_succ]
          refine takeD 3 32 ?v12 rfl (by as_aux_lemma => kernel_rfl) (by as_aux_lemma => kernel_rfl) (by as_aux_lemma => kernel_rfl) (by as_aux_lemma => kernel_rfl) (fun _ _ _ h => h) (Or.inl ⟨by rfl, ?hy12⟩) (by assumption) ?rest12
          case hy12 => intro wz hSw; (try dsimp only at hSw); go_simp; try with_reducible rfl
          simp only [Act.put, List.setIfInBounds_toArray, List.set_cons_zero, List.set_cons_succ]
          refine takeD 4 33 ?v13 rfl (by as_aux_lemma => kernel_rfl) (by as_aux_lemma => kernel_rfl) (by as_aux_lemma => kernel_rfl) (by as_aux_lemma => kernel_rfl) (fun _ _ _ h => h) (Or.inl ⟨by rfl, ?hy13⟩) (by assumption) ?rest13
          case hy13 => intro wz hSw; (try dsimp only at hSw); go_simp; try with_reducible rfl
          simp only [Act.put, List.setIfInBounds_toArray, List.set_cons_zero, List.set_cons_succ]
          refine wpAnyH_ready (rs := [5, 9]) (by as_aux_lemma => kernel_rfl) (by simp) ?_
          refine AllReadyH.cons rfl (fun K' hK => ?_) (AllReadyH.cons rfl (fun K' hK => ?_) AllReadyH.nil)
          · skip
            refine step_ltake (by rfl) (.tmp 29) (.tmp 33) #[25, 3] (by rfl) _ ⟨nx0, st0, hi0, [b00, b10, b20, b30, b40, b50, b60, b70]⟩ left[j] 0 (by rfl) (by rfl) (hL0.below (Below.refl _ _).drew) hok.1 ?_; intro nx1 st1 hi1 b01 b11 b21 b31 b41 b51 b61 b71 p1 cap1 sq1 w1 e1 hs1 hm1 hl1 hw1d; have hwA : Below wr.heap.size wr w1 := ⟨hw1d.os, hw1d.tape, hw1d.output, hw1d.size, hw1d.block⟩; have HEND : Hid (∀ c, c = w1.heap.size → LBox (w1.alloc (.cells #[.int .i64 nx1, .slice p1 st1.length cap1, .int .i64 hi1, .bool b01, .bool b11, .bool b21, .bool b31, .bool b41, .bool b51, .bool b61, .bool b71] 25)) c (w.heap.size + 1) (takeLn ⟨nx0, st0, hi0, [b00, b10, b20, b30, b40, b50, b60, b70]⟩ left[j]).1 ∧ Below wr.heap.size wr (w1.alloc (.cells #[.int .i64 nx1, .slice p1 st1.length cap1, .int .i64 hi1, .bool b01, .bool b11, .bool b21, .bool b31, .bool b41, .bool b51, .bool b61, .bool b71] 25))) := hid (fun c hc => by subst hc; rw [e1]; exact ⟨lbox_row ((hs1.below (below_box w1 _)).low (by have : wr.drew.heap.size = wr.heap.size := rfl; omega)) hm1 hl1 _ _ _ _ _ _ _ _ _ _ (heap_alloc_new w1 _), below_then hwA (below_box w1 _)⟩); clear hw1d e1 hs1 hm1
            refine hK.out _ _ (HS9.out _ hwA) (fun hHeld2 => ?_)
            clear hK K'
            refine takeD 6 28 ?v14 rfl (by as_aux_lemma => kernel_rfl) (by as_aux_lemma => kernel_rfl) (by as_aux_lemma => kernel_rfl) (by as_aux_lemma => kernel_rfl) (fun _ _ _ h => h) (Or.inl ⟨by rfl, ?hy14⟩) (by assumption) ?rest14
            case hy14 => intro wz hSw; (try dsimp only at hSw); go_simp; try with_reducible rfl
            simp only [Act.put, List.setIfInBounds_toArray, List.set_cons_zero, List.set_cons_succ]
            refine takeD 7 35 ?v15 rfl (by as_aux_lemma => kernel_rfl) (by as_aux_lemma => kernel_rfl) (by as_aux_lemma => kernel_rfl) (by as_aux_lemma => kernel_rfl) (fun _ _ _ h => h) (Or.inl ⟨by rfl, ?hy15⟩) (by assumption) ?rest15
            case hy15 => intro wz hSw; (try dsimp only at hSw); go_simp; try with_reducible rfl
            simp only [Act.put, List.setIfInBounds_toArray, List.set_cons_zero, List.set_cons_succ]
            refine takeD 8 36 ?v16 rfl (by as_aux_lemma => kernel_rfl) (by as_aux_lemma => kernel_rfl) (by as_aux_lemma => kernel_rfl) (by as_aux_lemma => kernel_rfl) (fun _ _ _ h => h) (Or.inl ⟨by rfl, ?hy16⟩) (by assumption) ?rest16
            case hy16 => intro wz hSw; (try dsimp only at hSw); go_simp; try with_reducible rfl
            simp only [Act.put, List.setIfInBounds_toArray, List.set_cons_zero, List.set_cons_succ]
            refine wpAnyH_ready (rs := [9]) (by as_aux_lemma => kernel_rfl) (by simp) ?_
            refine AllReadyH.cons rfl (fun K' hK => ?_) AllReadyH.nil
            go_simp
            refine hK.out _ _ (HS9.out _ (below_then hwA (below_box _ _))) (fun hHeld3 => ?_)
            clear hK K'
            refine wpAnyH_ready (rs := [10]) (by as_aux_lemma => kernel_rfl) (by simp) ?_
            refine AllReadyH.cons rfl (fun K' hK => ?_) AllReadyH.nil
            go_simp
            refine hK.out _ _ (HS9.out _ (below_then hwA (below_box _ _))) (fun hHeld4 => ?_)
            clear hK K'
            refine takeD 11 8 ?v17 rfl (by as_aux_lemma => kernel_rfl) (by as_aux_lemma => kernel_rfl) (by as_aux_lemma => kernel_rfl) (by as_aux_lemma => kernel_rfl) (fun _ _ _ h => h) (Or.inl ⟨by rfl, ?hy17⟩) (by assumption) ?rest17
            case hy17 => intro wz hSw; (try dsimp only at hSw); go_simp; try with_reducible rfl
            simp only [Act.put, List.setIfInBounds_toArray, List.set_cons_zero, List.set_cons_succ]
            refine wpAnyH_done (by as_aux_lemma => kernel_rfl) ?_ _
            go_wp2_with fail
            go_meet
            exact ⟨_, rfl, rfl, hwA.size, (HEND.out _ rfl).1, (HEND.out _ rfl).2⟩
          · skip
            go_simp
            refine hK.out _ _ (HS9.out _ (below_box _ _).drew) (fun hHeld2 => ?_)
            clear hK K'
            refine wpAnyH_ready (rs := [5]) (by as_aux_lemma => kernel_rfl) (by simp) ?_
            refine AllReadyH.cons rfl (fun K' hK => ?_) AllReadyH.nil
            refine step_ltake (by rfl) (.tmp 29) (.tmp 33) #[25, 3] (by rfl) _ ⟨nx0, st0, hi0, [b00, b10, b20, b30, b40, b50, b60, b70]⟩ left[j] 0 (by rfl) (by rfl) (hL0.below (below_box wr _).drew) hok.1 ?_; intro nx1 st1 hi1 b01 b11 b21 b31 b41 b51 b61 b71 p1 cap1 sq1 w1 e1 hs1 hm1 hl1 hw1d; have hw1 : Below (wr.heap.size + 1) (wr.alloc (.cells #[.int .i64 0, .slice none 0 0, .int .i64 0, .bool false, .bool false, .bool false, .bool false, .bool false, .bool false, .bool false, .bool false] 25)) w1 := ⟨hw1d.os, hw1d.tape, hw1d.output, by simpa using hw1d.size, fun k hk => hw1d.block k (by simpa using hk)⟩; have hwB : Below wr.heap.size wr w1 := (below_box wr _).trans (hw1.mono (by omega)); have hz : w1.heap[wr.heap.size]? = some (.cells #[.int .i64 0, .slice none 0 0, .int .i64 0, .bool false, .bool false, .bool false, .bool false, .bool false, .bool false, .bool false, .bool false] 25 (0, 0)) := (by rw [hw1.block _ (by omega)]; exact heap_alloc_new wr _); have z0 := heap_cell hz 0; have zf0 := heap_frozen hz 0; have z1 := heap_cell hz 1; have zf1 := heap_frozen hz 1; have z2 := heap_cell hz 2; have zf2 := heap_frozen hz 2; have z3 := heap_cell hz 3; have zf3 := heap_frozen hz 3; have z4 := heap_cell hz 4; have zf4 := heap_frozen hz 4; have z5 := heap_cell hz 5; have zf5 := heap_frozen hz 5; have z6 := heap_cell hz 6; have zf6 := heap_frozen hz 6; have z7 := heap_cell hz 7; have zf7 := heap_frozen hz 7; have z8 := heap_cell hz 8; have zf8 := heap_frozen hz 8; have z9 := heap_cell hz 9; have zf9 := heap_frozen hz 9; have z10 := heap_cell hz 10; have zf10 := heap_frozen hz 10; have hwC : Below wr.heap.size wr (((((((((((w1.setCell ⟨wr.heap.size, 0, none⟩ (.int .i64 nx1)).setCell ⟨wr.heap.size, 1, none⟩ (.slice p1 st1.length cap1)).setCell ⟨wr.heap.size, 2, none⟩ (.int .i64 hi1)).setCell ⟨wr.heap.size, 3, none⟩ (.bool b01)).setCell ⟨wr.heap.size, 4, none⟩ (.bool b11)).setCell ⟨wr.heap.size, 5, none⟩ (.bool b21)).setCell ⟨wr.heap.size, 6, none⟩ (.bool b31)).setCell ⟨wr.heap.size, 7, none⟩ (.bool b41)).setCell ⟨wr.heap.size, 8, none⟩ (.bool b51)).setCell ⟨wr.heap.size, 9, none⟩ (.bool b61)).setCell ⟨wr.heap.size, 10, none⟩ (.bool b71)) := hwB.grown (st11_grown w1 wr.heap.size (.int .i64 nx1) (.slice p1 st1.length cap1) (.int .i64 hi1) (.bool b01) (.bool b11) (.bool b21) (.bool b31) (.bool b41) (.bool b51) (.bool b61) (.bool b71)) hwB.size (fun k hk => by have := Option.some.inj hk; omega); have HEND : Hid (∀ c, c = wr.heap.size → LBox (((((((((((w1.setCell ⟨wr.heap.size, 0, none⟩ (.int .i64 nx1)).setCell ⟨wr.heap.size, 1, none⟩ (.slice p1 st1.length cap1)).setCell ⟨wr.heap.size, 2, none⟩ (.int .i64 hi1)).setCell ⟨wr.heap.size, 3, none⟩ (.bool b01)).setCell ⟨wr.heap.size, 4, none⟩ (.bool b11)).setCell ⟨wr.heap.size, 5, none⟩ (.bool b21)).setCell ⟨wr.heap.size, 6, none⟩ (.bool b31)).setCell ⟨wr.heap.size, 7, none⟩ (.bool b41)).setCell ⟨wr.heap.size, 8, none⟩ (.bool b51)).setCell ⟨wr.heap.size, 9, none⟩ (.bool b61)).setCell ⟨wr.heap.size, 10, none⟩ (.bool b71)) c (w.heap.size + 1) (takeLn ⟨nx0, st0, hi0, [b00, b10, b20, b30, b40, b50, b60, b70]⟩ left[j]).1) := hid (fun c hc => by subst hc; rw [e1]; have hB2 : wr.heap.size < (wr.alloc (.cells #[.int .i64 0, .slice none 0 0, .int .i64 0, .bool false, .bool false, .bool false, .bool false, .bool false, .bool false, .bool false, .bool false] 25)).drew.heap.size := (by simp); obtain ⟨q0, q2⟩ := lbox_store hz hs1 hB2 hm1 hl1 nx1 hi1 b01 b11 b21 b31 b41 b51 b61 b71; exact q0.low (show w.heap.size + 1 ≤ _ by have : (wr.alloc (.cells #[.int .i64 0, .slice none 0 0, .int .i64 0, .bool false, .bool false, .bool false, .bool false, .bool false, .bool false, .bool false, .bool false] 25)).drew.heap.size = wr.heap.size + 1 := (by simp); omega)); clear hw1d e1 hs1 hm1 hz
            refine hK.out _ _ (HS9.out _ hwB) (fun hHeld3 => ?_)
            clear hK K'
            refine takeD 6 28 ?v18 rfl (by as_aux_lemma => kernel_rfl) (by as_aux_lemma => kernel_rfl) (by as_aux_lemma => kernel_rfl) (by as_aux_lemma => kernel_rfl) (fun _ _ _ h => h) (Or.inl ⟨by rfl, ?hy18⟩) (by assumption) ?rest18
            case hy18 => intro wz hSw; (try dsimp only at hSw); go_simp; try with_reducible rfl
            simp only [Act.put, List.setIfInBounds_toArray, List.set_cons_zero, List.set_cons_succ]
            refine takeD 7 35 ?v19 rfl (by as_aux_lemma => kernel_rfl) (by as_aux_lemma => kernel_rfl) (by as_aux_lemma => kernel_rfl) (by as_aux_lemma => kernel_rfl) (fun _ _ _ h => h) (Or.inl ⟨by rfl, ?hy19⟩) (by assumption) ?rest19
            case hy19 => intro wz hSw; (try dsimp only at hSw); go_simp; try with_reducible rfl
            simp only [Act.put, List.setIfInBounds_toArray, List.set_cons_zero, List.set_cons_succ]
            refine takeD 8 36 ?v20 rfl (by as_aux_lemma => kernel_rfl) (by as_aux_lemma => kernel_rfl) (by as_aux_lemma => kernel_rfl) (by as_aux_lemma => kernel_rfl) (fun _ _ _ h => h) (Or.inl ⟨by rfl, ?hy20⟩) (by assumption) ?rest20
            case hy20 => intro wz hSw; (try dsimp only at hSw); go_simp; try with_reducible rfl
            simp only [Act.put, List.setIfInBounds_toArray, List.set_cons_zero, List.set_cons_succ]
            refine wpAnyH_ready (rs := [10]) (by as_aux_lemma => kernel_rfl) (by simp) ?_
            refine AllReadyH.cons rfl (fun K' hK => ?_) AllReadyH.nil
            go_simp
            refine hK.out _ _ (HS9.out _ hwC) (fun hHeld4 => ?_)
            clear hK K'
            refine takeD 11 8 ?v21 rfl (by as_aux_lemma => kernel_rfl) (by as_aux_lemma => kernel_rfl) (by as_aux_lemma => kernel_rfl) (by as_aux_lemma => kernel_rfl) (fun _ _ _ h => h) (Or.inl ⟨by rfl, ?hy21⟩) (by assumption) ?rest21
            case hy21 => intro wz hSw; (try dsimp only at hSw); go_simp; try with_reducible rfl
            simp only [Act.put, List.setIfInBounds_toArray, List.set_cons_zero, List.set_cons_succ]
            refine wpAnyH_done (by as_aux_lemma => kernel_rfl) ?_ _
            go_wp2_with fail
            go_meet
            exact ⟨_, rfl, rfl, Nat.le_refl _, HEND.out _ rfl, hwC⟩
        case rest =>
          clear x0 x1 x2 x3 x4 x5 x6 x7 x8 x9 x10
          obtain ⟨c, rfl, rfl, hcs, hbc, hw2⟩ := hcut
          obtain ⟨w9, hw9e⟩ : ∃ w9, w9 = wc := ⟨_, rfl⟩
          subst hw9e
          have hbB := HBX.out.below hw2
          obtain ⟨nx2, st2, hi2, b02, b12, b22, b32, b42, b52, b62, b72, p2, cap2, e2, hX2, hS2⟩ := hbc.open
          have HBC := hid hbc
          have HBB := hid hbB
          have cj2 := hw2.cell (cell_block cj)
          rw [cj] at cj2
          have hL2 := lne_of hS2 nx2 hi2 b02 b12 b22 b32 b42 b52 b62 b72
          have hok2 := HOK.out.2
          rw [e2] at hok2
          have y0 := heap_cell hX2 0
          have y1 := heap_cell hX2 1
          have y2 := heap_cell hX2 2
          have y3 := heap_cell hX2 3
          have y4 := heap_cell hX2 4
          have y5 := heap_cell hX2 5
          have y6 := heap_cell hX2 6
          have y7 := heap_cell hX2 7
          have y8 := heap_cell hX2 8
          have y9 := heap_cell hX2 9
          have y10 := heap_cell hX2 10
          have HX2 := hid hX2
          clear hX2 hbc hbB
          go_upto_region 12 with fail
          go_cut [10] (fun v10 wx => v10 = .int .i64 10 ∧ Below w9.heap.size w9 wx)
          case first =>
            have HS12 : Hid (∀ w', Below w9.heap.size w9 w' → w'.cell? ⟨c, 0, none⟩ = some (.int .i64 nx2) ∧ w'.cell? ⟨c, 1, none⟩ = some (.slice p2 st2.length cap2) ∧ w'.cell? ⟨c, 2, none⟩ = some (.int .i64 hi2) ∧ w'.cell? ⟨c, 3, none⟩ = some (.bool b02) ∧ w'.cell? ⟨c, 4, none⟩ = some (.bool b12) ∧ w'.cell? ⟨c, 5, none⟩ = some (.bool b22) ∧ w'.cell? ⟨c, 6, none⟩ = some (.bool b32) ∧ w'.cell? ⟨c, 7, none⟩ = some (.bool b42) ∧ w'.cell? ⟨c, 8, none⟩ = some (.bool b52) ∧ w'.cell? ⟨c, 9, none⟩ = some (.bool b62) ∧ w'.cell? ⟨c, 10, none⟩ = some (.bool b72) ∧ w'.cell? ⟨bv, ov + j, none⟩ = some (.int .i64 left[j])) := hid (fun w' hb' => ⟨(hb'.cell (cell_block y0)).trans y0, (hb'.cell (cell_block y1)).trans y1, (hb'.cell (cell_block y2)).trans y2, (hb'.cell (cell_block y3)).trans y3, (hb'.cell (cell_block y4)).trans y4, (hb'.cell (cell_block y5)).trans y5, (hb'.cell (cell_block y6)).trans y6, (hb'.cell (cell_block y7)).trans y7, (hb'.cell (cell_block y8)).trans y8, (hb'.cell (cell_block y9)).trans y9, (hb'.cell (cell_block y10)).trans y10, (hb'.cell (cell_block cj2)).trans cj2⟩)
            refine wp_region_held_drew (S := (fun w' => w'.cell? ⟨c, 0, none⟩ = some (.int .i64 nx2) ∧ w'.cell? ⟨c, 1, none⟩ = some (.slice p2 st2.length cap2) ∧ w'.cell? ⟨c, 2, none⟩ = some (.int .i64 hi2) ∧ w'.cell? ⟨c, 3, none⟩ = some (.bool b02) ∧ w'.cell? ⟨c, 4, none⟩ = some (.bool b12) ∧ w'.cell? ⟨c, 5, none⟩ = some (.bool b22) ∧ w'.cell? ⟨c, 6, none⟩ = some (.bool b32) ∧ w'.cell? ⟨c, 7, none⟩ = some (.bool b42) ∧ w'.cell? ⟨c, 8, none⟩ = some (.bool b52) ∧ w'.cell? ⟨c, 9, none⟩ = some (.bool b62) ∧ w'.cell? ⟨c, 10, none⟩ = some (.bool b72) ∧ w'.cell? ⟨bv, ov + j, none⟩ = some (.int .i64 left[j]))) (by as_aux_lemma => kernel_rfl) ⟨y0, y1, y2, y3, y4, y5, y6, y7, y8, y9, y10, cj2⟩ (fun hHeld => ?_)
            refine takeD 0 40 ?v22 rfl (by as_aux_lemma => kernel_rfl) (by as_aux_lemma => kernel_rfl) (by as_aux_lemma => kernel_rfl) (by as_aux_lemma => kernel_rfl) (fun _ _ _ h => h) (Or.inl ⟨by rfl, ?hy22⟩) (by assumption) ?rest22
            case hy22 => intro wz hSw; (try dsimp only at hSw); go_simp; try with_reducible rfl
            simp only [Act.put, List.setIfInBounds_toArray, List.set_cons_zero, List.set_cons_succ]
            refine takeD 1 41 ?v23 rfl (by as_aux_lemma => kernel_rfl) (by as_aux_lemma => kernel_rfl) (by as_aux_lemma => kernel_rfl) (by as_aux_lemma => kernel_rfl) (fun _ _ _ h => h) (Or.inl ⟨by rfl, ?hy23⟩) (by assumption) ?rest23
            case hy23 => intro wz hSw; (try dsimp only at hSw); go_simp; try with_reducible rfl
            simp only [Act.put, List.setIfInBounds_toArray, List.set_cons_zero, List.set_cons_succ]
            refine takeD 2 42 ?v24 rfl (by as_aux_lemma => kernel_rfl) (by as_aux_lemma => kernel_rfl) (by as_aux_lemma => kernel_rfl) (by as_aux_lemma => kernel_rfl) (fun _ _ _ h => h) (Or.inl ⟨by rfl, ?hy24⟩) (by assumption) ?rest24
            case hy24 => intro wz hSw; (try dsimp only at hSw); go_simp; try with_reducible rfl
            simp only [Act.put, List.setIfInBounds_toArray, List.set_cons_zero, List.set_cons_succ]
            refine takeD 3 43 ?v25 rfl (by as_aux_lemma => kernel_rfl) (by as_aux_lemma => kernel_rfl) (by as_aux_lemma => kernel_rfl) (by as_aux_lemma => kernel_rfl) (fun _ _ _ h => h) (Or.inl ⟨by rfl, ?hy25⟩) (by assumption) ?rest25
            case hy25 => intro wz hSw; (try dsimp only at hSw); go_simp; try with_reducible rfl
            simp only [Act.put, List.setIfInBounds_toArray, List.set_cons_zero, List.set_cons_succ]
            refine takeD 4 44 ?v26 rfl (by as_aux_lemma => kernel_rfl) (by as_aux_lemma => kernel_rfl) (by as_aux_lemma => kernel_rfl) (by as_aux_lemma => kernel_rfl) (fun _ _ _ h => h) (Or.inl ⟨by rfl, ?hy26⟩) (by assumption) ?rest26
            case hy26 => intro wz hSw; (try dsimp only at hSw); go_simp; try with_reducible rfl
            simp only [Act.put, List.setIfInBounds_toArray, List.set_cons_zero, List.set_cons_succ]
            refine wpAnyH_ready (rs := [5, 9]) (by as_aux_lemma => kernel_rfl) (by simp) ?_
            refine AllReadyH.cons rfl (fun K' hK => ?_) (AllReadyH.cons rfl (fun K' hK => ?_) AllReadyH.nil)
            · skip
              refine step_ltake (by rfl) (.tmp 40) (.tmp 44) #[25, 3] (by rfl) _ ⟨nx2, st2, hi2, [b02, b12, b22, b32, b42, b52, b62, b72]⟩ left[j] 10 (by rfl) (by rfl) (hL2.below (Below.refl _ _).drew) hok2 ?_; intro nx3 st3 hi3 b03 b13 b23 b33 b43 b53 b63 b73 p3 cap3 sq3 w3 e3 hs3 hm3 hl3 hw3d; have hwA : Below w9.heap.size w9 w3 := ⟨hw3d.os, hw3d.tape, hw3d.output, hw3d.size, hw3d.block⟩; clear hw3d e3 hs3 hm3 hl3
              refine hK.out _ _ (HS12.out _ hwA) (fun hHeld2 => ?_)
              clear hK K'
              refine takeD 6 39 ?v27 rfl (by as_aux_lemma => kernel_rfl) (by as_aux_lemma => kernel_rfl) (by as_aux_lemma => kernel_rfl) (by as_aux_lemma => kernel_rfl) (fun _ _ _ h => h) (Or.inl ⟨by rfl, ?hy27⟩) (by assumption) ?rest27
              case hy27 => intro wz hSw; (try dsimp only at hSw); go_simp; try with_reducible rfl
              simp only [Act.put, List.setIfInBounds_toArray, List.set_cons_zero, List.set_cons_succ]
              refine takeD 7 46 ?v28 rfl (by as_aux_lemma => kernel_rfl) (by as_aux_lemma => kernel_rfl) (by as_aux_lemma => kernel_rfl) (by as_aux_lemma => kernel_rfl) (fun _ _ _ h => h) (Or.inl ⟨by rfl, ?hy28⟩) (by assumption) ?rest28
              case hy28 => intro wz hSw; (try dsimp only at hSw); go_simp; try with_reducible rfl
              simp only [Act.put, List.setIfInBounds_toArray, List.set_cons_zero, List.set_cons_succ]
              refine takeD 8 47 ?v29 rfl (by as_aux_lemma => kernel_rfl) (by as_aux_lemma => kernel_rfl) (by as_aux_lemma => kernel_rfl) (by as_aux_lemma => kernel_rfl) (fun _ _ _ h => h) (Or.inl ⟨by rfl, ?hy29⟩) (by assumption) ?rest29
              case hy29 => intro wz hSw; (try dsimp only at hSw); go_simp; try with_reducible rfl
              simp only [Act.put, List.setIfInBounds_toArray, List.set_cons_zero, List.set_cons_succ]
              refine wpAnyH_ready (rs := [9]) (by as_aux_lemma => kernel_rfl) (by simp) ?_
              refine AllReadyH.cons rfl (fun K' hK => ?_) AllReadyH.nil
              go_simp
              refine hK.out _ _ (HS12.out _ (below_then hwA (below_box _ _))) (fun hHeld3 => ?_)
              clear hK K'
              refine wpAnyH_ready (rs := [10]) (by as_aux_lemma => kernel_rfl) (by simp) ?_
              refine AllReadyH.cons rfl (fun K' hK => ?_) AllReadyH.nil
              go_simp
              refine hK.out _ _ (HS12.out _ (below_then hwA (below_box _ _))) (fun hHeld4 => ?_)
              clear hK K'
              refine takeD 11 10 ?v30 rfl (by as_aux_lemma => kernel_rfl) (by as_aux_lemma => kernel_rfl) (by as_aux_lemma => kernel_rfl) (by as_aux_lemma => kernel_rfl) (fun _ _ _ h => h) (Or.inl ⟨by rfl, ?hy30⟩) (by assumption) ?rest30
              case hy30 => intro wz hSw; (try dsimp only at hSw); go_simp; try with_reducible rfl
              simp only [Act.put, List.setIfInBounds_toArray, List.set_cons_zero, List.set_cons_succ]
              refine wpAnyH_done (by as_aux_lemma => kernel_rfl) ?_ _
              go_wp2_with fail
              go_meet
              exact ⟨rfl, below_then hwA (below_box _ _)⟩
            · skip
              go_simp
              refine hK.out _ _ (HS12.out _ (below_box _ _).drew) (fun hHeld2 => ?_)
              clear hK K'
              refine wpAnyH_ready (rs := [5]) (by as_aux_lemma => kernel_rfl) (by simp) ?_
              refine AllReadyH.cons rfl (fun K' hK => ?_) AllReadyH.nil
              refine step_ltake (by rfl) (.tmp 40) (.tmp 44) #[25, 3] (by rfl) _ ⟨nx2, st2, hi2, [b02, b12, b22, b32, b42, b52, b62, b72]⟩ left[j] 10 (by rfl) (by rfl) (hL2.below (below_box w9 _).drew) hok2 ?_; intro nx3 st3 hi3 b03 b13 b23 b33 b43 b53 b63 b73 p3 cap3 sq3 w3 e3 hs3 hm3 hl3 hw3d; have hw3 : Below (w9.heap.size + 1) (w9.alloc (.cells #[.int .i64 0, .slice none 0 0, .int .i64 0, .bool false, .bool false, .bool false, .bool false, .bool false, .bool false, .bool false, .bool false] 25)) w3 := ⟨hw3d.os, hw3d.tape, hw3d.output, by simpa using hw3d.size, fun k hk => hw3d.block k (by simpa using hk)⟩; have hwB : Below w9.heap.size w9 w3 := (below_box w9 _).trans (hw3.mono (by omega)); have hz : w3.heap[w9.heap.size]? = some (.cells #[.int .i64 0, .slice none 0 0, .int .i64 0, .bool false, .bool false, .bool false, .bool false, .bool false, .bool false, .bool false, .bool false] 25 (0, 0)) := (by rw [hw3.block _ (by omega)]; exact heap_alloc_new w9 _); have z0 := heap_cell hz 0; have zf0 := heap_frozen hz 0; have z1 := heap_cell hz 1; have zf1 := heap_frozen hz 1; have z2 := heap_cell hz 2; have zf2 := heap_frozen hz 2; have z3 := heap_cell hz 3; have zf3 := heap_frozen hz 3; have z4 := heap_cell hz 4; have zf4 := heap_frozen hz 4; have z5 := heap_cell hz 5; have zf5 := heap_frozen hz 5; have z6 := heap_cell hz 6; have zf6 := heap_frozen hz 6; have z7 := heap_cell hz 7; have zf7 := heap_frozen hz 7; have z8 := heap_cell hz 8; have zf8 := heap_frozen hz 8; have z9 := heap_cell hz 9; have zf9 := heap_frozen hz 9; have z10 := heap_cell hz 10; have zf10 := heap_frozen hz 10; have hwC : Below w9.heap.size w9 (((((((((((w3.setCell ⟨w9.heap.size, 0, none⟩ (.int .i64 nx3)).setCell ⟨w9.heap.size, 1, none⟩ (.slice p3 st3.length cap3)).setCell ⟨w9.heap.size, 2, none⟩ (.int .i64 hi3)).setCell ⟨w9.heap.size, 3, none⟩ (.bool b03)).setCell ⟨w9.heap.size, 4, none⟩ (.bool b13)).setCell ⟨w9.heap.size, 5, none⟩ (.bool b23)).setCell ⟨w9.heap.size, 6, none⟩ (.bool b33)).setCell ⟨w9.heap.size, 7, none⟩ (.bool b43)).setCell ⟨w9.heap.size, 8, none⟩ (.bool b53)).setCell ⟨w9.heap.size, 9, none⟩ (.bool b63)).setCell ⟨w9.heap.size, 10, none⟩ (.bool b73)) := hwB.grown (st11_grown w3 w9.heap.size (.int .i64 nx3) (.slice p3 st3.length cap3) (.int .i64 hi3) (.bool b03) (.bool b13) (.bool b23) (.bool b33) (.bool b43) (.bool b53) (.bool b63) (.bool b73)) hwB.size (fun k hk => by have := Option.some.inj hk; omega); clear hw3d e3 hs3 hm3 hl3 hz hw3
              refine hK.out _ _ (HS12.out _ hwB) (fun hHeld3 => ?_)
              clear hK K'
              refine takeD 6 39 ?v31 rfl (by as_aux_lemma => kernel_rfl) (by as_aux_lemma => kernel_rfl) (by as_aux_lemma => kernel_rfl) (by as_aux_lemma => kernel_rfl) (fun _ _ _ h => h) (Or.inl ⟨by rfl, ?hy31⟩) (by assumption) ?rest31
              case hy31 => intro wz hSw; (try dsimp only at hSw); go_simp; try with_reducible rfl
              simp only [Act.put, List.setIfInBounds_toArray, List.set_cons_zero, List.set_cons_succ]
              refine takeD 7 46 ?v32 rfl (by as_aux_lemma => kernel_rfl) (by as_aux_lemma => kernel_rfl) (by as_aux_lemma => kernel_rfl) (by as_aux_lemma => kernel_rfl) (fun _ _ _ h => h) (Or.inl ⟨by rfl, ?hy32⟩) (by assumption) ?rest32
              case hy32 => intro wz hSw; (try dsimp only at hSw); go_simp; try with_reducible rfl
              simp only [Act.put, List.setIfInBounds_toArray, List.set_cons_zero, List.set_cons_succ]
              refine takeD 8 47 ?v33 rfl (by as_aux_lemma => kernel_rfl) (by as_aux_lemma => kernel_rfl) (by as_aux_lemma => kernel_rfl) (by as_aux_lemma => kernel_rfl) (fun _ _ _ h => h) (Or.inl ⟨by rfl, ?hy33⟩) (by assumption) ?rest33
              case hy33 => intro wz hSw; (try dsimp only at hSw); go_simp; try with_reducible rfl
              simp only [Act.put, List.setIfInBounds_toArray, List.set_cons_zero, List.set_cons_succ]
              refine wpAnyH_ready (rs := [10]) (by as_aux_lemma => kernel_rfl) (by simp) ?_
              refine AllReadyH.cons rfl (fun K' hK => ?_) AllReadyH.nil
              go_simp
              refine hK.out _ _ (HS12.out _ hwC) (fun hHeld4 => ?_)
              clear hK K'
              refine takeD 11 10 ?v34 rfl (by as_aux_lemma => kernel_rfl) (by as_aux_lemma => kernel_rfl) (by as_aux_lemma => kernel_rfl) (by as_aux_lemma => kernel_rfl) (fun _ _ _ h => h) (Or.inl ⟨by rfl, ?hy34⟩) (by assumption) ?rest34
              case hy34 => intro wz hSw; (try dsimp only at hSw); go_simp; try with_reducible rfl
              simp only [Act.put, List.setIfInBounds_toArray, List.set_cons_zero, List.set_cons_succ]
              refine wpAnyH_done (by as_aux_lemma => kernel_rfl) ?_ _
              go_wp2_with fail
              go_meet
              exact ⟨rfl, hwC⟩
          case rest =>
            clear cj2 hok2 hL2 hS2 HX2 y0 y1 y2 y3 y4 y5 y6 y7 y8 y9 y10
            obtain ⟨rfl, hw4⟩ := hcut
            have hb5 : Below w.heap.size w wc := below_then (below_then hb hw2) hw4
            have hLV5 := HLV.out.below (below_then hw2 hw4)
            have hcB : c ≠ w.heap.size := by omega
            have hcB2 : w.heap.size ≠ c := by omega
            obtain ⟨nx4, st4, hi4, b04, b14, b24, b34, b44, b54, b64, b74, p4, cap4, sq4, e4, hX4, hm4, hl4, ho4⟩ := HBC.out.below hw4
            obtain ⟨nx5, st5, hi5, b05, b15, b25, b35, b45, b55, b65, b75, p5, cap5, _, hX5, _⟩ := (HBB.out.below hw4).open
            have y0 := heap_cell hX4 0
            have y1 := heap_cell hX4 1
            have y2 := heap_cell hX4 2
            have y3 := heap_cell hX4 3
            have y4 := heap_cell hX4 4
            have y5 := heap_cell hX4 5
            have y6 := heap_cell hX4 6
            have y7 := heap_cell hX4 7
            have y8 := heap_cell hX4 8
            have y9 := heap_cell hX4 9
            have y10 := heap_cell hX4 10
            have x0 := heap_cell hX5 0
            have xf0 := heap_frozen hX5 0
            have x1 := heap_cell hX5 1
            have xf1 := heap_frozen hX5 1
            have x2 := heap_cell hX5 2
            have xf2 := heap_frozen hX5 2
            have x3 := heap_cell hX5 3
            have xf3 := heap_frozen hX5 3
            have x4 := heap_cell hX5 4
            have xf4 := heap_frozen hX5 4
            have x5 := heap_cell hX5 5
            have xf5 := heap_frozen hX5 5
            have x6 := heap_cell hX5 6
            have xf6 := heap_frozen hX5 6
            have x7 := heap_cell hX5 7
            have xf7 := heap_frozen hX5 7
            have x8 := heap_cell hX5 8
            have xf8 := heap_frozen hX5 8
            have x9 := heap_cell hX5 9
            have xf9 := heap_frozen hX5 9
            have x10 := heap_cell hX5 10
            have xf10 := heap_frozen hX5 10
            have hS4 := st11_grown wc w.heap.size (.int .i64 nx4) (.slice p4 st4.length cap4) (.int .i64 hi4) (.bool b04) (.bool b14) (.bool b24) (.bool b34) (.bool b44) (.bool b54) (.bool b64) (.bool b74)
            have HBOX : Hid (LBox (((((((((((wc.setCell ⟨w.heap.size, 0, none⟩ (.int .i64 nx4)).setCell ⟨w.heap.size, 1, none⟩ (.slice p4 st4.length cap4)).setCell ⟨w.heap.size, 2, none⟩ (.int .i64 hi4)).setCell ⟨w.heap.size, 3, none⟩ (.bool b04)).setCell ⟨w.heap.size, 4, none⟩ (.bool b14)).setCell ⟨w.heap.size, 5, none⟩ (.bool b24)).setCell ⟨w.heap.size, 6, none⟩ (.bool b34)).setCell ⟨w.heap.size, 7, none⟩ (.bool b44)).setCell ⟨w.heap.size, 8, none⟩ (.bool b54)).setCell ⟨w.heap.size, 9, none⟩ (.bool b64)).setCell ⟨w.heap.size, 10, none⟩ (.bool b74)) w.heap.size (w.heap.size + 1) (takeLn ⟨nx0, st0, hi0, [b00, b10, b20, b30, b40, b50, b60, b70]⟩ left[j]).1) := hid (by rw [e4]; exact (lbox_store hX5 ho4 (by omega) hm4 hl4 nx4 hi4 b04 b14 b24 b34 b44 b54 b64 b74).1)
            have HB6 : Hid (Below w.heap.size w (((((((((((wc.setCell ⟨w.heap.size, 0, none⟩ (.int .i64 nx4)).setCell ⟨w.heap.size, 1, none⟩ (.slice p4 st4.length cap4)).setCell ⟨w.heap.size, 2, none⟩ (.int .i64 hi4)).setCell ⟨w.heap.size, 3, none⟩ (.bool b04)).setCell ⟨w.heap.size, 4, none⟩ (.bool b14)).setCell ⟨w.heap.size, 5, none⟩ (.bool b24)).setCell ⟨w.heap.size, 6, none⟩ (.bool b34)).setCell ⟨w.heap.size, 7, none⟩ (.bool b44)).setCell ⟨w.heap.size, 8, none⟩ (.bool b54)).setCell ⟨w.heap.size, 9, none⟩ (.bool b64)).setCell ⟨w.heap.size, 10, none⟩ (.bool b74))) := hid (hb5.grown hS4 hb5.size (fun k hk => by have := Option.some.inj hk; omega))
            have HLV6 : Hid (IntsAt (((((((((((wc.setCell ⟨w.heap.size, 0, none⟩ (.int .i64 nx4)).setCell ⟨w.heap.size, 1, none⟩ (.slice p4 st4.length cap4)).setCell ⟨w.heap.size, 2, none⟩ (.int .i64 hi4)).setCell ⟨w.heap.size, 3, none⟩ (.bool b04)).setCell ⟨w.heap.size, 4, none⟩ (.bool b14)).setCell ⟨w.heap.size, 5, none⟩ (.bool b24)).setCell ⟨w.heap.size, 6, none⟩ (.bool b34)).setCell ⟨w.heap.size, 7, none⟩ (.bool b44)).setCell ⟨w.heap.size, 8, none⟩ (.bool b54)).setCell ⟨w.heap.size, 9, none⟩ (.bool b64)).setCell ⟨w.heap.size, 10, none⟩ (.bool b74)) (.slice (some ⟨bv, ov, none⟩) left.length cv) left) := hid (by
              refine ⟨_, _, rfl, hlc, hl43, fun _ => ⟨bv, ov, rfl, fun i hi => ?_⟩⟩
              have h1 := (below_then hw2 hw4).cell (cell_block (HCV.out i hi))
              rw [HCV.out i hi] at h1
              have hbl := cell_block h1
              simp only [World.cell?] at h1 ⊢
              rw [hS4.block bv hbl (fun e => by have := Option.some.inj e; omega)]
              exact h1)
            have hjc : (j : Int) ≤ (cv : Int) := by omega
            clear hS4 e4 hX4 hX5 ho4 hm4
            go_wp2
            clear x0 xf0 y0 x1 xf1 y1 x2 xf2 y2 x3 xf3 y3 x4 xf4 y4 x5 xf5 y5 x6 xf6 y6 x7 xf7 y7 x8 xf8 y8 x9 xf9 y9 x10 xf10 y10
            generalize (((((((((((wc.setCell ⟨w.heap.size, 0, none⟩ (.int .i64 nx4)).setCell ⟨w.heap.size, 1, none⟩ (.slice p4 st4.length cap4)).setCell ⟨w.heap.size, 2, none⟩ (.int .i64 hi4)).setCell ⟨w.heap.size, 3, none⟩ (.bool b04)).setCell ⟨w.heap.size, 4, none⟩ (.bool b14)).setCell ⟨w.heap.size, 5, none⟩ (.bool b24)).setCell ⟨w.heap.size, 6, none⟩ (.bool b34)).setCell ⟨w.heap.size, 7, none⟩ (.bool b44)).setCell ⟨w.heap.size, 8, none⟩ (.bool b54)).setCell ⟨w.heap.size, 9, none⟩ (.bool b64)).setCell ⟨w.heap.size, 10, none⟩ (.bool b74)) = w6 at *
            obtain ⟨mt, hmt⟩ : ∃ mt, mt = left.take j := ⟨_, rfl⟩
            have hmtl : mt.length = j := by rw [hmt, List.length_take]; omega
            have HMT := hid hmt
            have HT : Hid (IntsAt w6 (.slice (some ⟨bv, ov, none⟩) j cv) mt) := hid (by rw [hmt]; exact HLV6.out.take j (by omega))
            have HMTL := hid hmtl
            clear hmt hmtl
            obtain ⟨J, hJ⟩ : ∃ J : Nat, J = j + 1 := ⟨_, rfl⟩
            obtain ⟨md, hmd⟩ : ∃ md, md = left.drop J := ⟨_, rfl⟩
            have hmdl : md.length = left.length - J := by rw [hmd, List.length_drop]
            have HMD := hid hmd
            have HD : Hid (IntsAt w6 (.slice (if cv = J then some ⟨bv, ov, none⟩ else some ⟨bv, ov + J, none⟩) (left.length - J) (cv - J)) md) := hid (by rw [hmd]; exact HLV6.out.drop' J (by omega))
            have HMDL := hid hmdl
            clear hmd hmdl
            have HJ := hid hJ
            have hwJ : IntKind.i64.wrap ((j : Int) + 1) = (J : Int) := by
              have h1 : IntKind.i64.wrap ((j : Int) + 1) = (j : Int) + 1 := wrap_small _ (by omega) (by omega)
              rw [h1, hJ]
              omega
            have hJl : (J : Int) ≤ (left.length : Int) := by omega
            clear hJ
            have hl9 : left.length ≤ 8 := by omega
            refine wp_region_held_drew (S := (fun w' => True)) (by as_aux_lemma => kernel_rfl) trivial (fun hHeld => ?_)
            refine takeD 0 51 ?v1 rfl (by as_aux_lemma => kernel_rfl) (by as_aux_lemma => kernel_rfl) (by as_aux_lemma => kernel_rfl) (by as_aux_lemma => kernel_rfl) (fun _ _ _ h => h) (Or.inl ⟨by rfl, ?hy1⟩) (by assumption) ?rest1
            case hy1 => intro wz hSw; (try dsimp only at hSw); go_simp; try with_reducible rfl
            simp only [Act.put, List.setIfInBounds_toArray, List.set_cons_zero, List.set_cons_succ]
            refine takeD 1 52 ?v2 rfl (by as_aux_lemma => kernel_rfl) (by as_aux_lemma => kernel_rfl) (by as_aux_lemma => kernel_rfl) (by as_aux_lemma => kernel_rfl) (fun _ _ _ h => h) (Or.inl ⟨by rfl, ?hy2⟩) (by assumption) ?rest2
            case hy2 => intro wz hSw; (try dsimp only at hSw); go_simp; try with_reducible rfl
            simp only [Act.put, List.setIfInBounds_toArray, List.set_cons_zero, List.set_cons_succ]
            refine takeD 2 53 ?v3 rfl (by as_aux_lemma => kernel_rfl) (by as_aux_lemma => kernel_rfl) (by as_aux_lemma => kernel_rfl) (by as_aux_lemma => kernel_rfl) (fun _ _ _ h => h) (Or.inl ⟨by rfl, ?hy3⟩) (by assumption) ?rest3
            case hy3 => intro wz hSw; (try dsimp only at hSw); go_simp; try with_reducible rfl
            simp only [Act.put, List.setIfInBounds_toArray, List.set_cons_zero, List.set_cons_succ]
            refine takeD 4 55 ?v4 rfl (by as_aux_lemma => kernel_rfl) (by as_aux_lemma => kernel_rfl) (by as_aux_lemma => kernel_rfl) (by as_aux_lemma => kernel_rfl) (fun _ _ _ h => h) (Or.inl ⟨by rfl, ?hy4⟩) (by assumption) ?rest4
            case hy4 => intro wz hSw; (try dsimp only at hSw); go_simp; try with_reducible rfl
            simp only [Act.put, List.setIfInBounds_toArray, List.set_cons_zero, List.set_cons_succ]
            refine takeD 5 56 ?v5 rfl (by as_aux_lemma => kernel_rfl) (by as_aux_lemma => kernel_rfl) (by as_aux_lemma => kernel_rfl) (by as_aux_lemma => kernel_rfl) (fun _ _ _ h => h) (Or.inl ⟨by rfl, ?hy5⟩) (by assumption) ?rest5
            case hy5 => intro wz hSw; (try dsimp only at hSw); go_simp; try with_reducible rfl
            simp only [Act.put, List.setIfInBounds_toArray, List.set_cons_zero, List.set_cons_succ]
            refine takeD 6 57 ?v6 rfl (by as_aux_lemma => kernel_rfl) (by as_aux_lemma => kernel_rfl) (by as_aux_lemma => kernel_rfl) (by as_aux_lemma => kernel_rfl) (fun _ _ _ h => h) (Or.inl ⟨by rfl, ?hy6⟩) (by assumption) ?rest6
            case hy6 => intro wz hSw; (try dsimp only at hSw); go_simp; try with_reducible rfl
            simp only [Act.put, List.setIfInBounds_toArray, List.set_cons_zero, List.set_cons_succ]
            refine takeD 7 58 ?v7 rfl (by as_aux_lemma => kernel_rfl) (by as_aux_lemma => kernel_rfl) (by as_aux_lemma => kernel_rfl) (by as_aux_lemma => kernel_rfl) (fun _ _ _ h => h) (Or.inl ⟨by rfl, ?hy7⟩) (by assumption) ?rest7
            case hy7 => intro wz hSw; (try dsimp only at hSw); go_simp; try with_reducible rfl
            simp only [Act.put, List.setIfInBounds_toArray, List.set_cons_zero, List.set_cons_succ]
            refine wpAnyH_ready (rs := [3]) (by as_aux_lemma => kernel_rfl) (by simp) ?_
            refine AllReadyH.cons rfl (fun K' hK => ?_) AllReadyH.nil
            refine step_copy1 (by rfl) (.tmp 53) (by rfl) w6.heap.size _ mt (by rfl) HT.out (Nat.le_refl _) ?_; intro v7 w7 hown7 hg7; have hw7 : Below w6.heap.size w6 w7 := below_none' (grown_drew hg7); obtain ⟨p7, c7, hv7⟩ := own_slice hown7; rw [HMTL.out] at hv7; subst hv7; clear hg7
            refine hK.out _ _ (trivial) (fun hHeld2 => ?_)
            clear hK K'
            refine wpAnyH_ready (rs := [8]) (by as_aux_lemma => kernel_rfl) (by simp) ?_
            refine AllReadyH.cons rfl (fun K' hK => ?_) AllReadyH.nil
            refine step_appI (by rfl) (.tmp 54) (.tmp 58) (by rfl) w6.heap.size _ _ mt md (by rfl) hown7 (by rfl) (HD.out.below hw7) (by have := HMTL.out; have := HMDL.out; omega) hw7.size ?_; intro v8 w8 hown8 hg8; have hw8 : Below w6.heap.size w6 w8 := hw7.grown hg8 hw7.size (fun k hk => own_base hown7 hk); clear hg8
            refine hK.out _ _ (trivial) (fun hHeld3 => ?_)
            clear hK K'
            refine takeD 9 4 ?v8 rfl (by as_aux_lemma => kernel_rfl) (by as_aux_lemma => kernel_rfl) (by as_aux_lemma => kernel_rfl) (by as_aux_lemma => kernel_rfl) (fun _ _ _ h => h) (Or.inl ⟨by rfl, ?hy8⟩) (by assumption) ?rest8
            case hy8 => intro wz hSw; (try dsimp only at hSw); go_simp; try with_reducible rfl
            simp only [Act.put, List.setIfInBounds_toArray, List.set_cons_zero, List.set_cons_succ]
            refine wpAnyH_done (by as_aux_lemma => kernel_rfl) ?_ _
            go_wp2_with fail
            have hl8 : mt.length + md.length = (left.take j ++ left.drop (j + 1)).length := by rw [HMT.out, HMD.out, HJ.out, List.length_append]
            have hi8 : IntsAt w8 v8 (left.take j ++ left.drop (j + 1)) := nums_of_own (base := w6.heap.size) (by rw [← hl8]; have := hown8; rw [HMT.out, HMD.out, HJ.out] at this; rw [HMT.out, HMD.out, HJ.out]; exact this) (by rw [← hl8]; have := HMTL.out; have := HMDL.out; omega)
            have hl7 : (left.take j ++ left.drop (j + 1)).length + 1 = left.length := by rw [← hl8]; have := HMTL.out; have := HMDL.out; have := HJ.out; omega
            have hb6 := HB6.out.size
            go_roundw
            case rel => exact ⟨_, _, k + 1, HSTEP.out, by go_num, by omega, hi8, fun i hi => Nat.le_trans (by have := HBOX.out.lt; omega) (own_base hown8 hi), HBOX.out.below hw8, below_then HB6.out hw8⟩
            case measure => simp [intOf]; omega
    · have hI : ¬ (0 : Int) < (left.length : Int) := by omega
      have hnil : left = [] := List.length_eq_zero_iff.1 (by omega)
      subst hnil
      have h8 := ht.end
      obtain ⟨nx0, st0, hi0, b00, b10, b20, b30, b40, b50, b60, b70, p0, cap0, rfl, hX0, hS0⟩ := hbx.open
      simp only at h8
      have x2 := heap_cell hX0 2
      have hI2 : ¬ (0 : Int) < (([] : List Int).length : Int) := by simp
      clear HT HLV HBX ht hbx hlv hcv hX0 hS0
      subst h8
      go_wp2_with (go_at_call 25; refine (klines_any _).mono ?_; rintro e w7 ⟨rfl, hw7⟩)
      go_ret
      exact ⟨rfl, below_then hb hw7⟩
end Go.Proofs.Ytdkohhjacgplcaa
