/- The reference: SameLine answers true of two lines that are the same. -/
import Derived.Test.YtmpjddnbdidleaaLSame
import Derived.Test.YtmpjddnbdidleaaLGood
import Derived.ChangeKeysEq
import Derived.Test.YtmpjddnbdidleaaTakeD
import Derived.Deep.DeepCutAuto
import Derived.Deep.RegionHeld3
namespace Go.Proofs.Ytmpjddnbdidleaa
open Go.RowKit Go.Proofs.Parclose

theorem neq_seen (b0 b1 b2 b3 b4 b5 b6 b7 : Bool) (w : World) : (binOp .neq 23 (.agg #[.bool b0, .bool b1, .bool b2, .bool b3, .bool b4, .bool b5, .bool b6, .bool b7]) (.agg #[.bool b0, .bool b1, .bool b2, .bool b3, .bool b4, .bool b5, .bool b6, .bool b7])).run Try.prog w = .ok (.bool false) w := by
  rw [run_neq_struct, show (10000 : Nat) = 9999 + 1 from rfl]
  obtain ⟨i, hi⟩ : ∃ i, Try.prog.info? 4 = some i := ⟨_, rfl⟩
  rw [run_equalIn_array w 9999 _ _ Try.underlying23 hi]
  have hc : Try.prog.cellsOf 4 = 1 := by kernel_rfl
  rw [hc, show List.range 8 = [0, 1, 2, 3, 4, 5, 6, 7] from rfl]
  have e1 : ∀ (b : Bool) (w : World), (Op.equalIn 9999 4 (.bool b) (.bool b)).run Try.prog w = .ok true w := fun b w => by rw [show (9999 : Nat) = 9998 + 1 from rfl, run_equalIn_bool w 9998 4 b b Try.underlying4]; simp
  simp [Op.eqItems, e1, part]
theorem guard_seen (op : BinOp) (a b : Operand) (x y : Array Value) (w : World) : (eqGuard op 23 a b (.agg x) (.agg y)).run Try.prog w = .ok () w :=
  run_eqGuard_agg w op 23 a b x y (by kernel_rfl)

set_option linter.unusedSimpArgs false in
set_option maxRecDepth 100000 in
set_option maxHeartbeats 3200000 in
theorem rsameLine_eq (va vb : Value) (L : Lne) (w : World) (ha : LneAt w va L) (hb : LneAt w vb L) :
    Calls Try.prog 13 #[va, vb] w fun e w' => e = .returned (.bool true) ∧ Below w.heap.size w w' := by
  obtain ⟨nx, st, hi, b0, b1, b2, b3, b4, b5, b6, b7, p, cap, rfl, rfl, hs⟩ := ha.spell
  obtain ⟨nx', st', hi', b0', b1', b2', b3', b4', b5', b6', b7', p', cap', hL, rfl, hs'⟩ := hb.spell
  simp only [Lne.mk.injEq, List.cons.injEq, and_true] at hL
  obtain ⟨rfl, rfl, rfl, rfl, rfl, rfl, rfl, rfl, rfl, rfl, rfl⟩ := hL
  clear ha hb
  have hlen := hs.len
  have hns := fun wx => neq_seen b0 b1 b2 b3 b4 b5 b6 b7 wx
  have hgs := guard_seen
  go_enter Try.func13, Try.ntmps13
  go_wp2
  go_loopw [39] (fun i wr => ∃ k : Nat, k ≤ st.length ∧ i = .int .i64 k ∧ wr.heap[w.heap.size]? = some (.cells #[.int .i64 nx, .slice p st.length cap, .int .i64 hi, .bool b0, .bool b1, .bool b2, .bool b3, .bool b4, .bool b5, .bool b6, .bool b7] 25 (0, 0)) ∧ wr.heap[w.heap.size + 1]? = some (.cells #[.int .i64 nx, .slice p' st.length cap', .int .i64 hi, .bool b0, .bool b1, .bool b2, .bool b3, .bool b4, .bool b5, .bool b6, .bool b7] 25 (0, 0)) ∧ Below w.heap.size w wr) (fun i _ => st.length - (intOf i).toNat)
  case atStart => exact ⟨0, Nat.zero_le _, rfl, heap_alloc2_old w _ _, heap_alloc2_new w _ _, (below_box w _).alloc (by simp) _⟩
  case round =>
    obtain ⟨k, hk, rfl, hA, hB, hb⟩ := hrel
    by_cases hlt : k < st.length
    · have hI : (k : Int) < (st.length : Int) := by omega
      obtain ⟨bb, o, pl, cl, pg, cg, pc, cc, rfl, hat⟩ := hs.get k hlt
      obtain ⟨bb', o', pl', cl', pg', cg', pc', cc', rfl, hat'⟩ := hs'.get k hlt
      have hat := hat.below hb
      have hat' := hat'.below hb
      generalize st[k] = s at *
      have HF : Hid (FrmAt wr (.agg #[.int .i64 s.f.fr, .int .i64 s.f.to, .int .i64 s.f.seq, .bool s.f.ack, .int .i64 s.f.thread, .int .i64 s.f.mail.host, .int .i64 s.f.mail.thread, .slice pl s.f.mail.label.length cl, .slice pg s.f.mail.grants.length cg, .string ⟨s.f.mail.text.toArray⟩, .slice pc s.f.certs.length cc]) s.f) := hid ⟨_, _, _, rfl, hat.lab, hat.nums, hat.crts⟩
      have HF' : Hid (FrmAt wr (.agg #[.int .i64 s.f.fr, .int .i64 s.f.to, .int .i64 s.f.seq, .bool s.f.ack, .int .i64 s.f.thread, .int .i64 s.f.mail.host, .int .i64 s.f.mail.thread, .slice pl' s.f.mail.label.length cl', .slice pg' s.f.mail.grants.length cg', .string ⟨s.f.mail.text.toArray⟩, .slice pc' s.f.certs.length cc']) s.f) := hid ⟨_, _, _, rfl, hat'.lab, hat'.nums, hat'.crts⟩
      obtain ⟨c0, c1, c2, c3, c4, c5, c6, c7, c8, c9, c10, c11, c12, _, _, _⟩ := hat
      obtain ⟨d0, d1, d2, d3, d4, d5, d6, d7, d8, d9, d10, d11, d12, _, _, _⟩ := hat'
      have a1 := heap_cell hA 1
      have e1 := heap_cell hB 1
      have HA := hid hA
      have HB := hid hB
      have hbl := cell_block c0
      have hbl' := cell_block d0
      simp only at hbl hbl'
      clear hA hB hs hs'
      go_upto_region 6 with fail
      go_cut [6, 7] (fun v6 v7 wx => ∃ A C : Nat, v6 = .pointer (some ⟨A, 0, none⟩) ∧ v7 = .pointer (some ⟨C, 0, none⟩) ∧ wx.heap[A]? = some (.cells #[.int .i64 s.f.fr, .int .i64 s.f.to, .int .i64 s.f.seq, .bool s.f.ack, .int .i64 s.f.thread, .int .i64 s.f.mail.host, .int .i64 s.f.mail.thread, .slice pl s.f.mail.label.length cl, .slice pg s.f.mail.grants.length cg, .string ⟨s.f.mail.text.toArray⟩, .slice pc s.f.certs.length cc, .int .i64 s.tries, .int .i64 s.due] 56 (0, 0)) ∧ wx.heap[C]? = some (.cells #[.int .i64 s.f.fr, .int .i64 s.f.to, .int .i64 s.f.seq, .bool s.f.ack, .int .i64 s.f.thread, .int .i64 s.f.mail.host, .int .i64 s.f.mail.thread, .slice pl' s.f.mail.label.length cl', .slice pg' s.f.mail.grants.length cg', .string ⟨s.f.mail.text.toArray⟩, .slice pc' s.f.certs.length cc', .int .i64 s.tries, .int .i64 s.due] 56 (0, 0)) ∧ Below wr.heap.size wr wx)
      case first =>
        have HS : Hid (∀ w', Below wr.heap.size wr w' → w'.cell? ⟨w.heap.size, 1, none⟩ = some (.slice (some ⟨bb, o, none⟩) st.length cap) ∧ w'.cell? ⟨w.heap.size + 1, 1, none⟩ = some (.slice (some ⟨bb', o', none⟩) st.length cap') ∧ w'.cell? ⟨bb, o + k * 13, none⟩ = some (.int .i64 s.f.fr) ∧ w'.cell? ⟨bb, o + k * 13 + 1, none⟩ = some (.int .i64 s.f.to) ∧ w'.cell? ⟨bb, o + k * 13 + 2, none⟩ = some (.int .i64 s.f.seq) ∧ w'.cell? ⟨bb, o + k * 13 + 3, none⟩ = some (.bool s.f.ack) ∧ w'.cell? ⟨bb, o + k * 13 + 4, none⟩ = some (.int .i64 s.f.thread) ∧ w'.cell? ⟨bb, o + k * 13 + 5, none⟩ = some (.int .i64 s.f.mail.host) ∧ w'.cell? ⟨bb, o + k * 13 + 6, none⟩ = some (.int .i64 s.f.mail.thread) ∧ w'.cell? ⟨bb, o + k * 13 + 7, none⟩ = some (.slice pl s.f.mail.label.length cl) ∧ w'.cell? ⟨bb, o + k * 13 + 8, none⟩ = some (.slice pg s.f.mail.grants.length cg) ∧ w'.cell? ⟨bb, o + k * 13 + 9, none⟩ = some (.string ⟨s.f.mail.text.toArray⟩) ∧ w'.cell? ⟨bb, o + k * 13 + 10, none⟩ = some (.slice pc s.f.certs.length cc) ∧ w'.cell? ⟨bb, o + k * 13 + 11, none⟩ = some (.int .i64 s.tries) ∧ w'.cell? ⟨bb, o + k * 13 + 12, none⟩ = some (.int .i64 s.due) ∧ w'.cell? ⟨bb', o' + k * 13, none⟩ = some (.int .i64 s.f.fr) ∧ w'.cell? ⟨bb', o' + k * 13 + 1, none⟩ = some (.int .i64 s.f.to) ∧ w'.cell? ⟨bb', o' + k * 13 + 2, none⟩ = some (.int .i64 s.f.seq) ∧ w'.cell? ⟨bb', o' + k * 13 + 3, none⟩ = some (.bool s.f.ack) ∧ w'.cell? ⟨bb', o' + k * 13 + 4, none⟩ = some (.int .i64 s.f.thread) ∧ w'.cell? ⟨bb', o' + k * 13 + 5, none⟩ = some (.int .i64 s.f.mail.host) ∧ w'.cell? ⟨bb', o' + k * 13 + 6, none⟩ = some (.int .i64 s.f.mail.thread) ∧ w'.cell? ⟨bb', o' + k * 13 + 7, none⟩ = some (.slice pl' s.f.mail.label.length cl') ∧ w'.cell? ⟨bb', o' + k * 13 + 8, none⟩ = some (.slice pg' s.f.mail.grants.length cg') ∧ w'.cell? ⟨bb', o' + k * 13 + 9, none⟩ = some (.string ⟨s.f.mail.text.toArray⟩) ∧ w'.cell? ⟨bb', o' + k * 13 + 10, none⟩ = some (.slice pc' s.f.certs.length cc') ∧ w'.cell? ⟨bb', o' + k * 13 + 11, none⟩ = some (.int .i64 s.tries) ∧ w'.cell? ⟨bb', o' + k * 13 + 12, none⟩ = some (.int .i64 s.due)) := hid (fun w' hb' => ⟨(hb'.cell (cell_block a1)).trans a1, (hb'.cell (cell_block e1)).trans e1, (hb'.cell (cell_block c0)).trans c0, (hb'.cell (cell_block c1)).trans c1, (hb'.cell (cell_block c2)).trans c2, (hb'.cell (cell_block c3)).trans c3, (hb'.cell (cell_block c4)).trans c4, (hb'.cell (cell_block c5)).trans c5, (hb'.cell (cell_block c6)).trans c6, (hb'.cell (cell_block c7)).trans c7, (hb'.cell (cell_block c8)).trans c8, (hb'.cell (cell_block c9)).trans c9, (hb'.cell (cell_block c10)).trans c10, (hb'.cell (cell_block c11)).trans c11, (hb'.cell (cell_block c12)).trans c12, (hb'.cell (cell_block d0)).trans d0, (hb'.cell (cell_block d1)).trans d1, (hb'.cell (cell_block d2)).trans d2, (hb'.cell (cell_block d3)).trans d3, (hb'.cell (cell_block d4)).trans d4, (hb'.cell (cell_block d5)).trans d5, (hb'.cell (cell_block d6)).trans d6, (hb'.cell (cell_block d7)).trans d7, (hb'.cell (cell_block d8)).trans d8, (hb'.cell (cell_block d9)).trans d9, (hb'.cell (cell_block d10)).trans d10, (hb'.cell (cell_block d11)).trans d11, (hb'.cell (cell_block d12)).trans d12⟩)
        refine wp_region_held_drew (S := (fun w' => w'.cell? ⟨w.heap.size, 1, none⟩ = some (.slice (some ⟨bb, o, none⟩) st.length cap) ∧ w'.cell? ⟨w.heap.size + 1, 1, none⟩ = some (.slice (some ⟨bb', o', none⟩) st.length cap') ∧ w'.cell? ⟨bb, o + k * 13, none⟩ = some (.int .i64 s.f.fr) ∧ w'.cell? ⟨bb, o + k * 13 + 1, none⟩ = some (.int .i64 s.f.to) ∧ w'.cell? ⟨bb, o + k * 13 + 2, none⟩ = some (.int .i64 s.f.seq) ∧ w'.cell? ⟨bb, o + k * 13 + 3, none⟩ = some (.bool s.f.ack) ∧ w'.cell? ⟨bb, o + k * 13 + 4, none⟩ = some (.int .i64 s.f.thread) ∧ w'.cell? ⟨bb, o + k * 13 + 5, none⟩ = some (.int .i64 s.f.mail.host) ∧ w'.cell? ⟨bb, o + k * 13 + 6, none⟩ = some (.int .i64 s.f.mail.thread) ∧ w'.cell? ⟨bb, o + k * 13 + 7, none⟩ = some (.slice pl s.f.mail.label.length cl) ∧ w'.cell? ⟨bb, o + k * 13 + 8, none⟩ = some (.slice pg s.f.mail.grants.length cg) ∧ w'.cell? ⟨bb, o + k * 13 + 9, none⟩ = some (.string ⟨s.f.mail.text.toArray⟩) ∧ w'.cell? ⟨bb, o + k * 13 + 10, none⟩ = some (.slice pc s.f.certs.length cc) ∧ w'.cell? ⟨bb, o + k * 13 + 11, none⟩ = some (.int .i64 s.tries) ∧ w'.cell? ⟨bb, o + k * 13 + 12, none⟩ = some (.int .i64 s.due) ∧ w'.cell? ⟨bb', o' + k * 13, none⟩ = some (.int .i64 s.f.fr) ∧ w'.cell? ⟨bb', o' + k * 13 + 1, none⟩ = some (.int .i64 s.f.to) ∧ w'.cell? ⟨bb', o' + k * 13 + 2, none⟩ = some (.int .i64 s.f.seq) ∧ w'.cell? ⟨bb', o' + k * 13 + 3, none⟩ = some (.bool s.f.ack) ∧ w'.cell? ⟨bb', o' + k * 13 + 4, none⟩ = some (.int .i64 s.f.thread) ∧ w'.cell? ⟨bb', o' + k * 13 + 5, none⟩ = some (.int .i64 s.f.mail.host) ∧ w'.cell? ⟨bb', o' + k * 13 + 6, none⟩ = some (.int .i64 s.f.mail.thread) ∧ w'.cell? ⟨bb', o' + k * 13 + 7, none⟩ = some (.slice pl' s.f.mail.label.length cl') ∧ w'.cell? ⟨bb', o' + k * 13 + 8, none⟩ = some (.slice pg' s.f.mail.grants.length cg') ∧ w'.cell? ⟨bb', o' + k * 13 + 9, none⟩ = some (.string ⟨s.f.mail.text.toArray⟩) ∧ w'.cell? ⟨bb', o' + k * 13 + 10, none⟩ = some (.slice pc' s.f.certs.length cc') ∧ w'.cell? ⟨bb', o' + k * 13 + 11, none⟩ = some (.int .i64 s.tries) ∧ w'.cell? ⟨bb', o' + k * 13 + 12, none⟩ = some (.int .i64 s.due))) (by as_aux_lemma => kernel_rfl) ⟨a1, e1, c0, c1, c2, c3, c4, c5, c6, c7, c8, c9, c10, c11, c12, d0, d1, d2, d3, d4, d5, d6, d7, d8, d9, d10, d11, d12⟩ (fun hHeld => ?_)
        refine takeD 0 42 ?v1 rfl (by as_aux_lemma => kernel_rfl) (by as_aux_lemma => kernel_rfl) (by as_aux_lemma => kernel_rfl) (by as_aux_lemma => kernel_rfl) (fun _ _ _ h => h) (Or.inl ⟨by rfl, ?hy1⟩) (by assumption) ?rest1
        case hy1 => intro wz hSw; (try dsimp only at hSw); go_simp; try with_reducible rfl
        simp only [Act.put, List.setIfInBounds_toArray, List.set_cons_zero, List.set_cons_succ]
        refine takeD 1 43 ?v2 rfl (by as_aux_lemma => kernel_rfl) (by as_aux_lemma => kernel_rfl) (by as_aux_lemma => kernel_rfl) (by as_aux_lemma => kernel_rfl) (fun _ _ _ h => h) (Or.inl ⟨by rfl, ?hy2⟩) (by assumption) ?rest2
        case hy2 => intro wz hSw; (try dsimp only at hSw); go_simp; try with_reducible rfl
        simp only [Act.put, List.setIfInBounds_toArray, List.set_cons_zero, List.set_cons_succ]
        refine takeD 2 44 ?v3 rfl (by as_aux_lemma => kernel_rfl) (by as_aux_lemma => kernel_rfl) (by as_aux_lemma => kernel_rfl) (by as_aux_lemma => kernel_rfl) (fun _ _ _ h => h) (Or.inl ⟨by rfl, ?hy3⟩) (by assumption) ?rest3
        case hy3 => intro wz hSw; (try dsimp only at hSw); go_simp; try with_reducible rfl
        simp only [Act.put, List.setIfInBounds_toArray, List.set_cons_zero, List.set_cons_succ]
        refine takeD 3 45 ?v4 rfl (by as_aux_lemma => kernel_rfl) (by as_aux_lemma => kernel_rfl) (by as_aux_lemma => kernel_rfl) (by as_aux_lemma => kernel_rfl) (fun _ _ _ h => h) (Or.inl ⟨by rfl, ?hy4⟩) (by assumption) ?rest4
        case hy4 => intro wz hSw; (try dsimp only at hSw); go_simp; try with_reducible rfl
        simp only [Act.put, List.setIfInBounds_toArray, List.set_cons_zero, List.set_cons_succ]
        refine takeD 4 46 ?v5 rfl (by as_aux_lemma => kernel_rfl) (by as_aux_lemma => kernel_rfl) (by as_aux_lemma => kernel_rfl) (by as_aux_lemma => kernel_rfl) (fun _ _ _ h => h) (Or.inl ⟨by rfl, ?hy5⟩) (by assumption) ?rest5
        case hy5 => intro wz hSw; (try dsimp only at hSw); go_simp; try with_reducible rfl
        simp only [Act.put, List.setIfInBounds_toArray, List.set_cons_zero, List.set_cons_succ]
        refine takeD 5 47 ?v6 rfl (by as_aux_lemma => kernel_rfl) (by as_aux_lemma => kernel_rfl) (by as_aux_lemma => kernel_rfl) (by as_aux_lemma => kernel_rfl) (fun _ _ _ h => h) (Or.inl ⟨by rfl, ?hy6⟩) (by assumption) ?rest6
        case hy6 => intro wz hSw; (try dsimp only at hSw); go_simp; try with_reducible rfl
        simp only [Act.put, List.setIfInBounds_toArray, List.set_cons_zero, List.set_cons_succ]
        refine takeD 6 48 ?v7 rfl (by as_aux_lemma => kernel_rfl) (by as_aux_lemma => kernel_rfl) (by as_aux_lemma => kernel_rfl) (by as_aux_lemma => kernel_rfl) (fun _ _ _ h => h) (Or.inl ⟨by rfl, ?hy7⟩) (by assumption) ?rest7
        case hy7 => intro wz hSw; (try dsimp only at hSw); go_simp; try with_reducible rfl
        simp only [Act.put, List.setIfInBounds_toArray, List.set_cons_zero, List.set_cons_succ]
        refine takeD 7 49 ?v8 rfl (by as_aux_lemma => kernel_rfl) (by as_aux_lemma => kernel_rfl) (by as_aux_lemma => kernel_rfl) (by as_aux_lemma => kernel_rfl) (fun _ _ _ h => h) (Or.inl ⟨by rfl, ?hy8⟩) (by assumption) ?rest8
        case hy8 => intro wz hSw; (try dsimp only at hSw); go_simp; try with_reducible rfl
        simp only [Act.put, List.setIfInBounds_toArray, List.set_cons_zero, List.set_cons_succ]
        refine takeD 8 50 ?v9 rfl (by as_aux_lemma => kernel_rfl) (by as_aux_lemma => kernel_rfl) (by as_aux_lemma => kernel_rfl) (by as_aux_lemma => kernel_rfl) (fun _ _ _ h => h) (Or.inl ⟨by rfl, ?hy9⟩) (by assumption) ?rest9
        case hy9 => intro wz hSw; (try dsimp only at hSw); go_simp; try with_reducible rfl
        simp only [Act.put, List.setIfInBounds_toArray, List.set_cons_zero, List.set_cons_succ]
        refine takeD 9 51 ?v10 rfl (by as_aux_lemma => kernel_rfl) (by as_aux_lemma => kernel_rfl) (by as_aux_lemma => kernel_rfl) (by as_aux_lemma => kernel_rfl) (fun _ _ _ h => h) (Or.inl ⟨by rfl, ?hy10⟩) (by assumption) ?rest10
        case hy10 => intro wz hSw; (try dsimp only at hSw); go_simp; try with_reducible rfl
        simp only [Act.put, List.setIfInBounds_toArray, List.set_cons_zero, List.set_cons_succ]
        refine wpAnyH_ready (rs := [10, 11]) (by as_aux_lemma => kernel_rfl) (by simp) ?_
        refine AllReadyH.cons rfl (fun K' hK => ?_) (AllReadyH.cons rfl (fun K' hK => ?_) AllReadyH.nil)
        · go_simp
          refine hK.out _ _ (HS.out _ (below_box wr _).drew) (fun h2 => ?_)
          clear hK K'
          refine wpAnyH_ready (rs := [11]) (by as_aux_lemma => kernel_rfl) (by simp) ?_
          refine AllReadyH.cons rfl (fun K' hK => ?_) AllReadyH.nil
          go_simp
          refine hK.out _ _ (HS.out _ ((below_box wr _).alloc (by simp) _).drew) (fun h3 => ?_)
          clear hK K'
          refine wpAnyH_ready (rs := [12]) (by as_aux_lemma => kernel_rfl) (by simp) ?_
          refine AllReadyH.cons rfl (fun K' hK => ?_) AllReadyH.nil
          go_simp
          refine hK.out _ _ (HS.out _ ((below_box wr _).alloc (by simp) _).drew) (fun h4 => ?_)
          clear hK K'
          refine wpAnyH_ready (rs := [13]) (by as_aux_lemma => kernel_rfl) (by simp) ?_
          refine AllReadyH.cons rfl (fun K' hK => ?_) AllReadyH.nil
          go_simp
          refine hK.out _ _ (HS.out _ ((below_box wr _).alloc (by simp) _).drew) (fun h5 => ?_)
          clear hK K'
          refine wpAnyH_done (by as_aux_lemma => kernel_rfl) ?_ _
          go_wp2_with fail
          go_meet
          exact ⟨wr.heap.size, wr.heap.size + 1, rfl, rfl, heap_alloc2_old wr _ _, heap_alloc2_new wr _ _, ((below_box wr _).alloc (by simp) _).drew⟩
        · go_simp
          refine hK.out _ _ (HS.out _ (below_box wr _).drew) (fun h2 => ?_)
          clear hK K'
          refine wpAnyH_ready (rs := [10]) (by as_aux_lemma => kernel_rfl) (by simp) ?_
          refine AllReadyH.cons rfl (fun K' hK => ?_) AllReadyH.nil
          go_simp
          refine hK.out _ _ (HS.out _ ((below_box wr _).alloc (by simp) _).drew) (fun h3 => ?_)
          clear hK K'
          refine wpAnyH_ready (rs := [12]) (by as_aux_lemma => kernel_rfl) (by simp) ?_
          refine AllReadyH.cons rfl (fun K' hK => ?_) AllReadyH.nil
          go_simp
          refine hK.out _ _ (HS.out _ ((below_box wr _).alloc (by simp) _).drew) (fun h4 => ?_)
          clear hK K'
          refine wpAnyH_ready (rs := [13]) (by as_aux_lemma => kernel_rfl) (by simp) ?_
          refine AllReadyH.cons rfl (fun K' hK => ?_) AllReadyH.nil
          go_simp
          refine hK.out _ _ (HS.out _ ((below_box wr _).alloc (by simp) _).drew) (fun h5 => ?_)
          clear hK K'
          refine wpAnyH_done (by as_aux_lemma => kernel_rfl) ?_ _
          go_wp2_with fail
          go_meet
          exact ⟨wr.heap.size + 1, wr.heap.size, rfl, rfl, heap_alloc2_new wr _ _, heap_alloc2_old wr _ _, ((below_box wr _).alloc (by simp) _).drew⟩
      case rest =>
        obtain ⟨A, C, rfl, rfl, hSA, hSC, hw2⟩ := hcut
        clear c0 c1 c2 c3 c4 c5 c6 c7 c8 c9 c10 c11 c12 d0 d1 d2 d3 d4 d5 d6 d7 d8 d9 d10 d11 d12 a1 e1
        have HSF := hid (fun wx (h : Below wc.heap.size wc wx) => rsameFrame_eq _ _ s.f wx (HF.out.below (below_then hw2 h)) (HF'.out.below (below_then hw2 h)))
        have g0 := heap_cell hSA 0
        have k0 := heap_cell hSC 0
        have g1 := heap_cell hSA 1
        have k1 := heap_cell hSC 1
        have g2 := heap_cell hSA 2
        have k2 := heap_cell hSC 2
        have g3 := heap_cell hSA 3
        have k3 := heap_cell hSC 3
        have g4 := heap_cell hSA 4
        have k4 := heap_cell hSC 4
        have g5 := heap_cell hSA 5
        have k5 := heap_cell hSC 5
        have g6 := heap_cell hSA 6
        have k6 := heap_cell hSC 6
        have g7 := heap_cell hSA 7
        have k7 := heap_cell hSC 7
        have g8 := heap_cell hSA 8
        have k8 := heap_cell hSC 8
        have g9 := heap_cell hSA 9
        have k9 := heap_cell hSC 9
        have g10 := heap_cell hSA 10
        have k10 := heap_cell hSC 10
        have g11 := heap_cell hSA 11
        have k11 := heap_cell hSC 11
        have g12 := heap_cell hSA 12
        have k12 := heap_cell hSC 12
        clear hSA hSC
        go_wp2_with (go_at_call 14; refine (HSF.out _ (Below.refl _ _)).mono ?_; rintro e w5 ⟨rfl, hw5⟩)
        go_roundw
        case rel => exact ⟨k + 1, hlt, by go_num, heap_keep (heap_keep HA.out hw2) hw5, heap_keep (heap_keep HB.out hw2) hw5, below_then (below_then hb hw2) hw5⟩
        case measure => simp [intOf]; omega
    · have hI : ¬ (k : Int) < (st.length : Int) := by omega
      go_wp2
      go_ret
      exact ⟨rfl, hb⟩
end Go.Proofs.Ytmpjddnbdidleaa
