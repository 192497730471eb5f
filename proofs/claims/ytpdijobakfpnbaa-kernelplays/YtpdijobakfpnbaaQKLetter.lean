/- kernel.Letter answers the mail that a call sends, if it may. -/
import Derived.Test.YtpdijobakfpnbaaQKKer
import Derived.Test.YtpdijobakfpnbaaQMem
import Derived.Deep.DeepCutAuto
import Derived.Deep.RegionHeld3
import Derived.Test.YtpdijobakfpnbaaQPlain
namespace Go.Proofs.Ytpdijobakfpnbaa
open Go.RowKit Go.Proofs.Parclose
theorem Qd7 (x : List UInt8) : lastL (lastL x) = lastL x := Qav (QaR x)
set_option linter.unusedSimpArgs false in
set_option maxRecDepth 100000 in
set_option maxHeartbeats 6400000 in
theorem Qf9 (kb t : Nat) (F : List Nat) (V : List ThrV) (K : Ker) (v : Value) (c : Cal) (w : World) (h : KerAt w kb F V K) (h1 : t < V.length) (h2 : t < K.ths.length) (hl : K.ths[t].own.length ≤ 1000) (hx : K.ths[t].text.length + c.text.length < 4611686018427387904) (hv : CalAt w v c) :
 Calls Try.prog 6 #[.pointer (some ⟨kb, 0, none⟩), .int .i64 t, v] w fun e w' => ∃ v', e = .returned (.tuple #[v', .int .i64 (letterL K t c).2]) ∧ (∀ w'', Since w.heap.size w' w'' → MalAt w'' v' (letterL K t c).1) ∧ Below w.heap.size w w' := by
 have ht4 : t < 4 := by have := h.len; omega
 have hget : getT K (t : Int) = some K.ths[t] := by
  unfold getT
  rw [if_pos (by omega)]
  simp
 have HLT : Hid (letterL K t c = if mayL K.ths[t] (letterM K t c K.ths[t]) = 0 then (letterM K t c K.ths[t], 0) else (zeroMal, mayL K.ths[t] (letterM K t c K.ths[t]))) := hid (by unfold letterL; rw [hget])
 have htat := h.tat t h1 h2
 obtain ⟨C, hC, hC0, _, _⟩ := h.box
 have HK0 : Hid (w.cell? ⟨kb, 0, none⟩ = some (.int .i64 K.host)) := hid (by simp only [World.cell?]; rw [hC]; exact hC0)
 clear hC hC0 h hget
 generalize K.ths[t] = th at *
 generalize V[t] = tv at *
 have HTA := hid htat
 obtain ⟨_, _, hT2, _, _⟩ := htat.cells
 have HT2 := hid hT2
 have HCA := hid hv
 obtain ⟨vl, vg, rfl, hvl, hvg⟩ := hv
 obtain ⟨pl, cl, rfl, _⟩ := id hvl
 obtain ⟨pg, cg, rfl, _⟩ := id hvg
 have HVL := hid hvl
 have HLL : Hid (c.label.length ≤ 8796093022208) := hid (by obtain ⟨_, _, _, _, h, _⟩ := hvl; omega)
 have HGL : Hid (c.grants.length ≤ 17592186044416) := hid (by obtain ⟨_, _, _, _, h, _⟩ := hvg; omega)
 have HVG := hid hvg
 unfold calV at *
 clear htat hT2 hvl hvg
 have hne := Qz kb t
 go_enter Try.func6, Try.ntmps6
 go_upto_region 4 with (go_at_call 17; refine (hne _ ht4).mono ?_; rintro e w1 ⟨rfl, hw1⟩; rw [hw1]; clear hw1 w1)
 have hb0 : Below w.heap.size w ((w.alloc (.cells #[.int .i64 c.kind, .int .i64 c.h, .int .i64 c.t, .int .i64 c.n, .int .i64 c.c, .slice pl c.label.length cl, .slice pg c.grants.length cg, .string ⟨c.text.toArray⟩] 40)).alloc (.cells #[.int .i64 0, .int .i64 0, .slice none 0 0, .slice none 0 0, .string ⟨#[]⟩] 42)) := (Qe w _).alloc (by simp) _
 have HB0 : Hid (((w.alloc (.cells #[.int .i64 c.kind, .int .i64 c.h, .int .i64 c.t, .int .i64 c.n, .int .i64 c.c, .slice pl c.label.length cl, .slice pg c.grants.length cg, .string ⟨c.text.toArray⟩] 40)).alloc (.cells #[.int .i64 0, .int .i64 0, .slice none 0 0, .slice none 0 0, .string ⟨#[]⟩] 42)).heap[w.heap.size]? = some (.cells #[.int .i64 c.kind, .int .i64 c.h, .int .i64 c.t, .int .i64 c.n, .int .i64 c.c, .slice pl c.label.length cl, .slice pg c.grants.length cg, .string ⟨c.text.toArray⟩] 40 (0, 0))) := hid (heap_alloc2_old w _ _)
 have HR0 : Hid (((w.alloc (.cells #[.int .i64 c.kind, .int .i64 c.h, .int .i64 c.t, .int .i64 c.n, .int .i64 c.c, .slice pl c.label.length cl, .slice pg c.grants.length cg, .string ⟨c.text.toArray⟩] 40)).alloc (.cells #[.int .i64 0, .int .i64 0, .slice none 0 0, .slice none 0 0, .string ⟨#[]⟩] 42)).heap[w.heap.size + 1]? = some (.cells #[.int .i64 0, .int .i64 0, .slice none 0 0, .slice none 0 0, .string ⟨#[]⟩] 42 (0, 0))) := hid (heap_alloc2_new w _ _)
 generalize ((w.alloc (.cells #[.int .i64 c.kind, .int .i64 c.h, .int .i64 c.t, .int .i64 c.n, .int .i64 c.c, .slice pl c.label.length cl, .slice pg c.grants.length cg, .string ⟨c.text.toArray⟩] 40)).alloc (.cells #[.int .i64 0, .int .i64 0, .slice none 0 0, .slice none 0 0, .string ⟨#[]⟩] 42)) = w0 at *
 have HS : Hid (∀ w', Below w0.heap.size w0 w' → w'.cell? ⟨kb, 0, none⟩ = some (.int .i64 K.host) ∧ w'.cell? ⟨kb, 2 + t * 5 + 2, none⟩ = some (.string ⟨th.text.toArray⟩) ∧ w'.cell? ⟨w.heap.size, 5, none⟩ = some (.slice pl c.label.length cl) ∧ w'.cell? ⟨w.heap.size, 6, none⟩ = some (.slice pg c.grants.length cg) ∧ w'.cell? ⟨w.heap.size, 7, none⟩ = some (.string ⟨c.text.toArray⟩)) := hid (fun w' hw => ⟨((Qd hb0 hw).cell (Qb HK0.out)).trans HK0.out, ((Qd hb0 hw).cell (Qb HT2.out)).trans HT2.out, Qa (Qc HB0.out hw) 5, Qa (Qc HB0.out hw) 6, Qa (Qc HB0.out hw) 7⟩)
 have hstr : ∀ a b : List UInt8, (⟨a.toArray⟩ : ByteArray) ++ ⟨b.toArray⟩ = ⟨(a ++ b).toArray⟩ := fun a b => ByteArray.mk_append_mk a b
 have hnl : ¬ 9223372036854775807 < th.text.length + c.text.length := by omega
 go_cut [9] (fun v9 wx => ∃ M : Nat, v9 = .pointer (some ⟨M, 0, none⟩) ∧ wx.heap[M]? = some (.cells #[.int .i64 K.host, .int .i64 t, .slice pl c.label.length cl, .slice pg c.grants.length cg, .string ⟨(lastL (th.text ++ c.text)).toArray⟩] 42 (0, 0)) ∧ Below w0.heap.size w0 wx)
 case first =>
  refine wp_region_held_drew (S := (fun w' => w'.cell? ⟨kb, 0, none⟩ = some (.int .i64 K.host) ∧ w'.cell? ⟨kb, 2 + t * 5 + 2, none⟩ = some (.string ⟨th.text.toArray⟩) ∧ w'.cell? ⟨w.heap.size, 5, none⟩ = some (.slice pl c.label.length cl) ∧ w'.cell? ⟨w.heap.size, 6, none⟩ = some (.slice pg c.grants.length cg) ∧ w'.cell? ⟨w.heap.size, 7, none⟩ = some (.string ⟨c.text.toArray⟩))) (by as_aux_lemma => kernel_rfl) (HS.out _ (Below.refl _ _).drew) (fun _hHeld => ?_)
  refine takeF 0 17 ?v1 rfl (Or.inl ⟨by rfl, ?hy1⟩) ?rest1
  case hy1 => intro wz hSw; (try dsimp only at hSw); go_simp; try with_reducible rfl
  simp only [Act.put, List.setIfInBounds_toArray, List.set_cons_zero, List.set_cons_succ]
  refine takeF 1 18 ?v2 rfl (Or.inl ⟨by rfl, ?hy2⟩) ?rest2
  case hy2 => intro wz hSw; (try dsimp only at hSw); go_simp; try with_reducible rfl
  simp only [Act.put, List.setIfInBounds_toArray, List.set_cons_zero, List.set_cons_succ]
  refine takeF 2 19 ?v3 rfl (Or.inl ⟨by rfl, ?hy3⟩) ?rest3
  case hy3 => intro wz hSw; (try dsimp only at hSw); go_simp; try with_reducible rfl
  simp only [Act.put, List.setIfInBounds_toArray, List.set_cons_zero, List.set_cons_succ]
  refine takeF 3 20 ?v4 rfl (Or.inl ⟨by rfl, ?hy4⟩) ?rest4
  case hy4 => intro wz hSw; (try dsimp only at hSw); go_simp; try with_reducible rfl
  simp only [Act.put, List.setIfInBounds_toArray, List.set_cons_zero, List.set_cons_succ]
  refine takeF 4 21 ?v5 rfl (Or.inl ⟨by rfl, ?hy5⟩) ?rest5
  case hy5 => intro wz hSw; (try dsimp only at hSw); go_simp; try with_reducible rfl
  simp only [Act.put, List.setIfInBounds_toArray, List.set_cons_zero, List.set_cons_succ]
  refine takeF 5 22 ?v6 rfl (Or.inl ⟨by rfl, ?hy6⟩) ?rest6
  case hy6 => intro wz hSw; (try dsimp only at hSw); go_simp; try with_reducible rfl
  simp only [Act.put, List.setIfInBounds_toArray, List.set_cons_zero, List.set_cons_succ]
  refine takeF 6 23 ?v7 rfl (Or.inl ⟨by rfl, ?hy7⟩) ?rest7
  case hy7 => intro wz hSw; (try dsimp only at hSw); go_simp; try with_reducible rfl
  simp only [Act.put, List.setIfInBounds_toArray, List.set_cons_zero, List.set_cons_succ]
  refine takeF 7 24 ?v8 rfl (Or.inl ⟨by rfl, ?hy8⟩) ?rest8
  case hy8 => intro wz hSw; (try dsimp only at hSw); go_simp; try with_reducible rfl
  simp only [Act.put, List.setIfInBounds_toArray, List.set_cons_zero, List.set_cons_succ]
  refine takeF 8 25 ?v9 rfl (Or.inl ⟨by rfl, ?hy9⟩) ?rest9
  case hy9 => intro wz hSw; (try dsimp only at hSw); go_simp; try with_reducible rfl
  simp only [Act.put, List.setIfInBounds_toArray, List.set_cons_zero, List.set_cons_succ]
  refine takeF 9 26 ?v10 rfl (Or.inl ⟨by rfl, ?hy10⟩) ?rest10
  case hy10 => intro wz hSw; (try dsimp only at hSw); go_simp; try with_reducible rfl
  simp only [Act.put, List.setIfInBounds_toArray, List.set_cons_zero, List.set_cons_succ]
  refine takeF 10 27 ?v11 rfl (Or.inl ⟨by rfl, ?hy11⟩) ?rest11
  case hy11 => intro wz hSw; (try dsimp only at hSw); go_simp; try with_reducible rfl
  simp only [Act.put, List.setIfInBounds_toArray, List.set_cons_zero, List.set_cons_succ]
  refine takeF 11 28 ?v12 rfl (Or.inl ⟨by rfl, ?hy12⟩) ?rest12
  case hy12 => intro wz hSw; (try dsimp only at hSw); go_simp; try with_reducible rfl
  simp only [Act.put, List.setIfInBounds_toArray, List.set_cons_zero, List.set_cons_succ]
  refine takeF 12 29 ?v13 rfl (Or.inl ⟨by rfl, ?hy13⟩) ?rest13
  case hy13 => intro wz hSw; (try dsimp only at hSw); go_simp; try with_reducible rfl
  simp only [Act.put, List.setIfInBounds_toArray, List.set_cons_zero, List.set_cons_succ]
  refine takeF 13 30 ?v14 rfl (Or.inl ⟨by rfl, ?hy14⟩) ?rest14
  case hy14 => intro wz hSw; (try dsimp only at hSw); go_simp; try with_reducible rfl
  simp only [Act.put, List.setIfInBounds_toArray, List.set_cons_zero, List.set_cons_succ]
  refine takeF 14 31 ?v15 rfl (Or.inl ⟨by rfl, ?hy15⟩) ?rest15
  case hy15 => intro wz hSw; (try dsimp only at hSw); go_simp; try with_reducible rfl
  simp only [Act.put, List.setIfInBounds_toArray, List.set_cons_zero, List.set_cons_succ]
  refine takeF 15 32 ?v16 rfl (Or.inl ⟨by rfl, ?hy16⟩) ?rest16
  case hy16 => intro wz hSw; (try dsimp only at hSw); go_simp; try with_reducible rfl
  simp only [Act.put, List.setIfInBounds_toArray, List.set_cons_zero, List.set_cons_succ]
  refine wpAnyH_ready (rs := [16, 18]) (by as_aux_lemma => kernel_rfl) (by simp) ?_
  refine (AllReadyH.cons rfl (fun K' hK => ?_) (AllReadyH.cons rfl (fun K' hK => ?_) AllReadyH.nil))
  · skip
    go_simp
    go_wp2_with (go_at_call 18; refine (QaO (th.text ++ c.text) _ (by rw [List.length_append]; omega)).mono ?_; rintro e w1 ⟨rfl, hw1d⟩)
    have hw1 : Below w0.heap.size w0 w1 := ⟨hw1d.os, hw1d.tape, hw1d.output, hw1d.size, hw1d.block⟩
    refine hK.out _ _ (HS.out _ hw1) (fun _ => ?_)
    clear hK K'
    refine takeF 17 34 ?v17 rfl (Or.inl ⟨by rfl, ?hy17⟩) ?rest17
    case hy17 => intro wz hSw; (try dsimp only at hSw); go_simp; try with_reducible rfl
    simp only [Act.put, List.setIfInBounds_toArray, List.set_cons_zero, List.set_cons_succ]
    refine wpAnyH_ready (rs := [18]) (by as_aux_lemma => kernel_rfl) (by simp) ?_
    refine (AllReadyH.cons rfl (fun K' hK => ?_) AllReadyH.nil)
    go_simp
    refine hK.out _ _ (HS.out _ (Qd hw1 (Qe w1 _))) (fun _ => ?_)
    clear hK K'
    refine wpAnyH_ready (rs := [19]) (by as_aux_lemma => kernel_rfl) (by simp) ?_
    refine (AllReadyH.cons rfl (fun K' hK => ?_) AllReadyH.nil)
    go_simp
    refine hK.out _ _ (HS.out _ (Qd hw1 (Qe w1 _))) (fun _ => ?_)
    clear hK K'
    refine wpAnyH_done (by as_aux_lemma => kernel_rfl) ?_ _
    go_wp2_with fail
    go_meet
    exact ⟨w1.heap.size, rfl, heap_alloc_new w1 _, Qd hw1 (Qe w1 _)⟩
  · skip
    go_simp
    refine hK.out _ _ (HS.out _ (Qe w0 _).drew) (fun _ => ?_)
    clear hK K'
    refine wpAnyH_ready (rs := [16]) (by as_aux_lemma => kernel_rfl) (by simp) ?_
    refine (AllReadyH.cons rfl (fun K' hK => ?_) AllReadyH.nil)
    go_simp
    go_wp2_with (go_at_call 18; refine (QaO (th.text ++ c.text) _ (by rw [List.length_append]; omega)).mono ?_; rintro e w1 ⟨rfl, hw1d⟩)
    have hw1 : Below (w0.alloc (.cells #[.int .i64 0, .int .i64 0, .slice none 0 0, .slice none 0 0, .string ⟨#[]⟩] 42)).heap.size (w0.alloc (.cells #[.int .i64 0, .int .i64 0, .slice none 0 0, .slice none 0 0, .string ⟨#[]⟩] 42)) w1 := ⟨hw1d.os, hw1d.tape, hw1d.output, hw1d.size, hw1d.block⟩
    have hb1 := Qd (Qe w0 _) hw1
    refine hK.out _ _ (HS.out _ hb1) (fun _ => ?_)
    clear hK K'
    refine takeF 17 34 ?v18 rfl (Or.inl ⟨by rfl, ?hy18⟩) ?rest18
    case hy18 => intro wz hSw; (try dsimp only at hSw); go_simp; try with_reducible rfl
    simp only [Act.put, List.setIfInBounds_toArray, List.set_cons_zero, List.set_cons_succ]
    have HM := hid (Qc (heap_alloc_new w0 _) hw1)
    have m0 := Qa HM.out 0
    have mf0 := Qf HM.out 0
    have m1 := Qa HM.out 1
    have mf1 := Qf HM.out 1
    have m2 := Qa HM.out 2
    have mf2 := Qf HM.out 2
    have m3 := Qa HM.out 3
    have mf3 := Qf HM.out 3
    have m4 := Qa HM.out 4
    have mf4 := Qf HM.out 4
    refine wpAnyH_ready (rs := [19]) (by as_aux_lemma => kernel_rfl) (by simp) ?_
    refine (AllReadyH.cons rfl (fun K' hK => ?_) AllReadyH.nil)
    go_simp
    have hb2 : Below w0.heap.size w0 (((((w1.setCell ⟨w0.heap.size, 0, none⟩ (.int .i64 K.host)).setCell ⟨w0.heap.size, 1, none⟩ (.int .i64 t)).setCell ⟨w0.heap.size, 2, none⟩ (.slice pl c.label.length cl)).setCell ⟨w0.heap.size, 3, none⟩ (.slice pg c.grants.length cg)).setCell ⟨w0.heap.size, 4, none⟩ (.string ⟨(lastL (th.text ++ c.text)).toArray⟩)) := ((((hb1.setCell (p := ⟨w0.heap.size, 0, none⟩) (Nat.le_refl _) _).setCell (p := ⟨w0.heap.size, 1, none⟩) (Nat.le_refl _) _).setCell (p := ⟨w0.heap.size, 2, none⟩) (Nat.le_refl _) _).setCell (p := ⟨w0.heap.size, 3, none⟩) (Nat.le_refl _) _).setCell (p := ⟨w0.heap.size, 4, none⟩) (Nat.le_refl _) _
    refine hK.out _ _ (HS.out _ hb2) (fun _ => ?_)
    clear hK K'
    refine wpAnyH_done (by as_aux_lemma => kernel_rfl) ?_ _
    go_wp2_with fail
    go_meet
    exact ⟨w0.heap.size, rfl, heap_setCell (j := 4) (heap_setCell (j := 3) (heap_setCell (j := 2) (heap_setCell (j := 1) (heap_setCell (j := 0) HM.out _) _) _) _) _, hb2⟩
 case rest =>
  obtain ⟨M, rfl, hM, hb1⟩ := hcut
  have HMC := hid hM
  have hbc := Qd hb0 hb1
  have HRC := hid (Qc HR0.out hb1)
  have HMA : Hid (MalAt wc (.agg #[.int .i64 K.host, .int .i64 t, .slice pl c.label.length cl, .slice pg c.grants.length cg, .string ⟨(lastL (th.text ++ c.text)).toArray⟩]) (letterM K t c th)) := hid ⟨_, _, rfl, HVL.out.below hbc, HVG.out.below hbc⟩
  clear hM hstr
  obtain ⟨⟨m0, m1, m2, m3, m4⟩, _⟩ := cells5 HMC.out
  go_wp2_with fail
  refine (Qd5 kb (2 + t * 5) F tv th _ (letterM K t c th) _ (HTA.out.below hbc) hl HMA.out).mono ?_
  rintro e w2 ⟨rfl, hw2⟩
  have HM2 := hid (Qc HMC.out hw2)
  have HR2 := hid (Qc HRC.out hw2)
  have hb2 := Qd hbc hw2
  have HMA2 := hid (HMA.out.below hw2)
  clear m0 m1 m2 m3 m4
  by_cases hE : mayL th (letterM K t c th) = 0
  · have HT : Hid (letterL K t c = (letterM K t c th, 0)) := hid (by rw [HLT.out, if_pos hE])
    rw [hE]
    clear hE
    obtain ⟨⟨m0, m1, m2, m3, m4⟩, _⟩ := cells5 HM2.out
    go_wp2_with fail
    refine (QbG _ (letterM K t c th) _ HMA2.out (Nat.lt_of_le_of_lt (QaR _) (by decide))).mono ?_
    rintro e w3 ⟨vl3, vg3, rfl, ho1, ho2, hw3⟩
    obtain ⟨p3, c3, e3⟩ := Qi ho1
    subst e3
    obtain ⟨p4, c4, e4⟩ := Qi ho2
    subst e4
    have HR3 := hid (Qc HR2.out hw3)
    have hb3 := Qd hb2 hw3
    have HO1 := hid ho1
    have HO2 := hid ho2
    have hsz2 := hb2.size
    have hlt3 := QJ HR2.out
    obtain ⟨⟨d0, d1, d2, d3, d4⟩, f0, f1, f2, f3, f4⟩ := cells5 HR3.out
    clear ho1 ho2 hw3 m0 m1 m2 m3 m4
    unfold malV letterM
    rw [Qd7]
    go_wp2
    have hW := heap_setCell (j := 4) (heap_setCell (j := 3) (heap_setCell (j := 2) (heap_setCell (j := 1) (heap_setCell (j := 0) HR3.out (.int .i64 K.host)) (.int .i64 t)) (.slice p3 c.label.length c3)) (.slice p4 c.grants.length c4)) (.string ⟨(lastL (th.text ++ c.text)).toArray⟩)
    have hgS := Qh (Qh (Qh (Qh (Qg w3 (w.heap.size + 1) 0 (.int .i64 K.host)) (Qg _ (w.heap.size + 1) 1 (.int .i64 t))) (Qg _ (w.heap.size + 1) 2 (.slice p3 c.label.length c3))) (Qg _ (w.heap.size + 1) 3 (.slice p4 c.grants.length c4))) (Qg _ (w.heap.size + 1) 4 (.string ⟨(lastL (th.text ++ c.text)).toArray⟩))
    have hbE := hb3.grown hgS hb3.size (fun k e => by have := Option.some.inj e; omega)
    refine bodyPost_ret (QT rfl _ _ (w.heap.size + 1) _ rfl rfl hW) rfl ⟨_, by rw [HT.out]; rfl, fun w'' ho => ?_, hbE⟩
    rw [HT.out]
    have hs3 : Since w2.heap.size w3 w'' := ((Qaj hgS (by omega)).trans (ho.mono hsz2) hgS.size)
    exact ⟨_, _, rfl, QY (Qbe HO1.out hs3) HLL.out, QX (Qbe HO2.out hs3) HGL.out⟩
  · have HT : Hid (letterL K t c = (zeroMal, mayL th (letterM K t c th))) := hid (by rw [HLT.out, if_neg hE])
    have hEb : (mayL th (letterM K t c th) == 0) = false := beq_eq_false_iff_ne.2 hE
    clear hE
    obtain ⟨⟨d0, d1, d2, d3, d4⟩, f0, f1, f2, f3, f4⟩ := cells5 HR2.out
    generalize mayL th (letterM K t c th) = cE at *
    go_wp2
    have hW := heap_setCell (j := 4) (heap_setCell (j := 3) (heap_setCell (j := 2) (heap_setCell (j := 1) (heap_setCell (j := 0) HR2.out (.int .i64 0)) (.int .i64 0)) (.slice none 0 0)) (.slice none 0 0)) (.string ⟨#[]⟩)
    have hgS := Qh (Qh (Qh (Qh (Qg w2 (w.heap.size + 1) 0 (.int .i64 0)) (Qg _ (w.heap.size + 1) 1 (.int .i64 0))) (Qg _ (w.heap.size + 1) 2 (.slice none 0 0))) (Qg _ (w.heap.size + 1) 3 (.slice none 0 0))) (Qg _ (w.heap.size + 1) 4 (.string ⟨#[]⟩))
    have hbE := hb2.grown hgS hb2.size (fun k e => by have := Option.some.inj e; omega)
    exact bodyPost_ret (QT rfl _ _ (w.heap.size + 1) _ rfl rfl hW) rfl ⟨_, by rw [HT.out]; rfl, fun w'' _ => by rw [HT.out]; exact ⟨_, _, rfl, LabAt.nil _ _ _ (fun _ => rfl), IntsAt.nil _ _ _ (fun _ => rfl)⟩, hbE⟩
set_option maxRecDepth 100000 in
theorem Qfn (kb : Nat) (t : Int) (v : Value) (c : Cal) (w : World) (hv : CalAt w v c) (ht : ¬ (0 ≤ t ∧ t < 4)) : Calls Try.prog 6 #[.pointer (some ⟨kb, 0, none⟩), .int .i64 t, v] w fun e w' => e = .returned (.tuple #[.agg #[.int .i64 0, .int .i64 0, .slice none 0 0, .slice none 0 0, .string ⟨#[]⟩], .int .i64 4]) ∧ Below w.heap.size w w' := by
 obtain ⟨vl, vg, rfl, ⟨pl, cl, rfl, _⟩, ⟨pg, cg, rfl, _⟩⟩ := hv
 unfold calV
 go_enter Try.func6, Try.ntmps6
 go_wp2_with (go_at_call 17; refine (QaE kb t _ ht).mono ?_; rintro e w1 ⟨rfl, rfl⟩)
 exact bodyPost_ret (QT rfl _ _ (w.heap.size + 1) _ rfl rfl (heap_alloc2_new w _ _)) rfl ⟨rfl, (Qe w _).alloc (by simp) _⟩
theorem Qfo (kb : Nat) (t : Int) (F : List Nat) (V : List ThrV) (K : Ker) (v : Value) (c : Cal) (w : World) (h : KerAt w kb F V K) (hg : GoodK K) (hx : c.text.length < 2305843009213693952) (hv : CalAt w v c) :
 Calls Try.prog 6 #[.pointer (some ⟨kb, 0, none⟩), .int .i64 t, v] w fun e w' => ∃ v', e = .returned (.tuple #[v', .int .i64 (letterL K t c).2]) ∧ (∀ w'', Since w.heap.size w' w'' → MalAt w'' v' (letterL K t c).1) ∧ Below w.heap.size w w' := by
 cases hth : getT K t with
 | none =>
  have e : letterL K t c = (zeroMal, 4) := by unfold letterL; rw [hth]
  rw [e]
  exact (Qfn kb t v c w hv (QaB hg.four hth)).mono fun _ _ ⟨h1, h2⟩ => ⟨_, h1, fun w'' _ => ⟨_, _, rfl, LabAt.nil _ _ _ (fun _ => rfl), IntsAt.nil _ _ _ (fun _ => rfl)⟩, h2⟩
 | some th =>
  obtain ⟨n, rfl, hn, rfl⟩ := Q5 hth
  have gt := hg.ths _ (List.getElem_mem hn)
  exact Qf9 kb n F V K v c w h (by rw [h.len]; have := hg.four; omega) hn (by have := gt.own; omega) (by have := gt.text; omega) hv
end Go.Proofs.Ytpdijobakfpnbaa
