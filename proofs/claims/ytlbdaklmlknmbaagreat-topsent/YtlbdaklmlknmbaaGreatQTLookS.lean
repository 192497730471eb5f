/- The look of TopSent: what leaves a host goes only to one that is trusted with all that it names, and only where the senders label may flow. -/
import Derived.Test.YtlbdaklmlknmbaaGreatQCCome
import Derived.Test.YtlbdaklmlknmbaaGreatQTNamed
import Derived.Test.YtlbdaklmlknmbaaGreatQNamed
import Derived.Test.YtlbdaklmlknmbaaGreatQTakeD
import Derived.Test.YtlbdaklmlknmbaaGreatQPlain
import Derived.Deep.RegionHeld3
namespace Go.Proofs.YtlbdaklmlknmbaaGreat
open Go.RowKit Go.Proofs.Parclose
theorem sent_fact (C0 : Clu) (a : Ac) : a.kind = 1 → a.call.kind = 6 → (doC C0 a).2.code = 0 → a.call.h ≠ a.h → mayB (crtsC (doC C0 a).1 a.h) a.call.h ⟨a.h, a.t, a.call.label, a.call.grants, []⟩ (doC C0 a).1.now = true ∧ flowsL (thrC (doC C0 a).1 a.h a.t).label a.call.label (thrC (doC C0 a).1 a.h a.t).own = true := fun k1 k6 k0 kh => by
  obtain ⟨h1, th, h2, h3, h4⟩ := doC_sent k0 k1 k6 kh ⟨a.h, a.t, a.call.label, a.call.grants, []⟩ rfl rfl
  unfold crtsC thrC
  rw [if_pos h1, if_pos h1, thrOf_some h2]
  exact ⟨h3, h4⟩
set_option maxRecDepth 100000 in
set_option maxHeartbeats 12800000 in
theorem lookSent_any (cb : Nat) (F : List Nat) (Z : CluV) (C : Clu) (a : Ac) (r : Rep) (pl pg : Option Addr) (cl cg : Nat) (w : World) (hc : CluAt w cb F Z C) (hg : GoodC C) (hla : LabAt w (.slice pl a.call.label.length cl) a.call.label) (hga : IntsAt w (.slice pg a.call.grants.length cg) a.call.grants)
    (hp : a.kind = 1 → a.call.kind = 6 → r.code = 0 → a.call.h ≠ a.h → mayB (crtsC C a.h) a.call.h ⟨a.h, a.t, a.call.label, a.call.grants, []⟩ C.now = true ∧ flowsL (thrC C a.h a.t).label a.call.label (thrC C a.h a.t).own = true) :
    Calls Tryz.prog 28 #[.pointer (some ⟨cb, 0, none⟩), (.agg #[.int .i64 a.kind, .int .i64 a.h, .int .i64 a.t, .int .i64 a.n, .int .i64 a.call.kind, .int .i64 a.call.h, .int .i64 a.call.t, .int .i64 a.call.n, .int .i64 a.call.c, .slice pl a.call.label.length cl, .slice pg a.call.grants.length cg, .string ⟨a.call.text.toArray⟩]), (.agg #[.int .i64 r.code, .int .i64 r.n, .string ⟨r.text.toArray⟩])] w fun e w' => e = .returned (.bool true) ∧ Below w.heap.size w w' := by
  have hb1 := below_box w (.cells #[.int .i64 a.kind, .int .i64 a.h, .int .i64 a.t, .int .i64 a.n, .int .i64 a.call.kind, .int .i64 a.call.h, .int .i64 a.call.t, .int .i64 a.call.n, .int .i64 a.call.c, .slice pl a.call.label.length cl, .slice pg a.call.grants.length cg, .string ⟨a.call.text.toArray⟩] 32)
  have hb2 := below_box (w.alloc (.cells #[.int .i64 a.kind, .int .i64 a.h, .int .i64 a.t, .int .i64 a.n, .int .i64 a.call.kind, .int .i64 a.call.h, .int .i64 a.call.t, .int .i64 a.call.n, .int .i64 a.call.c, .slice pl a.call.label.length cl, .slice pg a.call.grants.length cg, .string ⟨a.call.text.toArray⟩] 32)) (.cells #[.int .i64 r.code, .int .i64 r.n, .string ⟨r.text.toArray⟩] 43)
  have HXA := hid (heap_keep (heap_alloc_new w (.cells #[.int .i64 a.kind, .int .i64 a.h, .int .i64 a.t, .int .i64 a.n, .int .i64 a.call.kind, .int .i64 a.call.h, .int .i64 a.call.t, .int .i64 a.call.n, .int .i64 a.call.c, .slice pl a.call.label.length cl, .slice pg a.call.grants.length cg, .string ⟨a.call.text.toArray⟩] 32)) hb2)
  have HXR := hid (heap_alloc_new (w.alloc (.cells #[.int .i64 a.kind, .int .i64 a.h, .int .i64 a.t, .int .i64 a.n, .int .i64 a.call.kind, .int .i64 a.call.h, .int .i64 a.call.t, .int .i64 a.call.n, .int .i64 a.call.c, .slice pl a.call.label.length cl, .slice pg a.call.grants.length cg, .string ⟨a.call.text.toArray⟩] 32)) (.cells #[.int .i64 r.code, .int .i64 r.n, .string ⟨r.text.toArray⟩] 43))
  rw [World.size_alloc] at HXR
  have HB1 := hid (below_then hb1 hb2)
  have HC1 := hid (hc.below HB1.out)
  have HP := hid hp
  have HLW := hid hla
  have HGW := hid hga
  have HG := hid hg
  clear hb1 hb2 hc hp hla hga hg
  go_enter Tryz.func28, Tryz.ntmps28
  go_upto_region 1 with fail
  generalize (w.alloc (.cells #[.int .i64 a.kind, .int .i64 a.h, .int .i64 a.t, .int .i64 a.n, .int .i64 a.call.kind, .int .i64 a.call.h, .int .i64 a.call.t, .int .i64 a.call.n, .int .i64 a.call.c, .slice pl a.call.label.length cl, .slice pg a.call.grants.length cg, .string ⟨a.call.text.toArray⟩] 32)).alloc (.cells #[.int .i64 r.code, .int .i64 r.n, .string ⟨r.text.toArray⟩] 43) = w1 at *
  obtain ⟨x0, x1, x2, x4, x5, x9, x10⟩ : w1.cell? ⟨w.heap.size, 0, none⟩ = some (.int .i64 a.kind) ∧ w1.cell? ⟨w.heap.size, 1, none⟩ = some (.int .i64 a.h) ∧ w1.cell? ⟨w.heap.size, 2, none⟩ = some (.int .i64 a.t) ∧ w1.cell? ⟨w.heap.size, 4, none⟩ = some (.int .i64 a.call.kind) ∧ w1.cell? ⟨w.heap.size, 5, none⟩ = some (.int .i64 a.call.h) ∧ w1.cell? ⟨w.heap.size, 9, none⟩ = some (.slice pl a.call.label.length cl) ∧ w1.cell? ⟨w.heap.size, 10, none⟩ = some (.slice pg a.call.grants.length cg) := ⟨heap_cell HXA.out 0, heap_cell HXA.out 1, heap_cell HXA.out 2, heap_cell HXA.out 4, heap_cell HXA.out 5, heap_cell HXA.out 9, heap_cell HXA.out 10⟩
  have y0 : w1.cell? ⟨w.heap.size + 1, 0, none⟩ = some (.int .i64 r.code) := heap_cell HXR.out 0
  by_cases k1 : a.kind = 1
  case neg =>
    go_wp2
    go_ret
    exact ⟨rfl, HB1.out⟩
  by_cases k6 : a.call.kind = 6
  case neg =>
    go_wp2
    go_ret
    exact ⟨rfl, HB1.out⟩
  by_cases k0 : r.code = 0
  case neg =>
    go_wp2
    go_ret
    exact ⟨rfl, HB1.out⟩
  by_cases kh : a.call.h = a.h
  case pos =>
    go_wp2
    go_ret
    exact ⟨rfl, HB1.out⟩
  obtain ⟨hmay, hflo⟩ := HP.out k1 k6 k0 kh
  have HMAY := hid hmay
  have hthr := cthread_any cb a.h a.t F Z C w1 HC1.out HG.out
  have HGT := hid (thrC_good HG.out a.h a.t)
  generalize thrC C a.h a.t = th at *
  have HFLO := hid hflo
  have hll := HGT.out.label.1
  have hol := HGT.out.own
  clear hmay hflo HP
  go_upto_region 4 with (go_at_call 11; refine hthr.mono ?_; rintro e w3 ⟨p1, q1, p2, q2, p3, q3, p4, q4, rfl, hn3, hw3⟩)
  have hbx := below_box w3 (.cells #[.slice p1 th.label.length q1, .slice p2 th.own.length q2, .string ⟨th.text.toArray⟩, .slice p3 th.objs.length q3, .slice p4 th.mails.length q4] 36)
  have HX4 := hid (heap_alloc_new w3 (.cells #[.slice p1 th.label.length q1, .slice p2 th.own.length q2, .string ⟨th.text.toArray⟩, .slice p3 th.objs.length q3, .slice p4 th.mails.length q4] 36))
  have HN4 := hid (hn3.below hbx)
  have HB4 := hid (below_then hw3 hbx)
  clear hthr hn3 hw3 hbx
  generalize w3.alloc (.cells #[.slice p1 th.label.length q1, .slice p2 th.own.length q2, .string ⟨th.text.toArray⟩, .slice p3 th.objs.length q3, .slice p4 th.mails.length q4] 36) = w4 at *
  clear x0 x1 x2 x4 x5 x9 x10 y0
  obtain ⟨x1, x2, x5, x9, x10⟩ : w4.cell? ⟨w.heap.size, 1, none⟩ = some (.int .i64 a.h) ∧ w4.cell? ⟨w.heap.size, 2, none⟩ = some (.int .i64 a.t) ∧ w4.cell? ⟨w.heap.size, 5, none⟩ = some (.int .i64 a.call.h) ∧ w4.cell? ⟨w.heap.size, 9, none⟩ = some (.slice pl a.call.label.length cl) ∧ w4.cell? ⟨w.heap.size, 10, none⟩ = some (.slice pg a.call.grants.length cg) := ⟨heap_cell (heap_keep HXA.out HB4.out) 1, heap_cell (heap_keep HXA.out HB4.out) 2, heap_cell (heap_keep HXA.out HB4.out) 5, heap_cell (heap_keep HXA.out HB4.out) 9, heap_cell (heap_keep HXA.out HB4.out) 10⟩
  go_upto_region 5 with fail
  have hbx := below_box w4 (.cells #[.int .i64 a.h, .int .i64 a.t, .slice pl a.call.label.length cl, .slice pg a.call.grants.length cg, .string ⟨#[]⟩] 51)
  have HX5 := hid (heap_alloc_new w4 (.cells #[.int .i64 a.h, .int .i64 a.t, .slice pl a.call.label.length cl, .slice pg a.call.grants.length cg, .string ⟨#[]⟩] 51))
  have HN5 := hid (HN4.out.below hbx)
  have HX5t := hid (heap_keep HX4.out hbx)
  have HB45 := hid (below_then HB4.out hbx)
  generalize w4.alloc (.cells #[.int .i64 a.h, .int .i64 a.t, .slice pl a.call.label.length cl, .slice pg a.call.grants.length cg, .string ⟨#[]⟩] 51) = w5 at *
  have HXA5 := hid (heap_keep HXA.out HB45.out)
  have HB5 := hid (below_then HB1.out HB45.out)
  have HC5 := hid (HC1.out.below HB45.out)
  have HLA := hid (HLW.out.below HB5.out)
  have HML : Hid (MalAt w5 (malV ⟨a.h, a.t, a.call.label, a.call.grants, []⟩ (.slice pl a.call.label.length cl) (.slice pg a.call.grants.length cg)) ⟨a.h, a.t, a.call.label, a.call.grants, []⟩) := hid ⟨_, _, rfl, HLW.out.below HB5.out, HGW.out.below HB5.out⟩
  have HTL : Hid (∀ w', Below w5.heap.size w5 w' → LabAt w' (.slice p1 th.label.length q1) th.label ∧ IntsAt w' (.slice p2 th.own.length q2) th.own) := hid (fun w' hw => ⟨labs_of_own (HN5.out.below hw).lab (by omega), nums_of_own (HN5.out.below hw).own (by omega)⟩)
  have HS : Hid (∀ w', Below w5.heap.size w5 w' → w'.cell? ⟨w.heap.size, 1, none⟩ = some (.int .i64 a.h) ∧ w'.cell? ⟨w.heap.size, 5, none⟩ = some (.int .i64 a.call.h) ∧ w'.cell? ⟨w.heap.size, 9, none⟩ = some (.slice pl a.call.label.length cl) ∧ w'.cell? ⟨w3.heap.size, 0, none⟩ = some (.slice p1 th.label.length q1) ∧ w'.cell? ⟨w3.heap.size, 1, none⟩ = some (.slice p2 th.own.length q2) ∧ w'.cell? ⟨w4.heap.size, 0, none⟩ = some (.int .i64 a.h) ∧ w'.cell? ⟨w4.heap.size, 1, none⟩ = some (.int .i64 a.t) ∧ w'.cell? ⟨w4.heap.size, 2, none⟩ = some (.slice pl a.call.label.length cl) ∧ w'.cell? ⟨w4.heap.size, 3, none⟩ = some (.slice pg a.call.grants.length cg) ∧ w'.cell? ⟨w4.heap.size, 4, none⟩ = some (.string ⟨#[]⟩)) := hid (fun w' hw => ⟨heap_cell (heap_keep HXA5.out hw) 1, heap_cell (heap_keep HXA5.out hw) 5, heap_cell (heap_keep HXA5.out hw) 9, heap_cell (heap_keep HX5t.out hw) 0, heap_cell (heap_keep HX5t.out hw) 1, heap_cell (heap_keep HX5.out hw) 0, heap_cell (heap_keep HX5.out hw) 1, heap_cell (heap_keep HX5.out hw) 2, heap_cell (heap_keep HX5.out hw) 3, heap_cell (heap_keep HX5.out hw) 4⟩)
  clear hbx x1 x2 x5 x9 x10 hll hol
  refine wp_region_held_drew (S := (fun w' => w'.cell? ⟨w.heap.size, 1, none⟩ = some (.int .i64 a.h) ∧ w'.cell? ⟨w.heap.size, 5, none⟩ = some (.int .i64 a.call.h) ∧ w'.cell? ⟨w.heap.size, 9, none⟩ = some (.slice pl a.call.label.length cl) ∧ w'.cell? ⟨w3.heap.size, 0, none⟩ = some (.slice p1 th.label.length q1) ∧ w'.cell? ⟨w3.heap.size, 1, none⟩ = some (.slice p2 th.own.length q2) ∧ w'.cell? ⟨w4.heap.size, 0, none⟩ = some (.int .i64 a.h) ∧ w'.cell? ⟨w4.heap.size, 1, none⟩ = some (.int .i64 a.t) ∧ w'.cell? ⟨w4.heap.size, 2, none⟩ = some (.slice pl a.call.label.length cl) ∧ w'.cell? ⟨w4.heap.size, 3, none⟩ = some (.slice pg a.call.grants.length cg) ∧ w'.cell? ⟨w4.heap.size, 4, none⟩ = some (.string ⟨#[]⟩))) (by as_aux_lemma => kernel_rfl) (HS.out _ (Below.refl _ _).drew) (fun _hHeld => ?_)
  refine takeF 0 48 ?v1 rfl (Or.inl ⟨by rfl, ?hy1⟩) ?rest1
  case hy1 => intro wz hSw; (try dsimp only at hSw); go_simp; try with_reducible rfl
  simp only [Act.put, List.setIfInBounds_toArray, List.set_cons_zero, List.set_cons_succ]
  refine takeF 1 49 ?v2 rfl (Or.inl ⟨by rfl, ?hy2⟩) ?rest2
  case hy2 => intro wz hSw; (try dsimp only at hSw); go_simp; try with_reducible rfl
  simp only [Act.put, List.setIfInBounds_toArray, List.set_cons_zero, List.set_cons_succ]
  refine takeF 2 50 ?v3 rfl (Or.inl ⟨by rfl, ?hy3⟩) ?rest3
  case hy3 => intro wz hSw; (try dsimp only at hSw); go_simp; try with_reducible rfl
  simp only [Act.put, List.setIfInBounds_toArray, List.set_cons_zero, List.set_cons_succ]
  refine takeF 4 52 ?v4 rfl (Or.inl ⟨by rfl, ?hy4⟩) ?rest4
  case hy4 => intro wz hSw; (try dsimp only at hSw); go_simp; try with_reducible rfl
  simp only [Act.put, List.setIfInBounds_toArray, List.set_cons_zero, List.set_cons_succ]
  refine takeF 5 53 ?v5 rfl (Or.inl ⟨by rfl, ?hy5⟩) ?rest5
  case hy5 => intro wz hSw; (try dsimp only at hSw); go_simp; try with_reducible rfl
  simp only [Act.put, List.setIfInBounds_toArray, List.set_cons_zero, List.set_cons_succ]
  refine takeF 6 54 ?v6 rfl (Or.inl ⟨by rfl, ?hy6⟩) ?rest6
  case hy6 => intro wz hSw; (try dsimp only at hSw); go_simp; try with_reducible rfl
  simp only [Act.put, List.setIfInBounds_toArray, List.set_cons_zero, List.set_cons_succ]
  refine takeF 7 55 ?v7 rfl (Or.inl ⟨by rfl, ?hy7⟩) ?rest7
  case hy7 => intro wz hSw; (try dsimp only at hSw); go_simp; try with_reducible rfl
  simp only [Act.put, List.setIfInBounds_toArray, List.set_cons_zero, List.set_cons_succ]
  refine takeF 8 56 ?v8 rfl (Or.inl ⟨by rfl, ?hy8⟩) ?rest8
  case hy8 => intro wz hSw; (try dsimp only at hSw); go_simp; try with_reducible rfl
  simp only [Act.put, List.setIfInBounds_toArray, List.set_cons_zero, List.set_cons_succ]
  refine wpAnyH_ready (rs := [3]) (by as_aux_lemma => kernel_rfl) (by simp) ?_
  refine (AllReadyH.cons rfl (fun K' hK => ?_) AllReadyH.nil)
  go_simp
  go_wp2_with (go_at_call 22; refine (ccerts_any cb a.h F Z C _ (HC5.out.below (Below.refl _ _).drew)).mono ?_; rintro e w6 ⟨pc, cc, rfl, hcr, _, hw6d⟩)
  have HB6 : Hid (Below w5.heap.size w5 w6) := hid (kundrew hw6d)
  clear hw6d
  refine hK.out _ _ (HS.out _ HB6.out) (fun _ => ?_)
  clear hK K'
  refine wpAnyH_ready (rs := [9]) (by as_aux_lemma => kernel_rfl) (by simp) ?_
  refine (AllReadyH.cons rfl (fun K' hK => ?_) AllReadyH.nil)
  go_simp
  go_wp2_with (go_at_call 27; refine (cnow_any cb F Z C w6 (HC5.out.below HB6.out)).mono ?_; rintro e w6b ⟨rfl, hwe⟩; rw [hwe]; clear hwe)
  refine hK.out _ _ (HS.out _ HB6.out) (fun _ => ?_)
  clear hK K'
  refine wpAnyH_ready (rs := [10]) (by as_aux_lemma => kernel_rfl) (by simp) ?_
  refine (AllReadyH.cons rfl (fun K' hK => ?_) AllReadyH.nil)
  go_simp
  have hmay := may_any _ _ (crtsC C a.h) a.call.h ⟨a.h, a.t, a.call.label, a.call.grants, []⟩ C.now w6 hcr ((HML.out.below HB6.out))
  unfold malV at hmay
  rw [HMAY.out] at hmay
  go_wp2_with (go_at_call 26; refine hmay.mono ?_; rintro e w7 ⟨rfl, hw7⟩)
  have HB7 := hid (below_then HB6.out hw7)
  clear hw7 hmay hcr
  refine hK.out _ _ (HS.out _ HB7.out) (fun _ => ?_)
  clear hK K'
  refine takeF 11 59 ?v9 rfl (Or.inl ⟨by rfl, ?hy9⟩) ?rest9
  case hy9 => intro wz hSw; (try dsimp only at hSw); go_simp; try with_reducible rfl
  simp only [Act.put, List.setIfInBounds_toArray, List.set_cons_zero, List.set_cons_succ]
  refine takeF 12 60 ?v10 rfl (Or.inl ⟨by rfl, ?hy10⟩) ?rest10
  case hy10 => intro wz hSw; (try dsimp only at hSw); go_simp; try with_reducible rfl
  simp only [Act.put, List.setIfInBounds_toArray, List.set_cons_zero, List.set_cons_succ]
  refine takeF 13 61 ?v11 rfl (Or.inl ⟨by rfl, ?hy11⟩) ?rest11
  case hy11 => intro wz hSw; (try dsimp only at hSw); go_simp; try with_reducible rfl
  simp only [Act.put, List.setIfInBounds_toArray, List.set_cons_zero, List.set_cons_succ]
  refine takeF 14 62 ?v12 rfl (Or.inl ⟨by rfl, ?hy12⟩) ?rest12
  case hy12 => intro wz hSw; (try dsimp only at hSw); go_simp; try with_reducible rfl
  simp only [Act.put, List.setIfInBounds_toArray, List.set_cons_zero, List.set_cons_succ]
  refine takeF 15 63 ?v13 rfl (Or.inl ⟨by rfl, ?hy13⟩) ?rest13
  case hy13 => intro wz hSw; (try dsimp only at hSw); go_simp; try with_reducible rfl
  simp only [Act.put, List.setIfInBounds_toArray, List.set_cons_zero, List.set_cons_succ]
  refine takeF 16 64 ?v14 rfl (Or.inl ⟨by rfl, ?hy14⟩) ?rest14
  case hy14 => intro wz hSw; (try dsimp only at hSw); go_simp; try with_reducible rfl
  simp only [Act.put, List.setIfInBounds_toArray, List.set_cons_zero, List.set_cons_succ]
  refine takeF 17 65 ?v15 rfl (Or.inl ⟨by rfl, ?hy15⟩) ?rest15
  case hy15 => intro wz hSw; (try dsimp only at hSw); go_simp; try with_reducible rfl
  simp only [Act.put, List.setIfInBounds_toArray, List.set_cons_zero, List.set_cons_succ]
  refine takeF 18 66 ?v16 rfl (Or.inl ⟨by rfl, ?hy16⟩) ?rest16
  case hy16 => intro wz hSw; (try dsimp only at hSw); go_simp; try with_reducible rfl
  simp only [Act.put, List.setIfInBounds_toArray, List.set_cons_zero, List.set_cons_succ]
  refine wpAnyH_ready (rs := [19]) (by as_aux_lemma => kernel_rfl) (by simp) ?_
  refine (AllReadyH.cons rfl (fun K' hK => ?_) AllReadyH.nil)
  go_simp
  have hfl := flows_any _ _ _ th.label a.call.label th.own w7 (HTL.out _ HB7.out).1 (HLA.out.below HB7.out) (HTL.out _ HB7.out).2
  rw [HFLO.out] at hfl
  go_wp2_with (go_at_call 24; refine hfl.mono ?_; rintro e w8 ⟨rfl, hw8⟩)
  have HB8 := hid (below_then HB7.out hw8)
  clear hw8 hfl
  refine hK.out _ _ (HS.out _ HB8.out) (fun _ => ?_)
  clear hK K'
  refine takeF 20 68 ?v17 rfl (Or.inl ⟨by rfl, ?hy17⟩) ?rest17
  case hy17 => intro wz hSw; (try dsimp only at hSw); go_simp; try with_reducible rfl
  simp only [Act.put, List.setIfInBounds_toArray, List.set_cons_zero, List.set_cons_succ]
  refine takeF 21 6 ?v18 rfl (Or.inl ⟨by rfl, ?hy18⟩) ?rest18
  case hy18 => intro wz hSw; (try dsimp only at hSw); go_simp; try with_reducible rfl
  simp only [Act.put, List.setIfInBounds_toArray, List.set_cons_zero, List.set_cons_succ]
  refine wpAnyH_done (by as_aux_lemma => kernel_rfl) ?_ _
  go_wp2
  go_ret
  exact ⟨rfl, below_then HB5.out HB8.out⟩
end Go.Proofs.YtlbdaklmlknmbaaGreat
namespace Go.Proofs.YtlbdaklmlknmbaaGreat
open Go.RowKit Go.Proofs.Parclose
set_option maxRecDepth 100000 in
set_option maxHeartbeats 6400000 in
theorem play_sent (v : Value) (l : List Ac) (w : World) (hv : AcsAt w v l) :
    Calls Tryz.prog 20 #[v, .func (.func 28) #[] #[]] w fun e w' => (∃ x, e = .returned (.tuple #[x, .bool true])) ∧ Below w.heap.size w w' := by
  have HV := hid hv
  obtain ⟨p, cap, rfl, hlc, _⟩ := hv.slice
  clear hv
  go_enter Tryz.func20, Tryz.ntmps20
  go_upto_region 3 with (go_at_call 9; refine (talive_any _).mono ?_; rintro e w1 ⟨rfl, hw1⟩)
  go_upto_region 4 with (go_at_call 10; refine (cnew_any _).mono ?_; rintro e w2 ⟨rfl, ⟨kp, F, hc2, hF⟩, hw2⟩)
  have HB2 := hid (below_then hw1 hw2)
  have HF2 : Hid (∀ k ∈ F, w.heap.size ≤ k) := hid (fun k hk => Nat.le_trans hw1.size (hF k hk))
  have HC2 := hid hc2
  clear hc2 hF hw1 hw2
  go_wp2_with fail
  go_loopw [7] (fun i wr => ∃ (k : Nat) (G : List Nat) (Z' : CluV), k ≤ l.length ∧ k ≤ 120 ∧ i = .int .i64 k ∧ CluAt wr w1.heap.size G Z' (playC freshClu (l.take k)) ∧ Below w.heap.size w wr ∧ (∀ b ∈ G, w.heap.size ≤ b)) (fun i _ => l.length - (intOf i).toNat)
  case atStart => exact ⟨0, F, _, Nat.zero_le _, Nat.zero_le _, rfl, HC2.out, HB2.out, HF2.out⟩
  case round =>
    clear HC2 HB2 HF2
    obtain ⟨k, G, Z', hk, hk120, rfl, hck, hbw, hG⟩ := hrel
    have HCK := hid hck
    have HBW := hid hbw
    have HGG := hid hG
    have hsz := hbw.size
    clear hck hbw hG
    by_cases hlt : k < l.length
    · have hI : (k : Int) < (l.length : Int) := by omega
      by_cases h120 : k < 120
      · have hJ : (k : Int) < 120 := by omega
        obtain ⟨b, o, pl, cl, pg, cg, rfl, hla, hin2, q0, q1, q2, q3, q4, q5, q6, q7, q8, q9, q10, q11⟩ := HV.out.get k hlt
        have HPS : Hid (playC freshClu (l.take (k + 1)) = (doC (playC freshClu (l.take k)) l[k]).1) := hid (by rw [← List.take_append_getElem hlt, playC_snoc])
        have HGD := hid (playC_good (l.take k) freshC_good)
        have HG2 := hid (doC_good HGD.out l[k])
        have HFA := hid (sent_fact (playC freshClu (l.take k)) l[k])
        have HLA := hid hla
        have HGA := hid hin2
        generalize l[k] = a at *
        generalize playC freshClu (l.take k) = Ck at *
        have r0 := (HBW.out.cell (cell_block q0)).trans q0
        have r1 := (HBW.out.cell (cell_block q1)).trans q1
        have r2 := (HBW.out.cell (cell_block q2)).trans q2
        have r3 := (HBW.out.cell (cell_block q3)).trans q3
        have r4 := (HBW.out.cell (cell_block q4)).trans q4
        have r5 := (HBW.out.cell (cell_block q5)).trans q5
        have r6 := (HBW.out.cell (cell_block q6)).trans q6
        have r7 := (HBW.out.cell (cell_block q7)).trans q7
        have r8 := (HBW.out.cell (cell_block q8)).trans q8
        have r9 := (HBW.out.cell (cell_block q9)).trans q9
        have r10 := (HBW.out.cell (cell_block q10)).trans q10
        have r11 := (HBW.out.cell (cell_block q11)).trans q11
        have hbl := Nat.lt_of_lt_of_le (cell_block q0) hsz
        have hdo := cdo_any w1.heap.size G Z' Ck _ a wr HCK.out HGD.out ⟨_, _, rfl, roLab_old hla HGG.out (hla.below HBW.out), roInts_old hin2 HGG.out (hin2.below HBW.out)⟩
        unfold acV at hdo
        generalize doC Ck a = R at *
        obtain ⟨C2, r⟩ := R
        simp only at hdo HPS
        have HQ : Hid (∀ w', Below w.heap.size w w' → w'.cell? ⟨b, o + k * 12, none⟩ = some (.int .i64 a.kind) ∧ w'.cell? ⟨b, o + k * 12 + 1, none⟩ = some (.int .i64 a.h) ∧ w'.cell? ⟨b, o + k * 12 + 2, none⟩ = some (.int .i64 a.t) ∧ w'.cell? ⟨b, o + k * 12 + 3, none⟩ = some (.int .i64 a.n) ∧ w'.cell? ⟨b, o + k * 12 + 4, none⟩ = some (.int .i64 a.call.kind) ∧ w'.cell? ⟨b, o + k * 12 + 5, none⟩ = some (.int .i64 a.call.h) ∧ w'.cell? ⟨b, o + k * 12 + 6, none⟩ = some (.int .i64 a.call.t) ∧ w'.cell? ⟨b, o + k * 12 + 7, none⟩ = some (.int .i64 a.call.n) ∧ w'.cell? ⟨b, o + k * 12 + 8, none⟩ = some (.int .i64 a.call.c) ∧ w'.cell? ⟨b, o + k * 12 + 9, none⟩ = some (.slice pl a.call.label.length cl) ∧ w'.cell? ⟨b, o + k * 12 + 10, none⟩ = some (.slice pg a.call.grants.length cg) ∧ w'.cell? ⟨b, o + k * 12 + 11, none⟩ = some (.string ⟨a.call.text.toArray⟩)) := hid (fun w' h => ⟨(h.cell (cell_block q0)).trans q0, (h.cell (cell_block q1)).trans q1, (h.cell (cell_block q2)).trans q2, (h.cell (cell_block q3)).trans q3, (h.cell (cell_block q4)).trans q4, (h.cell (cell_block q5)).trans q5, (h.cell (cell_block q6)).trans q6, (h.cell (cell_block q7)).trans q7, (h.cell (cell_block q8)).trans q8, (h.cell (cell_block q9)).trans q9, (h.cell (cell_block q10)).trans q10, (h.cell (cell_block q11)).trans q11⟩)
        clear q0 q1 q2 q3 q4 q5 q6 q7 q8 q9 q10 q11 hla hin2
        go_upto_region 8 with (go_at_call 15; refine hdo.mono ?_; rintro e w5 ⟨rfl, G5, Z5, hc5, hs5⟩)
        obtain ⟨hb5, hG5⟩ := hs5.low HCK.out HGG.out hsz
        have HB5 := hid (Below.trans' HBW.out hb5)
        have hbx := below_box w5 (.cells #[.int .i64 r.code, .int .i64 r.n, .string ⟨r.text.toArray⟩] 43)
        have HB6 := hid (below_then HB5.out hbx)
        have HX6 := hid (heap_alloc_new w5 (.cells #[.int .i64 r.code, .int .i64 r.n, .string ⟨r.text.toArray⟩] 43))
        have HC6 := hid (hc5.below hbx)
        have HG5 := hid hG5
        obtain ⟨s0, s1, s2, s3, s4, s5, s6, s7, s8, s9, s10, s11⟩ := HQ.out _ HB6.out
        obtain ⟨t0, t1, t2, _⟩ := cells3 HX6.out
        have hlt6 := heap_lt HX6.out
        have hbl5 : b < w5.heap.size := Nat.lt_of_lt_of_le hbl hs5.kept.size
        clear hdo hs5 hc5 hb5 hG5 hbx r0 r1 r2 r3 r4 r5 r6 r7 r8 r9 r10 r11
        generalize hw6 : w5.alloc (.cells #[.int .i64 r.code, .int .i64 r.n, .string ⟨r.text.toArray⟩] 43) = w6 at *
        have HW6 := hid (Below.refl w6.heap.size w6)
        clear hw6
        go_region_held3 (fun w' => (w'.cell? ⟨b, o + k * 12, none⟩ = some (.int .i64 a.kind) ∧ w'.cell? ⟨b, o + k * 12 + 1, none⟩ = some (.int .i64 a.h) ∧ w'.cell? ⟨b, o + k * 12 + 2, none⟩ = some (.int .i64 a.t) ∧ w'.cell? ⟨b, o + k * 12 + 3, none⟩ = some (.int .i64 a.n) ∧ w'.cell? ⟨b, o + k * 12 + 4, none⟩ = some (.int .i64 a.call.kind) ∧ w'.cell? ⟨b, o + k * 12 + 5, none⟩ = some (.int .i64 a.call.h) ∧ w'.cell? ⟨b, o + k * 12 + 6, none⟩ = some (.int .i64 a.call.t) ∧ w'.cell? ⟨b, o + k * 12 + 7, none⟩ = some (.int .i64 a.call.n) ∧ w'.cell? ⟨b, o + k * 12 + 8, none⟩ = some (.int .i64 a.call.c) ∧ w'.cell? ⟨b, o + k * 12 + 9, none⟩ = some (.slice pl a.call.label.length cl) ∧ w'.cell? ⟨b, o + k * 12 + 10, none⟩ = some (.slice pg a.call.grants.length cg) ∧ w'.cell? ⟨b, o + k * 12 + 11, none⟩ = some (.string ⟨a.call.text.toArray⟩)) ∧ w'.cell? ⟨w5.heap.size, 0, none⟩ = some (.int .i64 r.code) ∧ w'.cell? ⟨w5.heap.size, 1, none⟩ = some (.int .i64 r.n) ∧ w'.cell? ⟨w5.heap.size, 2, none⟩ = some (.string ⟨r.text.toArray⟩)) (go_keep)
          (first
            | (go_at_call 28; refine (lookSent_any _ G5 Z5 C2 a r pl pg cl cg _ (HC6.out.below (Below.refl _ _).drew) HG2.out (HLA.out.below (below_then HB6.out (Below.refl _ _).drew)) (HGA.out.below (below_then HB6.out (Below.refl _ _).drew)) HFA.out).mono ?_; rintro e w7 ⟨rfl, hwd⟩; have hw := kundrew hwd; have HW7 := hid hw; obtain ⟨u0, u1, u2, u3, u4, u5, u6, u7, u8, u9, u10, u11⟩ := HQ.out _ (below_then HB6.out hw); obtain ⟨y0, y1, y2, _⟩ := cells3 (heap_keep HX6.out hw); clear hw hwd)
            | fail)
        all_goals
          go_wp2
          go_roundw
          case rel => exact ⟨k + 1, G5, Z5, hlt, h120, by go_num, by rw [HPS.out]; exact HC6.out.below HW7.out, below_then HB6.out HW7.out, HG5.out⟩
          case measure => simp [intOf]; omega
      · have hJ : ¬ ((k : Int) < 120) := by omega
        go_wp2
        go_ret2
        exact ⟨⟨_, rfl⟩, HBW.out⟩
    · have hI : ¬ ((k : Int) < (l.length : Int)) := by omega
      go_wp2
      go_ret2
      exact ⟨⟨_, rfl⟩, HBW.out⟩
end Go.Proofs.YtlbdaklmlknmbaaGreat
namespace Go.Proofs.YtlbdaklmlknmbaaGreat
open Go.RowKit Go.Proofs.Parclose
set_option maxRecDepth 100000 in
theorem topSent_any (v : Value) (l : List Ac) (w : World) (hv : AcsAt w v l) : Calls Tryz.prog 7 #[v] w fun e w' => e = .returned (.bool true) ∧ Below w.heap.size w w' := by
  have hplay := play_sent v l w hv
  obtain ⟨p, cap, rfl, _⟩ := hv.slice
  clear hv
  go_enter Tryz.func7, Tryz.ntmps7
  go_wp2_with (go_at_call 20; refine hplay.mono ?_; rintro e w1 ⟨⟨x, rfl⟩, hw1⟩)
  go_ret
  exact ⟨rfl, hw1⟩
end Go.Proofs.YtlbdaklmlknmbaaGreat
