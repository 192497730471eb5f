/- cluster.call: what a thread's call does. -/
import Derived.Test.YtgpldlbmjakjhaaGreatQCSend
import Derived.Test.YtgpldlbmjakjhaaGreatQPlainInv
namespace Go.Proofs.YtgpldlbmjakjhaaGreat
open Go.RowKit Go.Proofs.Parclose

theorem callC_none {C : Clu} {h t : Int} {c : Cal} (h1 : (hostB h && hostB t) = false) : callC C h t c = (C, code 4) := by
  unfold callC
  rw [h1]
  rfl
theorem callC_send {C : Clu} {h t : Int} {c : Cal} (h1 : (hostB h && hostB t) = true) (h2 : c.kind = 6) : callC C h t c = ((sendC C h t c).1, code (sendC C h t c).2) := by
  unfold callC
  rw [h1, if_pos rfl, if_pos h2]
theorem callC_certify {C : Clu} {h t : Int} {c : Cal} (h1 : (hostB h && hostB t) = true) (h2 : c.kind = 8) : callC C h t c = ((certifyC C h t c).1, code (certifyC C h t c).2) := by
  unfold callC
  rw [h1, if_pos rfl, if_neg (by omega), if_pos h2]
theorem callC_other {C : Clu} {h t : Int} {c : Cal} (h1 : (hostB h && hostB t) = true) (h2 : c.kind ≠ 6) (h3 : c.kind ≠ 8) : callC C h t c = (setK C h (callL (kerC C h) t c).1, (callL (kerC C h) t c).2) := by
  unfold callC
  rw [h1, if_pos rfl, if_neg h2, if_neg h3]
/-- a store to a box leaves another one -/
theorem box_cell6 {w w' : World} {a b : Nat} {C D : Array Value} {s t : TypeId} (h : w.heap[a]? = some (.cells C s (0, 0))) (k : w.heap[b]? = some (.cells D t (0, 0))) (hst : s ≠ t) (hg : w.grownBy w' (some b)) : w'.heap[a]? = some (.cells C s (0, 0)) := heap_tk h (heap_ne h k hst) hg
set_option linter.unusedSimpArgs false in
set_option maxRecDepth 100000 in
set_option maxHeartbeats 6400000 in
theorem ccall_any (cb : Nat) (hI tI : Int) (F : List Nat) (Z : CluV) (C : Clu) (vx : Value) (c : Cal) (w : World) (hc : CluAt w cb F Z C) (hg : GoodC C) (hv : CalAt w vx c) :
    Calls Tryz.prog 48 #[.pointer (some ⟨cb, 0, none⟩), .int .i64 hI, .int .i64 tI, vx] w fun e w' => e = .returned (.agg #[.int .i64 (callC C hI tI c).2.code, .int .i64 (callC C hI tI c).2.n, .string ⟨(callC C hI tI c).2.text.toArray⟩]) ∧ ∃ G Z', CluAt w' cb G Z' (callC C hI tI c).1 ∧ CStep cb w F Z w' G Z' := by
  have HV := hid hv
  obtain ⟨vl, vg, rfl, ⟨pl, cl, rfl, _⟩, ⟨pg, cg, rfl, _⟩⟩ := hv
  unfold calV at HV ⊢
  have hbb := below_box w (.cells #[.int .i64 c.kind, .int .i64 c.h, .int .i64 c.t, .int .i64 c.n, .int .i64 c.c, .slice pl c.label.length cl, .slice pg c.grants.length cg, .string ⟨c.text.toArray⟩] 30)
  have HC0 := hid ((hc.below hbb).reserve (.cells #[.int .i64 0, .int .i64 0, .string ⟨#[]⟩] 35))
  have HS0 := hid ((CStep.below (cb := cb) (F := F) (Z := Z) hbb).trans (CStep.reserve cb _ F Z (.cells #[.int .i64 0, .int .i64 0, .string ⟨#[]⟩] 35)))
  rw [size_box] at HC0 HS0
  have HBW : Hid (Below w.heap.size w ((w.alloc (.cells #[.int .i64 c.kind, .int .i64 c.h, .int .i64 c.t, .int .i64 c.n, .int .i64 c.c, .slice pl c.label.length cl, .slice pg c.grants.length cg, .string ⟨c.text.toArray⟩] 30)).alloc (.cells #[.int .i64 0, .int .i64 0, .string ⟨#[]⟩] 35))) := hid (hbb.alloc hbb.size _)
  have HX0 := hid (heap_alloc2_old w (.cells #[.int .i64 c.kind, .int .i64 c.h, .int .i64 c.t, .int .i64 c.n, .int .i64 c.c, .slice pl c.label.length cl, .slice pg c.grants.length cg, .string ⟨c.text.toArray⟩] 30) (.cells #[.int .i64 0, .int .i64 0, .string ⟨#[]⟩] 35))
  have HXR := hid (heap_alloc2_new w (.cells #[.int .i64 c.kind, .int .i64 c.h, .int .i64 c.t, .int .i64 c.n, .int .i64 c.c, .slice pl c.label.length cl, .slice pg c.grants.length cg, .string ⟨c.text.toArray⟩] 30) (.cells #[.int .i64 0, .int .i64 0, .string ⟨#[]⟩] 35))
  have HM0 : Hid (w.heap.size + 1 ∈ F ++ [w.heap.size + 1]) := hid (by simp)
  have HLE : Hid (w.heap.size ≤ w.heap.size + 1) := hid (Nat.le_succ _)
  have HG := hid hg
  have hlt := hc.lt
  clear hc hg hbb
  have hh := fun wx => chost_any hI wx
  have htt := fun wx => cisThread_any tI wx
  cases e1 : hostB hI with
  | false =>
    have HP := hid (callC_none (C := C) (h := hI) (t := tI) (c := c) (by rw [e1]; rfl))
    rw [e1] at hh
    go_enter Tryz.func48, Tryz.ntmps48
    go_wp2_with (first | (go_at_call 32; refine (hh _).mono ?_; rintro e w1 ⟨rfl, hw⟩; rw [hw]; clear hw) | (go_at_call 65; refine (htt _).mono ?_; rintro e w1 ⟨rfl, hw⟩; rw [hw]; clear hw) | (go_at_call 47; refine (canswer_any _ _).mono ?_; rintro e w9 ⟨rfl, hw9⟩; have HB9 := hid hw9; have HX9 := hid (heap_keep HXR.out hw9); obtain ⟨b0, b1, b2, b3, b4, b5⟩ := cells3 HX9.out; clear hw9))
    obtain ⟨e1, e2, e3⟩ := creply_end 4 0 [] HX9.out HM0.out HLE.out (HC0.out.below HB9.out) (HS0.out.trans (CStep.below HB9.out))
    simp only [HP.out]
    exact bodyPost_ret (results_cell_row rfl _ _ (w.heap.size + 1) 35 _ (0, 0) _ rfl e1 Tryz.underlying35 rfl (by kernel_rfl)) rfl ⟨rfl, _, _, e2, e3⟩
  | true =>
    rw [e1] at hh
    cases e2 : hostB tI with
    | false =>
      have HP := hid (callC_none (C := C) (h := hI) (t := tI) (c := c) (by rw [e1, e2]; rfl))
      rw [e2] at htt
      go_enter Tryz.func48, Tryz.ntmps48
      go_wp2_with (first | (go_at_call 32; refine (hh _).mono ?_; rintro e w1 ⟨rfl, hw⟩; rw [hw]; clear hw) | (go_at_call 65; refine (htt _).mono ?_; rintro e w1 ⟨rfl, hw⟩; rw [hw]; clear hw) | (go_at_call 47; refine (canswer_any _ _).mono ?_; rintro e w9 ⟨rfl, hw9⟩; have HB9 := hid hw9; have HX9 := hid (heap_keep HXR.out hw9); obtain ⟨b0, b1, b2, b3, b4, b5⟩ := cells3 HX9.out; clear hw9))
      obtain ⟨e1, e2, e3⟩ := creply_end 4 0 [] HX9.out HM0.out HLE.out (HC0.out.below HB9.out) (HS0.out.trans (CStep.below HB9.out))
      simp only [HP.out]
      exact bodyPost_ret (results_cell_row rfl _ _ (w.heap.size + 1) 35 _ (0, 0) _ rfl e1 Tryz.underlying35 rfl (by kernel_rfl)) rfl ⟨rfl, _, _, e2, e3⟩
    | true =>
      rw [e2] at htt
      have H12 : Hid ((hostB hI && hostB tI) = true) := hid (by rw [e1, e2]; rfl)
      obtain ⟨h, hh4, h4⟩ : ∃ h : Nat, hI = h ∧ h < 4 := by
        have : 0 ≤ hI ∧ hI < 4 := of_decide_eq_true e1
        exact ⟨hI.toNat, by omega, by omega⟩
      obtain ⟨t, ht4, t4⟩ : ∃ t : Nat, tI = t ∧ t < 4 := by
        have : 0 ≤ tI ∧ tI < 4 := of_decide_eq_true e2
        exact ⟨tI.toNat, by omega, by omega⟩
      subst hh4 ht4
      clear e1 e2
      by_cases k6 : c.kind = 6
      · have HP := hid (callC_send (C := C) H12.out k6)
        have e6 : (c.kind == 6) = true := by simpa using k6
        have hsend := csend_any cb h t _ Z C _ c ((w.alloc (.cells #[.int .i64 c.kind, .int .i64 c.h, .int .i64 c.t, .int .i64 c.n, .int .i64 c.c, .slice pl c.label.length cl, .slice pg c.grants.length cg, .string ⟨c.text.toArray⟩] 30)).alloc (.cells #[.int .i64 0, .int .i64 0, .string ⟨#[]⟩] 35)) HC0.out HG.out h4 t4 (HV.out.below HBW.out)
        unfold calV at hsend
        clear k6
        generalize sendC C h t c = SC at *
        go_enter Tryz.func48, Tryz.ntmps48
        go_wp2_with (first | (go_at_call 32; refine (hh _).mono ?_; rintro e w1 ⟨rfl, hw⟩; rw [hw]; clear hw) | (go_at_call 65; refine (htt _).mono ?_; rintro e w1 ⟨rfl, hw⟩; rw [hw]; clear hw) | (go_at_call 66; refine hsend.mono ?_; rintro e w5 ⟨rfl, G5, Z5, hC5, hS5⟩; have HC5 := hid hC5; have HS5 := hid hS5; have HX5 := hid (box_cstep hS5 HC0.out HXR.out (by decide) (by decide) (by decide) (by decide) (by decide) (by decide)); clear hC5 hS5 hsend) | (go_at_call 47; refine (canswer_any _ _).mono ?_; rintro e w9 ⟨rfl, hw9⟩; have HB9 := hid hw9; have HX9 := hid (heap_keep HX5.out hw9); obtain ⟨b0, b1, b2, b3, b4, b5⟩ := cells3 HX9.out; clear hw9))
        obtain ⟨e1, e2, e3⟩ := creply_end SC.2 0 [] HX9.out (HS5.out.more.1 _ HM0.out) HLE.out (HC5.out.below HB9.out) (HS0.out.trans (HS5.out.trans (CStep.below HB9.out)))
        simp only [HP.out]
        exact bodyPost_ret (results_cell_row rfl _ _ (w.heap.size + 1) 35 _ (0, 0) _ rfl e1 Tryz.underlying35 rfl (by kernel_rfl)) rfl ⟨rfl, _, _, e2, e3⟩
      · have e6 : (c.kind == 6) = false := by simpa using k6
        by_cases k8 : c.kind = 8
        · have HP := hid (callC_certify (C := C) H12.out k8)
          have e8 : (c.kind == 8) = true := by simpa using k8
          have hcert := ccertify_any cb h t _ Z C _ c ((w.alloc (.cells #[.int .i64 c.kind, .int .i64 c.h, .int .i64 c.t, .int .i64 c.n, .int .i64 c.c, .slice pl c.label.length cl, .slice pg c.grants.length cg, .string ⟨c.text.toArray⟩] 30)).alloc (.cells #[.int .i64 0, .int .i64 0, .string ⟨#[]⟩] 35)) HC0.out HG.out h4 (HV.out.below HBW.out)
          unfold calV at hcert
          clear k6 k8
          generalize certifyC C h t c = SC at *
          go_enter Tryz.func48, Tryz.ntmps48
          go_wp2_with (first | (go_at_call 32; refine (hh _).mono ?_; rintro e w1 ⟨rfl, hw⟩; rw [hw]; clear hw) | (go_at_call 65; refine (htt _).mono ?_; rintro e w1 ⟨rfl, hw⟩; rw [hw]; clear hw) | (go_at_call 67; refine hcert.mono ?_; rintro e w5 ⟨rfl, G5, Z5, hC5, hS5⟩; have HC5 := hid hC5; have HS5 := hid hS5; have HX5 := hid (box_cstep hS5 HC0.out HXR.out (by decide) (by decide) (by decide) (by decide) (by decide) (by decide)); clear hC5 hS5 hcert) | (go_at_call 47; refine (canswer_any _ _).mono ?_; rintro e w9 ⟨rfl, hw9⟩; have HB9 := hid hw9; have HX9 := hid (heap_keep HX5.out hw9); obtain ⟨b0, b1, b2, b3, b4, b5⟩ := cells3 HX9.out; clear hw9))
          obtain ⟨e1, e2, e3⟩ := creply_end SC.2 0 [] HX9.out (HS5.out.more.1 _ HM0.out) HLE.out (HC5.out.below HB9.out) (HS0.out.trans (HS5.out.trans (CStep.below HB9.out)))
          simp only [HP.out]
          exact bodyPost_ret (results_cell_row rfl _ _ (w.heap.size + 1) 35 _ (0, 0) _ rfl e1 Tryz.underlying35 rfl (by kernel_rfl)) rfl ⟨rfl, _, _, e2, e3⟩
        · have HP := hid (callC_other (C := C) H12.out k6 k8)
          have e8 : (c.kind == 8) = false := by simpa using k8
          have HKC : Hid (kerC C h = C.ks h) := hid (by unfold kerC; rw [Int.toNat_natCast])
          rw [HKC.out] at HP
          have hcl := fun wx (hb : Below ((w.alloc (.cells #[.int .i64 c.kind, .int .i64 c.h, .int .i64 c.t, .int .i64 c.n, .int .i64 c.c, .slice pl c.label.length cl, .slice pg c.grants.length cg, .string ⟨c.text.toArray⟩] 30)).alloc (.cells #[.int .i64 0, .int .i64 0, .string ⟨#[]⟩] 35)).heap.size ((w.alloc (.cells #[.int .i64 c.kind, .int .i64 c.h, .int .i64 c.t, .int .i64 c.n, .int .i64 c.c, .slice pl c.label.length cl, .slice pg c.grants.length cg, .string ⟨c.text.toArray⟩] 30)).alloc (.cells #[.int .i64 0, .int .i64 0, .string ⟨#[]⟩] 35)) wx) => Call_any (Z.kp h) t _ (Z.V h) (C.ks h) c _ wx ((HC0.out.ker h h4).below hb) (HG.out.ks h h4) (HV.out.below (below_then HBW.out hb))
          unfold calV at hcl
          have i0 : ¬ ((h : Int) < 0) := by omega
          have i1 : ¬ ((4 : Int) ≤ h) := by omega
          have i2 : (h : Int) < 4 := by omega
          have i3 : (0 : Int) ≤ h := by omega
          clear k6 k8 HKC
          obtain ⟨K', r, hKr⟩ : ∃ K' r, callL (C.ks h) t c = (K', r) := ⟨_, _, rfl⟩
          rw [hKr] at hcl HP
          simp only at hcl HP
          clear hKr
          obtain ⟨A0, hA0, hB0⟩ := HC0.out.box
          have HA0 := hid hA0
          have HKB := hid (hB0.ker h h4)
          have HX0d := HX0
          have HS8 : Hid (∀ w' : World, w'.heap[w.heap.size]? = some (.cells #[.int .i64 c.kind, .int .i64 c.h, .int .i64 c.t, .int .i64 c.n, .int .i64 c.c, .slice pl c.label.length cl, .slice pg c.grants.length cg, .string ⟨c.text.toArray⟩] 30 (0, 0)) → w'.heap[cb]? = some (.cells A0 93 (0, 0)) → w'.cell? ⟨w.heap.size, 0, none⟩ = some (.int .i64 c.kind) ∧ w'.cell? ⟨w.heap.size, 1, none⟩ = some (.int .i64 c.h) ∧ w'.cell? ⟨w.heap.size, 2, none⟩ = some (.int .i64 c.t) ∧ w'.cell? ⟨w.heap.size, 3, none⟩ = some (.int .i64 c.n) ∧ w'.cell? ⟨w.heap.size, 4, none⟩ = some (.int .i64 c.c) ∧ w'.cell? ⟨w.heap.size, 5, none⟩ = some (.slice pl c.label.length cl) ∧ w'.cell? ⟨w.heap.size, 6, none⟩ = some (.slice pg c.grants.length cg) ∧ w'.cell? ⟨w.heap.size, 7, none⟩ = some (.string ⟨c.text.toArray⟩) ∧ w'.cell? ⟨cb, 2 + h, none⟩ = some (.pointer (some ⟨Z.kp h, 0, none⟩))) := hid (fun w' h1 h2 => ⟨heap_cell h1 0, heap_cell h1 1, heap_cell h1 2, heap_cell h1 3, heap_cell h1 4, heap_cell h1 5, heap_cell h1 6, heap_cell h1 7, (heap_cell h2 (2 + h)).trans HKB.out⟩)
          clear hA0 hB0
          go_enter Tryz.func48, Tryz.ntmps48
          go_upto_region 8 with (first | (go_at_call 32; refine (hh _).mono ?_; rintro e w1 ⟨rfl, hw⟩; rw [hw]; clear hw) | (go_at_call 65; refine (htt _).mono ?_; rintro e w1 ⟨rfl, hw⟩; rw [hw]; clear hw))
          generalize ((w.alloc (.cells #[.int .i64 c.kind, .int .i64 c.h, .int .i64 c.t, .int .i64 c.n, .int .i64 c.c, .slice pl c.label.length cl, .slice pg c.grants.length cg, .string ⟨c.text.toArray⟩] 30)).alloc (.cells #[.int .i64 0, .int .i64 0, .string ⟨#[]⟩] 35)) = w0 at *
          refine wp_region_held_drew (S := (fun w' => w'.cell? ⟨w.heap.size, 0, none⟩ = some (.int .i64 c.kind) ∧ w'.cell? ⟨w.heap.size, 1, none⟩ = some (.int .i64 c.h) ∧ w'.cell? ⟨w.heap.size, 2, none⟩ = some (.int .i64 c.t) ∧ w'.cell? ⟨w.heap.size, 3, none⟩ = some (.int .i64 c.n) ∧ w'.cell? ⟨w.heap.size, 4, none⟩ = some (.int .i64 c.c) ∧ w'.cell? ⟨w.heap.size, 5, none⟩ = some (.slice pl c.label.length cl) ∧ w'.cell? ⟨w.heap.size, 6, none⟩ = some (.slice pg c.grants.length cg) ∧ w'.cell? ⟨w.heap.size, 7, none⟩ = some (.string ⟨c.text.toArray⟩) ∧ w'.cell? ⟨cb, 2 + h, none⟩ = some (.pointer (some ⟨Z.kp h, 0, none⟩)))) (by as_aux_lemma => kernel_rfl) (HS8.out _ HX0d.out HA0.out) (fun _hHeld => ?_)
          refine takeD 0 36 ?v1 rfl (by as_aux_lemma => kernel_rfl) (by as_aux_lemma => kernel_rfl) (by as_aux_lemma => kernel_rfl) (by as_aux_lemma => kernel_rfl) (fun _ _ _ h => h) (Or.inl ⟨by rfl, ?hy1⟩) (by assumption) ?rest1
          case hy1 => intro wz hSw; (try dsimp only at hSw); go_simp; try with_reducible rfl
          simp only [Act.put, List.setIfInBounds_toArray, List.set_cons_zero, List.set_cons_succ]
          refine takeD 1 37 ?v2 rfl (by as_aux_lemma => kernel_rfl) (by as_aux_lemma => kernel_rfl) (by as_aux_lemma => kernel_rfl) (by as_aux_lemma => kernel_rfl) (fun _ _ _ h => h) (Or.inl ⟨by rfl, ?hy2⟩) (by assumption) ?rest2
          case hy2 => intro wz hSw; (try dsimp only at hSw); go_simp; try with_reducible rfl
          simp only [Act.put, List.setIfInBounds_toArray, List.set_cons_zero, List.set_cons_succ]
          refine takeD 2 38 ?v3 rfl (by as_aux_lemma => kernel_rfl) (by as_aux_lemma => kernel_rfl) (by as_aux_lemma => kernel_rfl) (by as_aux_lemma => kernel_rfl) (fun _ _ _ h => h) (Or.inl ⟨by rfl, ?hy3⟩) (by assumption) ?rest3
          case hy3 => intro wz hSw; (try dsimp only at hSw); go_simp; try with_reducible rfl
          simp only [Act.put, List.setIfInBounds_toArray, List.set_cons_zero, List.set_cons_succ]
          refine takeD 3 39 ?v4 rfl (by as_aux_lemma => kernel_rfl) (by as_aux_lemma => kernel_rfl) (by as_aux_lemma => kernel_rfl) (by as_aux_lemma => kernel_rfl) (fun _ _ _ h => h) (Or.inl ⟨by rfl, ?hy4⟩) (by assumption) ?rest4
          case hy4 => intro wz hSw; (try dsimp only at hSw); go_simp; try with_reducible rfl
          simp only [Act.put, List.setIfInBounds_toArray, List.set_cons_zero, List.set_cons_succ]
          refine takeD 4 40 ?v5 rfl (by as_aux_lemma => kernel_rfl) (by as_aux_lemma => kernel_rfl) (by as_aux_lemma => kernel_rfl) (by as_aux_lemma => kernel_rfl) (fun _ _ _ h => h) (Or.inl ⟨by rfl, ?hy5⟩) (by assumption) ?rest5
          case hy5 => intro wz hSw; (try dsimp only at hSw); go_simp; try with_reducible rfl
          simp only [Act.put, List.setIfInBounds_toArray, List.set_cons_zero, List.set_cons_succ]
          refine takeD 5 41 ?v6 rfl (by as_aux_lemma => kernel_rfl) (by as_aux_lemma => kernel_rfl) (by as_aux_lemma => kernel_rfl) (by as_aux_lemma => kernel_rfl) (fun _ _ _ h => h) (Or.inl ⟨by rfl, ?hy6⟩) (by assumption) ?rest6
          case hy6 => intro wz hSw; (try dsimp only at hSw); go_simp; try with_reducible rfl
          simp only [Act.put, List.setIfInBounds_toArray, List.set_cons_zero, List.set_cons_succ]
          refine takeD 6 42 ?v7 rfl (by as_aux_lemma => kernel_rfl) (by as_aux_lemma => kernel_rfl) (by as_aux_lemma => kernel_rfl) (by as_aux_lemma => kernel_rfl) (fun _ _ _ h => h) (Or.inl ⟨by rfl, ?hy7⟩) (by assumption) ?rest7
          case hy7 => intro wz hSw; (try dsimp only at hSw); go_simp; try with_reducible rfl
          simp only [Act.put, List.setIfInBounds_toArray, List.set_cons_zero, List.set_cons_succ]
          refine takeD 7 43 ?v8 rfl (by as_aux_lemma => kernel_rfl) (by as_aux_lemma => kernel_rfl) (by as_aux_lemma => kernel_rfl) (by as_aux_lemma => kernel_rfl) (fun _ _ _ h => h) (Or.inl ⟨by rfl, ?hy8⟩) (by assumption) ?rest8
          case hy8 => intro wz hSw; (try dsimp only at hSw); go_simp; try with_reducible rfl
          simp only [Act.put, List.setIfInBounds_toArray, List.set_cons_zero, List.set_cons_succ]
          refine wpAnyH_ready (rs := [8]) (by as_aux_lemma => kernel_rfl) (by simp) ?_
          refine (AllReadyH.cons rfl (fun K' hK => ?_) AllReadyH.nil)
          go_simp
          go_wp2_with (go_at_call 68; refine (hcl _ (Below.refl _ _).drew).mono ?_; rintro e w5 ⟨rfl, G5, V5, hK5, hS5d⟩)
          have hS5 : KStep (Z.kp h) w0 (F ++ [w.heap.size + 1]) (Z.V h) w5 G5 V5 := ⟨⟨hS5d.kept.os, hS5d.kept.tape, hS5d.kept.output, hS5d.kept.size, hS5d.kept.block⟩, hS5d.rows, hS5d.more⟩
          have HX5 := hid (box_kstep hS5 (HC0.out.ker h h4) HX0d.out (by decide) (by decide) (by decide) (by decide))
          have HA5 := hid (box_kstep hS5 (HC0.out.ker h h4) HA0.out (by decide) (by decide) (by decide) (by decide))
          have HR5 := hid (box_kstep hS5 (HC0.out.ker h h4) HXR.out (by decide) (by decide) (by decide) (by decide))
          obtain ⟨b0, b1, b2, b3, b4, b5⟩ := cells3 HR5.out
          have HK5 := hid hK5
          have HS5 := hid hS5
          clear hK5 hS5 hS5d hcl
          unfold repV
          refine hK.out _ _ (HS8.out _ HX5.out HA5.out) (fun _ => ?_)
          clear hK K'
          obtain ⟨rc, rn, rt⟩ := r
          have hKK := HC0.out.kernel h4 HK5.out HS5.out
          have hE := creply_end rc rn rt HR5.out (HS5.out.more.1 _ HM0.out) HLE.out hKK.1 (HS0.out.trans hKK.2)
          have HE := hid hE
          have HX6 := hid (box_cell6 HX5.out HR5.out (by decide) (st3_grown _ _ (.int .i64 rc) (.int .i64 rn) (.string ⟨rt.toArray⟩)))
          have HA6 := hid (box_cell6 HA5.out HR5.out (by decide) (st3_grown _ _ (.int .i64 rc) (.int .i64 rn) (.string ⟨rt.toArray⟩)))
          clear hE hKK
          refine wpAnyH_ready (rs := [9]) (by as_aux_lemma => kernel_rfl) (by simp) ?_
          refine (AllReadyH.cons rfl (fun K' hK => ?_) AllReadyH.nil)
          go_simp
          refine hK.out _ _ (HS8.out _ HX6.out HA6.out) (fun _ => ?_)
          clear hK K'
          refine wpAnyH_done (by as_aux_lemma => kernel_rfl) ?_ _
          go_wp2
          simp only [HP.out]
          exact bodyPost_ret (results_cell_row rfl _ _ (w.heap.size + 1) 35 _ (0, 0) _ rfl HE.out.1 Tryz.underlying35 rfl (by kernel_rfl)) rfl ⟨rfl, _, _, HE.out.2.1, HE.out.2.2⟩
end Go.Proofs.YtgpldlbmjakjhaaGreat
