/- cluster.send: mail for a thread of this host, or of another one. -/
import Derived.Test.YtgpldlbmjakjhaaGreatSCAway
import Derived.Test.YtgpldlbmjakjhaaGreatSCClu
import Derived.Test.YtgpldlbmjakjhaaGreatSKDelivE
import Derived.Test.YtgpldlbmjakjhaaGreatSKLetter
import Derived.Test.YtgpldlbmjakjhaaGreatSKAns
import Derived.Test.YtgpldlbmjakjhaaGreatSKTake
namespace Go.Proofs.YtgpldlbmjakjhaaGreat
open Go.RowKit Go.Proofs.Parclose
theorem sendC_long {C : Clu} {h t : Int} {c : Cal} (h1 : 64 < c.text.length) : sendC C h t c = (C, 9) := by
  unfold sendC
  rw [if_pos h1]
theorem sendC_none {C : Clu} {h t : Int} {c : Cal} (h1 : ¬ 64 < c.text.length) (h2 : (hostB c.h && hostB c.t) = false) : sendC C h t c = (C, 4) := by
  unfold sendC
  rw [if_neg h1, h2]
  rfl
theorem sendC_err {C : Clu} {h t : Int} {c : Cal} {m : Mal} {e : Int} (h1 : ¬ 64 < c.text.length) (h2 : (hostB c.h && hostB c.t) = true) (hl : letterL (kerC C h) t c = (m, e)) (he : e ≠ 0) : sendC C h t c = (C, e) := by
  unfold sendC
  rw [if_neg h1, h2, hl]
  simp only [if_pos]
  rw [if_neg he]
theorem sendC_here {C : Clu} {h t : Int} {c : Cal} {m : Mal} (h1 : ¬ 64 < c.text.length) (h2 : (hostB c.h && hostB c.t) = true) (hl : letterL (kerC C h) t c = (m, 0)) (he : c.h = h) : sendC C h t c = (setK C h (deliverL (kerC C h) c.t m), 0) := by
  unfold sendC
  rw [if_neg h1, h2, hl]
  simp only [if_pos]
  rw [if_pos he]
theorem sendC_away {C : Clu} {h t : Int} {c : Cal} {m : Mal} (h1 : ¬ 64 < c.text.length) (h2 : (hostB c.h && hostB c.t) = true) (hl : letterL (kerC C h) t c = (m, 0)) (he : ¬ c.h = h) : sendC C h t c = awayC C h c.h c.t m := by
  unfold sendC
  rw [if_neg h1, h2, hl]
  simp only [if_pos]
  rw [if_neg he]
set_option linter.unusedSimpArgs false in
set_option maxRecDepth 100000 in
set_option maxHeartbeats 6400000 in
theorem csend_any (cb h t : Nat) (F : List Nat) (Z : CluV) (C : Clu) (vx : Value) (c : Cal) (w : World) (hc : CluAt w cb F Z C) (hg : GoodC C) (h4 : h < 4) (ht4 : t < 4) (hv : CalAt w vx c) :
    Calls Tryz.prog 66 #[.pointer (some ⟨cb, 0, none⟩), .int .i64 h, .int .i64 t, vx] w fun e w' => e = .returned (.int .i64 (sendC C h t c).2) ∧ ∃ G Z', CluAt w' cb G Z' (sendC C h t c).1 ∧ CStep cb w F Z w' G Z' := by
  have HV := hid hv
  obtain ⟨vl, vg, rfl, ⟨pl, cl, rfl, _⟩, ⟨pg, cg, rfl, _⟩⟩ := hv
  unfold calV at HV ⊢
  have HBB := hid (below_box w (.cells #[.int .i64 c.kind, .int .i64 c.h, .int .i64 c.t, .int .i64 c.n, .int .i64 c.c, .slice pl c.label.length cl, .slice pg c.grants.length cg, .string ⟨c.text.toArray⟩] 30))
  have HX0 := hid (heap_alloc_new w (.cells #[.int .i64 c.kind, .int .i64 c.h, .int .i64 c.t, .int .i64 c.n, .int .i64 c.c, .slice pl c.label.length cl, .slice pg c.grants.length cg, .string ⟨c.text.toArray⟩] 30))
  have HC0 := hid (hc.below HBB.out)
  have HC := hid hc
  have HG := hid hg
  have hlt := hc.lt
  clear hc hg
  have hh := fun wx => chost_any c.h wx
  have htt := fun wx => cisThread_any c.t wx
  by_cases g1 : 64 < c.text.length
  · have HP := hid (sendC_long (C := C) (h := h) (t := t) g1)
    have g2 : ((64 : Int) < c.text.length) := by omega
    go_enter Tryz.func66, Tryz.ntmps66
    go_wp2
    go_ret
    rw [HP.out]
    exact ⟨rfl, _, _, HC0.out, CStep.below HBB.out⟩
  · have g2 : ¬ ((64 : Int) < c.text.length) := by omega
    cases e1 : hostB c.h with
    | false =>
      have HP := hid (sendC_none (C := C) (h := h) (t := t) (c := c) g1 (by rw [e1]; rfl))
      rw [e1] at hh
      go_enter Tryz.func66, Tryz.ntmps66
      go_wp2_with (first | (go_at_call 32; refine (hh _).mono ?_; rintro e w1 ⟨rfl, hw⟩; rw [hw]; clear hw) | (go_at_call 65; refine (htt _).mono ?_; rintro e w1 ⟨rfl, hw⟩; rw [hw]; clear hw))
      go_ret
      rw [HP.out]
      exact ⟨rfl, _, _, HC0.out, CStep.below HBB.out⟩
    | true =>
      rw [e1] at hh
      cases e2 : hostB c.t with
      | false =>
        have HP := hid (sendC_none (C := C) (h := h) (t := t) (c := c) g1 (by rw [e1, e2]; rfl))
        rw [e2] at htt
        go_enter Tryz.func66, Tryz.ntmps66
        go_wp2_with (first | (go_at_call 32; refine (hh _).mono ?_; rintro e w1 ⟨rfl, hw⟩; rw [hw]; clear hw) | (go_at_call 65; refine (htt _).mono ?_; rintro e w1 ⟨rfl, hw⟩; rw [hw]; clear hw))
        go_ret
        rw [HP.out]
        exact ⟨rfl, _, _, HC0.out, CStep.below HBB.out⟩
      | true =>
        rw [e2] at htt
        have HG1 := hid g1
        have H12 : Hid ((hostB c.h && hostB c.t) = true) := hid (by rw [e1, e2]; rfl)
        obtain ⟨b, hb, hb4⟩ : ∃ b : Nat, c.h = b ∧ b < 4 := by
          have : 0 ≤ c.h ∧ c.h < 4 := of_decide_eq_true e1
          exact ⟨c.h.toNat, by omega, by omega⟩
        have HHB := hid hb
        have hgk := HG.out.ks h h4
        have hlk : t < (C.ks h).ths.length := by rw [hgk.four]; exact ht4
        have hgt := hgk.ths _ (List.getElem_mem hlk)
        obtain ⟨m, e0, hLT⟩ : ∃ m e0, letterL (C.ks h) t c = (m, e0) := ⟨_, _, rfl⟩
        have hlet := fun wx (hb : Below (w.alloc (.cells #[.int .i64 c.kind, .int .i64 c.h, .int .i64 c.t, .int .i64 c.n, .int .i64 c.c, .slice pl c.label.length cl, .slice pg c.grants.length cg, .string ⟨c.text.toArray⟩] 30)).heap.size (w.alloc (.cells #[.int .i64 c.kind, .int .i64 c.h, .int .i64 c.t, .int .i64 c.n, .int .i64 c.c, .slice pl c.label.length cl, .slice pg c.grants.length cg, .string ⟨c.text.toArray⟩] 30)) wx) => Letter_in (Z.kp h) t F (Z.V h) (C.ks h) _ c wx ((HC0.out.ker h h4).below hb) (by rw [(HC0.out.ker h h4).len]; exact ht4) hlk (by have := hgt.own; omega) (by have := hgt.text; omega) (HV.out.below (below_then HBB.out hb))
        rw [hLT] at hlet
        simp only at hlet
        have HLT : Hid (letterL (kerC C h) t c = (m, e0)) := hid (by unfold kerC; rw [Int.toNat_natCast]; exact hLT)
        have i0 : ¬ ((h : Int) < 0) := by omega
        have i1 : ¬ ((4 : Int) ≤ h) := by omega
        have i2 : (h : Int) < 4 := by omega
        have i3 : (0 : Int) ≤ h := by omega
        have HK2 := hid (HC0.out.cker h4)
        clear g1 e1 e2 hgk hlk hgt hLT hb
        go_enter Tryz.func66, Tryz.ntmps66
        go_upto_region 5 with (first | (go_at_call 32; refine (hh _).mono ?_; rintro e w1 ⟨rfl, hw⟩; rw [hw]; clear hw) | (go_at_call 65; refine (htt _).mono ?_; rintro e w1 ⟨rfl, hw⟩; rw [hw]; clear hw))
        generalize (w.alloc (.cells #[.int .i64 c.kind, .int .i64 c.h, .int .i64 c.t, .int .i64 c.n, .int .i64 c.c, .slice pl c.label.length cl, .slice pg c.grants.length cg, .string ⟨c.text.toArray⟩] 30)) = w0 at *
        have HS : Hid (∀ w', Below w0.heap.size w0 w' → w'.cell? ⟨w.heap.size, 0, none⟩ = some (.int .i64 c.kind) ∧ w'.cell? ⟨w.heap.size, 1, none⟩ = some (.int .i64 c.h) ∧ w'.cell? ⟨w.heap.size, 2, none⟩ = some (.int .i64 c.t) ∧ w'.cell? ⟨w.heap.size, 3, none⟩ = some (.int .i64 c.n) ∧ w'.cell? ⟨w.heap.size, 4, none⟩ = some (.int .i64 c.c) ∧ w'.cell? ⟨w.heap.size, 5, none⟩ = some (.slice pl c.label.length cl) ∧ w'.cell? ⟨w.heap.size, 6, none⟩ = some (.slice pg c.grants.length cg) ∧ w'.cell? ⟨w.heap.size, 7, none⟩ = some (.string ⟨c.text.toArray⟩) ∧ w'.cell? ⟨cb, 2 + h, none⟩ = some (.pointer (some ⟨Z.kp h, 0, none⟩))) := hid (fun w' hw => ⟨heap_cell (heap_keep HX0.out hw) 0, heap_cell (heap_keep HX0.out hw) 1, heap_cell (heap_keep HX0.out hw) 2, heap_cell (heap_keep HX0.out hw) 3, heap_cell (heap_keep HX0.out hw) 4, heap_cell (heap_keep HX0.out hw) 5, heap_cell (heap_keep HX0.out hw) 6, heap_cell (heap_keep HX0.out hw) 7, (hw.cell (cell_block HK2.out)).trans HK2.out⟩)
        go_cut [9, 10] (fun v9 v10 wx => ∃ (M : Nat) (ml mg : Option Addr) (nl ng : Nat), v9 = .pointer (some ⟨M, 0, none⟩) ∧ v10 = .int .i64 e0 ∧ wx.heap[M]? = some (.cells #[.int .i64 m.host, .int .i64 m.thread, .slice ml m.label.length nl, .slice mg m.grants.length ng, .string ⟨m.text.toArray⟩] 46 (0, 0)) ∧ w0.heap.size ≤ M ∧ MalAt wx (.agg #[.int .i64 m.host, .int .i64 m.thread, .slice ml m.label.length nl, .slice mg m.grants.length ng, .string ⟨m.text.toArray⟩]) m ∧ Below w0.heap.size w0 wx)
        case first =>
          refine wp_region_held_drew (S := (fun w' => w'.cell? ⟨w.heap.size, 0, none⟩ = some (.int .i64 c.kind) ∧ w'.cell? ⟨w.heap.size, 1, none⟩ = some (.int .i64 c.h) ∧ w'.cell? ⟨w.heap.size, 2, none⟩ = some (.int .i64 c.t) ∧ w'.cell? ⟨w.heap.size, 3, none⟩ = some (.int .i64 c.n) ∧ w'.cell? ⟨w.heap.size, 4, none⟩ = some (.int .i64 c.c) ∧ w'.cell? ⟨w.heap.size, 5, none⟩ = some (.slice pl c.label.length cl) ∧ w'.cell? ⟨w.heap.size, 6, none⟩ = some (.slice pg c.grants.length cg) ∧ w'.cell? ⟨w.heap.size, 7, none⟩ = some (.string ⟨c.text.toArray⟩) ∧ w'.cell? ⟨cb, 2 + h, none⟩ = some (.pointer (some ⟨Z.kp h, 0, none⟩)))) (by as_aux_lemma => kernel_rfl) (HS.out _ (Below.refl _ _).drew) (fun _hHeld => ?_)
          refine takeF 0 26 ?v1 rfl (Or.inl ⟨by rfl, ?hy1⟩) ?rest1
          case hy1 => intro wz hSw; (try dsimp only at hSw); go_simp; try with_reducible rfl
          simp only [Act.put, List.setIfInBounds_toArray, List.set_cons_zero, List.set_cons_succ]
          refine takeF 1 27 ?v2 rfl (Or.inl ⟨by rfl, ?hy2⟩) ?rest2
          case hy2 => intro wz hSw; (try dsimp only at hSw); go_simp; try with_reducible rfl
          simp only [Act.put, List.setIfInBounds_toArray, List.set_cons_zero, List.set_cons_succ]
          refine takeF 2 28 ?v3 rfl (Or.inl ⟨by rfl, ?hy3⟩) ?rest3
          case hy3 => intro wz hSw; (try dsimp only at hSw); go_simp; try with_reducible rfl
          simp only [Act.put, List.setIfInBounds_toArray, List.set_cons_zero, List.set_cons_succ]
          refine takeF 3 29 ?v4 rfl (Or.inl ⟨by rfl, ?hy4⟩) ?rest4
          case hy4 => intro wz hSw; (try dsimp only at hSw); go_simp; try with_reducible rfl
          simp only [Act.put, List.setIfInBounds_toArray, List.set_cons_zero, List.set_cons_succ]
          refine takeF 4 30 ?v5 rfl (Or.inl ⟨by rfl, ?hy5⟩) ?rest5
          case hy5 => intro wz hSw; (try dsimp only at hSw); go_simp; try with_reducible rfl
          simp only [Act.put, List.setIfInBounds_toArray, List.set_cons_zero, List.set_cons_succ]
          refine takeF 5 31 ?v6 rfl (Or.inl ⟨by rfl, ?hy6⟩) ?rest6
          case hy6 => intro wz hSw; (try dsimp only at hSw); go_simp; try with_reducible rfl
          simp only [Act.put, List.setIfInBounds_toArray, List.set_cons_zero, List.set_cons_succ]
          refine takeF 6 32 ?v7 rfl (Or.inl ⟨by rfl, ?hy7⟩) ?rest7
          case hy7 => intro wz hSw; (try dsimp only at hSw); go_simp; try with_reducible rfl
          simp only [Act.put, List.setIfInBounds_toArray, List.set_cons_zero, List.set_cons_succ]
          refine takeF 7 33 ?v8 rfl (Or.inl ⟨by rfl, ?hy8⟩) ?rest8
          case hy8 => intro wz hSw; (try dsimp only at hSw); go_simp; try with_reducible rfl
          simp only [Act.put, List.setIfInBounds_toArray, List.set_cons_zero, List.set_cons_succ]
          refine wpAnyH_ready (rs := [8, 12]) (by as_aux_lemma => kernel_rfl) (by simp) ?_
          refine (AllReadyH.cons rfl (fun K' hK => ?_) (AllReadyH.cons rfl (fun K' hK => ?_) AllReadyH.nil))
          · skip
            go_simp
            go_wp2_with (go_at_call 82; refine (hlet _ ((Below.refl _ _).drew)).mono ?_; rintro e w2 ⟨v2, rfl, hv2, hw2d⟩)
            have hw2 : Below w0.heap.size w0 w2 := ⟨hw2d.os, hw2d.tape, hw2d.output, hw2d.size, hw2d.block⟩
            obtain ⟨vl2, vg2, ev2, ⟨ml, nl, e4, _⟩, ⟨mg, ng, e5, _⟩⟩ := id (hv2 w2 (Since.refl _ _))
            subst e4 e5 ev2
            unfold malV at hv2
            unfold malV
            have HV2 := hid hv2
            clear hv2 hw2d
            refine hK.out _ _ (HS.out _ hw2) (fun _ => ?_)
            clear hK K'
            refine takeF 9 25 ?v9 rfl (Or.inl ⟨by rfl, ?hy9⟩) ?rest9
            case hy9 => intro wz hSw; (try dsimp only at hSw); go_simp; try with_reducible rfl
            simp only [Act.put, List.setIfInBounds_toArray, List.set_cons_zero, List.set_cons_succ]
            refine takeF 10 35 ?v10 rfl (Or.inl ⟨by rfl, ?hy10⟩) ?rest10
            case hy10 => intro wz hSw; (try dsimp only at hSw); go_simp; try with_reducible rfl
            simp only [Act.put, List.setIfInBounds_toArray, List.set_cons_zero, List.set_cons_succ]
            refine takeF 11 36 ?v11 rfl (Or.inl ⟨by rfl, ?hy11⟩) ?rest11
            case hy11 => intro wz hSw; (try dsimp only at hSw); go_simp; try with_reducible rfl
            simp only [Act.put, List.setIfInBounds_toArray, List.set_cons_zero, List.set_cons_succ]
            refine wpAnyH_ready (rs := [12]) (by as_aux_lemma => kernel_rfl) (by simp) ?_
            refine (AllReadyH.cons rfl (fun K' hK => ?_) AllReadyH.nil)
            go_simp
            refine hK.out _ _ (HS.out _ (below_then hw2 (below_box w2 _))) (fun _ => ?_)
            clear hK K'
            refine wpAnyH_ready (rs := [13]) (by as_aux_lemma => kernel_rfl) (by simp) ?_
            refine (AllReadyH.cons rfl (fun K' hK => ?_) AllReadyH.nil)
            go_simp
            refine hK.out _ _ (HS.out _ (below_then hw2 (below_box w2 _))) (fun _ => ?_)
            clear hK K'
            refine takeF 14 10 ?v12 rfl (Or.inl ⟨by rfl, ?hy12⟩) ?rest12
            case hy12 => intro wz hSw; (try dsimp only at hSw); go_simp; try with_reducible rfl
            simp only [Act.put, List.setIfInBounds_toArray, List.set_cons_zero, List.set_cons_succ]
            refine wpAnyH_done (by as_aux_lemma => kernel_rfl) ?_ _
            go_wp2_with fail
            go_meet
            exact ⟨w2.heap.size, ml, mg, nl, ng, rfl, rfl, heap_alloc_new w2 _, hw2.size, HV2.out _ (since_below (below_box w2 _)), below_then hw2 (below_box w2 _)⟩
          · skip
            go_simp
            refine hK.out _ _ (HS.out _ (below_box w0 _).drew) (fun _ => ?_)
            clear hK K'
            refine wpAnyH_ready (rs := [8]) (by as_aux_lemma => kernel_rfl) (by simp) ?_
            refine (AllReadyH.cons rfl (fun K' hK => ?_) AllReadyH.nil)
            go_simp
            go_wp2_with (go_at_call 82; refine (hlet _ ((below_box w0 _).drew)).mono ?_; rintro e w2 ⟨v2, rfl, hv2, hw2d⟩)
            have hw2 : Below (w0.alloc (.cells #[.int .i64 0, .int .i64 0, .slice none 0 0, .slice none 0 0, .string ⟨#[]⟩] 46)).heap.size (w0.alloc (.cells #[.int .i64 0, .int .i64 0, .slice none 0 0, .slice none 0 0, .string ⟨#[]⟩] 46)) w2 := ⟨hw2d.os, hw2d.tape, hw2d.output, hw2d.size, hw2d.block⟩
            have hb2 := below_then (below_box w0 _) hw2
            obtain ⟨vl2, vg2, ev2, ⟨ml, nl, e4, _⟩, ⟨mg, ng, e5, _⟩⟩ := id (hv2 w2 (Since.refl _ _))
            subst e4 e5 ev2
            unfold malV at hv2
            unfold malV
            have HV2 := hid hv2
            clear hv2 hw2d
            refine hK.out _ _ (HS.out _ hb2) (fun _ => ?_)
            clear hK K'
            refine takeF 9 25 ?v13 rfl (Or.inl ⟨by rfl, ?hy13⟩) ?rest13
            case hy13 => intro wz hSw; (try dsimp only at hSw); go_simp; try with_reducible rfl
            simp only [Act.put, List.setIfInBounds_toArray, List.set_cons_zero, List.set_cons_succ]
            refine takeF 10 35 ?v14 rfl (Or.inl ⟨by rfl, ?hy14⟩) ?rest14
            case hy14 => intro wz hSw; (try dsimp only at hSw); go_simp; try with_reducible rfl
            simp only [Act.put, List.setIfInBounds_toArray, List.set_cons_zero, List.set_cons_succ]
            refine takeF 11 36 ?v15 rfl (Or.inl ⟨by rfl, ?hy15⟩) ?rest15
            case hy15 => intro wz hSw; (try dsimp only at hSw); go_simp; try with_reducible rfl
            simp only [Act.put, List.setIfInBounds_toArray, List.set_cons_zero, List.set_cons_succ]
            have HM := hid (heap_keep (heap_alloc_new w0 _) hw2)
            have m0 := heap_cell HM.out 0
            have mf0 := heap_frozen HM.out 0
            have m1 := heap_cell HM.out 1
            have mf1 := heap_frozen HM.out 1
            have m2 := heap_cell HM.out 2
            have mf2 := heap_frozen HM.out 2
            have m3 := heap_cell HM.out 3
            have mf3 := heap_frozen HM.out 3
            have m4 := heap_cell HM.out 4
            have mf4 := heap_frozen HM.out 4
            have hS := st5_grown w2 w0.heap.size (.int .i64 m.host) (.int .i64 m.thread) (.slice ml m.label.length nl) (.slice mg m.grants.length ng) (.string ⟨m.text.toArray⟩)
            have HB3 := hid (hb2.grown hS hb2.size (fun k hk => by have := Option.some.inj hk; omega))
            have HS5 := hid (st5_heap (.int .i64 m.host) (.int .i64 m.thread) (.slice ml m.label.length nl) (.slice mg m.grants.length ng) (.string ⟨m.text.toArray⟩) HM.out)
            have HMA := hid (HV2.out _ (since_grown hS (by simp)))
            clear hS
            refine wpAnyH_ready (rs := [13]) (by as_aux_lemma => kernel_rfl) (by simp) ?_
            refine (AllReadyH.cons rfl (fun K' hK => ?_) AllReadyH.nil)
            go_simp
            refine hK.out _ _ (HS.out _ HB3.out) (fun _ => ?_)
            clear hK K'
            refine takeF 14 10 ?v16 rfl (Or.inl ⟨by rfl, ?hy16⟩) ?rest16
            case hy16 => intro wz hSw; (try dsimp only at hSw); go_simp; try with_reducible rfl
            simp only [Act.put, List.setIfInBounds_toArray, List.set_cons_zero, List.set_cons_succ]
            refine wpAnyH_done (by as_aux_lemma => kernel_rfl) ?_ _
            go_wp2_with fail
            go_meet
            exact ⟨w0.heap.size, ml, mg, nl, ng, rfl, rfl, HS5.out, Nat.le_refl _, HMA.out, HB3.out⟩
        case rest =>
          obtain ⟨M, ml, mg, nl, ng, rfl, rfl, hM, hMw, hma, hb3⟩ := hcut
          obtain ⟨w3, hw3⟩ : ∃ w3, w3 = wc := ⟨_, rfl⟩
          subst hw3
          have HM3 := hid hM
          have HMA := hid hma
          have HX3 := hid (heap_keep HX0.out hb3)
          have HC3 := hid (HC0.out.below hb3)
          have hbw := below_then HBB.out hb3
          have hMW : w.heap.size ≤ M := Nat.le_trans HBB.out.size hMw
          clear hM hma hlet HS
          by_cases h0 : e0 = 0
          rotate_left
          · have HP := hid (sendC_err HG1.out H12.out HLT.out h0)
            have hne : (e0 != 0) = true := by simpa using h0
            clear h0
            go_wp2
            go_ret
            rw [HP.out]
            exact ⟨rfl, _, _, HC3.out, CStep.below hbw⟩
          · subst h0
            obtain ⟨y0, y1, y2, y3, y4, y5, y6, y7⟩ := cells8 HX3.out
            by_cases hbh : b = h
            · have HP := hid (sendC_here HG1.out H12.out HLT.out (by rw [HHB.out, hbh]))
              subst hbh
              rw [HHB.out] at y1
              obtain ⟨A3, hA3, hB3⟩ := HC3.out.box
              have HA3 := hid hA3
              have HK3 := hid (hB3.ker b h4)
              have HS9 : Hid (∀ w' : World, w'.heap[M]? = some (.cells #[.int .i64 m.host, .int .i64 m.thread, .slice ml m.label.length nl, .slice mg m.grants.length ng, .string ⟨m.text.toArray⟩] 46 (0, 0)) → w'.heap[w.heap.size]? = some (.cells #[.int .i64 c.kind, .int .i64 c.h, .int .i64 c.t, .int .i64 c.n, .int .i64 c.c, .slice pl c.label.length cl, .slice pg c.grants.length cg, .string ⟨c.text.toArray⟩] 30 (0, 0)) → w'.heap[cb]? = some (.cells A3 93 (0, 0)) → (w'.cell? ⟨M, 0, none⟩ = some (.int .i64 m.host) ∧ w'.cell? ⟨M, 1, none⟩ = some (.int .i64 m.thread) ∧ w'.cell? ⟨M, 2, none⟩ = some (.slice ml m.label.length nl) ∧ w'.cell? ⟨M, 3, none⟩ = some (.slice mg m.grants.length ng) ∧ w'.cell? ⟨M, 4, none⟩ = some (.string ⟨m.text.toArray⟩)) ∧ w'.cell? ⟨w.heap.size, 2, none⟩ = some (.int .i64 c.t) ∧ w'.cell? ⟨cb, 2 + b, none⟩ = some (.pointer (some ⟨Z.kp b, 0, none⟩))) := hid (fun w' h1 h2 h3 => ⟨⟨heap_cell h1 0, heap_cell h1 1, heap_cell h1 2, heap_cell h1 3, heap_cell h1 4⟩, heap_cell h2 2, (heap_cell h3 (2 + b)).trans HK3.out⟩)
              have hdel := fun wx (hb : Below w3.heap.size w3 wx) => Deliver_any (Z.kp b) c.t F (Z.V b) (C.ks b) m _ wx ((HC3.out.ker b h4).below hb) (HG.out.ks b h4) (HMA.out.below hb)
              clear hA3 hB3
              go_upto_region 9 with fail
              refine wp_region_held_drew (S := (fun w' => (w'.cell? ⟨M, 0, none⟩ = some (.int .i64 m.host) ∧ w'.cell? ⟨M, 1, none⟩ = some (.int .i64 m.thread) ∧ w'.cell? ⟨M, 2, none⟩ = some (.slice ml m.label.length nl) ∧ w'.cell? ⟨M, 3, none⟩ = some (.slice mg m.grants.length ng) ∧ w'.cell? ⟨M, 4, none⟩ = some (.string ⟨m.text.toArray⟩)) ∧ w'.cell? ⟨w.heap.size, 2, none⟩ = some (.int .i64 c.t) ∧ w'.cell? ⟨cb, 2 + b, none⟩ = some (.pointer (some ⟨Z.kp b, 0, none⟩)))) (by as_aux_lemma => kernel_rfl) (HS9.out _ HM3.out HX3.out HA3.out) (fun _hHeld => ?_)
              refine takeF 0 44 ?v17 rfl (Or.inl ⟨by rfl, ?hy17⟩) ?rest17
              case hy17 => intro wz hSw; (try dsimp only at hSw); go_simp; try with_reducible rfl
              simp only [Act.put, List.setIfInBounds_toArray, List.set_cons_zero, List.set_cons_succ]
              refine takeF 1 45 ?v18 rfl (Or.inl ⟨by rfl, ?hy18⟩) ?rest18
              case hy18 => intro wz hSw; (try dsimp only at hSw); go_simp; try with_reducible rfl
              simp only [Act.put, List.setIfInBounds_toArray, List.set_cons_zero, List.set_cons_succ]
              refine takeF 2 46 ?v19 rfl (Or.inl ⟨by rfl, ?hy19⟩) ?rest19
              case hy19 => intro wz hSw; (try dsimp only at hSw); go_simp; try with_reducible rfl
              simp only [Act.put, List.setIfInBounds_toArray, List.set_cons_zero, List.set_cons_succ]
              refine takeF 3 47 ?v20 rfl (Or.inl ⟨by rfl, ?hy20⟩) ?rest20
              case hy20 => intro wz hSw; (try dsimp only at hSw); go_simp; try with_reducible rfl
              simp only [Act.put, List.setIfInBounds_toArray, List.set_cons_zero, List.set_cons_succ]
              refine takeF 4 48 ?v21 rfl (Or.inl ⟨by rfl, ?hy21⟩) ?rest21
              case hy21 => intro wz hSw; (try dsimp only at hSw); go_simp; try with_reducible rfl
              simp only [Act.put, List.setIfInBounds_toArray, List.set_cons_zero, List.set_cons_succ]
              refine takeF 5 49 ?v22 rfl (Or.inl ⟨by rfl, ?hy22⟩) ?rest22
              case hy22 => intro wz hSw; (try dsimp only at hSw); go_simp; try with_reducible rfl
              simp only [Act.put, List.setIfInBounds_toArray, List.set_cons_zero, List.set_cons_succ]
              refine takeF 6 50 ?v23 rfl (Or.inl ⟨by rfl, ?hy23⟩) ?rest23
              case hy23 => intro wz hSw; (try dsimp only at hSw); go_simp; try with_reducible rfl
              simp only [Act.put, List.setIfInBounds_toArray, List.set_cons_zero, List.set_cons_succ]
              refine takeF 7 51 ?v24 rfl (Or.inl ⟨by rfl, ?hy24⟩) ?rest24
              case hy24 => intro wz hSw; (try dsimp only at hSw); go_simp; try with_reducible rfl
              simp only [Act.put, List.setIfInBounds_toArray, List.set_cons_zero, List.set_cons_succ]
              refine takeF 8 52 ?v25 rfl (Or.inl ⟨by rfl, ?hy25⟩) ?rest25
              case hy25 => intro wz hSw; (try dsimp only at hSw); go_simp; try with_reducible rfl
              simp only [Act.put, List.setIfInBounds_toArray, List.set_cons_zero, List.set_cons_succ]
              refine wpAnyH_ready (rs := [9]) (by as_aux_lemma => kernel_rfl) (by simp) ?_
              refine (AllReadyH.cons rfl (fun K' hK => ?_) AllReadyH.nil)
              go_simp
              go_wp2_with (go_at_call 83; refine (hdel _ (Below.refl _ _).drew).mono ?_; rintro e w5 ⟨rfl, G5, V5, hK5, hS5d⟩)
              have hS5 : KStep (Z.kp b) w3 F (Z.V b) w5 G5 V5 := ⟨⟨hS5d.kept.os, hS5d.kept.tape, hS5d.kept.output, hS5d.kept.size, hS5d.kept.block⟩, hS5d.rows, hS5d.more⟩
              have HX5 := hid (box_kstep hS5 (HC3.out.ker b h4) HX3.out (by decide) (by decide) (by decide) (by decide))
              have HA5 := hid (box_kstep hS5 (HC3.out.ker b h4) HA3.out (by decide) (by decide) (by decide) (by decide))
              have HM5 := hid ((hS5.keptF (HC3.out.ker b h4)).heap HM3.out (fun e => by have := HC.out.fin M e; omega))
              refine hK.out _ _ (HS9.out _ HM5.out HX5.out HA5.out) (fun _ => ?_)
              clear hK K'
              refine wpAnyH_done (by as_aux_lemma => kernel_rfl) ?_ _
              have hKK := HC3.out.kernel h4 hK5 hS5
              have HKK := hid hKK
              clear hKK hK5 hS5 hS5d hdel
              go_wp2
              go_ret
              rw [HP.out]
              exact ⟨rfl, _, _, HKK.out.1, (CStep.below hbw).trans HKK.out.2⟩
            · have HP := hid (sendC_away HG1.out H12.out HLT.out (by rw [HHB.out]; omega))
              rw [HHB.out] at y1 HP
              have hne : ((b : Int) == (h : Int)) = false := by simp; omega
              obtain ⟨z0, z1, z2, z3, z4⟩ : w3.cell? ⟨M, 0, none⟩ = some (.int .i64 m.host) ∧ w3.cell? ⟨M, 1, none⟩ = some (.int .i64 m.thread) ∧ w3.cell? ⟨M, 2, none⟩ = some (.slice ml m.label.length nl) ∧ w3.cell? ⟨M, 3, none⟩ = some (.slice mg m.grants.length ng) ∧ w3.cell? ⟨M, 4, none⟩ = some (.string ⟨m.text.toArray⟩) := ⟨heap_cell HM3.out 0, heap_cell HM3.out 1, heap_cell HM3.out 2, heap_cell HM3.out 3, heap_cell HM3.out 4⟩
              have haw := caway_any cb h b c.t F Z C _ m w3 HC3.out HG.out h4 hb4 HMA.out
              go_wp2_with (go_at_call 84; refine haw.mono ?_; rintro e w6 ⟨rfl, G6, Z6, hC6, hS6⟩)
              go_ret
              rw [HP.out]
              exact ⟨rfl, _, _, hC6, (CStep.below hbw).trans hS6⟩
end Go.Proofs.YtgpldlbmjakjhaaGreat
namespace Go.Proofs.YtgpldlbmjakjhaaGreat
open Go.RowKit Go.Proofs.Parclose
theorem callC_none {C : Clu} {h t : Int} {c : Cal} (h1 : (hostB h && hostB t) = false) : callC C h t c = (C, code 4) := by
  unfold callC
  rw [h1]
  rfl
theorem callC_send {C : Clu} {h t : Int} {c : Cal} (h1 : (hostB h && hostB t) = true) (h2 : c.kind = 6) : callC C h t c = ((sendC C h t c).1, code (sendC C h t c).2) := by
  unfold callC
  rw [h1, if_pos rfl, if_pos h2]
theorem callC_certify {C : Clu} {h t : Int} {c : Cal} (h1 : (hostB h && hostB t) = true) (h2 : c.kind = 8) : callC C h t c = ((certifyC C h t c).1, code (certifyC C h t c).2) := by
  unfold callC
  rw [h1, if_pos rfl, if_neg (by omega), if_pos h2]
theorem callC_other {C : Clu} {h t : Int} {c : Cal} (h1 : (hostB h && hostB t) = true) (h2 : c.kind ≠ 6) (h3 : c.kind ≠ 8) : callC C h t c = (setK C h (callL (kerC C h) t c).1, (callL (kerC C h) t c).2) := by
  unfold callC
  rw [h1, if_pos rfl, if_neg h2, if_neg h3]
theorem box_cell6 {w w' : World} {a b : Nat} {C D : Array Value} {s t : TypeId} (h : w.heap[a]? = some (.cells C s (0, 0))) (k : w.heap[b]? = some (.cells D t (0, 0))) (hst : s ≠ t) (hg : w.grownBy w' (some b)) : w'.heap[a]? = some (.cells C s (0, 0)) := heap_tk h (heap_ne h k hst) hg
set_option linter.unusedSimpArgs false in
set_option maxRecDepth 100000 in
set_option maxHeartbeats 6400000 in
theorem ccall_any (cb : Nat) (hI tI : Int) (F : List Nat) (Z : CluV) (C : Clu) (vx : Value) (c : Cal) (w : World) (hc : CluAt w cb F Z C) (hg : GoodC C) (hv : CalAt w vx c) :
    Calls Tryz.prog 48 #[.pointer (some ⟨cb, 0, none⟩), .int .i64 hI, .int .i64 tI, vx] w fun e w' => e = .returned (.agg #[.int .i64 (callC C hI tI c).2.code, .int .i64 (callC C hI tI c).2.n, .string ⟨(callC C hI tI c).2.text.toArray⟩]) ∧ ∃ G Z', CluAt w' cb G Z' (callC C hI tI c).1 ∧ CStep cb w F Z w' G Z' := by
  have HV := hid hv
  obtain ⟨vl, vg, rfl, ⟨pl, cl, rfl, _⟩, ⟨pg, cg, rfl, _⟩⟩ := hv
  unfold calV at HV ⊢
  have hbb := below_box w (.cells #[.int .i64 c.kind, .int .i64 c.h, .int .i64 c.t, .int .i64 c.n, .int .i64 c.c, .slice pl c.label.length cl, .slice pg c.grants.length cg, .string ⟨c.text.toArray⟩] 30)
  have HC0 := hid ((hc.below hbb).reserve (.cells #[.int .i64 0, .int .i64 0, .string ⟨#[]⟩] 35))
  have HS0 := hid ((CStep.below (cb := cb) (F := F) (Z := Z) hbb).trans (CStep.reserve cb _ F Z (.cells #[.int .i64 0, .int .i64 0, .string ⟨#[]⟩] 35)))
  rw [size_box] at HC0 HS0
  have HBW : Hid (Below w.heap.size w ((w.alloc (.cells #[.int .i64 c.kind, .int .i64 c.h, .int .i64 c.t, .int .i64 c.n, .int .i64 c.c, .slice pl c.label.length cl, .slice pg c.grants.length cg, .string ⟨c.text.toArray⟩] 30)).alloc (.cells #[.int .i64 0, .int .i64 0, .string ⟨#[]⟩] 35))) := hid (hbb.alloc hbb.size _)
  have HX0 := hid (heap_alloc2_old w (.cells #[.int .i64 c.kind, .int .i64 c.h, .int .i64 c.t, .int .i64 c.n, .int .i64 c.c, .slice pl c.label.length cl, .slice pg c.grants.length cg, .string ⟨c.text.toArray⟩] 30) (.cells #[.int .i64 0, .int .i64 0, .string ⟨#[]⟩] 35))
  have HXR := hid (heap_alloc2_new w (.cells #[.int .i64 c.kind, .int .i64 c.h, .int .i64 c.t, .int .i64 c.n, .int .i64 c.c, .slice pl c.label.length cl, .slice pg c.grants.length cg, .string ⟨c.text.toArray⟩] 30) (.cells #[.int .i64 0, .int .i64 0, .string ⟨#[]⟩] 35))
  have HM0 : Hid (w.heap.size + 1 ∈ F ++ [w.heap.size + 1]) := hid (by simp)
  have HLE : Hid (w.heap.size ≤ w.heap.size + 1) := hid (Nat.le_succ _)
  have HG := hid hg
  have hlt := hc.lt
  clear hc hg hbb
  have hh := fun wx => chost_any hI wx
  have htt := fun wx => cisThread_any tI wx
  cases e1 : hostB hI with
  | false =>
    have HP := hid (callC_none (C := C) (h := hI) (t := tI) (c := c) (by rw [e1]; rfl))
    rw [e1] at hh
    go_enter Tryz.func48, Tryz.ntmps48
    go_wp2_with (first | (go_at_call 32; refine (hh _).mono ?_; rintro e w1 ⟨rfl, hw⟩; rw [hw]; clear hw) | (go_at_call 65; refine (htt _).mono ?_; rintro e w1 ⟨rfl, hw⟩; rw [hw]; clear hw) | (go_at_call 47; refine (canswer_any _ _).mono ?_; rintro e w9 ⟨rfl, hw9⟩; have HB9 := hid hw9; have HX9 := hid (heap_keep HXR.out hw9); obtain ⟨b0, b1, b2, b3, b4, b5⟩ := cells3 HX9.out; clear hw9))
    obtain ⟨e1, e2, e3⟩ := creply_end 4 0 [] HX9.out HM0.out HLE.out (HC0.out.below HB9.out) (HS0.out.trans (CStep.below HB9.out))
    simp only [HP.out]
    exact bodyPost_ret (results_cell_row rfl _ _ (w.heap.size + 1) 35 _ (0, 0) _ rfl e1 Tryz.underlying35 rfl (by kernel_rfl)) rfl ⟨rfl, _, _, e2, e3⟩
  | true =>
    rw [e1] at hh
    cases e2 : hostB tI with
    | false =>
      have HP := hid (callC_none (C := C) (h := hI) (t := tI) (c := c) (by rw [e1, e2]; rfl))
      rw [e2] at htt
      go_enter Tryz.func48, Tryz.ntmps48
      go_wp2_with (first | (go_at_call 32; refine (hh _).mono ?_; rintro e w1 ⟨rfl, hw⟩; rw [hw]; clear hw) | (go_at_call 65; refine (htt _).mono ?_; rintro e w1 ⟨rfl, hw⟩; rw [hw]; clear hw) | (go_at_call 47; refine (canswer_any _ _).mono ?_; rintro e w9 ⟨rfl, hw9⟩; have HB9 := hid hw9; have HX9 := hid (heap_keep HXR.out hw9); obtain ⟨b0, b1, b2, b3, b4, b5⟩ := cells3 HX9.out; clear hw9))
      obtain ⟨e1, e2, e3⟩ := creply_end 4 0 [] HX9.out HM0.out HLE.out (HC0.out.below HB9.out) (HS0.out.trans (CStep.below HB9.out))
      simp only [HP.out]
      exact bodyPost_ret (results_cell_row rfl _ _ (w.heap.size + 1) 35 _ (0, 0) _ rfl e1 Tryz.underlying35 rfl (by kernel_rfl)) rfl ⟨rfl, _, _, e2, e3⟩
    | true =>
      rw [e2] at htt
      have H12 : Hid ((hostB hI && hostB tI) = true) := hid (by rw [e1, e2]; rfl)
      obtain ⟨h, hh4, h4⟩ : ∃ h : Nat, hI = h ∧ h < 4 := by
        have : 0 ≤ hI ∧ hI < 4 := of_decide_eq_true e1
        exact ⟨hI.toNat, by omega, by omega⟩
      obtain ⟨t, ht4, t4⟩ : ∃ t : Nat, tI = t ∧ t < 4 := by
        have : 0 ≤ tI ∧ tI < 4 := of_decide_eq_true e2
        exact ⟨tI.toNat, by omega, by omega⟩
      subst hh4 ht4
      clear e1 e2
      by_cases k6 : c.kind = 6
      · have HP := hid (callC_send (C := C) H12.out k6)
        have e6 : (c.kind == 6) = true := by simpa using k6
        have hsend := csend_any cb h t _ Z C _ c ((w.alloc (.cells #[.int .i64 c.kind, .int .i64 c.h, .int .i64 c.t, .int .i64 c.n, .int .i64 c.c, .slice pl c.label.length cl, .slice pg c.grants.length cg, .string ⟨c.text.toArray⟩] 30)).alloc (.cells #[.int .i64 0, .int .i64 0, .string ⟨#[]⟩] 35)) HC0.out HG.out h4 t4 (HV.out.below HBW.out)
        unfold calV at hsend
        clear k6
        generalize sendC C h t c = SC at *
        go_enter Tryz.func48, Tryz.ntmps48
        go_wp2_with (first | (go_at_call 32; refine (hh _).mono ?_; rintro e w1 ⟨rfl, hw⟩; rw [hw]; clear hw) | (go_at_call 65; refine (htt _).mono ?_; rintro e w1 ⟨rfl, hw⟩; rw [hw]; clear hw) | (go_at_call 66; refine hsend.mono ?_; rintro e w5 ⟨rfl, G5, Z5, hC5, hS5⟩; have HC5 := hid hC5; have HS5 := hid hS5; have HX5 := hid (box_cstep hS5 HC0.out HXR.out (by decide) (by decide) (by decide) (by decide) (by decide) (by decide)); clear hC5 hS5 hsend) | (go_at_call 47; refine (canswer_any _ _).mono ?_; rintro e w9 ⟨rfl, hw9⟩; have HB9 := hid hw9; have HX9 := hid (heap_keep HX5.out hw9); obtain ⟨b0, b1, b2, b3, b4, b5⟩ := cells3 HX9.out; clear hw9))
        obtain ⟨e1, e2, e3⟩ := creply_end SC.2 0 [] HX9.out (HS5.out.more.1 _ HM0.out) HLE.out (HC5.out.below HB9.out) (HS0.out.trans (HS5.out.trans (CStep.below HB9.out)))
        simp only [HP.out]
        exact bodyPost_ret (results_cell_row rfl _ _ (w.heap.size + 1) 35 _ (0, 0) _ rfl e1 Tryz.underlying35 rfl (by kernel_rfl)) rfl ⟨rfl, _, _, e2, e3⟩
      · have e6 : (c.kind == 6) = false := by simpa using k6
        by_cases k8 : c.kind = 8
        · have HP := hid (callC_certify (C := C) H12.out k8)
          have e8 : (c.kind == 8) = true := by simpa using k8
          have hcert := ccertify_any cb h t _ Z C _ c ((w.alloc (.cells #[.int .i64 c.kind, .int .i64 c.h, .int .i64 c.t, .int .i64 c.n, .int .i64 c.c, .slice pl c.label.length cl, .slice pg c.grants.length cg, .string ⟨c.text.toArray⟩] 30)).alloc (.cells #[.int .i64 0, .int .i64 0, .string ⟨#[]⟩] 35)) HC0.out HG.out h4 (HV.out.below HBW.out)
          unfold calV at hcert
          clear k6 k8
          generalize certifyC C h t c = SC at *
          go_enter Tryz.func48, Tryz.ntmps48
          go_wp2_with (first | (go_at_call 32; refine (hh _).mono ?_; rintro e w1 ⟨rfl, hw⟩; rw [hw]; clear hw) | (go_at_call 65; refine (htt _).mono ?_; rintro e w1 ⟨rfl, hw⟩; rw [hw]; clear hw) | (go_at_call 67; refine hcert.mono ?_; rintro e w5 ⟨rfl, G5, Z5, hC5, hS5⟩; have HC5 := hid hC5; have HS5 := hid hS5; have HX5 := hid (box_cstep hS5 HC0.out HXR.out (by decide) (by decide) (by decide) (by decide) (by decide) (by decide)); clear hC5 hS5 hcert) | (go_at_call 47; refine (canswer_any _ _).mono ?_; rintro e w9 ⟨rfl, hw9⟩; have HB9 := hid hw9; have HX9 := hid (heap_keep HX5.out hw9); obtain ⟨b0, b1, b2, b3, b4, b5⟩ := cells3 HX9.out; clear hw9))
          obtain ⟨e1, e2, e3⟩ := creply_end SC.2 0 [] HX9.out (HS5.out.more.1 _ HM0.out) HLE.out (HC5.out.below HB9.out) (HS0.out.trans (HS5.out.trans (CStep.below HB9.out)))
          simp only [HP.out]
          exact bodyPost_ret (results_cell_row rfl _ _ (w.heap.size + 1) 35 _ (0, 0) _ rfl e1 Tryz.underlying35 rfl (by kernel_rfl)) rfl ⟨rfl, _, _, e2, e3⟩
        · have HP := hid (callC_other (C := C) H12.out k6 k8)
          have e8 : (c.kind == 8) = false := by simpa using k8
          have HKC : Hid (kerC C h = C.ks h) := hid (by unfold kerC; rw [Int.toNat_natCast])
          rw [HKC.out] at HP
          have hcl := fun wx (hb : Below ((w.alloc (.cells #[.int .i64 c.kind, .int .i64 c.h, .int .i64 c.t, .int .i64 c.n, .int .i64 c.c, .slice pl c.label.length cl, .slice pg c.grants.length cg, .string ⟨c.text.toArray⟩] 30)).alloc (.cells #[.int .i64 0, .int .i64 0, .string ⟨#[]⟩] 35)).heap.size ((w.alloc (.cells #[.int .i64 c.kind, .int .i64 c.h, .int .i64 c.t, .int .i64 c.n, .int .i64 c.c, .slice pl c.label.length cl, .slice pg c.grants.length cg, .string ⟨c.text.toArray⟩] 30)).alloc (.cells #[.int .i64 0, .int .i64 0, .string ⟨#[]⟩] 35)) wx) => Call_any (Z.kp h) t _ (Z.V h) (C.ks h) c _ wx ((HC0.out.ker h h4).below hb) (HG.out.ks h h4) (HV.out.below (below_then HBW.out hb))
          unfold calV at hcl
          have i0 : ¬ ((h : Int) < 0) := by omega
          have i1 : ¬ ((4 : Int) ≤ h) := by omega
          have i2 : (h : Int) < 4 := by omega
          have i3 : (0 : Int) ≤ h := by omega
          clear k6 k8 HKC
          obtain ⟨K', r, hKr⟩ : ∃ K' r, callL (C.ks h) t c = (K', r) := ⟨_, _, rfl⟩
          rw [hKr] at hcl HP
          simp only at hcl HP
          clear hKr
          obtain ⟨A0, hA0, hB0⟩ := HC0.out.box
          have HA0 := hid hA0
          have HKB := hid (hB0.ker h h4)
          have HX0d := HX0
          have HS8 : Hid (∀ w' : World, w'.heap[w.heap.size]? = some (.cells #[.int .i64 c.kind, .int .i64 c.h, .int .i64 c.t, .int .i64 c.n, .int .i64 c.c, .slice pl c.label.length cl, .slice pg c.grants.length cg, .string ⟨c.text.toArray⟩] 30 (0, 0)) → w'.heap[cb]? = some (.cells A0 93 (0, 0)) → w'.cell? ⟨w.heap.size, 0, none⟩ = some (.int .i64 c.kind) ∧ w'.cell? ⟨w.heap.size, 1, none⟩ = some (.int .i64 c.h) ∧ w'.cell? ⟨w.heap.size, 2, none⟩ = some (.int .i64 c.t) ∧ w'.cell? ⟨w.heap.size, 3, none⟩ = some (.int .i64 c.n) ∧ w'.cell? ⟨w.heap.size, 4, none⟩ = some (.int .i64 c.c) ∧ w'.cell? ⟨w.heap.size, 5, none⟩ = some (.slice pl c.label.length cl) ∧ w'.cell? ⟨w.heap.size, 6, none⟩ = some (.slice pg c.grants.length cg) ∧ w'.cell? ⟨w.heap.size, 7, none⟩ = some (.string ⟨c.text.toArray⟩) ∧ w'.cell? ⟨cb, 2 + h, none⟩ = some (.pointer (some ⟨Z.kp h, 0, none⟩))) := hid (fun w' h1 h2 => ⟨heap_cell h1 0, heap_cell h1 1, heap_cell h1 2, heap_cell h1 3, heap_cell h1 4, heap_cell h1 5, heap_cell h1 6, heap_cell h1 7, (heap_cell h2 (2 + h)).trans HKB.out⟩)
          clear hA0 hB0
          go_enter Tryz.func48, Tryz.ntmps48
          go_upto_region 8 with (first | (go_at_call 32; refine (hh _).mono ?_; rintro e w1 ⟨rfl, hw⟩; rw [hw]; clear hw) | (go_at_call 65; refine (htt _).mono ?_; rintro e w1 ⟨rfl, hw⟩; rw [hw]; clear hw))
          generalize ((w.alloc (.cells #[.int .i64 c.kind, .int .i64 c.h, .int .i64 c.t, .int .i64 c.n, .int .i64 c.c, .slice pl c.label.length cl, .slice pg c.grants.length cg, .string ⟨c.text.toArray⟩] 30)).alloc (.cells #[.int .i64 0, .int .i64 0, .string ⟨#[]⟩] 35)) = w0 at *
          refine wp_region_held_drew (S := (fun w' => w'.cell? ⟨w.heap.size, 0, none⟩ = some (.int .i64 c.kind) ∧ w'.cell? ⟨w.heap.size, 1, none⟩ = some (.int .i64 c.h) ∧ w'.cell? ⟨w.heap.size, 2, none⟩ = some (.int .i64 c.t) ∧ w'.cell? ⟨w.heap.size, 3, none⟩ = some (.int .i64 c.n) ∧ w'.cell? ⟨w.heap.size, 4, none⟩ = some (.int .i64 c.c) ∧ w'.cell? ⟨w.heap.size, 5, none⟩ = some (.slice pl c.label.length cl) ∧ w'.cell? ⟨w.heap.size, 6, none⟩ = some (.slice pg c.grants.length cg) ∧ w'.cell? ⟨w.heap.size, 7, none⟩ = some (.string ⟨c.text.toArray⟩) ∧ w'.cell? ⟨cb, 2 + h, none⟩ = some (.pointer (some ⟨Z.kp h, 0, none⟩)))) (by as_aux_lemma => kernel_rfl) (HS8.out _ HX0d.out HA0.out) (fun _hHeld => ?_)
          refine takeF 0 36 ?v1 rfl (Or.inl ⟨by rfl, ?hy1⟩) ?rest1
          case hy1 => intro wz hSw; (try dsimp only at hSw); go_simp; try with_reducible rfl
          simp only [Act.put, List.setIfInBounds_toArray, List.set_cons_zero, List.set_cons_succ]
          refine takeF 1 37 ?v2 rfl (Or.inl ⟨by rfl, ?hy2⟩) ?rest2
          case hy2 => intro wz hSw; (try dsimp only at hSw); go_simp; try with_reducible rfl
          simp only [Act.put, List.setIfInBounds_toArray, List.set_cons_zero, List.set_cons_succ]
          refine takeF 2 38 ?v3 rfl (Or.inl ⟨by rfl, ?hy3⟩) ?rest3
          case hy3 => intro wz hSw; (try dsimp only at hSw); go_simp; try with_reducible rfl
          simp only [Act.put, List.setIfInBounds_toArray, List.set_cons_zero, List.set_cons_succ]
          refine takeF 3 39 ?v4 rfl (Or.inl ⟨by rfl, ?hy4⟩) ?rest4
          case hy4 => intro wz hSw; (try dsimp only at hSw); go_simp; try with_reducible rfl
          simp only [Act.put, List.setIfInBounds_toArray, List.set_cons_zero, List.set_cons_succ]
          refine takeF 4 40 ?v5 rfl (Or.inl ⟨by rfl, ?hy5⟩) ?rest5
          case hy5 => intro wz hSw; (try dsimp only at hSw); go_simp; try with_reducible rfl
          simp only [Act.put, List.setIfInBounds_toArray, List.set_cons_zero, List.set_cons_succ]
          refine takeF 5 41 ?v6 rfl (Or.inl ⟨by rfl, ?hy6⟩) ?rest6
          case hy6 => intro wz hSw; (try dsimp only at hSw); go_simp; try with_reducible rfl
          simp only [Act.put, List.setIfInBounds_toArray, List.set_cons_zero, List.set_cons_succ]
          refine takeF 6 42 ?v7 rfl (Or.inl ⟨by rfl, ?hy7⟩) ?rest7
          case hy7 => intro wz hSw; (try dsimp only at hSw); go_simp; try with_reducible rfl
          simp only [Act.put, List.setIfInBounds_toArray, List.set_cons_zero, List.set_cons_succ]
          refine takeF 7 43 ?v8 rfl (Or.inl ⟨by rfl, ?hy8⟩) ?rest8
          case hy8 => intro wz hSw; (try dsimp only at hSw); go_simp; try with_reducible rfl
          simp only [Act.put, List.setIfInBounds_toArray, List.set_cons_zero, List.set_cons_succ]
          refine wpAnyH_ready (rs := [8]) (by as_aux_lemma => kernel_rfl) (by simp) ?_
          refine (AllReadyH.cons rfl (fun K' hK => ?_) AllReadyH.nil)
          go_simp
          go_wp2_with (go_at_call 68; refine (hcl _ (Below.refl _ _).drew).mono ?_; rintro e w5 ⟨rfl, G5, V5, hK5, hS5d⟩)
          have hS5 : KStep (Z.kp h) w0 (F ++ [w.heap.size + 1]) (Z.V h) w5 G5 V5 := ⟨⟨hS5d.kept.os, hS5d.kept.tape, hS5d.kept.output, hS5d.kept.size, hS5d.kept.block⟩, hS5d.rows, hS5d.more⟩
          have HX5 := hid (box_kstep hS5 (HC0.out.ker h h4) HX0d.out (by decide) (by decide) (by decide) (by decide))
          have HA5 := hid (box_kstep hS5 (HC0.out.ker h h4) HA0.out (by decide) (by decide) (by decide) (by decide))
          have HR5 := hid (box_kstep hS5 (HC0.out.ker h h4) HXR.out (by decide) (by decide) (by decide) (by decide))
          obtain ⟨b0, b1, b2, b3, b4, b5⟩ := cells3 HR5.out
          have HK5 := hid hK5
          have HS5 := hid hS5
          clear hK5 hS5 hS5d hcl
          unfold repV
          refine hK.out _ _ (HS8.out _ HX5.out HA5.out) (fun _ => ?_)
          clear hK K'
          obtain ⟨rc, rn, rt⟩ := r
          have hKK := HC0.out.kernel h4 HK5.out HS5.out
          have hE := creply_end rc rn rt HR5.out (HS5.out.more.1 _ HM0.out) HLE.out hKK.1 (HS0.out.trans hKK.2)
          have HE := hid hE
          have HX6 := hid (box_cell6 HX5.out HR5.out (by decide) (st3_grown _ _ (.int .i64 rc) (.int .i64 rn) (.string ⟨rt.toArray⟩)))
          have HA6 := hid (box_cell6 HA5.out HR5.out (by decide) (st3_grown _ _ (.int .i64 rc) (.int .i64 rn) (.string ⟨rt.toArray⟩)))
          clear hE hKK
          refine wpAnyH_ready (rs := [9]) (by as_aux_lemma => kernel_rfl) (by simp) ?_
          refine (AllReadyH.cons rfl (fun K' hK => ?_) AllReadyH.nil)
          go_simp
          refine hK.out _ _ (HS8.out _ HX6.out HA6.out) (fun _ => ?_)
          clear hK K'
          refine wpAnyH_done (by as_aux_lemma => kernel_rfl) ?_ _
          go_wp2
          simp only [HP.out]
          exact bodyPost_ret (results_cell_row rfl _ _ (w.heap.size + 1) 35 _ (0, 0) _ rfl HE.out.1 Tryz.underlying35 rfl (by kernel_rfl)) rfl ⟨rfl, _, _, HE.out.2.1, HE.out.2.2⟩
end Go.Proofs.YtgpldlbmjakjhaaGreat
