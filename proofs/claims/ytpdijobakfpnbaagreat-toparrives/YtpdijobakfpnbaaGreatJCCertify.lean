/- cluster.certify: a cert of a category that a thread owns. -/
import Derived.Test.YtpdijobakfpnbaaGreatJCClu
import Derived.Test.YtpdijobakfpnbaaGreatJRows0
import Derived.Test.YtpdijobakfpnbaaGreatJKTake
namespace Go.Proofs.YtpdijobakfpnbaaGreat
open Go.RowKit Go.Proofs.Parclose
theorem Qkg (a b c d e : Value) (w : World) : (Instr.field 45 (.agg #[a, b, c, d, e]) 1).run Tryz.prog w = .ok b w := by kernel_rfl
theorem cells8 {w : World} {b : Nat} {t : TypeId} {y0 y1 y2 y3 y4 y5 y6 y7 : Value} (h : w.heap[b]? = some (.cells #[y0, y1, y2, y3, y4, y5, y6, y7] t (0, 0))) : w.cell? ⟨b, 0, none⟩ = some y0 ∧ w.cell? ⟨b, 1, none⟩ = some y1 ∧ w.cell? ⟨b, 2, none⟩ = some y2 ∧ w.cell? ⟨b, 3, none⟩ = some y3 ∧ w.cell? ⟨b, 4, none⟩ = some y4 ∧ w.cell? ⟨b, 5, none⟩ = some y5 ∧ w.cell? ⟨b, 6, none⟩ = some y6 ∧ w.cell? ⟨b, 7, none⟩ = some y7 :=
 ⟨Qa h 0, Qa h 1, Qa h 2, Qa h 3, Qa h 4, Qa h 5, Qa h 6, Qa h 7⟩
theorem Qch (l : List Int) (x : Int) : hasB l x = l.contains x := by
 unfold hasB
 first | rfl | simp
theorem QjF {K : Ker} (h : GoodK K) (t : Int) : (thrOf K t).own.length ≤ 8 := by
 unfold thrOf
 cases ht : getT K t with
 | none => simp [zeroThr]
 | some th =>
  obtain ⟨n, _, hn, e⟩ := Q9 ht
  exact (h.ths th (e ▸ List.getElem_mem hn)).own
set_option linter.unusedSimpArgs false in
set_option maxRecDepth 100000 in
set_option maxHeartbeats 3200000 in
theorem QfQ (cb h : Nat) (t : Int) (F : List Nat) (Z : CluV) (C : Clu) (vx : Value) (c : Cal) (w : World) (hc : CluAt w cb F Z C) (hg : GoodC C) (h4 : h < 4) (hv : CalAt w vx c) :
 Calls Tryz.prog 54 #[.pointer (some ⟨cb, 0, none⟩), .int .i64 h, .int .i64 t, vx] w fun e w' => e = .returned (.int .i64 (certifyC C h t c).2) ∧ ∃ G Z', CluAt w' cb G Z' (certifyC C h t c).1 ∧ CStep cb w F Z w' G Z' := by
 obtain ⟨vl, vg, rfl, ⟨pl, cl, rfl, _⟩, ⟨pg, cg, rfl, _⟩⟩ := hv
 unfold calV
 have HCF : Hid (certifyC C h t c = if hostB c.h && !(c.h == (h : Int)) && timeB c.n then (if ((thrOf (C.ks h) t).own.contains c.c) then addC C h ⟨c.c, h, c.h, c.n⟩ else (C, 7)) else (C, 2)) := hid (by unfold certifyC kerC thrOf; simp only [Int.toNat_natCast])
 have HBB := hid (Qd w (.cells #[.int .i64 c.kind, .int .i64 c.h, .int .i64 c.t, .int .i64 c.n, .int .i64 c.c, .slice pl c.label.length cl, .slice pg c.grants.length cg, .string ⟨c.text.toArray⟩] 37))
 have HX0 := hid (heap_alloc_new w (.cells #[.int .i64 c.kind, .int .i64 c.h, .int .i64 c.t, .int .i64 c.n, .int .i64 c.c, .slice pl c.label.length cl, .slice pg c.grants.length cg, .string ⟨c.text.toArray⟩] 37))
 have HC0 := hid (hc.below HBB.out)
 have HG := hid hg
 have hlt := hc.lt
 clear hc hg
 have hh := fun wx => Qce c.h wx
 have htm := fun wx => Qkl c.n wx
 by_cases g1 : hostB c.h = true
 rotate_left
 · have e1 : hostB c.h = false := by simpa using g1
   have HP : Hid (certifyC C h t c = (C, 2)) := hid (by rw [HCF.out, e1]; rfl)
   rw [e1] at hh
   clear HCF g1 e1 htm
   go_enter Tryz.func54, Tryz.ntmps54
   go_wp2_with (go_at_call 31; refine (hh _).mono ?_; rintro e w1 ⟨rfl, hw⟩; subst hw)
   go_ret
   rw [HP.out]
   exact ⟨rfl, _, _, HC0.out, CStep.below HBB.out⟩
 · rw [g1] at hh
   by_cases g2 : c.h = (h : Int)
   · have HP : Hid (certifyC C h t c = (C, 2)) := hid (by rw [HCF.out, g1, show (c.h == (h : Int)) = true by simpa using g2]; rfl)
     have e2 : (c.h == (h : Int)) = true := by simpa using g2
     clear HCF g1 g2 htm
     go_enter Tryz.func54, Tryz.ntmps54
     go_wp2_with (go_at_call 31; refine (hh _).mono ?_; rintro e w1 ⟨rfl, hw⟩; subst hw)
     go_ret
     rw [HP.out]
     exact ⟨rfl, _, _, HC0.out, CStep.below HBB.out⟩
   · have e2 : (c.h == (h : Int)) = false := by simpa using g2
     by_cases g3 : timeB c.n = true
     rotate_left
     · have e3 : timeB c.n = false := by simpa using g3
       have HP : Hid (certifyC C h t c = (C, 2)) := hid (by rw [HCF.out, g1, e2, e3]; rfl)
       rw [e3] at htm
       clear HCF g1 g2 g3 e3
       go_enter Tryz.func54, Tryz.ntmps54
       go_wp2_with (first | (go_at_call 31; refine (hh _).mono ?_; rintro e w1 ⟨rfl, hw⟩; subst hw) | (go_at_call 88; refine (htm _).mono ?_; rintro e w1 ⟨rfl, hw⟩; subst hw))
       go_ret
       rw [HP.out]
       exact ⟨rfl, _, _, HC0.out, CStep.below HBB.out⟩
     · rw [g3] at htm
       have HCF2 : Hid (certifyC C h t c = if ((thrOf (C.ks h) t).own.contains c.c) then addC C h ⟨c.c, h, c.h, c.n⟩ else (C, 7)) := hid (by rw [HCF.out, g1, e2, g3]; rfl)
       clear HCF g1 g2 g3
       have i0 : ¬ ((h : Int) < 0) := by omega
       have i1 : ¬ ((4 : Int) ≤ h) := by omega
       have i2 : (h : Int) < 4 := by omega
       have i3 : (0 : Int) ≤ h := by omega
       have hfo := Qkg
       have k2 := HC0.out.cker h4
       have HK2 := hid k2
       go_enter Tryz.func54, Tryz.ntmps54
       go_upto_region 3 with (first | (go_at_call 31; refine (hh _).mono ?_; rintro e w1 ⟨rfl, hw⟩; subst hw) | (go_at_call 88; refine (htm _).mono ?_; rintro e w1 ⟨rfl, hw⟩; subst hw))
       generalize (w.alloc (.cells #[.int .i64 c.kind, .int .i64 c.h, .int .i64 c.t, .int .i64 c.n, .int .i64 c.c, .slice pl c.label.length cl, .slice pg c.grants.length cg, .string ⟨c.text.toArray⟩] 37)) = w0 at *
       have HS : Hid (∀ w', Below w0.heap.size w0 w' → w'.cell? ⟨cb, 2 + h, none⟩ = some (.pointer (some ⟨Z.kp h, 0, none⟩)) ∧ w'.cell? ⟨w.heap.size, 4, none⟩ = some (.int .i64 c.c)) := hid (fun w' hw => ⟨(hw.cell (Qf HK2.out)).trans HK2.out, Qa (Qe HX0.out hw) 4⟩)
       have hth := fun wx (hb : Below w0.heap.size w0 wx) => Qes (Z.kp h) t F (Z.V h) (C.ks h) wx ((HC0.out.ker h h4).below hb) (HG.out.ks h h4)
       have HOL : Hid ((thrOf (C.ks h) t).own.length ≤ 8) := hid (QjF (HG.out.ks h h4) t)
       refine wp_region_held_drew (S := (fun w' => w'.cell? ⟨cb, 2 + h, none⟩ = some (.pointer (some ⟨Z.kp h, 0, none⟩)) ∧ w'.cell? ⟨w.heap.size, 4, none⟩ = some (.int .i64 c.c))) (by as_aux_lemma => kernel_rfl) (HS.out _ (Below.refl _ _).drew) (fun _hHeld => ?_)
       refine takeF 0 25 ?v1 rfl (Or.inl ⟨by rfl, ?hy1⟩) ?rest1
       case hy1 => intro wz hSw; (try dsimp only at hSw); go_simp; try with_reducible rfl
       simp only [Act.put, List.setIfInBounds_toArray, List.set_cons_zero, List.set_cons_succ]
       refine takeF 1 26 ?v2 rfl (Or.inl ⟨by rfl, ?hy2⟩) ?rest2
       case hy2 => intro wz hSw; (try dsimp only at hSw); go_simp; try with_reducible rfl
       simp only [Act.put, List.setIfInBounds_toArray, List.set_cons_zero, List.set_cons_succ]
       refine takeF 2 27 ?v3 rfl (Or.inl ⟨by rfl, ?hy3⟩) ?rest3
       case hy3 => intro wz hSw; (try dsimp only at hSw); go_simp; try with_reducible rfl
       simp only [Act.put, List.setIfInBounds_toArray, List.set_cons_zero, List.set_cons_succ]
       refine takeF 3 28 ?v4 rfl (Or.inl ⟨by rfl, ?hy4⟩) ?rest4
       case hy4 => intro wz hSw; (try dsimp only at hSw); go_simp; try with_reducible rfl
       simp only [Act.put, List.setIfInBounds_toArray, List.set_cons_zero, List.set_cons_succ]
       refine takeF 4 29 ?v5 rfl (Or.inl ⟨by rfl, ?hy5⟩) ?rest5
       case hy5 => intro wz hSw; (try dsimp only at hSw); go_simp; try with_reducible rfl
       simp only [Act.put, List.setIfInBounds_toArray, List.set_cons_zero, List.set_cons_succ]
       refine takeF 5 30 ?v6 rfl (Or.inl ⟨by rfl, ?hy6⟩) ?rest6
       case hy6 => intro wz hSw; (try dsimp only at hSw); go_simp; try with_reducible rfl
       simp only [Act.put, List.setIfInBounds_toArray, List.set_cons_zero, List.set_cons_succ]
       refine takeF 6 31 ?v7 rfl (Or.inl ⟨by rfl, ?hy7⟩) ?rest7
       case hy7 => intro wz hSw; (try dsimp only at hSw); go_simp; try with_reducible rfl
       simp only [Act.put, List.setIfInBounds_toArray, List.set_cons_zero, List.set_cons_succ]
       refine takeF 9 34 ?v8 rfl (Or.inl ⟨by rfl, ?hy8⟩) ?rest8
       case hy8 => intro wz hSw; (try dsimp only at hSw); go_simp; try with_reducible rfl
       simp only [Act.put, List.setIfInBounds_toArray, List.set_cons_zero, List.set_cons_succ]
       refine takeF 10 35 ?v9 rfl (Or.inl ⟨by rfl, ?hy9⟩) ?rest9
       case hy9 => intro wz hSw; (try dsimp only at hSw); go_simp; try with_reducible rfl
       simp only [Act.put, List.setIfInBounds_toArray, List.set_cons_zero, List.set_cons_succ]
       refine wpAnyH_ready (rs := [7]) (by as_aux_lemma => kernel_rfl) (by simp) ?_
       refine (AllReadyH.cons rfl (fun K' hK => ?_) AllReadyH.nil)
       go_simp
       go_wp2_with (go_at_call 32; refine (hth _ (Below.refl _ _).drew).mono ?_; rintro e w1 ⟨p1, c1, po, co, p3, c3, p4, c4, rfl, hnew, hwd⟩)
       have hw1 : Below w0.heap.size w0 w1 := ⟨hwd.os, hwd.tape, hwd.output, hwd.size, hwd.block⟩
       clear hwd
       have HIN : Hid (IntsAt w1 (.slice po (thrOf (C.ks h) t).own.length co) (thrOf (C.ks h) t).own) := hid (QV hnew.own (by have := HOL.out; omega))
       clear hnew
       refine hK.out _ _ (HS.out _ hw1) (fun _ => ?_)
       clear hK K'
       refine takeF 8 33 ?v10 rfl (Or.inl ⟨by rfl, ?hy10⟩) ?rest10
       case hy10 => intro wz hSw; (try dsimp only at hSw); go_simp; try with_reducible rfl
       simp only [Act.put, List.setIfInBounds_toArray, List.set_cons_zero, List.set_cons_succ]
       refine wpAnyH_ready (rs := [11]) (by as_aux_lemma => kernel_rfl) (by simp) ?_
       refine (AllReadyH.cons rfl (fun K' hK => ?_) AllReadyH.nil)
       go_simp
       go_wp2_with (go_at_call 35; refine (QaR _ _ c.c _ HIN.out).mono ?_; rintro e w2 ⟨rfl, hw2⟩; rw [hw2]; clear hw2)
       refine hK.out _ _ (HS.out _ hw1) (fun _ => ?_)
       clear hK K'
       refine takeF 12 37 ?v11 rfl (Or.inl ⟨by rfl, ?hy11⟩) ?rest11
       case hy11 => intro wz hSw; (try dsimp only at hSw); go_simp; try with_reducible rfl
       simp only [Act.put, List.setIfInBounds_toArray, List.set_cons_zero, List.set_cons_succ]
       refine wpAnyH_done (by as_aux_lemma => kernel_rfl) ?_ _
       have HC1 := hid (HC0.out.below hw1)
       have HX1 := hid (Qe HX0.out hw1)
       obtain ⟨y0, y1, y2, y3, y4, y5, y6, y7⟩ := cells8 HX1.out
       clear hth HIN HOL
       cases hct : hasB (thrOf (C.ks h) t).own c.c with
       | false =>
        have HP : Hid (certifyC C h t c = (C, 7)) := hid (by rw [HCF2.out, ← Qch, hct]; rfl)
        go_wp2
        go_ret
        rw [HP.out]
        exact ⟨rfl, _, _, HC1.out, CStep.below (Qc HBB.out hw1)⟩
       | true =>
        have HP : Hid (certifyC C h t c = addC C h ⟨c.c, h, c.h, c.n⟩) := hid (by rw [HCF2.out, ← Qch, hct]; rfl)
        have hadd := Qge cb h F Z C ⟨c.c, h, c.h, c.n⟩ w1 HC1.out h4
        unfold crtV at hadd
        go_wp2_with (go_at_call 89; refine hadd.mono ?_; rintro e w3 ⟨rfl, G3, Z3, hC3, hS3⟩)
        go_ret
        rw [HP.out]
        exact ⟨rfl, _, _, hC3, (CStep.below (Qc HBB.out hw1)).trans hS3⟩
end Go.Proofs.YtpdijobakfpnbaaGreat
