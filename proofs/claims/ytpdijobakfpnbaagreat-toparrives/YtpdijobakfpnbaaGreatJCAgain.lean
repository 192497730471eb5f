/- cluster.again: what a line sends again is put under way. -/
import Derived.Test.YtpdijobakfpnbaaGreatJCPut
import Derived.Test.YtpdijobakfpnbaaGreatJCClu
import Derived.Test.YtpdijobakfpnbaaGreatJLAgain
import Derived.Test.YtpdijobakfpnbaaGreatJLAppend
import Derived.Test.YtpdijobakfpnbaaGreatJKTake
import Derived.Test.YtpdijobakfpnbaaGreatJRows0
import Derived.Test.YtpdijobakfpnbaaGreatJPlain
namespace Go.Proofs.YtpdijobakfpnbaaGreat
open Go.RowKit Go.Proofs.Parclose
set_option linter.unusedSimpArgs false in
set_option maxRecDepth 100000 in
set_option maxHeartbeats 6400000 in
theorem QiR (cb x y : Nat) (F : List Nat) (Z : CluV) (C : Clu) (w : World) (hc : CluAt w cb F Z C) (hg : GoodC C) (hx : x < 4) (hy : y < 4) :
 Calls Tryz.prog 58 #[.pointer (some ⟨cb, 0, none⟩), .pointer (some ⟨cb, 10 + x * 44 + y * 11, none⟩)] w fun e w' => e = .returned (.int .i64 (againC C x y).2) ∧ (againC C x y).2 ≤ 879609302220 ∧ ∃ G Z', CluAt w' cb G Z' (againC C x y).1 ∧ CStep cb w F Z w' G Z' := by
 have HG : Hid (againC C x y = ((againLn (C.lines x y) C.now).2.1.foldl putC (setLi C x y (againLn (C.lines x y) C.now).1), (againLn (C.lines x y) C.now).2.1.length)) := hid (by unfold againC lineC; simp only [Int.toNat_natCast])
 have hag := fun wx (hb : Below w.heap.size w wx) => Qia _ (C.lines x y) C.now wx ((hc.line hx hy).below hb)
 unfold lneC at hag
 obtain ⟨⟨k0, k1, k2, k3, k4, k5, k6, k7, k8, k9, k10⟩, kf⟩ := hc.lcells hx hy rfl rfl rfl
 obtain ⟨pv, cv, hvs⟩ := (hc.snt x y hx hy).at.slice
 rw [hvs] at k1 hag
 have kn := hc.cnow
 have hlt := hc.lt
 have HC := hid hc
 clear hc
 simp only [HG.out]
 clear HG
 generalize againLn (C.lines x y) C.now = R at *
 obtain ⟨l1, fs, e1⟩ := R
 simp only at hag ⊢
 go_enter Tryz.func58, Tryz.ntmps58
 go_upto_region 2 with fail
 refine wp_region_held_drew (S := (fun w' => w'.cell? ⟨cb, 0, none⟩ = some (.int .i64 C.now))) (by as_aux_lemma => kernel_rfl) kn (fun _hHeld => ?_)
 refine takeF 0 9 ?v1 rfl (Or.inl ⟨by rfl, ?hy1⟩) ?rest1
 case hy1 => intro wz hSw; (try dsimp only at hSw); go_simp; try with_reducible rfl
 simp only [Act.put, List.setIfInBounds_toArray, List.set_cons_zero, List.set_cons_succ]
 refine takeF 1 10 ?v2 rfl (Or.inl ⟨by rfl, ?hy2⟩) ?rest2
 case hy2 => intro wz hSw; (try dsimp only at hSw); go_simp; try with_reducible rfl
 simp only [Act.put, List.setIfInBounds_toArray, List.set_cons_zero, List.set_cons_succ]
 refine takeF 2 11 ?v3 rfl (Or.inl ⟨by rfl, ?hy3⟩) ?rest3
 case hy3 => intro wz hSw; (try dsimp only at hSw); go_simp; try with_reducible rfl
 simp only [Act.put, List.setIfInBounds_toArray, List.set_cons_zero, List.set_cons_succ]
 refine takeF 4 13 ?v4 rfl (Or.inl ⟨by rfl, ?hy4⟩) ?rest4
 case hy4 => intro wz hSw; (try dsimp only at hSw); go_simp; try with_reducible rfl
 simp only [Act.put, List.setIfInBounds_toArray, List.set_cons_zero, List.set_cons_succ]
 refine takeF 5 14 ?v5 rfl (Or.inl ⟨by rfl, ?hy5⟩) ?rest5
 case hy5 => intro wz hSw; (try dsimp only at hSw); go_simp; try with_reducible rfl
 simp only [Act.put, List.setIfInBounds_toArray, List.set_cons_zero, List.set_cons_succ]
 refine takeF 6 15 ?v6 rfl (Or.inl ⟨by rfl, ?hy6⟩) ?rest6
 case hy6 => intro wz hSw; (try dsimp only at hSw); go_simp; try with_reducible rfl
 simp only [Act.put, List.setIfInBounds_toArray, List.set_cons_zero, List.set_cons_succ]
 refine takeF 7 16 ?v7 rfl (Or.inl ⟨by rfl, ?hy7⟩) ?rest7
 case hy7 => intro wz hSw; (try dsimp only at hSw); go_simp; try with_reducible rfl
 simp only [Act.put, List.setIfInBounds_toArray, List.set_cons_zero, List.set_cons_succ]
 refine wpAnyH_ready (rs := [3]) (by as_aux_lemma => kernel_rfl) (by simp) ?_
 refine (AllReadyH.cons rfl (fun K' hK => ?_) AllReadyH.nil)
 go_simp
 refine hK.out _ _ kn (fun _ => ?_)
 clear hK K'
 refine wpAnyH_ready (rs := [8]) (by as_aux_lemma => kernel_rfl) (by simp) ?_
 refine (AllReadyH.cons rfl (fun K' hK => ?_) AllReadyH.nil)
 go_simp
 go_wp2_with (go_at_call 103; refine (hag _ (Below.refl _ _).drew).mono ?_; rintro e w1 ⟨v1, vf, rfl, hl1, hf1, hwd⟩)
 have hw1 : Below w.heap.size w w1 := ⟨hwd.os, hwd.tape, hwd.output, hwd.size, hwd.block⟩
 clear hwd
 have HC1 := hid (HC.out.below hw1)
 obtain ⟨nx1, st1, hi1, d0, d1, d2, d3, d4, d5, d6, d7, p1, c1, e1, e2, hr1⟩ := LneNew.spelled (F := F) hl1 HC.out.fin
 subst e1 e2
 have HF1 := hid hf1
 obtain ⟨pf, cf, hvf⟩ := (hf1 w1 (Since.refl _ _)).slice
 subst hvf
 have hfl := (HF1.out w1 (Since.refl _ _)).len
 have HR1 := hid hr1
 clear hl1 hf1 hr1
 have kn1 := HC1.out.cnow
 obtain ⟨⟨m0, m1, m2, m3, m4, m5, m6, m7, m8, m9, m10⟩, mf⟩ := HC1.out.lcells hx hy rfl rfl rfl
 rw [hvs] at m1
 have g0 := mf (10 + x * 44 + y * 11)
 have g1 := mf (10 + x * 44 + y * 11 + 1)
 have g2 := mf (10 + x * 44 + y * 11 + 2)
 have g3 := mf (10 + x * 44 + y * 11 + 3)
 have g4 := mf (10 + x * 44 + y * 11 + 4)
 have g5 := mf (10 + x * 44 + y * 11 + 5)
 have g6 := mf (10 + x * 44 + y * 11 + 6)
 have g7 := mf (10 + x * 44 + y * 11 + 7)
 have g8 := mf (10 + x * 44 + y * 11 + 8)
 have g9 := mf (10 + x * 44 + y * 11 + 9)
 have g10 := mf (10 + x * 44 + y * 11 + 10)
 have hlt1 : cb < w1.heap.size := HC1.out.lt
 refine hK.out _ _ kn1 (fun _ => ?_)
 clear hK K'
 refine takeF 9 8 ?v8 rfl (Or.inl ⟨by rfl, ?hy8⟩) ?rest8
 case hy8 => intro wz hSw; (try dsimp only at hSw); go_simp; try with_reducible rfl
 simp only [Act.put, List.setIfInBounds_toArray, List.set_cons_zero, List.set_cons_succ]
 refine takeF 10 18 ?v9 rfl (Or.inl ⟨by rfl, ?hy9⟩) ?rest9
 case hy9 => intro wz hSw; (try dsimp only at hSw); go_simp; try with_reducible rfl
 simp only [Act.put, List.setIfInBounds_toArray, List.set_cons_zero, List.set_cons_succ]
 refine takeF 11 19 ?v10 rfl (Or.inl ⟨by rfl, ?hy10⟩) ?rest10
 case hy10 => intro wz hSw; (try dsimp only at hSw); go_simp; try with_reducible rfl
 simp only [Act.put, List.setIfInBounds_toArray, List.set_cons_zero, List.set_cons_succ]
 refine takeF 12 20 ?v11 rfl (Or.inl ⟨by rfl, ?hy11⟩) ?rest11
 case hy11 => intro wz hSw; (try dsimp only at hSw); go_simp; try with_reducible rfl
 simp only [Act.put, List.setIfInBounds_toArray, List.set_cons_zero, List.set_cons_succ]
 refine takeF 13 21 ?v12 rfl (Or.inl ⟨by rfl, ?hy12⟩) ?rest12
 case hy12 => intro wz hSw; (try dsimp only at hSw); go_simp; try with_reducible rfl
 simp only [Act.put, List.setIfInBounds_toArray, List.set_cons_zero, List.set_cons_succ]
 have hST := HC1.out.setLine hx hy (l := ⟨nx1, st1, hi1, [d0, d1, d2, d3, d4, d5, d6, d7]⟩) HR1.out rfl
 have hST2 : CluAt (((((((((((w1.setCell ⟨cb, 10 + x * 44 + y * 11, none⟩ (.int .i64 nx1)).setCell ⟨cb, 10 + x * 44 + y * 11 + 1, none⟩ (.slice p1 st1.length c1)).setCell ⟨cb, 10 + x * 44 + y * 11 + 2, none⟩ (.int .i64 hi1)).setCell ⟨cb, 10 + x * 44 + y * 11 + 3, none⟩ (.bool d0)).setCell ⟨cb, 10 + x * 44 + y * 11 + 4, none⟩ (.bool d1)).setCell ⟨cb, 10 + x * 44 + y * 11 + 5, none⟩ (.bool d2)).setCell ⟨cb, 10 + x * 44 + y * 11 + 6, none⟩ (.bool d3)).setCell ⟨cb, 10 + x * 44 + y * 11 + 7, none⟩ (.bool d4)).setCell ⟨cb, 10 + x * 44 + y * 11 + 8, none⟩ (.bool d5)).setCell ⟨cb, 10 + x * 44 + y * 11 + 9, none⟩ (.bool d6)).setCell ⟨cb, 10 + x * 44 + y * 11 + 10, none⟩ (.bool d7)) cb F { Z with vs := fun a b => if a = x ∧ b = y then .slice p1 st1.length c1 else Z.vs a b } (setLi C x y ⟨nx1, st1, hi1, [d0, d1, d2, d3, d4, d5, d6, d7]⟩) ∧ CStep cb w1 F Z (((((((((((w1.setCell ⟨cb, 10 + x * 44 + y * 11, none⟩ (.int .i64 nx1)).setCell ⟨cb, 10 + x * 44 + y * 11 + 1, none⟩ (.slice p1 st1.length c1)).setCell ⟨cb, 10 + x * 44 + y * 11 + 2, none⟩ (.int .i64 hi1)).setCell ⟨cb, 10 + x * 44 + y * 11 + 3, none⟩ (.bool d0)).setCell ⟨cb, 10 + x * 44 + y * 11 + 4, none⟩ (.bool d1)).setCell ⟨cb, 10 + x * 44 + y * 11 + 5, none⟩ (.bool d2)).setCell ⟨cb, 10 + x * 44 + y * 11 + 6, none⟩ (.bool d3)).setCell ⟨cb, 10 + x * 44 + y * 11 + 7, none⟩ (.bool d4)).setCell ⟨cb, 10 + x * 44 + y * 11 + 8, none⟩ (.bool d5)).setCell ⟨cb, 10 + x * 44 + y * 11 + 9, none⟩ (.bool d6)).setCell ⟨cb, 10 + x * 44 + y * 11 + 10, none⟩ (.bool d7)) F { Z with vs := fun a b => if a = x ∧ b = y then .slice p1 st1.length c1 else Z.vs a b } := hST
 clear hST
 have HST := hid hST2
 clear hST2
 have kn2 := HST.out.1.cnow
 refine wpAnyH_ready (rs := [14]) (by as_aux_lemma => kernel_rfl) (by simp) ?_
 refine (AllReadyH.cons rfl (fun K' hK => ?_) AllReadyH.nil)
 go_simp
 refine hK.out _ _ kn2 (fun _ => ?_)
 clear hK K'
 refine takeF 15 5 ?v13 rfl (Or.inl ⟨by rfl, ?hy13⟩) ?rest13
 case hy13 => intro wz hSw; (try dsimp only at hSw); go_simp; try with_reducible rfl
 simp only [Act.put, List.setIfInBounds_toArray, List.set_cons_zero, List.set_cons_succ]
 refine wpAnyH_done (by as_aux_lemma => kernel_rfl) ?_ _
 have HFS : Hid (∀ w'', Since w.heap.size (((((((((((w1.setCell ⟨cb, 10 + x * 44 + y * 11, none⟩ (.int .i64 nx1)).setCell ⟨cb, 10 + x * 44 + y * 11 + 1, none⟩ (.slice p1 st1.length c1)).setCell ⟨cb, 10 + x * 44 + y * 11 + 2, none⟩ (.int .i64 hi1)).setCell ⟨cb, 10 + x * 44 + y * 11 + 3, none⟩ (.bool d0)).setCell ⟨cb, 10 + x * 44 + y * 11 + 4, none⟩ (.bool d1)).setCell ⟨cb, 10 + x * 44 + y * 11 + 5, none⟩ (.bool d2)).setCell ⟨cb, 10 + x * 44 + y * 11 + 6, none⟩ (.bool d3)).setCell ⟨cb, 10 + x * 44 + y * 11 + 7, none⟩ (.bool d4)).setCell ⟨cb, 10 + x * 44 + y * 11 + 8, none⟩ (.bool d5)).setCell ⟨cb, 10 + x * 44 + y * 11 + 9, none⟩ (.bool d6)).setCell ⟨cb, 10 + x * 44 + y * 11 + 10, none⟩ (.bool d7)) w'' → FrmsAt w'' (.slice pf fs.length cf) fs) := hid (fun w'' h => HF1.out w'' ((HST.out.2.since HC1.out HC.out.fin).trans h HST.out.2.kept.size))
 have HC2 := hid HST.out.1
 have HS2 := hid ((CStep.below hw1).trans HST.out.2)
 have HGD : Hid (GoodC (setLi C x y ⟨nx1, st1, hi1, [d0, d1, d2, d3, d4, d5, d6, d7]⟩)) := hid (Qaj hg x y _)
 have HFIN := hid HC.out.fin
 clear HST HC1 HR1 HF1 hw1 kn1 kn2 m0 m1 m2 m3 m4 m5 m6 m7 m8 m9 m10 mf g0 g1 g2 g3 g4 g5 g6 g7 g8 g9 g10 hlt1 HC kn k0 k1 k2 k3 k4 k5 k6 k7 k8 k9 k10 kf hag hlt
 generalize (((((((((((w1.setCell ⟨cb, 10 + x * 44 + y * 11, none⟩ (.int .i64 nx1)).setCell ⟨cb, 10 + x * 44 + y * 11 + 1, none⟩ (.slice p1 st1.length c1)).setCell ⟨cb, 10 + x * 44 + y * 11 + 2, none⟩ (.int .i64 hi1)).setCell ⟨cb, 10 + x * 44 + y * 11 + 3, none⟩ (.bool d0)).setCell ⟨cb, 10 + x * 44 + y * 11 + 4, none⟩ (.bool d1)).setCell ⟨cb, 10 + x * 44 + y * 11 + 5, none⟩ (.bool d2)).setCell ⟨cb, 10 + x * 44 + y * 11 + 6, none⟩ (.bool d3)).setCell ⟨cb, 10 + x * 44 + y * 11 + 7, none⟩ (.bool d4)).setCell ⟨cb, 10 + x * 44 + y * 11 + 8, none⟩ (.bool d5)).setCell ⟨cb, 10 + x * 44 + y * 11 + 9, none⟩ (.bool d6)).setCell ⟨cb, 10 + x * 44 + y * 11 + 10, none⟩ (.bool d7)) = w2 at *
 generalize hC1 : setLi C x y ⟨nx1, st1, hi1, [d0, d1, d2, d3, d4, d5, d6, d7]⟩ = C1 at *
 have HE1 := hid hC1
 clear hC1
 generalize { Z with vs := fun a b => if a = x ∧ b = y then .slice p1 st1.length c1 else Z.vs a b } = Z2 at *
 go_wp2_with fail
 go_loopw [24] (fun i wr => ∃ (k : Nat) (G : List Nat) (Z' : CluV), k ≤ fs.length ∧ i = .int .i64 k ∧ CluAt wr cb G Z' ((fs.take k).foldl putC C1) ∧ CStep cb w2 F Z2 wr G Z') (fun i _ => fs.length - (intOf i).toNat)
 case atStart => exact ⟨0, F, Z2, Nat.zero_le _, rfl, HC2.out, CStep.refl _ _ _ _⟩
 case round =>
  obtain ⟨k, G, Z', hk, rfl, hCk, hSk⟩ := hrel
  have HCk := hid hCk
  have HSk := hid hSk
  clear hCk hSk
  by_cases hlt : k < fs.length
  · have hI : (k : Int) < (fs.length : Int) := by omega
    obtain ⟨bf, pl, cl, pg, cg, pc, cc, rfl, hfrm, q0, q1, q2, q3, q4, q5, q6, q7, q8, q9, q10⟩ := (HFS.out wr (HSk.out.since HC2.out HFIN.out)).get k hlt
    have HTK : Hid ((fs.take (k + 1)).foldl putC C1 = putC ((fs.take k).foldl putC C1) fs[k]) := hid (by rw [← List.take_append_getElem hlt, List.foldl_append]; rfl)
    have h60 := (Qa7 (fs.take k) HGD.out).net
    generalize fs[k] = f at *
    generalize (fs.take k).foldl putC C1 = Ck at *
    have hput := QdW cb G Z' Ck _ f _ (HCk.out.below (Qd wr _)) h60 (hfrm.below (Qd wr (.cells #[.int .i64 f.fr, .int .i64 f.to, .int .i64 f.seq, .bool f.ack, .int .i64 f.thread, .int .i64 f.mail.host, .int .i64 f.mail.thread, .slice pl f.mail.label.length cl, .slice pg f.mail.grants.length cg, .string ⟨f.mail.text.toArray⟩, .slice pc f.certs.length cc] 111)))
    clear hfrm
    go_wp2_with (go_at_call 101; refine hput.mono ?_; rintro e w3 ⟨rfl, G3, Z3, hC3, hS3⟩)
    go_roundw
    case rel => exact ⟨k + 1, G3, Z3, hlt, by go_num, by rw [HTK.out]; exact hC3, HSk.out.trans ((CStep.below (Qd _ _)).trans hS3)⟩
    case measure => simp [intOf]; omega
  · have hkl : k = fs.length := by omega
    subst hkl
    have HE : Hid (fs.take fs.length = fs) := hid List.take_length
    go_wp2
    go_ret
    have hCE := HCk.out
    rw [HE.out, ← HE1.out] at hCE
    exact ⟨rfl, hfl, _, _, hCE, HS2.out.trans HSk.out⟩
set_option maxRecDepth 100000 in
set_option maxHeartbeats 3200000 in
theorem Qkm (cb : Nat) (n : Int) (F : List Nat) (Z : CluV) (C : Clu) (w : World) (hc : CluAt w cb F Z C) (hg : GoodC C) :
 Calls Tryz.prog 29 #[.pointer (some ⟨cb, 0, none⟩), .int .i64 n] w fun e w' => e = .returned (.agg #[.int .i64 (tickC C n).2.code, .int .i64 (tickC C n).2.n, .string ⟨(tickC C n).2.text.toArray⟩]) ∧ ∃ G Z', CluAt w' cb G Z' (tickC C n).1 ∧ CStep cb w F Z w' G Z' := by
 have kn := hc.cnow
 have hnow := hg.now
 have hlt := hc.lt
 have HC0 := hid (hc.reserve (.cells #[.int .i64 0, .int .i64 0, .string ⟨#[]⟩] 31))
 have HS0 := hid (CStep.reserve cb w F Z (.cells #[.int .i64 0, .int .i64 0, .string ⟨#[]⟩] 31))
 have HM0 : Hid (w.heap.size ∈ F ++ [w.heap.size]) := hid (by simp)
 have hw1 : IntKind.i64.wrap (1099511627776 - C.now) = 1099511627776 - C.now := Go.wrap_small _ (by omega) (by omega)
 have HG := hid hg
 have HC := hid hc
 clear hc hg
 by_cases h1 : 1 ≤ n ∧ n ≤ 1099511627776 - C.now
 rotate_left
 · simp only [Qjj h1]
   by_cases h2 : n < 1
   · clear h1
     go_enter Tryz.func29, Tryz.ntmps29
     go_wp2_with (go_at_call 26; refine (Q2 2 _).mono ?_; rintro e w1 ⟨rfl, hw1⟩; have HB1 := hid hw1; obtain ⟨b0, b1, b2, b3, b4, b5⟩ := cells3 (Qe (Q6 w) hw1); clear hw1)
     obtain ⟨e1, e2, e3⟩ := QF 2 0 [] (Qe (Q6 w) HB1.out) HM0.out (Nat.le_refl _) (HC0.out.below HB1.out) (HS0.out.trans (CStep.below HB1.out))
     exact bodyPost_ret (results_cell_row rfl _ _ w.heap.size 31 _ (0, 0) _ rfl e1 Tryz.underlying31 rfl (by kernel_rfl)) rfl ⟨rfl, _, _, e2, e3⟩
   · have h3 : ¬ n ≤ 1099511627776 - C.now := by omega
     clear h1
     go_enter Tryz.func29, Tryz.ntmps29
     go_wp2_with (go_at_call 26; refine (Q2 2 _).mono ?_; rintro e w1 ⟨rfl, hw1⟩; have HB1 := hid hw1; obtain ⟨b0, b1, b2, b3, b4, b5⟩ := cells3 (Qe (Q6 w) hw1); clear hw1)
     obtain ⟨e1, e2, e3⟩ := QF 2 0 [] (Qe (Q6 w) HB1.out) HM0.out (Nat.le_refl _) (HC0.out.below HB1.out) (HS0.out.trans (CStep.below HB1.out))
     exact bodyPost_ret (results_cell_row rfl _ _ w.heap.size 31 _ (0, 0) _ rfl e1 Tryz.underlying31 rfl (by kernel_rfl)) rfl ⟨rfl, _, _, e2, e3⟩
 · obtain ⟨h1, h2⟩ := h1
   simp only [Qk1 h1 h2]
   have hD : GoodC { C with now := C.now + n } := ⟨HG.out.ks, by show 0 ≤ C.now + n ∧ C.now + n ≤ 1099511627776; omega, HG.out.acts, HG.out.net⟩
   have hwn : IntKind.i64.wrap (C.now + n) = C.now + n := Go.wrap_small _ (by omega) (by omega)
   obtain ⟨hN1, hN2⟩ := HC.out.setNow (C.now + n)
   have hR1 := hN1.reserve (.cells #[.int .i64 0, .int .i64 0, .string ⟨#[]⟩] 31)
   have hR2 := hN2.trans (CStep.reserve cb _ F Z (.cells #[.int .i64 0, .int .i64 0, .string ⟨#[]⟩] 31))
   simp only [World.size_setCell] at hR1 hR2
   have HR1 := hid hR1
   have HR2 := hid hR2
   have HBX : Hid (((w.setCell ⟨cb, 0, none⟩ (.int .i64 (C.now + n))).alloc (.cells #[.int .i64 0, .int .i64 0, .string ⟨#[]⟩] 31)).heap[w.heap.size]? = some (.cells #[.int .i64 0, .int .i64 0, .string ⟨#[]⟩] 31 (0, 0))) := hid (by have := heap_alloc_new (w.setCell ⟨cb, 0, none⟩ (.int .i64 (C.now + n))) (.cells #[.int .i64 0, .int .i64 0, .string ⟨#[]⟩] 31); simpa using this)
   have hf0 : w.frozen? ⟨cb, 0, none⟩ = false := by obtain ⟨A, hA, _⟩ := HC.out.box; exact Qb hA _
   clear hN1 hN2 hR1 hR2
   have HDG := hid hD
   clear hD
   generalize { C with now := C.now + n } = D at *
   generalize hT16 : tickN D 16 = T16 at *
   have HT16 := hid hT16
   clear hT16
   go_enter Tryz.func29, Tryz.ntmps29
   go_wp2_with fail
   generalize ((w.setCell ⟨cb, 0, none⟩ (.int .i64 (C.now + n))).alloc (.cells #[.int .i64 0, .int .i64 0, .string ⟨#[]⟩] 31)) = w1 at *
   go_loopw [5, 28] (fun c i wr => ∃ (k : Nat) (G : List Nat) (Z' : CluV) (T : Clu × Nat), k ≤ 4 ∧ i = .int .i64 k ∧ c = .int .i64 T.2 ∧ Hid (tickN D (k * 4) = T) ∧ T.2 ≤ (k * 4) * 879609302220 ∧ CluAt wr cb G Z' T.1 ∧ CStep cb w F Z wr G Z' ∧ wr.heap[w.heap.size]? = some (.cells #[.int .i64 0, .int .i64 0, .string ⟨#[]⟩] 31 (0, 0)) ∧ w.heap.size ∈ G) (fun _ i _ => 4 - (intOf i).toNat)
   case atStart => exact ⟨0, _, Z, (D, 0), by omega, rfl, rfl, hid rfl, Nat.le_refl _, HR1.out, HR2.out, HBX.out, HM0.out⟩
   case round =>
    clear HR1 HR2 HBX kn hlt hf0 hw1 hwn
    obtain ⟨k, G, Z', T, hk, rfl, rfl, HT, hle, hcl, hst, hbx, hmm⟩ := hrel
    obtain ⟨wo, hwo⟩ : ∃ wo, wo = wr := ⟨_, rfl⟩
    subst hwo
    have HCL := hid hcl
    have HST := hid hst
    have HBX := hid hbx
    by_cases hk4 : k < 4
    · clear hcl hst hbx
      have hI : (k : Int) < 4 := by omega
      go_wp2_with fail
      go_loopw [5, 31] (fun c i wr => ∃ (j : Nat) (G : List Nat) (Z' : CluV) (T : Clu × Nat), j ≤ 4 ∧ i = .int .i64 j ∧ c = .int .i64 T.2 ∧ Hid (tickN D (k * 4 + j) = T) ∧ T.2 ≤ (k * 4 + j) * 879609302220 ∧ CluAt wr cb G Z' T.1 ∧ CStep cb w F Z wr G Z' ∧ wr.heap[w.heap.size]? = some (.cells #[.int .i64 0, .int .i64 0, .string ⟨#[]⟩] 31 (0, 0)) ∧ w.heap.size ∈ G) (fun _ i _ => 4 - (intOf i).toNat)
      case atStart => exact ⟨0, G, Z', T, by omega, rfl, rfl, HT, hle, HCL.out, HST.out, HBX.out, hmm⟩
      case round =>
       clear HCL HST HBX HT hle hmm
       obtain ⟨j, G2, Z2, T2, hj, rfl, rfl, HT2, hle2, hcl2, hst2, hbx2, hmm2⟩ := hrel
       by_cases hj4 : j < 4
       · have hJ : (j : Int) < 4 := by omega
         have hag := QiR cb k j G2 Z2 _ wr hcl2 (by rw [← HT2.out]; exact Qhw HDG.out _) hk4 hj4
         have HTS : Hid (tickN D (k * 4 + (j + 1)) = ((againC T2.1 k j).1, T2.2 + (againC T2.1 k j).2)) := hid (by have := Qhv D hk4 hj4; rw [HT2.out] at this; exact this)
         have HB2 := hid (fun w' G' Z'' (hs : CStep cb wr G2 Z2 w' G' Z'') => QI hs hcl2 hbx2 (by decide) (by decide) (by decide) (by decide) (by decide) (by decide))
         have HS2 := hid hst2
         clear hcl2 hst2 hbx2 HT2
         generalize againC T2.1 k j = A at *
         go_wp2_with fail
         refine hag.mono ?_
         rintro e w3 ⟨rfl, hle3, G3, Z3, hC3, hS3⟩
         have hww : IntKind.i64.wrap ((T2.2 : Int) + (A.2 : Int)) = (T2.2 : Int) + (A.2 : Int) := by
          have h16 : (k * 4 + j) * 879609302220 ≤ 16 * 879609302220 := Nat.mul_le_mul_right _ (by omega)
          exact Go.wrap_small _ (by omega) (by omega)
         have HX3 := hid (HB2.out _ _ _ hS3)
         have HC3 := hid hC3
         have HS3 := hid (HS2.out.trans hS3)
         have HM3 := hid (hS3.more.1 _ hmm2)
         have HLE : Hid (T2.2 + A.2 ≤ (k * 4 + (j + 1)) * 879609302220) := hid (by rw [← Nat.add_assoc, Nat.add_mul]; omega)
         clear hag hC3 hS3
         go_wp2
         go_roundw
         case rel =>
          exact ⟨j + 1, G3, Z3, (A.1, T2.2 + A.2), hj4, by go_num, by simp, HTS, HLE.out, HC3.out, HS3.out, HX3.out, HM3.out⟩
         case measure => simp [intOf]; omega
       · have hj5 : j = 4 := by omega
         subst hj5
         have HC2 := hid hcl2
         have HS2 := hid hst2
         have HX2 := hid hbx2
         clear hcl2 hst2 hbx2
         go_wp2
         go_roundw
         case rel => exact ⟨k + 1, G2, Z2, T2, hk4, by go_num, rfl, hid (by rw [show (k + 1) * 4 = k * 4 + 4 by omega]; exact HT2.out), by rw [show (k + 1) * 4 = k * 4 + 4 by omega]; exact hle2, HC2.out, HS2.out, HX2.out, hmm2⟩
         case measure => simp [intOf]; omega
    · have hk5 : k * 4 = 16 := by omega
      have hTT : T = T16 := by rw [← HT.out, hk5, HT16.out]
      subst hTT
      obtain ⟨b0, b1, b2, b3, b4, b5⟩ := cells3 hbx
      clear hcl hst hbx hk5
      have hk6 : k = 4 := by omega
      subst hk6
      go_wp2
      obtain ⟨e1, e2, e3⟩ := QF 0 (T.2 : Int) [] HBX.out hmm (Nat.le_refl _) HCL.out HST.out
      exact bodyPost_ret (results_cell_row rfl _ _ w.heap.size 31 _ (0, 0) _ rfl e1 Tryz.underlying31 rfl (by kernel_rfl)) rfl ⟨rfl, _, _, e2, e3⟩
end Go.Proofs.YtpdijobakfpnbaaGreat
