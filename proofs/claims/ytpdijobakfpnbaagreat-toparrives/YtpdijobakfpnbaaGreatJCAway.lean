/- cluster.sendAway: mail for another host, if that is trusted with it. -/
import Derived.Test.YtpdijobakfpnbaaGreatJCPut
import Derived.Test.YtpdijobakfpnbaaGreatJCClu
import Derived.Test.YtpdijobakfpnbaaGreatJLSend
import Derived.Test.YtpdijobakfpnbaaGreatJTNamed
import Derived.Test.YtpdijobakfpnbaaGreatJKAns
import Derived.Test.YtpdijobakfpnbaaGreatJKTake
import Derived.Deep.DeepCutAuto
import Derived.Deep.RegionHeld3
import Derived.Test.YtpdijobakfpnbaaGreatJCCertify
import Derived.Test.YtpdijobakfpnbaaGreatJKLetter
namespace Go.Proofs.YtpdijobakfpnbaaGreat
open Go.RowKit Go.Proofs.Parclose
theorem QlW {w w' : World} {b : Nat} {v : Value} {l : List Crt} (h : CrtsAt w v l) (hn : ∀ k, v.ownBlock = some k → k ≠ b) (hg : w.grownBy w' (some b)) : CrtsAt w' v l := by
 obtain ⟨p, cap, rfl, h1, h2, h3⟩ := h
 refine ⟨p, cap, rfl, h1, h2, fun h0 => ?_⟩
 obtain ⟨b', o, rfl, hc⟩ := h3 h0
 have hne := hn b' rfl
 have hb : ∀ o' u, w.cell? ⟨b', o', none⟩ = some u → w'.cell? ⟨b', o', none⟩ = some u := fun o' u hu => by
  rw [World.cell?_of_block (w := w) (hg.block b' (Qf hu) (fun e => hne (Option.some.inj e))), hu]
 exact ⟨b', o, rfl, fun j hj => ⟨hb _ _ (hc j hj).1, hb _ _ (hc j hj).2.1, hb _ _ (hc j hj).2.2.1, hb _ _ (hc j hj).2.2.2⟩⟩
theorem cells11a {w : World} {b : Nat} {t : TypeId} {y0 y1 y2 y3 y4 y5 y6 y7 y8 y9 y10 : Value} (h : w.heap[b]? = some (.cells #[y0, y1, y2, y3, y4, y5, y6, y7, y8, y9, y10] t (0, 0))) : w.cell? ⟨b, 0, none⟩ = some y0 ∧ w.cell? ⟨b, 1, none⟩ = some y1 ∧ w.cell? ⟨b, 2, none⟩ = some y2 ∧ w.cell? ⟨b, 3, none⟩ = some y3 ∧ w.cell? ⟨b, 4, none⟩ = some y4 ∧ w.cell? ⟨b, 5, none⟩ = some y5 ∧ w.cell? ⟨b, 6, none⟩ = some y6 ∧ w.cell? ⟨b, 7, none⟩ = some y7 ∧ w.cell? ⟨b, 8, none⟩ = some y8 ∧ w.cell? ⟨b, 9, none⟩ = some y9 ∧ w.cell? ⟨b, 10, none⟩ = some y10 :=
 ⟨Qa h 0, Qa h 1, Qa h 2, Qa h 3, Qa h 4, Qa h 5, Qa h 6, Qa h 7, Qa h 8, Qa h 9, Qa h 10⟩
theorem LneNew.since {B : Nat} {w w' : World} {v : Value} {l : Lne} (h : LneNew B w v l) (hs : Since B w w') (hz : w.heap.size ≤ w'.heap.size) : LneNew B w' v l := by
 obtain ⟨vs, q, e, h8, hm, hl, ho⟩ := h
 exact ⟨vs, q, e, h8, hm, hl, ⟨Q3 ho.own hs, fun x hx w'' hoff => ho.ok x hx w'' fun k h1 h2 h3 => by rw [hoff k h1 (by omega) h3, hs k h1 h2]⟩⟩
set_option linter.unusedSimpArgs false in
set_option maxRecDepth 100000 in
set_option maxHeartbeats 12800000 in
theorem Qkz (cb a b : Nat) (t : Int) (F : List Nat) (Z : CluV) (C : Clu) (vm : Value) (m : Mal) (w : World) (hc : CluAt w cb F Z C) (hg : GoodC C) (ha : a < 4) (hb : b < 4) (hm : MalAt w vm m) :
 Calls Tryz.prog 87 #[.pointer (some ⟨cb, 0, none⟩), .int .i64 a, .int .i64 b, .int .i64 t, vm] w fun e w' => e = .returned (.int .i64 (awayC C a b t m).2) ∧ ∃ G Z', CluAt w' cb G Z' (awayC C a b t m).1 ∧ CStep cb w F Z w' G Z' := by
 obtain ⟨sh, hsh⟩ : ∃ sh, showL (C.certs a) m = sh := ⟨_, rfl⟩
 obtain ⟨l1, g, cd, hSD⟩ : ∃ l1 g cd, sendLn (C.lines a b) (⟨a, b, 0, false, t, m, sh⟩ : Frm) C.now = (l1, g, cd) := ⟨_, _, _, rfl⟩
 have HAN : Hid (mayB (C.certs a) b m C.now = false → awayC C a b t m = (C, 8)) := hid (fun h => by unfold awayC crtC; simp only [Int.toNat_natCast, h]; rfl)
 have HAY : Hid (mayB (C.certs a) b m C.now = true → awayC C a b t m = if cd = 0 then (putC (setLi C a b l1) g, 0) else (C, cd)) := hid (fun h => by unfold awayC crtC lineC; simp only [Int.toNat_natCast, h, hsh, hSD, if_pos])
 have hmay := fun wx (hb : Below w.heap.size w wx) => Qjc _ _ (C.certs a) b m C.now wx ((hc.crt a ha).1.below hb) (hm.below hb)
 have hshow := fun wx (hb : Below w.heap.size w wx) => Qk8 _ _ (C.certs a) m wx ((hc.crt a ha).1.below hb) (hm.below hb)
 rw [hsh] at hshow
 have HLNE := hid (hc.line ha hb)
 obtain ⟨⟨k0, k1, k2, k3, k4, k5, k6, k7, k8, k9, k10⟩, kf⟩ := hc.lcells ha hb rfl rfl rfl
 obtain ⟨pv, cv, hvs⟩ := (hc.snt a b ha hb).at.slice
 unfold lneC at HLNE
 rw [hvs] at k1 HLNE
 have kn := hc.cnow
 have kc := hc.ccrt ha
 obtain ⟨pk, ck, hvk, _⟩ := id (hc.crt a ha).1
 rw [hvk] at hmay hshow kc
 have HML := hid hm
 obtain ⟨vl, vg, rfl, hvl, hvg⟩ := hm
 obtain ⟨pl, cl, rfl, _⟩ := id hvl
 obtain ⟨pg, cg, rfl, _⟩ := id hvg
 have HVL := hid hvl
 have HVG := hid hvg
 unfold malV at hmay hshow HML ⊢
 have hlt := hc.lt
 have HC := hid hc
 have HG := hid hg
 have HVS := hid hvs
 have HS5 : Hid (∀ w', Below w.heap.size w w' → w'.cell? ⟨cb, 10 + a * 44 + b * 11, none⟩ = some (.int .i64 (C.lines a b).next) ∧ w'.cell? ⟨cb, 10 + a * 44 + b * 11 + 1, none⟩ = some (.slice pv (C.lines a b).sent.length cv) ∧ w'.cell? ⟨cb, 10 + a * 44 + b * 11 + 2, none⟩ = some (.int .i64 (C.lines a b).high) ∧ w'.cell? ⟨cb, 10 + a * 44 + b * 11 + 3, none⟩ = some (.bool ((C.lines a b).seen.getD 0 false)) ∧ w'.cell? ⟨cb, 10 + a * 44 + b * 11 + 4, none⟩ = some (.bool ((C.lines a b).seen.getD 1 false)) ∧ w'.cell? ⟨cb, 10 + a * 44 + b * 11 + 5, none⟩ = some (.bool ((C.lines a b).seen.getD 2 false)) ∧ w'.cell? ⟨cb, 10 + a * 44 + b * 11 + 6, none⟩ = some (.bool ((C.lines a b).seen.getD 3 false)) ∧ w'.cell? ⟨cb, 10 + a * 44 + b * 11 + 7, none⟩ = some (.bool ((C.lines a b).seen.getD 4 false)) ∧ w'.cell? ⟨cb, 10 + a * 44 + b * 11 + 8, none⟩ = some (.bool ((C.lines a b).seen.getD 5 false)) ∧ w'.cell? ⟨cb, 10 + a * 44 + b * 11 + 9, none⟩ = some (.bool ((C.lines a b).seen.getD 6 false)) ∧ w'.cell? ⟨cb, 10 + a * 44 + b * 11 + 10, none⟩ = some (.bool ((C.lines a b).seen.getD 7 false)) ∧ w'.cell? ⟨cb, 0, none⟩ = some (.int .i64 C.now)) := hid (fun w' hw => ⟨(hw.cell (Qf k0)).trans k0, (hw.cell (Qf k1)).trans k1, (hw.cell (Qf k2)).trans k2, (hw.cell (Qf k3)).trans k3, (hw.cell (Qf k4)).trans k4, (hw.cell (Qf k5)).trans k5, (hw.cell (Qf k6)).trans k6, (hw.cell (Qf k7)).trans k7, (hw.cell (Qf k8)).trans k8, (hw.cell (Qf k9)).trans k9, (hw.cell (Qf k10)).trans k10, (hw.cell (Qf kn)).trans kn⟩)
 have HKN := hid kn
 clear hvl hvg hvs hvk hc hg k0 k1 k2 k3 k4 k5 k6 k7 k8 k9 k10 kf hsh
 have ia0 : ¬ ((a : Int) < 0) := by omega
 have ia1 : ¬ ((4 : Int) ≤ a) := by omega
 have ia2 : (a : Int) < 4 := by omega
 have ia3 : (0 : Int) ≤ a := by omega
 have ib0 : ¬ ((b : Int) < 0) := by omega
 have ib1 : ¬ ((4 : Int) ≤ b) := by omega
 have ib2 : (b : Int) < 4 := by omega
 have ib3 : (0 : Int) ≤ b := by omega
 have HX0 := hid (heap_alloc_new w (.cells #[.int .i64 m.host, .int .i64 m.thread, .slice pl m.label.length cl, .slice pg m.grants.length cg, .string ⟨m.text.toArray⟩] 50))
 have HBB := hid (Qd w (.cells #[.int .i64 m.host, .int .i64 m.thread, .slice pl m.label.length cl, .slice pg m.grants.length cg, .string ⟨m.text.toArray⟩] 50))
 have HCB := hid HC.out.lt
 have HW0 := hid (Below.refl (w.alloc (.cells #[.int .i64 m.host, .int .i64 m.thread, .slice pl m.label.length cl, .slice pg m.grants.length cg, .string ⟨m.text.toArray⟩] 50)).heap.size (w.alloc (.cells #[.int .i64 m.host, .int .i64 m.thread, .slice pl m.label.length cl, .slice pg m.grants.length cg, .string ⟨m.text.toArray⟩] 50)))
 go_enter Tryz.func87, Tryz.ntmps87
 go_wp2_with fail
 go_region_held3 (fun w' => (w'.cell? ⟨w.heap.size, 0, none⟩ = some (.int .i64 m.host) ∧ w'.cell? ⟨w.heap.size, 1, none⟩ = some (.int .i64 m.thread) ∧ w'.cell? ⟨w.heap.size, 2, none⟩ = some (.slice pl m.label.length cl) ∧ w'.cell? ⟨w.heap.size, 3, none⟩ = some (.slice pg m.grants.length cg) ∧ w'.cell? ⟨w.heap.size, 4, none⟩ = some (.string ⟨m.text.toArray⟩)) ∧ w'.cell? ⟨cb, 0, none⟩ = some (.int .i64 C.now)) (go_keep)
  (first
   | (go_at_call 128; refine (hmay _ HBB.out.drew).mono ?_; rintro e w1 ⟨rfl, hwd⟩; have hw := kundrew hwd; have HB1 := hid (Qc HBB.out hw); obtain ⟨z0, z1, z2, z3, z4⟩ := box5k (Qc HW0.out hw); have HX1 := hid (Qe HX0.out hw); have un := (HB1.out.cell (Qf HKN.out)).trans HKN.out; clear hw hwd)
   | fail)
 all_goals
  cases hmb : mayB (C.certs a) b m C.now with
  | false =>
   have HE := hid (HAN.out hmb)
   clear HAN HAY hmay hshow
   go_wp2
   go_ret
   rw [HE.out]
   exact ⟨rfl, _, _, HC.out.below HB1.out, CStep.below HB1.out⟩
  | true =>
   have HE := hid (HAY.out hmb)
   clear HAN HAY hmay
   have hb1 := HB1.out
   have hlt1 : cb < w1.heap.size := Nat.lt_of_lt_of_le HCB.out hb1.size
   have HSM : Hid (∀ w', Below w1.heap.size w1 w' → w'.cell? ⟨w.heap.size, 0, none⟩ = some (.int .i64 m.host) ∧ w'.cell? ⟨w.heap.size, 1, none⟩ = some (.int .i64 m.thread) ∧ w'.cell? ⟨w.heap.size, 2, none⟩ = some (.slice pl m.label.length cl) ∧ w'.cell? ⟨w.heap.size, 3, none⟩ = some (.slice pg m.grants.length cg) ∧ w'.cell? ⟨w.heap.size, 4, none⟩ = some (.string ⟨m.text.toArray⟩)) := hid (fun w' hw => ⟨Qa (Qe HX1.out hw) 0, Qa (Qe HX1.out hw) 1, Qa (Qe HX1.out hw) 2, Qa (Qe HX1.out hw) 3, Qa (Qe HX1.out hw) 4⟩)
   clear z0 z1 z2 z3 z4 un kn kc
   go_upto_region 4 with fail
   go_cut [12] (fun v12 wx => ∃ (M : Nat) (pc : Option Addr) (cc : Nat), v12 = .pointer (some ⟨M, 0, none⟩) ∧ wx.heap[M]? = some (.cells #[.int .i64 a, .int .i64 b, .int .i64 0, .bool false, .int .i64 t, .int .i64 m.host, .int .i64 m.thread, .slice pl m.label.length cl, .slice pg m.grants.length cg, .string ⟨m.text.toArray⟩, .slice pc sh.length cc] 111 (0, 0)) ∧ w.heap.size ≤ M ∧ CrtsAt wx (.slice pc sh.length cc) sh ∧ Below w1.heap.size w1 wx)
   case first =>
    refine wp_region_held_drew (S := (fun w' => w'.cell? ⟨w.heap.size, 0, none⟩ = some (.int .i64 m.host) ∧ w'.cell? ⟨w.heap.size, 1, none⟩ = some (.int .i64 m.thread) ∧ w'.cell? ⟨w.heap.size, 2, none⟩ = some (.slice pl m.label.length cl) ∧ w'.cell? ⟨w.heap.size, 3, none⟩ = some (.slice pg m.grants.length cg) ∧ w'.cell? ⟨w.heap.size, 4, none⟩ = some (.string ⟨m.text.toArray⟩))) (by as_aux_lemma => kernel_rfl) (HSM.out _ (Below.refl _ _).drew) (fun _hHeld => ?_)
    refine takeF 0 30 ?v1 rfl (Or.inl ⟨by rfl, ?hy1⟩) ?rest1
    case hy1 => intro wz hSw; (try dsimp only at hSw); go_simp; try with_reducible rfl
    simp only [Act.put, List.setIfInBounds_toArray, List.set_cons_zero, List.set_cons_succ]
    refine takeF 1 31 ?v2 rfl (Or.inl ⟨by rfl, ?hy2⟩) ?rest2
    case hy2 => intro wz hSw; (try dsimp only at hSw); go_simp; try with_reducible rfl
    simp only [Act.put, List.setIfInBounds_toArray, List.set_cons_zero, List.set_cons_succ]
    refine takeF 2 32 ?v3 rfl (Or.inl ⟨by rfl, ?hy3⟩) ?rest3
    case hy3 => intro wz hSw; (try dsimp only at hSw); go_simp; try with_reducible rfl
    simp only [Act.put, List.setIfInBounds_toArray, List.set_cons_zero, List.set_cons_succ]
    refine takeF 3 33 ?v4 rfl (Or.inl ⟨by rfl, ?hy4⟩) ?rest4
    case hy4 => intro wz hSw; (try dsimp only at hSw); go_simp; try with_reducible rfl
    simp only [Act.put, List.setIfInBounds_toArray, List.set_cons_zero, List.set_cons_succ]
    refine takeF 4 34 ?v5 rfl (Or.inl ⟨by rfl, ?hy5⟩) ?rest5
    case hy5 => intro wz hSw; (try dsimp only at hSw); go_simp; try with_reducible rfl
    simp only [Act.put, List.setIfInBounds_toArray, List.set_cons_zero, List.set_cons_succ]
    refine takeF 5 35 ?v6 rfl (Or.inl ⟨by rfl, ?hy6⟩) ?rest6
    case hy6 => intro wz hSw; (try dsimp only at hSw); go_simp; try with_reducible rfl
    simp only [Act.put, List.setIfInBounds_toArray, List.set_cons_zero, List.set_cons_succ]
    refine wpAnyH_ready (rs := [6, 8]) (by as_aux_lemma => kernel_rfl) (by simp) ?_
    refine (AllReadyH.cons rfl (fun K' hK => ?_) (AllReadyH.cons rfl (fun K' hK => ?_) AllReadyH.nil))
    · skip
      go_simp
      go_wp2_with (go_at_call 129; refine (hshow _ (hb1.drew)).mono ?_; rintro e w2 ⟨v2, rfl, hv2, hw2d⟩)
      have hw2 : Below w1.heap.size w1 w2 := ⟨hw2d.os, hw2d.tape, hw2d.output, hw2d.size, hw2d.block⟩
      obtain ⟨pc, cc, ev2, _⟩ := id hv2.1
      subst ev2
      have HV2 := hid hv2
      clear hv2 hw2d
      refine hK.out _ _ (HSM.out _ hw2) (fun _ => ?_)
      clear hK K'
      refine takeF 7 37 ?v7 rfl (Or.inl ⟨by rfl, ?hy7⟩) ?rest7
      case hy7 => intro wz hSw; (try dsimp only at hSw); go_simp; try with_reducible rfl
      simp only [Act.put, List.setIfInBounds_toArray, List.set_cons_zero, List.set_cons_succ]
      refine wpAnyH_ready (rs := [8]) (by as_aux_lemma => kernel_rfl) (by simp) ?_
      refine (AllReadyH.cons rfl (fun K' hK => ?_) AllReadyH.nil)
      go_simp
      refine hK.out _ _ (HSM.out _ (Qc hw2 (Qd w2 _))) (fun _ => ?_)
      clear hK K'
      refine wpAnyH_ready (rs := [9]) (by as_aux_lemma => kernel_rfl) (by simp) ?_
      refine (AllReadyH.cons rfl (fun K' hK => ?_) AllReadyH.nil)
      go_simp
      refine hK.out _ _ (HSM.out _ (Qc hw2 (Qd w2 _))) (fun _ => ?_)
      clear hK K'
      refine wpAnyH_done (by as_aux_lemma => kernel_rfl) ?_ _
      go_wp2_with fail
      go_meet
      exact ⟨w2.heap.size, pc, cc, rfl, heap_alloc_new w2 _, Nat.le_trans hb1.size hw2.size, HV2.out.1.below (Qd w2 _), Qc hw2 (Qd w2 _)⟩
    · skip
      go_simp
      refine hK.out _ _ (HSM.out _ (Qd w1 _).drew) (fun _ => ?_)
      clear hK K'
      refine wpAnyH_ready (rs := [6]) (by as_aux_lemma => kernel_rfl) (by simp) ?_
      refine (AllReadyH.cons rfl (fun K' hK => ?_) AllReadyH.nil)
      go_simp
      go_wp2_with (go_at_call 129; refine (hshow _ ((Qc hb1 (Qd w1 _)).drew)).mono ?_; rintro e w2 ⟨v2, rfl, hv2, hw2d⟩)
      have hw2 : Below (w1.alloc (.cells #[.int .i64 0, .int .i64 0, .int .i64 0, .bool false, .int .i64 0, .int .i64 0, .int .i64 0, .slice none 0 0, .slice none 0 0, .string ⟨#[]⟩, .slice none 0 0] 111)).heap.size (w1.alloc (.cells #[.int .i64 0, .int .i64 0, .int .i64 0, .bool false, .int .i64 0, .int .i64 0, .int .i64 0, .slice none 0 0, .slice none 0 0, .string ⟨#[]⟩, .slice none 0 0] 111)) w2 := ⟨hw2d.os, hw2d.tape, hw2d.output, hw2d.size, hw2d.block⟩
      have hb2 := Qc (Qd w1 _) hw2
      obtain ⟨pc, cc, ev2, _⟩ := id hv2.1
      subst ev2
      have HV2 := hid hv2
      clear hv2 hw2d
      refine hK.out _ _ (HSM.out _ hb2) (fun _ => ?_)
      clear hK K'
      refine takeF 7 37 ?v8 rfl (Or.inl ⟨by rfl, ?hy8⟩) ?rest8
      case hy8 => intro wz hSw; (try dsimp only at hSw); go_simp; try with_reducible rfl
      simp only [Act.put, List.setIfInBounds_toArray, List.set_cons_zero, List.set_cons_succ]
      have HM := hid (Qe (heap_alloc_new w1 _) hw2)
      have m0 := Qa HM.out 0
      have mf0 := Qb HM.out 0
      have m1 := Qa HM.out 1
      have mf1 := Qb HM.out 1
      have m2 := Qa HM.out 2
      have mf2 := Qb HM.out 2
      have m3 := Qa HM.out 3
      have mf3 := Qb HM.out 3
      have m4 := Qa HM.out 4
      have mf4 := Qb HM.out 4
      have m5 := Qa HM.out 5
      have mf5 := Qb HM.out 5
      have m6 := Qa HM.out 6
      have mf6 := Qb HM.out 6
      have m7 := Qa HM.out 7
      have mf7 := Qb HM.out 7
      have m8 := Qa HM.out 8
      have mf8 := Qb HM.out 8
      have m9 := Qa HM.out 9
      have mf9 := Qb HM.out 9
      have m10 := Qa HM.out 10
      have mf10 := Qb HM.out 10
      have hS := Qj w2 (w1.heap.size) (.int .i64 a) (.int .i64 b) (.int .i64 0) (.bool false) (.int .i64 t) (.int .i64 m.host) (.int .i64 m.thread) (.slice pl m.label.length cl) (.slice pg m.grants.length cg) (.string ⟨m.text.toArray⟩) (.slice pc sh.length cc)
      have hb3 := hb2.grown hS hb2.size (fun k hk => by have := Option.some.inj hk; omega)
      have HS11 := hid (Ql (.int .i64 a) (.int .i64 b) (.int .i64 0) (.bool false) (.int .i64 t) (.int .i64 m.host) (.int .i64 m.thread) (.slice pl m.label.length cl) (.slice pg m.grants.length cg) (.string ⟨m.text.toArray⟩) (.slice pc sh.length cc) HM.out)
      have HC11 := hid (QlW HV2.out.1 (fun k hk => by have h1 := HV2.out.2 k hk; simp at h1; omega) hS)
      have HB3 := hid hb3
      clear hS hb3
      refine wpAnyH_ready (rs := [9]) (by as_aux_lemma => kernel_rfl) (by simp) ?_
      refine (AllReadyH.cons rfl (fun K' hK => ?_) AllReadyH.nil)
      go_simp
      refine hK.out _ _ (HSM.out _ HB3.out) (fun _ => ?_)
      clear hK K'
      refine wpAnyH_done (by as_aux_lemma => kernel_rfl) ?_ _
      go_wp2_with fail
      go_meet
      exact ⟨w1.heap.size, pc, cc, rfl, HS11.out, hb1.size, HC11.out, HB3.out⟩
   case rest =>
    obtain ⟨M, pc, cc, rfl, hM, hMw, hcr, hb13⟩ := hcut
    obtain ⟨w3, hw3⟩ : ∃ w3, w3 = wc := ⟨_, rfl⟩
    subst hw3
    have hb3 := Qc hb1 hb13
    have hb33 : Below w3.heap.size w3 w3 := Below.refl _ _
    have HM0 := hid hM
    have HFRM : Hid (FrmAt w3 (.agg #[.int .i64 a, .int .i64 b, .int .i64 0, .bool false, .int .i64 t, .int .i64 m.host, .int .i64 m.thread, .slice pl m.label.length cl, .slice pg m.grants.length cg, .string ⟨m.text.toArray⟩, .slice pc sh.length cc]) (⟨a, b, 0, false, t, m, sh⟩ : Frm)) := hid ⟨_, _, _, rfl, HVL.out.below hb3, HVG.out.below hb3, hcr⟩
    have hsend := fun wx (hb : Below w3.heap.size w3 wx) => QjS _ _ (C.lines a b) (⟨a, b, 0, false, t, m, sh⟩ : Frm) C.now wx (HLNE.out.below (Qc hb3 hb)) (HFRM.out.below hb)
    rw [hSD] at hsend
    simp only at hsend
    clear hM hcr hshow HSM hSD hb13
    go_upto_region 5 with fail
    go_cut [13, 14] (fun v13 v14 wx => ∃ (A B1 : Nat) (nx1 : Int) (st1 : List Snt) (hi1 : Int) (d0 d1 d2 d3 d4 d5 d6 d7 : Bool) (p1 : Option Addr) (c1 : Nat) (gl gg gc : Option Addr) (hl hg2 hc2 : Nat), v13 = .pointer (some ⟨A, 0, none⟩) ∧ v14 = .int .i64 cd ∧ l1 = ⟨nx1, st1, hi1, [d0, d1, d2, d3, d4, d5, d6, d7]⟩ ∧ wx.heap[A]? = some (.cells #[.int .i64 nx1, .slice p1 st1.length c1, .int .i64 hi1, .bool d0, .bool d1, .bool d2, .bool d3, .bool d4, .bool d5, .bool d6, .bool d7] 71 (0, 0)) ∧ wx.heap[M]? = some (.cells #[.int .i64 g.fr, .int .i64 g.to, .int .i64 g.seq, .bool g.ack, .int .i64 g.thread, .int .i64 g.mail.host, .int .i64 g.mail.thread, .slice gl g.mail.label.length hl, .slice gg g.mail.grants.length hg2, .string ⟨g.mail.text.toArray⟩, .slice gc g.certs.length hc2] 111 (0, 0)) ∧ w.heap.size ≤ B1 ∧ LneNew B1 wx (.agg #[.int .i64 nx1, .slice p1 st1.length c1, .int .i64 hi1, .bool d0, .bool d1, .bool d2, .bool d3, .bool d4, .bool d5, .bool d6, .bool d7]) ⟨nx1, st1, hi1, [d0, d1, d2, d3, d4, d5, d6, d7]⟩ ∧ (∀ w'', Since w.heap.size wx w'' → FrmAt w'' (.agg #[.int .i64 g.fr, .int .i64 g.to, .int .i64 g.seq, .bool g.ack, .int .i64 g.thread, .int .i64 g.mail.host, .int .i64 g.mail.thread, .slice gl g.mail.label.length hl, .slice gg g.mail.grants.length hg2, .string ⟨g.mail.text.toArray⟩, .slice gc g.certs.length hc2]) g) ∧ Below w.heap.size w wx ∧ w.heap.size ≤ A)
    case first =>
     refine wp_region_held_drew (S := (fun w' => w'.cell? ⟨cb, 10 + a * 44 + b * 11, none⟩ = some (.int .i64 (C.lines a b).next) ∧ w'.cell? ⟨cb, 10 + a * 44 + b * 11 + 1, none⟩ = some (.slice pv (C.lines a b).sent.length cv) ∧ w'.cell? ⟨cb, 10 + a * 44 + b * 11 + 2, none⟩ = some (.int .i64 (C.lines a b).high) ∧ w'.cell? ⟨cb, 10 + a * 44 + b * 11 + 3, none⟩ = some (.bool ((C.lines a b).seen.getD 0 false)) ∧ w'.cell? ⟨cb, 10 + a * 44 + b * 11 + 4, none⟩ = some (.bool ((C.lines a b).seen.getD 1 false)) ∧ w'.cell? ⟨cb, 10 + a * 44 + b * 11 + 5, none⟩ = some (.bool ((C.lines a b).seen.getD 2 false)) ∧ w'.cell? ⟨cb, 10 + a * 44 + b * 11 + 6, none⟩ = some (.bool ((C.lines a b).seen.getD 3 false)) ∧ w'.cell? ⟨cb, 10 + a * 44 + b * 11 + 7, none⟩ = some (.bool ((C.lines a b).seen.getD 4 false)) ∧ w'.cell? ⟨cb, 10 + a * 44 + b * 11 + 8, none⟩ = some (.bool ((C.lines a b).seen.getD 5 false)) ∧ w'.cell? ⟨cb, 10 + a * 44 + b * 11 + 9, none⟩ = some (.bool ((C.lines a b).seen.getD 6 false)) ∧ w'.cell? ⟨cb, 10 + a * 44 + b * 11 + 10, none⟩ = some (.bool ((C.lines a b).seen.getD 7 false)) ∧ w'.cell? ⟨cb, 0, none⟩ = some (.int .i64 C.now))) (by as_aux_lemma => kernel_rfl) (HS5.out _ hb3.drew) (fun _hHeld => ?_)
     refine takeF 0 39 ?v9 rfl (Or.inl ⟨by rfl, ?hy9⟩) ?rest9
     case hy9 => intro wz hSw; (try dsimp only at hSw); go_simp; try with_reducible rfl
     simp only [Act.put, List.setIfInBounds_toArray, List.set_cons_zero, List.set_cons_succ]
     refine takeF 1 40 ?v10 rfl (Or.inl ⟨by rfl, ?hy10⟩) ?rest10
     case hy10 => intro wz hSw; (try dsimp only at hSw); go_simp; try with_reducible rfl
     simp only [Act.put, List.setIfInBounds_toArray, List.set_cons_zero, List.set_cons_succ]
     refine takeF 2 41 ?v11 rfl (Or.inl ⟨by rfl, ?hy11⟩) ?rest11
     case hy11 => intro wz hSw; (try dsimp only at hSw); go_simp; try with_reducible rfl
     simp only [Act.put, List.setIfInBounds_toArray, List.set_cons_zero, List.set_cons_succ]
     refine takeF 3 42 ?v12 rfl (Or.inl ⟨by rfl, ?hy12⟩) ?rest12
     case hy12 => intro wz hSw; (try dsimp only at hSw); go_simp; try with_reducible rfl
     simp only [Act.put, List.setIfInBounds_toArray, List.set_cons_zero, List.set_cons_succ]
     refine takeF 4 43 ?v13 rfl (Or.inl ⟨by rfl, ?hy13⟩) ?rest13
     case hy13 => intro wz hSw; (try dsimp only at hSw); go_simp; try with_reducible rfl
     simp only [Act.put, List.setIfInBounds_toArray, List.set_cons_zero, List.set_cons_succ]
     refine takeF 5 44 ?v14 rfl (Or.inl ⟨by rfl, ?hy14⟩) ?rest14
     case hy14 => intro wz hSw; (try dsimp only at hSw); go_simp; try with_reducible rfl
     simp only [Act.put, List.setIfInBounds_toArray, List.set_cons_zero, List.set_cons_succ]
     refine takeF 6 45 ?v15 rfl (Or.inl ⟨by rfl, ?hy15⟩) ?rest15
     case hy15 => intro wz hSw; (try dsimp only at hSw); go_simp; try with_reducible rfl
     simp only [Act.put, List.setIfInBounds_toArray, List.set_cons_zero, List.set_cons_succ]
     refine takeF 7 46 ?v16 rfl (Or.inl ⟨by rfl, ?hy16⟩) ?rest16
     case hy16 => intro wz hSw; (try dsimp only at hSw); go_simp; try with_reducible rfl
     simp only [Act.put, List.setIfInBounds_toArray, List.set_cons_zero, List.set_cons_succ]
     refine takeF 9 48 ?v17 rfl (Or.inl ⟨by rfl, ?hy17⟩) ?rest17
     case hy17 => intro wz hSw; (try dsimp only at hSw); go_simp; try with_reducible rfl
     simp only [Act.put, List.setIfInBounds_toArray, List.set_cons_zero, List.set_cons_succ]
     refine takeF 10 49 ?v18 rfl (Or.inl ⟨by rfl, ?hy18⟩) ?rest18
     case hy18 => intro wz hSw; (try dsimp only at hSw); go_simp; try with_reducible rfl
     simp only [Act.put, List.setIfInBounds_toArray, List.set_cons_zero, List.set_cons_succ]
     refine takeF 11 50 ?v19 rfl (Or.inl ⟨by rfl, ?hy19⟩) ?rest19
     case hy19 => intro wz hSw; (try dsimp only at hSw); go_simp; try with_reducible rfl
     simp only [Act.put, List.setIfInBounds_toArray, List.set_cons_zero, List.set_cons_succ]
     refine takeF 12 51 ?v20 rfl (Or.inl ⟨by rfl, ?hy20⟩) ?rest20
     case hy20 => intro wz hSw; (try dsimp only at hSw); go_simp; try with_reducible rfl
     simp only [Act.put, List.setIfInBounds_toArray, List.set_cons_zero, List.set_cons_succ]
     refine wpAnyH_ready (rs := [8, 18]) (by as_aux_lemma => kernel_rfl) (by simp) ?_
     refine (AllReadyH.cons rfl (fun K' hK => ?_) (AllReadyH.cons rfl (fun K' hK => ?_) AllReadyH.nil))
     · skip
       have m0 := Qa HM0.out 0
       have m1 := Qa HM0.out 1
       have m2 := Qa HM0.out 2
       have m3 := Qa HM0.out 3
       have m4 := Qa HM0.out 4
       have m5 := Qa HM0.out 5
       have m6 := Qa HM0.out 6
       have m7 := Qa HM0.out 7
       have m8 := Qa HM0.out 8
       have m9 := Qa HM0.out 9
       have m10 := Qa HM0.out 10
       go_simp
       refine hK.out _ _ (HS5.out _ ((hb3).drew)) (fun _ => ?_)
       clear hK K'
       clear m0 m1 m2 m3 m4 m5 m6 m7 m8 m9 m10
       refine wpAnyH_ready (rs := [13, 18]) (by as_aux_lemma => kernel_rfl) (by simp) ?_
       refine (AllReadyH.cons rfl (fun K' hK => ?_) (AllReadyH.cons rfl (fun K' hK => ?_) AllReadyH.nil))
       · skip
         go_simp
         go_wp2_with (go_at_call 130; refine (hsend _ ((hb33).drew)).mono ?_; rintro e wv1 ⟨v1, vf1, rfl, hn1, hf1, hq2d⟩)
         have hq2 : Below w3.heap.size w3 wv1 := ⟨hq2d.os, hq2d.tape, hq2d.output, hq2d.size, hq2d.block⟩
         have hbx3 := Qc hb33 hq2
         have hwx4 := Qc hb3 hq2
         have HM5 := hid (Qe HM0.out hq2)
         have hz6 : w3.heap.size ≤ wv1.heap.size := hq2.size
         replace hn1 : LneNew w3.heap.size wv1 v1 l1 := hn1
         replace hf1 : ∀ w'', Since w3.heap.size wv1 w'' → FrmAt w'' vf1 g := hf1
         obtain ⟨nx1, st1, hi1, d0, d1, d2, d3, d4, d5, d6, d7, p1, c1, sq1, el, ev, _, _, _⟩ := hn1.spell
         subst ev
         obtain ⟨vl1, vg1, vc1, ef, ⟨gl, hl, e4, _⟩, ⟨gg, hg2, e5, _⟩, ⟨gc, hc2, e6, _⟩⟩ := id (hf1 wv1 (Since.refl _ _))
         subst e4 e5 e6 ef
         unfold frmV at hf1
         unfold frmV
         have HN1 := hid hn1
         have HF1 := hid hf1
         have HEL := hid el
         have hB7 : Below wv1.heap.size wv1 wv1 := Below.refl _ _
         clear hn1 hf1 el hq2d
         refine hK.out _ _ (HS5.out _ hwx4) (fun _ => ?_)
         clear hK K'
         refine takeF 14 38 ?v21 rfl (Or.inl ⟨by rfl, ?hy21⟩) ?rest21
         case hy21 => intro wz hSw; (try dsimp only at hSw); go_simp; try with_reducible rfl
         simp only [Act.put, List.setIfInBounds_toArray, List.set_cons_zero, List.set_cons_succ]
         refine takeF 15 53 ?v22 rfl (Or.inl ⟨by rfl, ?hy22⟩) ?rest22
         case hy22 => intro wz hSw; (try dsimp only at hSw); go_simp; try with_reducible rfl
         simp only [Act.put, List.setIfInBounds_toArray, List.set_cons_zero, List.set_cons_succ]
         refine takeF 16 54 ?v23 rfl (Or.inl ⟨by rfl, ?hy23⟩) ?rest23
         case hy23 => intro wz hSw; (try dsimp only at hSw); go_simp; try with_reducible rfl
         simp only [Act.put, List.setIfInBounds_toArray, List.set_cons_zero, List.set_cons_succ]
         refine takeF 17 55 ?v24 rfl (Or.inl ⟨by rfl, ?hy24⟩) ?rest24
         case hy24 => intro wz hSw; (try dsimp only at hSw); go_simp; try with_reducible rfl
         simp only [Act.put, List.setIfInBounds_toArray, List.set_cons_zero, List.set_cons_succ]
         refine wpAnyH_ready (rs := [18]) (by as_aux_lemma => kernel_rfl) (by simp) ?_
         refine (AllReadyH.cons rfl (fun K' hK => ?_) AllReadyH.nil)
         · skip
           go_simp
           have HA8 := hid (heap_alloc_new wv1 (.cells #[.int .i64 0, .slice none 0 0, .int .i64 0, .bool false, .bool false, .bool false, .bool false, .bool false, .bool false, .bool false, .bool false] 71))
           have HM9 := hid (Qz HM5.out (.cells #[.int .i64 0, .slice none 0 0, .int .i64 0, .bool false, .bool false, .bool false, .bool false, .bool false, .bool false, .bool false, .bool false] 71))
           have hbx10 : Below w3.heap.size w3 (wv1.alloc (.cells #[.int .i64 0, .slice none 0 0, .int .i64 0, .bool false, .bool false, .bool false, .bool false, .bool false, .bool false, .bool false, .bool false] 71)) := hbx3.alloc hbx3.size _
           have hwx11 : Below w.heap.size w (wv1.alloc (.cells #[.int .i64 0, .slice none 0 0, .int .i64 0, .bool false, .bool false, .bool false, .bool false, .bool false, .bool false, .bool false, .bool false] 71)) := hwx4.alloc hwx4.size _
           have hz12 : (wv1.alloc (.cells #[.int .i64 0, .slice none 0 0, .int .i64 0, .bool false, .bool false, .bool false, .bool false, .bool false, .bool false, .bool false, .bool false] 71)).heap.size = wv1.heap.size + 1 := QM _ _
           have hB13 := hB7.alloc hB7.size (.cells #[.int .i64 0, .slice none 0 0, .int .i64 0, .bool false, .bool false, .bool false, .bool false, .bool false, .bool false, .bool false, .bool false] 71)
           refine hK.out _ _ (HS5.out _ (hwx11)) (fun _ => ?_)
           clear hK K'
           have hMl : M < w3.heap.size := Qw HM0.out
           have hs3 := hb3.size
           have hAB : wv1.heap.size < w3.heap.size ∨ wv1.heap.size ≤ wv1.heap.size := by omega
           have hMB : M < w3.heap.size := by omega
           have hAM : wv1.heap.size ≠ M := by omega
           have hAw : w.heap.size ≤ wv1.heap.size := by omega
           have hFBB := hB13
           generalize (wv1.alloc (.cells #[.int .i64 0, .slice none 0 0, .int .i64 0, .bool false, .bool false, .bool false, .bool false, .bool false, .bool false, .bool false, .bool false] 71)) = wF at *
           have q0 := Qa HA8.out 0
           have qf0 := Qb HA8.out 0
           have q1 := Qa HA8.out 1
           have qf1 := Qb HA8.out 1
           have q2 := Qa HA8.out 2
           have qf2 := Qb HA8.out 2
           have q3 := Qa HA8.out 3
           have qf3 := Qb HA8.out 3
           have q4 := Qa HA8.out 4
           have qf4 := Qb HA8.out 4
           have q5 := Qa HA8.out 5
           have qf5 := Qb HA8.out 5
           have q6 := Qa HA8.out 6
           have qf6 := Qb HA8.out 6
           have q7 := Qa HA8.out 7
           have qf7 := Qb HA8.out 7
           have q8 := Qa HA8.out 8
           have qf8 := Qb HA8.out 8
           have q9 := Qa HA8.out 9
           have qf9 := Qb HA8.out 9
           have q10 := Qa HA8.out 10
           have qf10 := Qb HA8.out 10
           have hS1 := Qj wF (wv1.heap.size) (.int .i64 nx1) (.slice p1 st1.length c1) (.int .i64 hi1) (.bool d0) (.bool d1) (.bool d2) (.bool d3) (.bool d4) (.bool d5) (.bool d6) (.bool d7)
           have hbE := hwx11.grown hS1 hwx11.size (fun k hk => by have := Option.some.inj hk; omega)
           have HX1 := hid (Ql (.int .i64 nx1) (.slice p1 st1.length c1) (.int .i64 hi1) (.bool d0) (.bool d1) (.bool d2) (.bool d3) (.bool d4) (.bool d5) (.bool d6) (.bool d7) HA8.out)
           have hY1 := Qn HM9.out (Ne.symm hAM) hS1
           have HS1 := hid hS1
           have HBE := hid hbE
           clear hS1 hbE
           refine wpAnyH_ready (rs := [19]) (by as_aux_lemma => kernel_rfl) (by simp) ?_
           refine (AllReadyH.cons rfl (fun K' hK => ?_) AllReadyH.nil)
           go_simp
           refine hK.out _ _ (HS5.out _ HBE.out) (fun _ => ?_)
           clear hK K'
           clear q0 qf0 q1 qf1 q2 qf2 q3 qf3 q4 qf4 q5 qf5 q6 qf6 q7 qf7 q8 qf8 q9 qf9 q10 qf10
           have q0 := Qa hY1 0
           have qf0 := Qb hY1 0
           have q1 := Qa hY1 1
           have qf1 := Qb hY1 1
           have q2 := Qa hY1 2
           have qf2 := Qb hY1 2
           have q3 := Qa hY1 3
           have qf3 := Qb hY1 3
           have q4 := Qa hY1 4
           have qf4 := Qb hY1 4
           have q5 := Qa hY1 5
           have qf5 := Qb hY1 5
           have q6 := Qa hY1 6
           have qf6 := Qb hY1 6
           have q7 := Qa hY1 7
           have qf7 := Qb hY1 7
           have q8 := Qa hY1 8
           have qf8 := Qb hY1 8
           have q9 := Qa hY1 9
           have qf9 := Qb hY1 9
           have q10 := Qa hY1 10
           have qf10 := Qb hY1 10
           have HY1 := hid hY1
           clear hY1
           have hS2 := Qj (st11 wF (wv1.heap.size) (.int .i64 nx1) (.slice p1 st1.length c1) (.int .i64 hi1) (.bool d0) (.bool d1) (.bool d2) (.bool d3) (.bool d4) (.bool d5) (.bool d6) (.bool d7)) M (.int .i64 g.fr) (.int .i64 g.to) (.int .i64 g.seq) (.bool g.ack) (.int .i64 g.thread) (.int .i64 g.mail.host) (.int .i64 g.mail.thread) (.slice gl g.mail.label.length hl) (.slice gg g.mail.grants.length hg2) (.string ⟨g.mail.text.toArray⟩) (.slice gc g.certs.length hc2)
           have hbE2 := HBE.out.grown hS2 HBE.out.size (fun k hk => by have := Option.some.inj hk; omega)
           have HS2 := hid hS2
           have HBE2 := hid hbE2
           clear hS2 hbE2
           unfold st11 at *
           refine wpAnyH_ready (rs := [20]) (by as_aux_lemma => kernel_rfl) (by simp) ?_
           refine (AllReadyH.cons rfl (fun K' hK => ?_) AllReadyH.nil)
           go_simp
           refine hK.out _ _ (HS5.out _ HBE2.out) (fun _ => ?_)
           clear hK K'
           clear q0 qf0 q1 qf1 q2 qf2 q3 qf3 q4 qf4 q5 qf5 q6 qf6 q7 qf7 q8 qf8 q9 qf9 q10 qf10
           refine takeF 21 14 ?v25 rfl (Or.inl ⟨by rfl, ?hy25⟩) ?rest25
           case hy25 => intro wz hSw; (try dsimp only at hSw); go_simp; try with_reducible rfl
           simp only [Act.put, List.setIfInBounds_toArray, List.set_cons_zero, List.set_cons_succ]
           refine wpAnyH_done (by as_aux_lemma => kernel_rfl) ?_ _
           go_wp2_with fail
           go_meet
           have hSE : Since (w3.heap.size) wv1 (st11 (st11 wF (wv1.heap.size) (.int .i64 nx1) (.slice p1 st1.length c1) (.int .i64 hi1) (.bool d0) (.bool d1) (.bool d2) (.bool d3) (.bool d4) (.bool d5) (.bool d6) (.bool d7)) M (.int .i64 g.fr) (.int .i64 g.to) (.int .i64 g.seq) (.bool g.ack) (.int .i64 g.thread) (.int .i64 g.mail.host) (.int .i64 g.mail.thread) (.slice gl g.mail.label.length hl) (.slice gg g.mail.grants.length hg2) (.string ⟨g.mail.text.toArray⟩) (.slice gc g.certs.length hc2)) := fun k h1 h2 => by
            rw [HS2.out.block k (Nat.lt_of_lt_of_le h2 (Nat.le_trans hFBB.size HS1.out.size)) (fun e => by have := Option.some.inj e; omega), HS1.out.block k (Nat.lt_of_lt_of_le h2 hFBB.size) (fun e => by have := Option.some.inj e; omega)]
            exact hFBB.block k h2
           have hsz : wv1.heap.size ≤ (st11 (st11 wF (wv1.heap.size) (.int .i64 nx1) (.slice p1 st1.length c1) (.int .i64 hi1) (.bool d0) (.bool d1) (.bool d2) (.bool d3) (.bool d4) (.bool d5) (.bool d6) (.bool d7)) M (.int .i64 g.fr) (.int .i64 g.to) (.int .i64 g.seq) (.bool g.ack) (.int .i64 g.thread) (.int .i64 g.mail.host) (.int .i64 g.mail.thread) (.slice gl g.mail.label.length hl) (.slice gg g.mail.grants.length hg2) (.string ⟨g.mail.text.toArray⟩) (.slice gc g.certs.length hc2)).heap.size := Nat.le_trans hFBB.size (Nat.le_trans HS1.out.size HS2.out.size)
           have hbw : w.heap.size ≤ w3.heap.size := by omega
           exact ⟨wv1.heap.size, w3.heap.size, nx1, st1, hi1, d0, d1, d2, d3, d4, d5, d6, d7, p1, c1, gl, gg, gc, hl, hg2, hc2, rfl, rfl, HEL.out, Qn HX1.out hAM HS2.out, Ql (.int .i64 g.fr) (.int .i64 g.to) (.int .i64 g.seq) (.bool g.ack) (.int .i64 g.thread) (.int .i64 g.mail.host) (.int .i64 g.mail.thread) (.slice gl g.mail.label.length hl) (.slice gg g.mail.grants.length hg2) (.string ⟨g.mail.text.toArray⟩) (.slice gc g.certs.length hc2) HY1.out, hbw, by rw [← HEL.out]; exact HN1.out.since hSE hsz, fun w'' h => HF1.out w'' (hSE.trans (h.mono hbw) hsz), HBE2.out, hAw⟩
       · skip
         go_simp
         have HA14 := hid (heap_alloc_new w3 (.cells #[.int .i64 0, .slice none 0 0, .int .i64 0, .bool false, .bool false, .bool false, .bool false, .bool false, .bool false, .bool false, .bool false] 71))
         have HM15 := hid (Qz HM0.out (.cells #[.int .i64 0, .slice none 0 0, .int .i64 0, .bool false, .bool false, .bool false, .bool false, .bool false, .bool false, .bool false, .bool false] 71))
         have hbx16 : Below w3.heap.size w3 (w3.alloc (.cells #[.int .i64 0, .slice none 0 0, .int .i64 0, .bool false, .bool false, .bool false, .bool false, .bool false, .bool false, .bool false, .bool false] 71)) := hb33.alloc hb33.size _
         have hwx17 : Below w.heap.size w (w3.alloc (.cells #[.int .i64 0, .slice none 0 0, .int .i64 0, .bool false, .bool false, .bool false, .bool false, .bool false, .bool false, .bool false, .bool false] 71)) := hb3.alloc hb3.size _
         have hz18 : (w3.alloc (.cells #[.int .i64 0, .slice none 0 0, .int .i64 0, .bool false, .bool false, .bool false, .bool false, .bool false, .bool false, .bool false, .bool false] 71)).heap.size = w3.heap.size + 1 := QM _ _
         refine hK.out _ _ (HS5.out _ ((hwx17).drew)) (fun _ => ?_)
         clear hK K'
         refine wpAnyH_ready (rs := [13]) (by as_aux_lemma => kernel_rfl) (by simp) ?_
         refine (AllReadyH.cons rfl (fun K' hK => ?_) AllReadyH.nil)
         · skip
           go_simp
           go_wp2_with (go_at_call 130; refine (hsend _ ((hbx16).drew)).mono ?_; rintro e wv19 ⟨v1, vf1, rfl, hn1, hf1, hq20d⟩)
           have hq20 : Below (w3.alloc (.cells #[.int .i64 0, .slice none 0 0, .int .i64 0, .bool false, .bool false, .bool false, .bool false, .bool false, .bool false, .bool false, .bool false] 71)).heap.size (w3.alloc (.cells #[.int .i64 0, .slice none 0 0, .int .i64 0, .bool false, .bool false, .bool false, .bool false, .bool false, .bool false, .bool false, .bool false] 71)) wv19 := ⟨hq20d.os, hq20d.tape, hq20d.output, hq20d.size, hq20d.block⟩
           have hbx21 := Qc hbx16 hq20
           have hwx22 := Qc hwx17 hq20
           have HM23 := hid (Qe HM15.out hq20)
           have hz24 : (w3.alloc (.cells #[.int .i64 0, .slice none 0 0, .int .i64 0, .bool false, .bool false, .bool false, .bool false, .bool false, .bool false, .bool false, .bool false] 71)).heap.size ≤ wv19.heap.size := hq20.size
           have HA25 := hid (Qe HA14.out hq20)
           replace hn1 : LneNew (w3.alloc (.cells #[.int .i64 0, .slice none 0 0, .int .i64 0, .bool false, .bool false, .bool false, .bool false, .bool false, .bool false, .bool false, .bool false] 71)).heap.size wv19 v1 l1 := hn1
           replace hf1 : ∀ w'', Since (w3.alloc (.cells #[.int .i64 0, .slice none 0 0, .int .i64 0, .bool false, .bool false, .bool false, .bool false, .bool false, .bool false, .bool false, .bool false] 71)).heap.size wv19 w'' → FrmAt w'' vf1 g := hf1
           obtain ⟨nx1, st1, hi1, d0, d1, d2, d3, d4, d5, d6, d7, p1, c1, sq1, el, ev, _, _, _⟩ := hn1.spell
           subst ev
           obtain ⟨vl1, vg1, vc1, ef, ⟨gl, hl, e4, _⟩, ⟨gg, hg2, e5, _⟩, ⟨gc, hc2, e6, _⟩⟩ := id (hf1 wv19 (Since.refl _ _))
           subst e4 e5 e6 ef
           unfold frmV at hf1
           unfold frmV
           have HN1 := hid hn1
           have HF1 := hid hf1
           have HEL := hid el
           have hB26 : Below wv19.heap.size wv19 wv19 := Below.refl _ _
           clear hn1 hf1 el hq20d
           refine hK.out _ _ (HS5.out _ hwx22) (fun _ => ?_)
           clear hK K'
           refine takeF 14 38 ?v26 rfl (Or.inl ⟨by rfl, ?hy26⟩) ?rest26
           case hy26 => intro wz hSw; (try dsimp only at hSw); go_simp; try with_reducible rfl
           simp only [Act.put, List.setIfInBounds_toArray, List.set_cons_zero, List.set_cons_succ]
           refine takeF 15 53 ?v27 rfl (Or.inl ⟨by rfl, ?hy27⟩) ?rest27
           case hy27 => intro wz hSw; (try dsimp only at hSw); go_simp; try with_reducible rfl
           simp only [Act.put, List.setIfInBounds_toArray, List.set_cons_zero, List.set_cons_succ]
           refine takeF 16 54 ?v28 rfl (Or.inl ⟨by rfl, ?hy28⟩) ?rest28
           case hy28 => intro wz hSw; (try dsimp only at hSw); go_simp; try with_reducible rfl
           simp only [Act.put, List.setIfInBounds_toArray, List.set_cons_zero, List.set_cons_succ]
           refine takeF 17 55 ?v29 rfl (Or.inl ⟨by rfl, ?hy29⟩) ?rest29
           case hy29 => intro wz hSw; (try dsimp only at hSw); go_simp; try with_reducible rfl
           simp only [Act.put, List.setIfInBounds_toArray, List.set_cons_zero, List.set_cons_succ]
           have hMl : M < w3.heap.size := Qw HM0.out
           have hs3 := hb3.size
           have hAB : w3.heap.size < (w3.alloc (.cells #[.int .i64 0, .slice none 0 0, .int .i64 0, .bool false, .bool false, .bool false, .bool false, .bool false, .bool false, .bool false, .bool false] 71)).heap.size ∨ wv19.heap.size ≤ w3.heap.size := by omega
           have hMB : M < (w3.alloc (.cells #[.int .i64 0, .slice none 0 0, .int .i64 0, .bool false, .bool false, .bool false, .bool false, .bool false, .bool false, .bool false, .bool false] 71)).heap.size := by omega
           have hAM : w3.heap.size ≠ M := by omega
           have hAw : w.heap.size ≤ w3.heap.size := by omega
           have hFBB := hB26
           have q0 := Qa HA25.out 0
           have qf0 := Qb HA25.out 0
           have q1 := Qa HA25.out 1
           have qf1 := Qb HA25.out 1
           have q2 := Qa HA25.out 2
           have qf2 := Qb HA25.out 2
           have q3 := Qa HA25.out 3
           have qf3 := Qb HA25.out 3
           have q4 := Qa HA25.out 4
           have qf4 := Qb HA25.out 4
           have q5 := Qa HA25.out 5
           have qf5 := Qb HA25.out 5
           have q6 := Qa HA25.out 6
           have qf6 := Qb HA25.out 6
           have q7 := Qa HA25.out 7
           have qf7 := Qb HA25.out 7
           have q8 := Qa HA25.out 8
           have qf8 := Qb HA25.out 8
           have q9 := Qa HA25.out 9
           have qf9 := Qb HA25.out 9
           have q10 := Qa HA25.out 10
           have qf10 := Qb HA25.out 10
           have hS1 := Qj wv19 (w3.heap.size) (.int .i64 nx1) (.slice p1 st1.length c1) (.int .i64 hi1) (.bool d0) (.bool d1) (.bool d2) (.bool d3) (.bool d4) (.bool d5) (.bool d6) (.bool d7)
           have hbE := hwx22.grown hS1 hwx22.size (fun k hk => by have := Option.some.inj hk; omega)
           have HX1 := hid (Ql (.int .i64 nx1) (.slice p1 st1.length c1) (.int .i64 hi1) (.bool d0) (.bool d1) (.bool d2) (.bool d3) (.bool d4) (.bool d5) (.bool d6) (.bool d7) HA25.out)
           have hY1 := Qn HM23.out (Ne.symm hAM) hS1
           have HS1 := hid hS1
           have HBE := hid hbE
           clear hS1 hbE
           refine wpAnyH_ready (rs := [19]) (by as_aux_lemma => kernel_rfl) (by simp) ?_
           refine (AllReadyH.cons rfl (fun K' hK => ?_) AllReadyH.nil)
           go_simp
           refine hK.out _ _ (HS5.out _ HBE.out) (fun _ => ?_)
           clear hK K'
           clear q0 qf0 q1 qf1 q2 qf2 q3 qf3 q4 qf4 q5 qf5 q6 qf6 q7 qf7 q8 qf8 q9 qf9 q10 qf10
           have q0 := Qa hY1 0
           have qf0 := Qb hY1 0
           have q1 := Qa hY1 1
           have qf1 := Qb hY1 1
           have q2 := Qa hY1 2
           have qf2 := Qb hY1 2
           have q3 := Qa hY1 3
           have qf3 := Qb hY1 3
           have q4 := Qa hY1 4
           have qf4 := Qb hY1 4
           have q5 := Qa hY1 5
           have qf5 := Qb hY1 5
           have q6 := Qa hY1 6
           have qf6 := Qb hY1 6
           have q7 := Qa hY1 7
           have qf7 := Qb hY1 7
           have q8 := Qa hY1 8
           have qf8 := Qb hY1 8
           have q9 := Qa hY1 9
           have qf9 := Qb hY1 9
           have q10 := Qa hY1 10
           have qf10 := Qb hY1 10
           have HY1 := hid hY1
           clear hY1
           have hS2 := Qj (st11 wv19 (w3.heap.size) (.int .i64 nx1) (.slice p1 st1.length c1) (.int .i64 hi1) (.bool d0) (.bool d1) (.bool d2) (.bool d3) (.bool d4) (.bool d5) (.bool d6) (.bool d7)) M (.int .i64 g.fr) (.int .i64 g.to) (.int .i64 g.seq) (.bool g.ack) (.int .i64 g.thread) (.int .i64 g.mail.host) (.int .i64 g.mail.thread) (.slice gl g.mail.label.length hl) (.slice gg g.mail.grants.length hg2) (.string ⟨g.mail.text.toArray⟩) (.slice gc g.certs.length hc2)
           have hbE2 := HBE.out.grown hS2 HBE.out.size (fun k hk => by have := Option.some.inj hk; omega)
           have HS2 := hid hS2
           have HBE2 := hid hbE2
           clear hS2 hbE2
           unfold st11 at *
           refine wpAnyH_ready (rs := [20]) (by as_aux_lemma => kernel_rfl) (by simp) ?_
           refine (AllReadyH.cons rfl (fun K' hK => ?_) AllReadyH.nil)
           go_simp
           refine hK.out _ _ (HS5.out _ HBE2.out) (fun _ => ?_)
           clear hK K'
           clear q0 qf0 q1 qf1 q2 qf2 q3 qf3 q4 qf4 q5 qf5 q6 qf6 q7 qf7 q8 qf8 q9 qf9 q10 qf10
           refine takeF 21 14 ?v30 rfl (Or.inl ⟨by rfl, ?hy30⟩) ?rest30
           case hy30 => intro wz hSw; (try dsimp only at hSw); go_simp; try with_reducible rfl
           simp only [Act.put, List.setIfInBounds_toArray, List.set_cons_zero, List.set_cons_succ]
           refine wpAnyH_done (by as_aux_lemma => kernel_rfl) ?_ _
           go_wp2_with fail
           go_meet
           have hSE : Since ((w3.alloc (.cells #[.int .i64 0, .slice none 0 0, .int .i64 0, .bool false, .bool false, .bool false, .bool false, .bool false, .bool false, .bool false, .bool false] 71)).heap.size) wv19 (st11 (st11 wv19 (w3.heap.size) (.int .i64 nx1) (.slice p1 st1.length c1) (.int .i64 hi1) (.bool d0) (.bool d1) (.bool d2) (.bool d3) (.bool d4) (.bool d5) (.bool d6) (.bool d7)) M (.int .i64 g.fr) (.int .i64 g.to) (.int .i64 g.seq) (.bool g.ack) (.int .i64 g.thread) (.int .i64 g.mail.host) (.int .i64 g.mail.thread) (.slice gl g.mail.label.length hl) (.slice gg g.mail.grants.length hg2) (.string ⟨g.mail.text.toArray⟩) (.slice gc g.certs.length hc2)) := fun k h1 h2 => by
            rw [HS2.out.block k (Nat.lt_of_lt_of_le h2 (Nat.le_trans hFBB.size HS1.out.size)) (fun e => by have := Option.some.inj e; omega), HS1.out.block k (Nat.lt_of_lt_of_le h2 hFBB.size) (fun e => by have := Option.some.inj e; omega)]
           have hsz : wv19.heap.size ≤ (st11 (st11 wv19 (w3.heap.size) (.int .i64 nx1) (.slice p1 st1.length c1) (.int .i64 hi1) (.bool d0) (.bool d1) (.bool d2) (.bool d3) (.bool d4) (.bool d5) (.bool d6) (.bool d7)) M (.int .i64 g.fr) (.int .i64 g.to) (.int .i64 g.seq) (.bool g.ack) (.int .i64 g.thread) (.int .i64 g.mail.host) (.int .i64 g.mail.thread) (.slice gl g.mail.label.length hl) (.slice gg g.mail.grants.length hg2) (.string ⟨g.mail.text.toArray⟩) (.slice gc g.certs.length hc2)).heap.size := Nat.le_trans hFBB.size (Nat.le_trans HS1.out.size HS2.out.size)
           have hbw : w.heap.size ≤ (w3.alloc (.cells #[.int .i64 0, .slice none 0 0, .int .i64 0, .bool false, .bool false, .bool false, .bool false, .bool false, .bool false, .bool false, .bool false] 71)).heap.size := by omega
           exact ⟨w3.heap.size, (w3.alloc (.cells #[.int .i64 0, .slice none 0 0, .int .i64 0, .bool false, .bool false, .bool false, .bool false, .bool false, .bool false, .bool false, .bool false] 71)).heap.size, nx1, st1, hi1, d0, d1, d2, d3, d4, d5, d6, d7, p1, c1, gl, gg, gc, hl, hg2, hc2, rfl, rfl, HEL.out, Qn HX1.out hAM HS2.out, Ql (.int .i64 g.fr) (.int .i64 g.to) (.int .i64 g.seq) (.bool g.ack) (.int .i64 g.thread) (.int .i64 g.mail.host) (.int .i64 g.mail.thread) (.slice gl g.mail.label.length hl) (.slice gg g.mail.grants.length hg2) (.string ⟨g.mail.text.toArray⟩) (.slice gc g.certs.length hc2) HY1.out, hbw, by rw [← HEL.out]; exact HN1.out.since hSE hsz, fun w'' h => HF1.out w'' (hSE.trans (h.mono hbw) hsz), HBE2.out, hAw⟩
     · skip
       go_simp
       have HA27 := hid (heap_alloc_new w3 (.cells #[.int .i64 0, .slice none 0 0, .int .i64 0, .bool false, .bool false, .bool false, .bool false, .bool false, .bool false, .bool false, .bool false] 71))
       have HM28 := hid (Qz HM0.out (.cells #[.int .i64 0, .slice none 0 0, .int .i64 0, .bool false, .bool false, .bool false, .bool false, .bool false, .bool false, .bool false, .bool false] 71))
       have hbx29 : Below w3.heap.size w3 (w3.alloc (.cells #[.int .i64 0, .slice none 0 0, .int .i64 0, .bool false, .bool false, .bool false, .bool false, .bool false, .bool false, .bool false, .bool false] 71)) := hb33.alloc hb33.size _
       have hwx30 : Below w.heap.size w (w3.alloc (.cells #[.int .i64 0, .slice none 0 0, .int .i64 0, .bool false, .bool false, .bool false, .bool false, .bool false, .bool false, .bool false, .bool false] 71)) := hb3.alloc hb3.size _
       have hz31 : (w3.alloc (.cells #[.int .i64 0, .slice none 0 0, .int .i64 0, .bool false, .bool false, .bool false, .bool false, .bool false, .bool false, .bool false, .bool false] 71)).heap.size = w3.heap.size + 1 := QM _ _
       refine hK.out _ _ (HS5.out _ ((hwx30).drew)) (fun _ => ?_)
       clear hK K'
       refine wpAnyH_ready (rs := [8]) (by as_aux_lemma => kernel_rfl) (by simp) ?_
       refine (AllReadyH.cons rfl (fun K' hK => ?_) AllReadyH.nil)
       · skip
         have m0 := Qa HM28.out 0
         have m1 := Qa HM28.out 1
         have m2 := Qa HM28.out 2
         have m3 := Qa HM28.out 3
         have m4 := Qa HM28.out 4
         have m5 := Qa HM28.out 5
         have m6 := Qa HM28.out 6
         have m7 := Qa HM28.out 7
         have m8 := Qa HM28.out 8
         have m9 := Qa HM28.out 9
         have m10 := Qa HM28.out 10
         go_simp
         refine hK.out _ _ (HS5.out _ ((hwx30).drew)) (fun _ => ?_)
         clear hK K'
         clear m0 m1 m2 m3 m4 m5 m6 m7 m8 m9 m10
         refine wpAnyH_ready (rs := [13]) (by as_aux_lemma => kernel_rfl) (by simp) ?_
         refine (AllReadyH.cons rfl (fun K' hK => ?_) AllReadyH.nil)
         · skip
           go_simp
           go_wp2_with (go_at_call 130; refine (hsend _ ((hbx29).drew)).mono ?_; rintro e wv32 ⟨v1, vf1, rfl, hn1, hf1, hq33d⟩)
           have hq33 : Below (w3.alloc (.cells #[.int .i64 0, .slice none 0 0, .int .i64 0, .bool false, .bool false, .bool false, .bool false, .bool false, .bool false, .bool false, .bool false] 71)).heap.size (w3.alloc (.cells #[.int .i64 0, .slice none 0 0, .int .i64 0, .bool false, .bool false, .bool false, .bool false, .bool false, .bool false, .bool false, .bool false] 71)) wv32 := ⟨hq33d.os, hq33d.tape, hq33d.output, hq33d.size, hq33d.block⟩
           have hbx34 := Qc hbx29 hq33
           have hwx35 := Qc hwx30 hq33
           have HM36 := hid (Qe HM28.out hq33)
           have hz37 : (w3.alloc (.cells #[.int .i64 0, .slice none 0 0, .int .i64 0, .bool false, .bool false, .bool false, .bool false, .bool false, .bool false, .bool false, .bool false] 71)).heap.size ≤ wv32.heap.size := hq33.size
           have HA38 := hid (Qe HA27.out hq33)
           replace hn1 : LneNew (w3.alloc (.cells #[.int .i64 0, .slice none 0 0, .int .i64 0, .bool false, .bool false, .bool false, .bool false, .bool false, .bool false, .bool false, .bool false] 71)).heap.size wv32 v1 l1 := hn1
           replace hf1 : ∀ w'', Since (w3.alloc (.cells #[.int .i64 0, .slice none 0 0, .int .i64 0, .bool false, .bool false, .bool false, .bool false, .bool false, .bool false, .bool false, .bool false] 71)).heap.size wv32 w'' → FrmAt w'' vf1 g := hf1
           obtain ⟨nx1, st1, hi1, d0, d1, d2, d3, d4, d5, d6, d7, p1, c1, sq1, el, ev, _, _, _⟩ := hn1.spell
           subst ev
           obtain ⟨vl1, vg1, vc1, ef, ⟨gl, hl, e4, _⟩, ⟨gg, hg2, e5, _⟩, ⟨gc, hc2, e6, _⟩⟩ := id (hf1 wv32 (Since.refl _ _))
           subst e4 e5 e6 ef
           unfold frmV at hf1
           unfold frmV
           have HN1 := hid hn1
           have HF1 := hid hf1
           have HEL := hid el
           have hB39 : Below wv32.heap.size wv32 wv32 := Below.refl _ _
           clear hn1 hf1 el hq33d
           refine hK.out _ _ (HS5.out _ hwx35) (fun _ => ?_)
           clear hK K'
           refine takeF 14 38 ?v31 rfl (Or.inl ⟨by rfl, ?hy31⟩) ?rest31
           case hy31 => intro wz hSw; (try dsimp only at hSw); go_simp; try with_reducible rfl
           simp only [Act.put, List.setIfInBounds_toArray, List.set_cons_zero, List.set_cons_succ]
           refine takeF 15 53 ?v32 rfl (Or.inl ⟨by rfl, ?hy32⟩) ?rest32
           case hy32 => intro wz hSw; (try dsimp only at hSw); go_simp; try with_reducible rfl
           simp only [Act.put, List.setIfInBounds_toArray, List.set_cons_zero, List.set_cons_succ]
           refine takeF 16 54 ?v33 rfl (Or.inl ⟨by rfl, ?hy33⟩) ?rest33
           case hy33 => intro wz hSw; (try dsimp only at hSw); go_simp; try with_reducible rfl
           simp only [Act.put, List.setIfInBounds_toArray, List.set_cons_zero, List.set_cons_succ]
           refine takeF 17 55 ?v34 rfl (Or.inl ⟨by rfl, ?hy34⟩) ?rest34
           case hy34 => intro wz hSw; (try dsimp only at hSw); go_simp; try with_reducible rfl
           simp only [Act.put, List.setIfInBounds_toArray, List.set_cons_zero, List.set_cons_succ]
           have hMl : M < w3.heap.size := Qw HM0.out
           have hs3 := hb3.size
           have hAB : w3.heap.size < (w3.alloc (.cells #[.int .i64 0, .slice none 0 0, .int .i64 0, .bool false, .bool false, .bool false, .bool false, .bool false, .bool false, .bool false, .bool false] 71)).heap.size ∨ wv32.heap.size ≤ w3.heap.size := by omega
           have hMB : M < (w3.alloc (.cells #[.int .i64 0, .slice none 0 0, .int .i64 0, .bool false, .bool false, .bool false, .bool false, .bool false, .bool false, .bool false, .bool false] 71)).heap.size := by omega
           have hAM : w3.heap.size ≠ M := by omega
           have hAw : w.heap.size ≤ w3.heap.size := by omega
           have hFBB := hB39
           have q0 := Qa HA38.out 0
           have qf0 := Qb HA38.out 0
           have q1 := Qa HA38.out 1
           have qf1 := Qb HA38.out 1
           have q2 := Qa HA38.out 2
           have qf2 := Qb HA38.out 2
           have q3 := Qa HA38.out 3
           have qf3 := Qb HA38.out 3
           have q4 := Qa HA38.out 4
           have qf4 := Qb HA38.out 4
           have q5 := Qa HA38.out 5
           have qf5 := Qb HA38.out 5
           have q6 := Qa HA38.out 6
           have qf6 := Qb HA38.out 6
           have q7 := Qa HA38.out 7
           have qf7 := Qb HA38.out 7
           have q8 := Qa HA38.out 8
           have qf8 := Qb HA38.out 8
           have q9 := Qa HA38.out 9
           have qf9 := Qb HA38.out 9
           have q10 := Qa HA38.out 10
           have qf10 := Qb HA38.out 10
           have hS1 := Qj wv32 (w3.heap.size) (.int .i64 nx1) (.slice p1 st1.length c1) (.int .i64 hi1) (.bool d0) (.bool d1) (.bool d2) (.bool d3) (.bool d4) (.bool d5) (.bool d6) (.bool d7)
           have hbE := hwx35.grown hS1 hwx35.size (fun k hk => by have := Option.some.inj hk; omega)
           have HX1 := hid (Ql (.int .i64 nx1) (.slice p1 st1.length c1) (.int .i64 hi1) (.bool d0) (.bool d1) (.bool d2) (.bool d3) (.bool d4) (.bool d5) (.bool d6) (.bool d7) HA38.out)
           have hY1 := Qn HM36.out (Ne.symm hAM) hS1
           have HS1 := hid hS1
           have HBE := hid hbE
           clear hS1 hbE
           refine wpAnyH_ready (rs := [19]) (by as_aux_lemma => kernel_rfl) (by simp) ?_
           refine (AllReadyH.cons rfl (fun K' hK => ?_) AllReadyH.nil)
           go_simp
           refine hK.out _ _ (HS5.out _ HBE.out) (fun _ => ?_)
           clear hK K'
           clear q0 qf0 q1 qf1 q2 qf2 q3 qf3 q4 qf4 q5 qf5 q6 qf6 q7 qf7 q8 qf8 q9 qf9 q10 qf10
           have q0 := Qa hY1 0
           have qf0 := Qb hY1 0
           have q1 := Qa hY1 1
           have qf1 := Qb hY1 1
           have q2 := Qa hY1 2
           have qf2 := Qb hY1 2
           have q3 := Qa hY1 3
           have qf3 := Qb hY1 3
           have q4 := Qa hY1 4
           have qf4 := Qb hY1 4
           have q5 := Qa hY1 5
           have qf5 := Qb hY1 5
           have q6 := Qa hY1 6
           have qf6 := Qb hY1 6
           have q7 := Qa hY1 7
           have qf7 := Qb hY1 7
           have q8 := Qa hY1 8
           have qf8 := Qb hY1 8
           have q9 := Qa hY1 9
           have qf9 := Qb hY1 9
           have q10 := Qa hY1 10
           have qf10 := Qb hY1 10
           have HY1 := hid hY1
           clear hY1
           have hS2 := Qj (st11 wv32 (w3.heap.size) (.int .i64 nx1) (.slice p1 st1.length c1) (.int .i64 hi1) (.bool d0) (.bool d1) (.bool d2) (.bool d3) (.bool d4) (.bool d5) (.bool d6) (.bool d7)) M (.int .i64 g.fr) (.int .i64 g.to) (.int .i64 g.seq) (.bool g.ack) (.int .i64 g.thread) (.int .i64 g.mail.host) (.int .i64 g.mail.thread) (.slice gl g.mail.label.length hl) (.slice gg g.mail.grants.length hg2) (.string ⟨g.mail.text.toArray⟩) (.slice gc g.certs.length hc2)
           have hbE2 := HBE.out.grown hS2 HBE.out.size (fun k hk => by have := Option.some.inj hk; omega)
           have HS2 := hid hS2
           have HBE2 := hid hbE2
           clear hS2 hbE2
           unfold st11 at *
           refine wpAnyH_ready (rs := [20]) (by as_aux_lemma => kernel_rfl) (by simp) ?_
           refine (AllReadyH.cons rfl (fun K' hK => ?_) AllReadyH.nil)
           go_simp
           refine hK.out _ _ (HS5.out _ HBE2.out) (fun _ => ?_)
           clear hK K'
           clear q0 qf0 q1 qf1 q2 qf2 q3 qf3 q4 qf4 q5 qf5 q6 qf6 q7 qf7 q8 qf8 q9 qf9 q10 qf10
           refine takeF 21 14 ?v35 rfl (Or.inl ⟨by rfl, ?hy35⟩) ?rest35
           case hy35 => intro wz hSw; (try dsimp only at hSw); go_simp; try with_reducible rfl
           simp only [Act.put, List.setIfInBounds_toArray, List.set_cons_zero, List.set_cons_succ]
           refine wpAnyH_done (by as_aux_lemma => kernel_rfl) ?_ _
           go_wp2_with fail
           go_meet
           have hSE : Since ((w3.alloc (.cells #[.int .i64 0, .slice none 0 0, .int .i64 0, .bool false, .bool false, .bool false, .bool false, .bool false, .bool false, .bool false, .bool false] 71)).heap.size) wv32 (st11 (st11 wv32 (w3.heap.size) (.int .i64 nx1) (.slice p1 st1.length c1) (.int .i64 hi1) (.bool d0) (.bool d1) (.bool d2) (.bool d3) (.bool d4) (.bool d5) (.bool d6) (.bool d7)) M (.int .i64 g.fr) (.int .i64 g.to) (.int .i64 g.seq) (.bool g.ack) (.int .i64 g.thread) (.int .i64 g.mail.host) (.int .i64 g.mail.thread) (.slice gl g.mail.label.length hl) (.slice gg g.mail.grants.length hg2) (.string ⟨g.mail.text.toArray⟩) (.slice gc g.certs.length hc2)) := fun k h1 h2 => by
            rw [HS2.out.block k (Nat.lt_of_lt_of_le h2 (Nat.le_trans hFBB.size HS1.out.size)) (fun e => by have := Option.some.inj e; omega), HS1.out.block k (Nat.lt_of_lt_of_le h2 hFBB.size) (fun e => by have := Option.some.inj e; omega)]
           have hsz : wv32.heap.size ≤ (st11 (st11 wv32 (w3.heap.size) (.int .i64 nx1) (.slice p1 st1.length c1) (.int .i64 hi1) (.bool d0) (.bool d1) (.bool d2) (.bool d3) (.bool d4) (.bool d5) (.bool d6) (.bool d7)) M (.int .i64 g.fr) (.int .i64 g.to) (.int .i64 g.seq) (.bool g.ack) (.int .i64 g.thread) (.int .i64 g.mail.host) (.int .i64 g.mail.thread) (.slice gl g.mail.label.length hl) (.slice gg g.mail.grants.length hg2) (.string ⟨g.mail.text.toArray⟩) (.slice gc g.certs.length hc2)).heap.size := Nat.le_trans hFBB.size (Nat.le_trans HS1.out.size HS2.out.size)
           have hbw : w.heap.size ≤ (w3.alloc (.cells #[.int .i64 0, .slice none 0 0, .int .i64 0, .bool false, .bool false, .bool false, .bool false, .bool false, .bool false, .bool false, .bool false] 71)).heap.size := by omega
           exact ⟨w3.heap.size, (w3.alloc (.cells #[.int .i64 0, .slice none 0 0, .int .i64 0, .bool false, .bool false, .bool false, .bool false, .bool false, .bool false, .bool false, .bool false] 71)).heap.size, nx1, st1, hi1, d0, d1, d2, d3, d4, d5, d6, d7, p1, c1, gl, gg, gc, hl, hg2, hc2, rfl, rfl, HEL.out, Qn HX1.out hAM HS2.out, Ql (.int .i64 g.fr) (.int .i64 g.to) (.int .i64 g.seq) (.bool g.ack) (.int .i64 g.thread) (.int .i64 g.mail.host) (.int .i64 g.mail.thread) (.slice gl g.mail.label.length hl) (.slice gg g.mail.grants.length hg2) (.string ⟨g.mail.text.toArray⟩) (.slice gc g.certs.length hc2) HY1.out, hbw, by rw [← HEL.out]; exact HN1.out.since hSE hsz, fun w'' h => HF1.out w'' (hSE.trans (h.mono hbw) hsz), HBE2.out, hAw⟩
    case rest =>
     obtain ⟨A, B1, nx1, st1, hi1, d0, d1, d2, d3, d4, d5, d6, d7, p1, c1, gl, gg, gc, hl, hg2, hc2, rfl, rfl, el, hA, hM4, hB1, hln, hfr, hb4, hAw⟩ := hcut
     obtain ⟨w4, hw4⟩ : ∃ w4, w4 = wc := ⟨_, rfl⟩
     subst hw4
     have HA4 := hid hA
     have HM4 := hid hM4
     have HLN4 := hid hln
     have HFR4 := hid hfr
     have HC4 := hid (HC.out.below hb4)
     clear hA hM4 hln hfr hsend
     by_cases h0 : cd = 0
     rotate_left
     · have HE2 : Hid (awayC C a b t m = (C, cd)) := hid (by rw [HE.out, if_neg h0])
       have hne : (cd != 0) = true := by simpa using h0
       clear h0
       go_wp2
       go_ret
       rw [HE2.out]
       exact ⟨rfl, _, _, HC4.out, CStep.below hb4⟩
     · have HE2 : Hid (awayC C a b t m = (putC (setLi C a b ⟨nx1, st1, hi1, [d0, d1, d2, d3, d4, d5, d6, d7]⟩) g, 0)) := hid (by rw [HE.out, if_pos h0, el])
       subst h0
       clear el
       obtain ⟨wd, hwd⟩ : ∃ wd, wd = w4.drew := ⟨_, rfl⟩
       have hbd : Below w4.heap.size w4 wd := by rw [hwd]; exact (Below.refl _ _).drew
       have hsd : w4.heap.size ≤ wd.heap.size := hbd.size
       have HCD := hid (HC4.out.below hbd)
       have HAD := hid (Qe HA4.out hbd)
       have HMD := hid (Qe HM4.out hbd)
       have HLND := hid (HLN4.out.since (QU hbd) hsd)
       have HFRD : Hid (∀ w'', Since w.heap.size wd w'' → FrmAt w'' (.agg #[.int .i64 g.fr, .int .i64 g.to, .int .i64 g.seq, .bool g.ack, .int .i64 g.thread, .int .i64 g.mail.host, .int .i64 g.mail.thread, .slice gl g.mail.label.length hl, .slice gg g.mail.grants.length hg2, .string ⟨g.mail.text.toArray⟩, .slice gc g.certs.length hc2]) g) := hid (fun w'' h => HFR4.out w'' ((QU hbd).trans h hsd))
       have hbdw := Qc hb4 hbd
       have HRO := hid (HLND.out.ro (F := F) (fun k hk => Nat.lt_of_lt_of_le (HC.out.fin k hk) hB1))
       obtain ⟨vs4, ev4, _, hro⟩ := HRO.out
       have hv4 : vs4 = .slice p1 st1.length c1 := by injection ev4 with ev4; simp only [lneC] at ev4; injection ev4 with ev4; injection ev4 with _ ev4; injection ev4 with ev4 _; exact ev4.symm
       subst hv4
       have hST : CluAt (((((((((((wd.setCell ⟨cb, 10 + a * 44 + b * 11, none⟩ (.int .i64 nx1)).setCell ⟨cb, 10 + a * 44 + b * 11 + 1, none⟩ (.slice p1 st1.length c1)).setCell ⟨cb, 10 + a * 44 + b * 11 + 2, none⟩ (.int .i64 hi1)).setCell ⟨cb, 10 + a * 44 + b * 11 + 3, none⟩ (.bool d0)).setCell ⟨cb, 10 + a * 44 + b * 11 + 4, none⟩ (.bool d1)).setCell ⟨cb, 10 + a * 44 + b * 11 + 5, none⟩ (.bool d2)).setCell ⟨cb, 10 + a * 44 + b * 11 + 6, none⟩ (.bool d3)).setCell ⟨cb, 10 + a * 44 + b * 11 + 7, none⟩ (.bool d4)).setCell ⟨cb, 10 + a * 44 + b * 11 + 8, none⟩ (.bool d5)).setCell ⟨cb, 10 + a * 44 + b * 11 + 9, none⟩ (.bool d6)).setCell ⟨cb, 10 + a * 44 + b * 11 + 10, none⟩ (.bool d7)) cb F { Z with vs := fun a' b' => if a' = a ∧ b' = b then .slice p1 st1.length c1 else Z.vs a' b' } (setLi C a b ⟨nx1, st1, hi1, [d0, d1, d2, d3, d4, d5, d6, d7]⟩) ∧ CStep cb wd F Z (((((((((((wd.setCell ⟨cb, 10 + a * 44 + b * 11, none⟩ (.int .i64 nx1)).setCell ⟨cb, 10 + a * 44 + b * 11 + 1, none⟩ (.slice p1 st1.length c1)).setCell ⟨cb, 10 + a * 44 + b * 11 + 2, none⟩ (.int .i64 hi1)).setCell ⟨cb, 10 + a * 44 + b * 11 + 3, none⟩ (.bool d0)).setCell ⟨cb, 10 + a * 44 + b * 11 + 4, none⟩ (.bool d1)).setCell ⟨cb, 10 + a * 44 + b * 11 + 5, none⟩ (.bool d2)).setCell ⟨cb, 10 + a * 44 + b * 11 + 6, none⟩ (.bool d3)).setCell ⟨cb, 10 + a * 44 + b * 11 + 7, none⟩ (.bool d4)).setCell ⟨cb, 10 + a * 44 + b * 11 + 8, none⟩ (.bool d5)).setCell ⟨cb, 10 + a * 44 + b * 11 + 9, none⟩ (.bool d6)).setCell ⟨cb, 10 + a * 44 + b * 11 + 10, none⟩ (.bool d7)) F { Z with vs := fun a' b' => if a' = a ∧ b' = b then .slice p1 st1.length c1 else Z.vs a' b' } := HCD.out.setLine ha hb (l := ⟨nx1, st1, hi1, [d0, d1, d2, d3, d4, d5, d6, d7]⟩) hro rfl
       have HA5 := hid (QI hST.2 HCD.out HAD.out (by decide) (by decide) (by decide) (by decide) (by decide) (by decide))
       have HM5 := hid (QI hST.2 HCD.out HMD.out (by decide) (by decide) (by decide) (by decide) (by decide) (by decide))
       have HFR5 := hid (HFRD.out _ (hST.2.since HCD.out HC.out.fin))
       have HST := hid hST
       clear hST hro ev4 HRO
       have HS8 : Hid (∀ w' : World, w'.heap[A]? = some (.cells #[.int .i64 nx1, .slice p1 st1.length c1, .int .i64 hi1, .bool d0, .bool d1, .bool d2, .bool d3, .bool d4, .bool d5, .bool d6, .bool d7] 71 (0, 0)) → w'.cell? ⟨A, 0, none⟩ = some (.int .i64 nx1) ∧ w'.cell? ⟨A, 1, none⟩ = some (.slice p1 st1.length c1) ∧ w'.cell? ⟨A, 2, none⟩ = some (.int .i64 hi1) ∧ w'.cell? ⟨A, 3, none⟩ = some (.bool d0) ∧ w'.cell? ⟨A, 4, none⟩ = some (.bool d1) ∧ w'.cell? ⟨A, 5, none⟩ = some (.bool d2) ∧ w'.cell? ⟨A, 6, none⟩ = some (.bool d3) ∧ w'.cell? ⟨A, 7, none⟩ = some (.bool d4) ∧ w'.cell? ⟨A, 8, none⟩ = some (.bool d5) ∧ w'.cell? ⟨A, 9, none⟩ = some (.bool d6) ∧ w'.cell? ⟨A, 10, none⟩ = some (.bool d7)) := hid (fun w' h => cells11a h)
       obtain ⟨⟨m0, m1, m2, m3, m4, m5, m6, m7, m8, m9, m10⟩, mf⟩ := HCD.out.lcells ha hb rfl rfl rfl
       rw [HVS.out] at m1
       have g0 := mf (10 + a * 44 + b * 11)
       have g1 := mf (10 + a * 44 + b * 11 + 1)
       have g2 := mf (10 + a * 44 + b * 11 + 2)
       have g3 := mf (10 + a * 44 + b * 11 + 3)
       have g4 := mf (10 + a * 44 + b * 11 + 4)
       have g5 := mf (10 + a * 44 + b * 11 + 5)
       have g6 := mf (10 + a * 44 + b * 11 + 6)
       have g7 := mf (10 + a * 44 + b * 11 + 7)
       have g8 := mf (10 + a * 44 + b * 11 + 8)
       have g9 := mf (10 + a * 44 + b * 11 + 9)
       have g10 := mf (10 + a * 44 + b * 11 + 10)
       have hlt4 := HCD.out.lt
       go_upto_region 8 with fail
       refine wp_region_held_drew (S := (fun w' => w'.cell? ⟨A, 0, none⟩ = some (.int .i64 nx1) ∧ w'.cell? ⟨A, 1, none⟩ = some (.slice p1 st1.length c1) ∧ w'.cell? ⟨A, 2, none⟩ = some (.int .i64 hi1) ∧ w'.cell? ⟨A, 3, none⟩ = some (.bool d0) ∧ w'.cell? ⟨A, 4, none⟩ = some (.bool d1) ∧ w'.cell? ⟨A, 5, none⟩ = some (.bool d2) ∧ w'.cell? ⟨A, 6, none⟩ = some (.bool d3) ∧ w'.cell? ⟨A, 7, none⟩ = some (.bool d4) ∧ w'.cell? ⟨A, 8, none⟩ = some (.bool d5) ∧ w'.cell? ⟨A, 9, none⟩ = some (.bool d6) ∧ w'.cell? ⟨A, 10, none⟩ = some (.bool d7))) (by as_aux_lemma => kernel_rfl) (HS8.out _ HA4.out) (fun _hHeld => ?_)
       rw [← hwd]
       clear hwd
       have hHeld2 := HS8.out _ HAD.out
       refine takeF 0 59 ?v36 rfl (Or.inl ⟨by rfl, ?hy36⟩) ?rest36
       case hy36 => intro wz hSw; (try dsimp only at hSw); go_simp; try with_reducible rfl
       simp only [Act.put, List.setIfInBounds_toArray, List.set_cons_zero, List.set_cons_succ]
       refine takeF 1 60 ?v37 rfl (Or.inl ⟨by rfl, ?hy37⟩) ?rest37
       case hy37 => intro wz hSw; (try dsimp only at hSw); go_simp; try with_reducible rfl
       simp only [Act.put, List.setIfInBounds_toArray, List.set_cons_zero, List.set_cons_succ]
       refine takeF 2 61 ?v38 rfl (Or.inl ⟨by rfl, ?hy38⟩) ?rest38
       case hy38 => intro wz hSw; (try dsimp only at hSw); go_simp; try with_reducible rfl
       simp only [Act.put, List.setIfInBounds_toArray, List.set_cons_zero, List.set_cons_succ]
       refine takeF 3 62 ?v39 rfl (Or.inl ⟨by rfl, ?hy39⟩) ?rest39
       case hy39 => intro wz hSw; (try dsimp only at hSw); go_simp; try with_reducible rfl
       simp only [Act.put, List.setIfInBounds_toArray, List.set_cons_zero, List.set_cons_succ]
       refine takeF 4 63 ?v40 rfl (Or.inl ⟨by rfl, ?hy40⟩) ?rest40
       case hy40 => intro wz hSw; (try dsimp only at hSw); go_simp; try with_reducible rfl
       simp only [Act.put, List.setIfInBounds_toArray, List.set_cons_zero, List.set_cons_succ]
       refine takeF 5 64 ?v41 rfl (Or.inl ⟨by rfl, ?hy41⟩) ?rest41
       case hy41 => intro wz hSw; (try dsimp only at hSw); go_simp; try with_reducible rfl
       simp only [Act.put, List.setIfInBounds_toArray, List.set_cons_zero, List.set_cons_succ]
       refine takeF 6 65 ?v42 rfl (Or.inl ⟨by rfl, ?hy42⟩) ?rest42
       case hy42 => intro wz hSw; (try dsimp only at hSw); go_simp; try with_reducible rfl
       simp only [Act.put, List.setIfInBounds_toArray, List.set_cons_zero, List.set_cons_succ]
       refine takeF 7 66 ?v43 rfl (Or.inl ⟨by rfl, ?hy43⟩) ?rest43
       case hy43 => intro wz hSw; (try dsimp only at hSw); go_simp; try with_reducible rfl
       simp only [Act.put, List.setIfInBounds_toArray, List.set_cons_zero, List.set_cons_succ]
       refine wpAnyH_ready (rs := [8]) (by as_aux_lemma => kernel_rfl) (by simp) ?_
       refine (AllReadyH.cons rfl (fun K' hK => ?_) AllReadyH.nil)
       go_simp
       refine hK.out _ _ (HS8.out _ HA5.out) (fun _ => ?_)
       clear hK K'
       refine wpAnyH_done (by as_aux_lemma => kernel_rfl) ?_ _
       have hput := QdW cb F { Z with vs := fun a' b' => if a' = a ∧ b' = b then .slice p1 st1.length c1 else Z.vs a' b' } (setLi C a b ⟨nx1, st1, hi1, [d0, d1, d2, d3, d4, d5, d6, d7]⟩) _ g _ HST.out.1 (Qaj HG.out a b _).net HFR5.out
       have HST4 := hid ((CStep.below hbdw).trans HST.out.2)
       obtain ⟨q0, q1, q2, q3, q4, q5, q6, q7, q8, q9, q10⟩ := cells11a HM5.out
       generalize (((((((((((wd.setCell ⟨cb, 10 + a * 44 + b * 11, none⟩ (.int .i64 nx1)).setCell ⟨cb, 10 + a * 44 + b * 11 + 1, none⟩ (.slice p1 st1.length c1)).setCell ⟨cb, 10 + a * 44 + b * 11 + 2, none⟩ (.int .i64 hi1)).setCell ⟨cb, 10 + a * 44 + b * 11 + 3, none⟩ (.bool d0)).setCell ⟨cb, 10 + a * 44 + b * 11 + 4, none⟩ (.bool d1)).setCell ⟨cb, 10 + a * 44 + b * 11 + 5, none⟩ (.bool d2)).setCell ⟨cb, 10 + a * 44 + b * 11 + 6, none⟩ (.bool d3)).setCell ⟨cb, 10 + a * 44 + b * 11 + 7, none⟩ (.bool d4)).setCell ⟨cb, 10 + a * 44 + b * 11 + 8, none⟩ (.bool d5)).setCell ⟨cb, 10 + a * 44 + b * 11 + 9, none⟩ (.bool d6)).setCell ⟨cb, 10 + a * 44 + b * 11 + 10, none⟩ (.bool d7)) = w5 at *
       clear m0 m1 m2 m3 m4 m5 m6 m7 m8 m9 m10 mf g0 g1 g2 g3 g4 g5 g6 g7 g8 g9 g10
       go_wp2_with (go_at_call 101; refine hput.mono ?_; rintro e w6 ⟨rfl, G6, Z6, hC6, hS6⟩)
       go_ret
       rw [HE2.out]
       exact ⟨rfl, _, _, hC6, HST4.out.trans hS6⟩
theorem QhI {C : Clu} {h t : Int} {c : Cal} (h1 : 64 < c.text.length) : sendC C h t c = (C, 9) := by
 unfold sendC
 rw [if_pos h1]
theorem Qd5 {C : Clu} {h t : Int} {c : Cal} (h1 : ¬ 64 < c.text.length) (h2 : (hostB c.h && hostB c.t) = false) : sendC C h t c = (C, 4) := by
 unfold sendC
 rw [if_neg h1, h2]
 rfl
theorem Qju {C : Clu} {h t : Int} {c : Cal} {m : Mal} {e : Int} (h1 : ¬ 64 < c.text.length) (h2 : (hostB c.h && hostB c.t) = true) (hl : letterL (kerC C h) t c = (m, e)) (he : e ≠ 0) : sendC C h t c = (C, e) := by
 unfold sendC
 rw [if_neg h1, h2, hl]
 simp only [if_pos]
 rw [if_neg he]
theorem QhJ {C : Clu} {h t : Int} {c : Cal} {m : Mal} (h1 : ¬ 64 < c.text.length) (h2 : (hostB c.h && hostB c.t) = true) (hl : letterL (kerC C h) t c = (m, 0)) (he : c.h = h) : sendC C h t c = (setK C h (deliverL (kerC C h) c.t m), 0) := by
 unfold sendC
 rw [if_neg h1, h2, hl]
 simp only [if_pos]
 rw [if_pos he]
theorem QhL {C : Clu} {h t : Int} {c : Cal} {m : Mal} (h1 : ¬ 64 < c.text.length) (h2 : (hostB c.h && hostB c.t) = true) (hl : letterL (kerC C h) t c = (m, 0)) (he : ¬ c.h = h) : sendC C h t c = awayC C h c.h c.t m := by
 unfold sendC
 rw [if_neg h1, h2, hl]
 simp only [if_pos]
 rw [if_neg he]
set_option linter.unusedSimpArgs false in
set_option maxRecDepth 100000 in
set_option maxHeartbeats 6400000 in
theorem Qkn (cb h t : Nat) (F : List Nat) (Z : CluV) (C : Clu) (vx : Value) (c : Cal) (w : World) (hc : CluAt w cb F Z C) (hg : GoodC C) (h4 : h < 4) (ht4 : t < 4) (hv : CalAt w vx c) :
 Calls Tryz.prog 53 #[.pointer (some ⟨cb, 0, none⟩), .int .i64 h, .int .i64 t, vx] w fun e w' => e = .returned (.int .i64 (sendC C h t c).2) ∧ ∃ G Z', CluAt w' cb G Z' (sendC C h t c).1 ∧ CStep cb w F Z w' G Z' := by
 have HV := hid hv
 obtain ⟨vl, vg, rfl, ⟨pl, cl, rfl, _⟩, ⟨pg, cg, rfl, _⟩⟩ := hv
 unfold calV at HV ⊢
 have HBB := hid (Qd w (.cells #[.int .i64 c.kind, .int .i64 c.h, .int .i64 c.t, .int .i64 c.n, .int .i64 c.c, .slice pl c.label.length cl, .slice pg c.grants.length cg, .string ⟨c.text.toArray⟩] 37))
 have HX0 := hid (heap_alloc_new w (.cells #[.int .i64 c.kind, .int .i64 c.h, .int .i64 c.t, .int .i64 c.n, .int .i64 c.c, .slice pl c.label.length cl, .slice pg c.grants.length cg, .string ⟨c.text.toArray⟩] 37))
 have HC0 := hid (hc.below HBB.out)
 have HC := hid hc
 have HG := hid hg
 have hlt := hc.lt
 clear hc hg
 have hh := fun wx => Qce c.h wx
 have htt := fun wx => Qcm c.t wx
 by_cases g1 : 64 < c.text.length
 · have HP := hid (QhI (C := C) (h := h) (t := t) g1)
   have g2 : ((64 : Int) < c.text.length) := by omega
   go_enter Tryz.func53, Tryz.ntmps53
   go_wp2
   go_ret
   rw [HP.out]
   exact ⟨rfl, _, _, HC0.out, CStep.below HBB.out⟩
 · have g2 : ¬ ((64 : Int) < c.text.length) := by omega
   cases e1 : hostB c.h with
   | false =>
    have HP := hid (Qd5 (C := C) (h := h) (t := t) (c := c) g1 (by rw [e1]; rfl))
    rw [e1] at hh
    go_enter Tryz.func53, Tryz.ntmps53
    go_wp2_with (first | (go_at_call 31; refine (hh _).mono ?_; rintro e w1 ⟨rfl, hw⟩; rw [hw]; clear hw) | (go_at_call 52; refine (htt _).mono ?_; rintro e w1 ⟨rfl, hw⟩; rw [hw]; clear hw))
    go_ret
    rw [HP.out]
    exact ⟨rfl, _, _, HC0.out, CStep.below HBB.out⟩
   | true =>
    rw [e1] at hh
    cases e2 : hostB c.t with
    | false =>
     have HP := hid (Qd5 (C := C) (h := h) (t := t) (c := c) g1 (by rw [e1, e2]; rfl))
     rw [e2] at htt
     go_enter Tryz.func53, Tryz.ntmps53
     go_wp2_with (first | (go_at_call 31; refine (hh _).mono ?_; rintro e w1 ⟨rfl, hw⟩; rw [hw]; clear hw) | (go_at_call 52; refine (htt _).mono ?_; rintro e w1 ⟨rfl, hw⟩; rw [hw]; clear hw))
     go_ret
     rw [HP.out]
     exact ⟨rfl, _, _, HC0.out, CStep.below HBB.out⟩
    | true =>
     rw [e2] at htt
     have HG1 := hid g1
     have H12 : Hid ((hostB c.h && hostB c.t) = true) := hid (by rw [e1, e2]; rfl)
     obtain ⟨b, hb, hb4⟩ : ∃ b : Nat, c.h = b ∧ b < 4 := by
      have : 0 ≤ c.h ∧ c.h < 4 := of_decide_eq_true e1
      exact ⟨c.h.toNat, by omega, by omega⟩
     have HHB := hid hb
     have hgk := HG.out.ks h h4
     have hlk : t < (C.ks h).ths.length := by rw [hgk.four]; exact ht4
     have hgt := hgk.ths _ (List.getElem_mem hlk)
     obtain ⟨m, e0, hLT⟩ : ∃ m e0, letterL (C.ks h) t c = (m, e0) := ⟨_, _, rfl⟩
     have hlet := fun wx (hb : Below (w.alloc (.cells #[.int .i64 c.kind, .int .i64 c.h, .int .i64 c.t, .int .i64 c.n, .int .i64 c.c, .slice pl c.label.length cl, .slice pg c.grants.length cg, .string ⟨c.text.toArray⟩] 37)).heap.size (w.alloc (.cells #[.int .i64 c.kind, .int .i64 c.h, .int .i64 c.t, .int .i64 c.n, .int .i64 c.c, .slice pl c.label.length cl, .slice pg c.grants.length cg, .string ⟨c.text.toArray⟩] 37)) wx) => QkQ (Z.kp h) t F (Z.V h) (C.ks h) _ c wx ((HC0.out.ker h h4).below hb) (by rw [(HC0.out.ker h h4).len]; exact ht4) hlk (by have := hgt.own; omega) (by have := hgt.text; omega) (HV.out.below (Qc HBB.out hb))
     rw [hLT] at hlet
     simp only at hlet
     have HLT : Hid (letterL (kerC C h) t c = (m, e0)) := hid (by unfold kerC; rw [Int.toNat_natCast]; exact hLT)
     have i0 : ¬ ((h : Int) < 0) := by omega
     have i1 : ¬ ((4 : Int) ≤ h) := by omega
     have i2 : (h : Int) < 4 := by omega
     have i3 : (0 : Int) ≤ h := by omega
     have HK2 := hid (HC0.out.cker h4)
     clear g1 e1 e2 hgk hlk hgt hLT hb
     go_enter Tryz.func53, Tryz.ntmps53
     go_upto_region 5 with (first | (go_at_call 31; refine (hh _).mono ?_; rintro e w1 ⟨rfl, hw⟩; rw [hw]; clear hw) | (go_at_call 52; refine (htt _).mono ?_; rintro e w1 ⟨rfl, hw⟩; rw [hw]; clear hw))
     generalize (w.alloc (.cells #[.int .i64 c.kind, .int .i64 c.h, .int .i64 c.t, .int .i64 c.n, .int .i64 c.c, .slice pl c.label.length cl, .slice pg c.grants.length cg, .string ⟨c.text.toArray⟩] 37)) = w0 at *
     have HS : Hid (∀ w', Below w0.heap.size w0 w' → w'.cell? ⟨w.heap.size, 0, none⟩ = some (.int .i64 c.kind) ∧ w'.cell? ⟨w.heap.size, 1, none⟩ = some (.int .i64 c.h) ∧ w'.cell? ⟨w.heap.size, 2, none⟩ = some (.int .i64 c.t) ∧ w'.cell? ⟨w.heap.size, 3, none⟩ = some (.int .i64 c.n) ∧ w'.cell? ⟨w.heap.size, 4, none⟩ = some (.int .i64 c.c) ∧ w'.cell? ⟨w.heap.size, 5, none⟩ = some (.slice pl c.label.length cl) ∧ w'.cell? ⟨w.heap.size, 6, none⟩ = some (.slice pg c.grants.length cg) ∧ w'.cell? ⟨w.heap.size, 7, none⟩ = some (.string ⟨c.text.toArray⟩) ∧ w'.cell? ⟨cb, 2 + h, none⟩ = some (.pointer (some ⟨Z.kp h, 0, none⟩))) := hid (fun w' hw => ⟨Qa (Qe HX0.out hw) 0, Qa (Qe HX0.out hw) 1, Qa (Qe HX0.out hw) 2, Qa (Qe HX0.out hw) 3, Qa (Qe HX0.out hw) 4, Qa (Qe HX0.out hw) 5, Qa (Qe HX0.out hw) 6, Qa (Qe HX0.out hw) 7, (hw.cell (Qf HK2.out)).trans HK2.out⟩)
     go_cut [9, 10] (fun v9 v10 wx => ∃ (M : Nat) (ml mg : Option Addr) (nl ng : Nat), v9 = .pointer (some ⟨M, 0, none⟩) ∧ v10 = .int .i64 e0 ∧ wx.heap[M]? = some (.cells #[.int .i64 m.host, .int .i64 m.thread, .slice ml m.label.length nl, .slice mg m.grants.length ng, .string ⟨m.text.toArray⟩] 50 (0, 0)) ∧ w0.heap.size ≤ M ∧ MalAt wx (.agg #[.int .i64 m.host, .int .i64 m.thread, .slice ml m.label.length nl, .slice mg m.grants.length ng, .string ⟨m.text.toArray⟩]) m ∧ Below w0.heap.size w0 wx)
     case first =>
      refine wp_region_held_drew (S := (fun w' => w'.cell? ⟨w.heap.size, 0, none⟩ = some (.int .i64 c.kind) ∧ w'.cell? ⟨w.heap.size, 1, none⟩ = some (.int .i64 c.h) ∧ w'.cell? ⟨w.heap.size, 2, none⟩ = some (.int .i64 c.t) ∧ w'.cell? ⟨w.heap.size, 3, none⟩ = some (.int .i64 c.n) ∧ w'.cell? ⟨w.heap.size, 4, none⟩ = some (.int .i64 c.c) ∧ w'.cell? ⟨w.heap.size, 5, none⟩ = some (.slice pl c.label.length cl) ∧ w'.cell? ⟨w.heap.size, 6, none⟩ = some (.slice pg c.grants.length cg) ∧ w'.cell? ⟨w.heap.size, 7, none⟩ = some (.string ⟨c.text.toArray⟩) ∧ w'.cell? ⟨cb, 2 + h, none⟩ = some (.pointer (some ⟨Z.kp h, 0, none⟩)))) (by as_aux_lemma => kernel_rfl) (HS.out _ (Below.refl _ _).drew) (fun _hHeld => ?_)
      refine takeF 0 26 ?v1 rfl (Or.inl ⟨by rfl, ?hy1⟩) ?rest1
      case hy1 => intro wz hSw; (try dsimp only at hSw); go_simp; try with_reducible rfl
      simp only [Act.put, List.setIfInBounds_toArray, List.set_cons_zero, List.set_cons_succ]
      refine takeF 1 27 ?v2 rfl (Or.inl ⟨by rfl, ?hy2⟩) ?rest2
      case hy2 => intro wz hSw; (try dsimp only at hSw); go_simp; try with_reducible rfl
      simp only [Act.put, List.setIfInBounds_toArray, List.set_cons_zero, List.set_cons_succ]
      refine takeF 2 28 ?v3 rfl (Or.inl ⟨by rfl, ?hy3⟩) ?rest3
      case hy3 => intro wz hSw; (try dsimp only at hSw); go_simp; try with_reducible rfl
      simp only [Act.put, List.setIfInBounds_toArray, List.set_cons_zero, List.set_cons_succ]
      refine takeF 3 29 ?v4 rfl (Or.inl ⟨by rfl, ?hy4⟩) ?rest4
      case hy4 => intro wz hSw; (try dsimp only at hSw); go_simp; try with_reducible rfl
      simp only [Act.put, List.setIfInBounds_toArray, List.set_cons_zero, List.set_cons_succ]
      refine takeF 4 30 ?v5 rfl (Or.inl ⟨by rfl, ?hy5⟩) ?rest5
      case hy5 => intro wz hSw; (try dsimp only at hSw); go_simp; try with_reducible rfl
      simp only [Act.put, List.setIfInBounds_toArray, List.set_cons_zero, List.set_cons_succ]
      refine takeF 5 31 ?v6 rfl (Or.inl ⟨by rfl, ?hy6⟩) ?rest6
      case hy6 => intro wz hSw; (try dsimp only at hSw); go_simp; try with_reducible rfl
      simp only [Act.put, List.setIfInBounds_toArray, List.set_cons_zero, List.set_cons_succ]
      refine takeF 6 32 ?v7 rfl (Or.inl ⟨by rfl, ?hy7⟩) ?rest7
      case hy7 => intro wz hSw; (try dsimp only at hSw); go_simp; try with_reducible rfl
      simp only [Act.put, List.setIfInBounds_toArray, List.set_cons_zero, List.set_cons_succ]
      refine takeF 7 33 ?v8 rfl (Or.inl ⟨by rfl, ?hy8⟩) ?rest8
      case hy8 => intro wz hSw; (try dsimp only at hSw); go_simp; try with_reducible rfl
      simp only [Act.put, List.setIfInBounds_toArray, List.set_cons_zero, List.set_cons_succ]
      refine wpAnyH_ready (rs := [8, 12]) (by as_aux_lemma => kernel_rfl) (by simp) ?_
      refine (AllReadyH.cons rfl (fun K' hK => ?_) (AllReadyH.cons rfl (fun K' hK => ?_) AllReadyH.nil))
      · skip
        go_simp
        go_wp2_with (go_at_call 85; refine (hlet _ ((Below.refl _ _).drew)).mono ?_; rintro e w2 ⟨v2, rfl, hv2, hw2d⟩)
        have hw2 : Below w0.heap.size w0 w2 := ⟨hw2d.os, hw2d.tape, hw2d.output, hw2d.size, hw2d.block⟩
        obtain ⟨vl2, vg2, ev2, ⟨ml, nl, e4, _⟩, ⟨mg, ng, e5, _⟩⟩ := id (hv2 w2 (Since.refl _ _))
        subst e4 e5 ev2
        unfold malV at hv2
        unfold malV
        have HV2 := hid hv2
        clear hv2 hw2d
        refine hK.out _ _ (HS.out _ hw2) (fun _ => ?_)
        clear hK K'
        refine takeF 9 25 ?v9 rfl (Or.inl ⟨by rfl, ?hy9⟩) ?rest9
        case hy9 => intro wz hSw; (try dsimp only at hSw); go_simp; try with_reducible rfl
        simp only [Act.put, List.setIfInBounds_toArray, List.set_cons_zero, List.set_cons_succ]
        refine takeF 10 35 ?v10 rfl (Or.inl ⟨by rfl, ?hy10⟩) ?rest10
        case hy10 => intro wz hSw; (try dsimp only at hSw); go_simp; try with_reducible rfl
        simp only [Act.put, List.setIfInBounds_toArray, List.set_cons_zero, List.set_cons_succ]
        refine takeF 11 36 ?v11 rfl (Or.inl ⟨by rfl, ?hy11⟩) ?rest11
        case hy11 => intro wz hSw; (try dsimp only at hSw); go_simp; try with_reducible rfl
        simp only [Act.put, List.setIfInBounds_toArray, List.set_cons_zero, List.set_cons_succ]
        refine wpAnyH_ready (rs := [12]) (by as_aux_lemma => kernel_rfl) (by simp) ?_
        refine (AllReadyH.cons rfl (fun K' hK => ?_) AllReadyH.nil)
        go_simp
        refine hK.out _ _ (HS.out _ (Qc hw2 (Qd w2 _))) (fun _ => ?_)
        clear hK K'
        refine wpAnyH_ready (rs := [13]) (by as_aux_lemma => kernel_rfl) (by simp) ?_
        refine (AllReadyH.cons rfl (fun K' hK => ?_) AllReadyH.nil)
        go_simp
        refine hK.out _ _ (HS.out _ (Qc hw2 (Qd w2 _))) (fun _ => ?_)
        clear hK K'
        refine takeF 14 10 ?v12 rfl (Or.inl ⟨by rfl, ?hy12⟩) ?rest12
        case hy12 => intro wz hSw; (try dsimp only at hSw); go_simp; try with_reducible rfl
        simp only [Act.put, List.setIfInBounds_toArray, List.set_cons_zero, List.set_cons_succ]
        refine wpAnyH_done (by as_aux_lemma => kernel_rfl) ?_ _
        go_wp2_with fail
        go_meet
        exact ⟨w2.heap.size, ml, mg, nl, ng, rfl, rfl, heap_alloc_new w2 _, hw2.size, HV2.out _ (QU (Qd w2 _)), Qc hw2 (Qd w2 _)⟩
      · skip
        go_simp
        refine hK.out _ _ (HS.out _ (Qd w0 _).drew) (fun _ => ?_)
        clear hK K'
        refine wpAnyH_ready (rs := [8]) (by as_aux_lemma => kernel_rfl) (by simp) ?_
        refine (AllReadyH.cons rfl (fun K' hK => ?_) AllReadyH.nil)
        go_simp
        go_wp2_with (go_at_call 85; refine (hlet _ ((Qd w0 _).drew)).mono ?_; rintro e w2 ⟨v2, rfl, hv2, hw2d⟩)
        have hw2 : Below (w0.alloc (.cells #[.int .i64 0, .int .i64 0, .slice none 0 0, .slice none 0 0, .string ⟨#[]⟩] 50)).heap.size (w0.alloc (.cells #[.int .i64 0, .int .i64 0, .slice none 0 0, .slice none 0 0, .string ⟨#[]⟩] 50)) w2 := ⟨hw2d.os, hw2d.tape, hw2d.output, hw2d.size, hw2d.block⟩
        have hb2 := Qc (Qd w0 _) hw2
        obtain ⟨vl2, vg2, ev2, ⟨ml, nl, e4, _⟩, ⟨mg, ng, e5, _⟩⟩ := id (hv2 w2 (Since.refl _ _))
        subst e4 e5 ev2
        unfold malV at hv2
        unfold malV
        have HV2 := hid hv2
        clear hv2 hw2d
        refine hK.out _ _ (HS.out _ hb2) (fun _ => ?_)
        clear hK K'
        refine takeF 9 25 ?v13 rfl (Or.inl ⟨by rfl, ?hy13⟩) ?rest13
        case hy13 => intro wz hSw; (try dsimp only at hSw); go_simp; try with_reducible rfl
        simp only [Act.put, List.setIfInBounds_toArray, List.set_cons_zero, List.set_cons_succ]
        refine takeF 10 35 ?v14 rfl (Or.inl ⟨by rfl, ?hy14⟩) ?rest14
        case hy14 => intro wz hSw; (try dsimp only at hSw); go_simp; try with_reducible rfl
        simp only [Act.put, List.setIfInBounds_toArray, List.set_cons_zero, List.set_cons_succ]
        refine takeF 11 36 ?v15 rfl (Or.inl ⟨by rfl, ?hy15⟩) ?rest15
        case hy15 => intro wz hSw; (try dsimp only at hSw); go_simp; try with_reducible rfl
        simp only [Act.put, List.setIfInBounds_toArray, List.set_cons_zero, List.set_cons_succ]
        have HM := hid (Qe (heap_alloc_new w0 _) hw2)
        have m0 := Qa HM.out 0
        have mf0 := Qb HM.out 0
        have m1 := Qa HM.out 1
        have mf1 := Qb HM.out 1
        have m2 := Qa HM.out 2
        have mf2 := Qb HM.out 2
        have m3 := Qa HM.out 3
        have mf3 := Qb HM.out 3
        have m4 := Qa HM.out 4
        have mf4 := Qb HM.out 4
        have hS := Qb5 w2 w0.heap.size (.int .i64 m.host) (.int .i64 m.thread) (.slice ml m.label.length nl) (.slice mg m.grants.length ng) (.string ⟨m.text.toArray⟩)
        have HB3 := hid (hb2.grown hS hb2.size (fun k hk => by have := Option.some.inj hk; omega))
        have HS5 := hid (QcE (.int .i64 m.host) (.int .i64 m.thread) (.slice ml m.label.length nl) (.slice mg m.grants.length ng) (.string ⟨m.text.toArray⟩) HM.out)
        have HMA := hid (HV2.out _ (Q0 hS (by simp)))
        clear hS
        refine wpAnyH_ready (rs := [13]) (by as_aux_lemma => kernel_rfl) (by simp) ?_
        refine (AllReadyH.cons rfl (fun K' hK => ?_) AllReadyH.nil)
        go_simp
        refine hK.out _ _ (HS.out _ HB3.out) (fun _ => ?_)
        clear hK K'
        refine takeF 14 10 ?v16 rfl (Or.inl ⟨by rfl, ?hy16⟩) ?rest16
        case hy16 => intro wz hSw; (try dsimp only at hSw); go_simp; try with_reducible rfl
        simp only [Act.put, List.setIfInBounds_toArray, List.set_cons_zero, List.set_cons_succ]
        refine wpAnyH_done (by as_aux_lemma => kernel_rfl) ?_ _
        go_wp2_with fail
        go_meet
        exact ⟨w0.heap.size, ml, mg, nl, ng, rfl, rfl, HS5.out, Nat.le_refl _, HMA.out, HB3.out⟩
     case rest =>
      obtain ⟨M, ml, mg, nl, ng, rfl, rfl, hM, hMw, hma, hb3⟩ := hcut
      obtain ⟨w3, hw3⟩ : ∃ w3, w3 = wc := ⟨_, rfl⟩
      subst hw3
      have HM3 := hid hM
      have HMA := hid hma
      have HX3 := hid (Qe HX0.out hb3)
      have HC3 := hid (HC0.out.below hb3)
      have hbw := Qc HBB.out hb3
      have hMW : w.heap.size ≤ M := Nat.le_trans HBB.out.size hMw
      clear hM hma hlet HS
      by_cases h0 : e0 = 0
      rotate_left
      · have HP := hid (Qju HG1.out H12.out HLT.out h0)
        have hne : (e0 != 0) = true := by simpa using h0
        clear h0
        go_wp2
        go_ret
        rw [HP.out]
        exact ⟨rfl, _, _, HC3.out, CStep.below hbw⟩
      · subst h0
        obtain ⟨y0, y1, y2, y3, y4, y5, y6, y7⟩ := cells8 HX3.out
        by_cases hbh : b = h
        · have HP := hid (QhJ HG1.out H12.out HLT.out (by rw [HHB.out, hbh]))
          subst hbh
          rw [HHB.out] at y1
          obtain ⟨A3, hA3, hB3⟩ := HC3.out.box
          have HA3 := hid hA3
          have HK3 := hid (hB3.ker b h4)
          have HS9 : Hid (∀ w' : World, w'.heap[M]? = some (.cells #[.int .i64 m.host, .int .i64 m.thread, .slice ml m.label.length nl, .slice mg m.grants.length ng, .string ⟨m.text.toArray⟩] 50 (0, 0)) → w'.heap[w.heap.size]? = some (.cells #[.int .i64 c.kind, .int .i64 c.h, .int .i64 c.t, .int .i64 c.n, .int .i64 c.c, .slice pl c.label.length cl, .slice pg c.grants.length cg, .string ⟨c.text.toArray⟩] 37 (0, 0)) → w'.heap[cb]? = some (.cells A3 88 (0, 0)) → (w'.cell? ⟨M, 0, none⟩ = some (.int .i64 m.host) ∧ w'.cell? ⟨M, 1, none⟩ = some (.int .i64 m.thread) ∧ w'.cell? ⟨M, 2, none⟩ = some (.slice ml m.label.length nl) ∧ w'.cell? ⟨M, 3, none⟩ = some (.slice mg m.grants.length ng) ∧ w'.cell? ⟨M, 4, none⟩ = some (.string ⟨m.text.toArray⟩)) ∧ w'.cell? ⟨w.heap.size, 2, none⟩ = some (.int .i64 c.t) ∧ w'.cell? ⟨cb, 2 + b, none⟩ = some (.pointer (some ⟨Z.kp b, 0, none⟩))) := hid (fun w' h1 h2 h3 => ⟨⟨Qa h1 0, Qa h1 1, Qa h1 2, Qa h1 3, Qa h1 4⟩, Qa h2 2, (Qa h3 (2 + b)).trans HK3.out⟩)
          have hdel := fun wx (hb : Below w3.heap.size w3 wx) => QdB (Z.kp b) c.t F (Z.V b) (C.ks b) m _ wx ((HC3.out.ker b h4).below hb) (HG.out.ks b h4) (HMA.out.below hb)
          clear hA3 hB3
          go_upto_region 9 with fail
          refine wp_region_held_drew (S := (fun w' => (w'.cell? ⟨M, 0, none⟩ = some (.int .i64 m.host) ∧ w'.cell? ⟨M, 1, none⟩ = some (.int .i64 m.thread) ∧ w'.cell? ⟨M, 2, none⟩ = some (.slice ml m.label.length nl) ∧ w'.cell? ⟨M, 3, none⟩ = some (.slice mg m.grants.length ng) ∧ w'.cell? ⟨M, 4, none⟩ = some (.string ⟨m.text.toArray⟩)) ∧ w'.cell? ⟨w.heap.size, 2, none⟩ = some (.int .i64 c.t) ∧ w'.cell? ⟨cb, 2 + b, none⟩ = some (.pointer (some ⟨Z.kp b, 0, none⟩)))) (by as_aux_lemma => kernel_rfl) (HS9.out _ HM3.out HX3.out HA3.out) (fun _hHeld => ?_)
          refine takeF 0 44 ?v17 rfl (Or.inl ⟨by rfl, ?hy17⟩) ?rest17
          case hy17 => intro wz hSw; (try dsimp only at hSw); go_simp; try with_reducible rfl
          simp only [Act.put, List.setIfInBounds_toArray, List.set_cons_zero, List.set_cons_succ]
          refine takeF 1 45 ?v18 rfl (Or.inl ⟨by rfl, ?hy18⟩) ?rest18
          case hy18 => intro wz hSw; (try dsimp only at hSw); go_simp; try with_reducible rfl
          simp only [Act.put, List.setIfInBounds_toArray, List.set_cons_zero, List.set_cons_succ]
          refine takeF 2 46 ?v19 rfl (Or.inl ⟨by rfl, ?hy19⟩) ?rest19
          case hy19 => intro wz hSw; (try dsimp only at hSw); go_simp; try with_reducible rfl
          simp only [Act.put, List.setIfInBounds_toArray, List.set_cons_zero, List.set_cons_succ]
          refine takeF 3 47 ?v20 rfl (Or.inl ⟨by rfl, ?hy20⟩) ?rest20
          case hy20 => intro wz hSw; (try dsimp only at hSw); go_simp; try with_reducible rfl
          simp only [Act.put, List.setIfInBounds_toArray, List.set_cons_zero, List.set_cons_succ]
          refine takeF 4 48 ?v21 rfl (Or.inl ⟨by rfl, ?hy21⟩) ?rest21
          case hy21 => intro wz hSw; (try dsimp only at hSw); go_simp; try with_reducible rfl
          simp only [Act.put, List.setIfInBounds_toArray, List.set_cons_zero, List.set_cons_succ]
          refine takeF 5 49 ?v22 rfl (Or.inl ⟨by rfl, ?hy22⟩) ?rest22
          case hy22 => intro wz hSw; (try dsimp only at hSw); go_simp; try with_reducible rfl
          simp only [Act.put, List.setIfInBounds_toArray, List.set_cons_zero, List.set_cons_succ]
          refine takeF 6 50 ?v23 rfl (Or.inl ⟨by rfl, ?hy23⟩) ?rest23
          case hy23 => intro wz hSw; (try dsimp only at hSw); go_simp; try with_reducible rfl
          simp only [Act.put, List.setIfInBounds_toArray, List.set_cons_zero, List.set_cons_succ]
          refine takeF 7 51 ?v24 rfl (Or.inl ⟨by rfl, ?hy24⟩) ?rest24
          case hy24 => intro wz hSw; (try dsimp only at hSw); go_simp; try with_reducible rfl
          simp only [Act.put, List.setIfInBounds_toArray, List.set_cons_zero, List.set_cons_succ]
          refine takeF 8 52 ?v25 rfl (Or.inl ⟨by rfl, ?hy25⟩) ?rest25
          case hy25 => intro wz hSw; (try dsimp only at hSw); go_simp; try with_reducible rfl
          simp only [Act.put, List.setIfInBounds_toArray, List.set_cons_zero, List.set_cons_succ]
          refine wpAnyH_ready (rs := [9]) (by as_aux_lemma => kernel_rfl) (by simp) ?_
          refine (AllReadyH.cons rfl (fun K' hK => ?_) AllReadyH.nil)
          go_simp
          go_wp2_with (go_at_call 86; refine (hdel _ (Below.refl _ _).drew).mono ?_; rintro e w5 ⟨rfl, G5, V5, hK5, hS5d⟩)
          have hS5 : KStep (Z.kp b) w3 F (Z.V b) w5 G5 V5 := ⟨⟨hS5d.kept.os, hS5d.kept.tape, hS5d.kept.output, hS5d.kept.size, hS5d.kept.block⟩, hS5d.rows, hS5d.more⟩
          have HX5 := hid (QY hS5 (HC3.out.ker b h4) HX3.out (by decide) (by decide) (by decide) (by decide))
          have HA5 := hid (QY hS5 (HC3.out.ker b h4) HA3.out (by decide) (by decide) (by decide) (by decide))
          have HM5 := hid ((hS5.keptF (HC3.out.ker b h4)).heap HM3.out (fun e => by have := HC.out.fin M e; omega))
          refine hK.out _ _ (HS9.out _ HM5.out HX5.out HA5.out) (fun _ => ?_)
          clear hK K'
          refine wpAnyH_done (by as_aux_lemma => kernel_rfl) ?_ _
          have hKK := HC3.out.kernel h4 hK5 hS5
          have HKK := hid hKK
          clear hKK hK5 hS5 hS5d hdel
          go_wp2
          go_ret
          rw [HP.out]
          exact ⟨rfl, _, _, HKK.out.1, (CStep.below hbw).trans HKK.out.2⟩
        · have HP := hid (QhL HG1.out H12.out HLT.out (by rw [HHB.out]; omega))
          rw [HHB.out] at y1 HP
          have hne : ((b : Int) == (h : Int)) = false := by simp; omega
          obtain ⟨z0, z1, z2, z3, z4⟩ : w3.cell? ⟨M, 0, none⟩ = some (.int .i64 m.host) ∧ w3.cell? ⟨M, 1, none⟩ = some (.int .i64 m.thread) ∧ w3.cell? ⟨M, 2, none⟩ = some (.slice ml m.label.length nl) ∧ w3.cell? ⟨M, 3, none⟩ = some (.slice mg m.grants.length ng) ∧ w3.cell? ⟨M, 4, none⟩ = some (.string ⟨m.text.toArray⟩) := ⟨Qa HM3.out 0, Qa HM3.out 1, Qa HM3.out 2, Qa HM3.out 3, Qa HM3.out 4⟩
          have haw := Qkz cb h b c.t F Z C _ m w3 HC3.out HG.out h4 hb4 HMA.out
          go_wp2_with (go_at_call 87; refine haw.mono ?_; rintro e w6 ⟨rfl, G6, Z6, hC6, hS6⟩)
          go_ret
          rw [HP.out]
          exact ⟨rfl, _, _, hC6, (CStep.below hbw).trans hS6⟩
theorem Qeo {C : Clu} {h t : Int} {c : Cal} (h1 : (hostB h && hostB t) = false) : callC C h t c = (C, code 4) := by
 unfold callC
 rw [h1]
 rfl
theorem QiP {C : Clu} {h t : Int} {c : Cal} (h1 : (hostB h && hostB t) = true) (h2 : c.kind = 6) : callC C h t c = ((sendC C h t c).1, code (sendC C h t c).2) := by
 unfold callC
 rw [h1, if_pos rfl, if_pos h2]
theorem QeS {C : Clu} {h t : Int} {c : Cal} (h1 : (hostB h && hostB t) = true) (h2 : c.kind = 8) : callC C h t c = ((certifyC C h t c).1, code (certifyC C h t c).2) := by
 unfold callC
 rw [h1, if_pos rfl, if_neg (by omega), if_pos h2]
theorem Qhc {C : Clu} {h t : Int} {c : Cal} (h1 : (hostB h && hostB t) = true) (h2 : c.kind ≠ 6) (h3 : c.kind ≠ 8) : callC C h t c = (setK C h (callL (kerC C h) t c).1, (callL (kerC C h) t c).2) := by
 unfold callC
 rw [h1, if_pos rfl, if_neg h2, if_neg h3]
theorem Qfm {w w' : World} {a b : Nat} {C D : Array Value} {s t : TypeId} (h : w.heap[a]? = some (.cells C s (0, 0))) (k : w.heap[b]? = some (.cells D t (0, 0))) (hst : s ≠ t) (hg : w.grownBy w' (some b)) : w'.heap[a]? = some (.cells C s (0, 0)) := Qn h (Qb3 h k hst) hg
set_option linter.unusedSimpArgs false in
set_option maxRecDepth 100000 in
set_option maxHeartbeats 6400000 in
theorem Qky (cb : Nat) (hI tI : Int) (F : List Nat) (Z : CluV) (C : Clu) (vx : Value) (c : Cal) (w : World) (hc : CluAt w cb F Z C) (hg : GoodC C) (hv : CalAt w vx c) :
 Calls Tryz.prog 27 #[.pointer (some ⟨cb, 0, none⟩), .int .i64 hI, .int .i64 tI, vx] w fun e w' => e = .returned (.agg #[.int .i64 (callC C hI tI c).2.code, .int .i64 (callC C hI tI c).2.n, .string ⟨(callC C hI tI c).2.text.toArray⟩]) ∧ ∃ G Z', CluAt w' cb G Z' (callC C hI tI c).1 ∧ CStep cb w F Z w' G Z' := by
 have HV := hid hv
 obtain ⟨vl, vg, rfl, ⟨pl, cl, rfl, _⟩, ⟨pg, cg, rfl, _⟩⟩ := hv
 unfold calV at HV ⊢
 have hbb := Qd w (.cells #[.int .i64 c.kind, .int .i64 c.h, .int .i64 c.t, .int .i64 c.n, .int .i64 c.c, .slice pl c.label.length cl, .slice pg c.grants.length cg, .string ⟨c.text.toArray⟩] 37)
 have HC0 := hid ((hc.below hbb).reserve (.cells #[.int .i64 0, .int .i64 0, .string ⟨#[]⟩] 31))
 have HS0 := hid ((CStep.below (cb := cb) (F := F) (Z := Z) hbb).trans (CStep.reserve cb _ F Z (.cells #[.int .i64 0, .int .i64 0, .string ⟨#[]⟩] 31)))
 rw [QM] at HC0 HS0
 have HBW : Hid (Below w.heap.size w ((w.alloc (.cells #[.int .i64 c.kind, .int .i64 c.h, .int .i64 c.t, .int .i64 c.n, .int .i64 c.c, .slice pl c.label.length cl, .slice pg c.grants.length cg, .string ⟨c.text.toArray⟩] 37)).alloc (.cells #[.int .i64 0, .int .i64 0, .string ⟨#[]⟩] 31))) := hid (hbb.alloc hbb.size _)
 have HX0 := hid (heap_alloc2_old w (.cells #[.int .i64 c.kind, .int .i64 c.h, .int .i64 c.t, .int .i64 c.n, .int .i64 c.c, .slice pl c.label.length cl, .slice pg c.grants.length cg, .string ⟨c.text.toArray⟩] 37) (.cells #[.int .i64 0, .int .i64 0, .string ⟨#[]⟩] 31))
 have HXR := hid (heap_alloc2_new w (.cells #[.int .i64 c.kind, .int .i64 c.h, .int .i64 c.t, .int .i64 c.n, .int .i64 c.c, .slice pl c.label.length cl, .slice pg c.grants.length cg, .string ⟨c.text.toArray⟩] 37) (.cells #[.int .i64 0, .int .i64 0, .string ⟨#[]⟩] 31))
 have HM0 : Hid (w.heap.size + 1 ∈ F ++ [w.heap.size + 1]) := hid (by simp)
 have HLE : Hid (w.heap.size ≤ w.heap.size + 1) := hid (Nat.le_succ _)
 have HG := hid hg
 have hlt := hc.lt
 clear hc hg hbb
 have hh := fun wx => Qce hI wx
 have htt := fun wx => Qcm tI wx
 cases e1 : hostB hI with
 | false =>
  have HP := hid (Qeo (C := C) (h := hI) (t := tI) (c := c) (by rw [e1]; rfl))
  rw [e1] at hh
  go_enter Tryz.func27, Tryz.ntmps27
  go_wp2_with (first | (go_at_call 31; refine (hh _).mono ?_; rintro e w1 ⟨rfl, hw⟩; rw [hw]; clear hw) | (go_at_call 52; refine (htt _).mono ?_; rintro e w1 ⟨rfl, hw⟩; rw [hw]; clear hw) | (go_at_call 26; refine (Q2 _ _).mono ?_; rintro e w9 ⟨rfl, hw9⟩; have HB9 := hid hw9; have HX9 := hid (Qe HXR.out hw9); obtain ⟨b0, b1, b2, b3, b4, b5⟩ := cells3 HX9.out; clear hw9))
  obtain ⟨e1, e2, e3⟩ := QF 4 0 [] HX9.out HM0.out HLE.out (HC0.out.below HB9.out) (HS0.out.trans (CStep.below HB9.out))
  simp only [HP.out]
  exact bodyPost_ret (results_cell_row rfl _ _ (w.heap.size + 1) 31 _ (0, 0) _ rfl e1 Tryz.underlying31 rfl (by kernel_rfl)) rfl ⟨rfl, _, _, e2, e3⟩
 | true =>
  rw [e1] at hh
  cases e2 : hostB tI with
  | false =>
   have HP := hid (Qeo (C := C) (h := hI) (t := tI) (c := c) (by rw [e1, e2]; rfl))
   rw [e2] at htt
   go_enter Tryz.func27, Tryz.ntmps27
   go_wp2_with (first | (go_at_call 31; refine (hh _).mono ?_; rintro e w1 ⟨rfl, hw⟩; rw [hw]; clear hw) | (go_at_call 52; refine (htt _).mono ?_; rintro e w1 ⟨rfl, hw⟩; rw [hw]; clear hw) | (go_at_call 26; refine (Q2 _ _).mono ?_; rintro e w9 ⟨rfl, hw9⟩; have HB9 := hid hw9; have HX9 := hid (Qe HXR.out hw9); obtain ⟨b0, b1, b2, b3, b4, b5⟩ := cells3 HX9.out; clear hw9))
   obtain ⟨e1, e2, e3⟩ := QF 4 0 [] HX9.out HM0.out HLE.out (HC0.out.below HB9.out) (HS0.out.trans (CStep.below HB9.out))
   simp only [HP.out]
   exact bodyPost_ret (results_cell_row rfl _ _ (w.heap.size + 1) 31 _ (0, 0) _ rfl e1 Tryz.underlying31 rfl (by kernel_rfl)) rfl ⟨rfl, _, _, e2, e3⟩
  | true =>
   rw [e2] at htt
   have H12 : Hid ((hostB hI && hostB tI) = true) := hid (by rw [e1, e2]; rfl)
   obtain ⟨h, hh4, h4⟩ : ∃ h : Nat, hI = h ∧ h < 4 := by
    have : 0 ≤ hI ∧ hI < 4 := of_decide_eq_true e1
    exact ⟨hI.toNat, by omega, by omega⟩
   obtain ⟨t, ht4, t4⟩ : ∃ t : Nat, tI = t ∧ t < 4 := by
    have : 0 ≤ tI ∧ tI < 4 := of_decide_eq_true e2
    exact ⟨tI.toNat, by omega, by omega⟩
   subst hh4 ht4
   clear e1 e2
   by_cases k6 : c.kind = 6
   · have HP := hid (QiP (C := C) H12.out k6)
     have e6 : (c.kind == 6) = true := by simpa using k6
     have hsend := Qkn cb h t _ Z C _ c ((w.alloc (.cells #[.int .i64 c.kind, .int .i64 c.h, .int .i64 c.t, .int .i64 c.n, .int .i64 c.c, .slice pl c.label.length cl, .slice pg c.grants.length cg, .string ⟨c.text.toArray⟩] 37)).alloc (.cells #[.int .i64 0, .int .i64 0, .string ⟨#[]⟩] 31)) HC0.out HG.out h4 t4 (HV.out.below HBW.out)
     unfold calV at hsend
     clear k6
     generalize sendC C h t c = SC at *
     go_enter Tryz.func27, Tryz.ntmps27
     go_wp2_with (first | (go_at_call 31; refine (hh _).mono ?_; rintro e w1 ⟨rfl, hw⟩; rw [hw]; clear hw) | (go_at_call 52; refine (htt _).mono ?_; rintro e w1 ⟨rfl, hw⟩; rw [hw]; clear hw) | (go_at_call 53; refine hsend.mono ?_; rintro e w5 ⟨rfl, G5, Z5, hC5, hS5⟩; have HC5 := hid hC5; have HS5 := hid hS5; have HX5 := hid (QI hS5 HC0.out HXR.out (by decide) (by decide) (by decide) (by decide) (by decide) (by decide)); clear hC5 hS5 hsend) | (go_at_call 26; refine (Q2 _ _).mono ?_; rintro e w9 ⟨rfl, hw9⟩; have HB9 := hid hw9; have HX9 := hid (Qe HX5.out hw9); obtain ⟨b0, b1, b2, b3, b4, b5⟩ := cells3 HX9.out; clear hw9))
     obtain ⟨e1, e2, e3⟩ := QF SC.2 0 [] HX9.out (HS5.out.more.1 _ HM0.out) HLE.out (HC5.out.below HB9.out) (HS0.out.trans (HS5.out.trans (CStep.below HB9.out)))
     simp only [HP.out]
     exact bodyPost_ret (results_cell_row rfl _ _ (w.heap.size + 1) 31 _ (0, 0) _ rfl e1 Tryz.underlying31 rfl (by kernel_rfl)) rfl ⟨rfl, _, _, e2, e3⟩
   · have e6 : (c.kind == 6) = false := by simpa using k6
     by_cases k8 : c.kind = 8
     · have HP := hid (QeS (C := C) H12.out k8)
       have e8 : (c.kind == 8) = true := by simpa using k8
       have hcert := QfQ cb h t _ Z C _ c ((w.alloc (.cells #[.int .i64 c.kind, .int .i64 c.h, .int .i64 c.t, .int .i64 c.n, .int .i64 c.c, .slice pl c.label.length cl, .slice pg c.grants.length cg, .string ⟨c.text.toArray⟩] 37)).alloc (.cells #[.int .i64 0, .int .i64 0, .string ⟨#[]⟩] 31)) HC0.out HG.out h4 (HV.out.below HBW.out)
       unfold calV at hcert
       clear k6 k8
       generalize certifyC C h t c = SC at *
       go_enter Tryz.func27, Tryz.ntmps27
       go_wp2_with (first | (go_at_call 31; refine (hh _).mono ?_; rintro e w1 ⟨rfl, hw⟩; rw [hw]; clear hw) | (go_at_call 52; refine (htt _).mono ?_; rintro e w1 ⟨rfl, hw⟩; rw [hw]; clear hw) | (go_at_call 54; refine hcert.mono ?_; rintro e w5 ⟨rfl, G5, Z5, hC5, hS5⟩; have HC5 := hid hC5; have HS5 := hid hS5; have HX5 := hid (QI hS5 HC0.out HXR.out (by decide) (by decide) (by decide) (by decide) (by decide) (by decide)); clear hC5 hS5 hcert) | (go_at_call 26; refine (Q2 _ _).mono ?_; rintro e w9 ⟨rfl, hw9⟩; have HB9 := hid hw9; have HX9 := hid (Qe HX5.out hw9); obtain ⟨b0, b1, b2, b3, b4, b5⟩ := cells3 HX9.out; clear hw9))
       obtain ⟨e1, e2, e3⟩ := QF SC.2 0 [] HX9.out (HS5.out.more.1 _ HM0.out) HLE.out (HC5.out.below HB9.out) (HS0.out.trans (HS5.out.trans (CStep.below HB9.out)))
       simp only [HP.out]
       exact bodyPost_ret (results_cell_row rfl _ _ (w.heap.size + 1) 31 _ (0, 0) _ rfl e1 Tryz.underlying31 rfl (by kernel_rfl)) rfl ⟨rfl, _, _, e2, e3⟩
     · have HP := hid (Qhc (C := C) H12.out k6 k8)
       have e8 : (c.kind == 8) = false := by simpa using k8
       have HKC : Hid (kerC C h = C.ks h) := hid (by unfold kerC; rw [Int.toNat_natCast])
       rw [HKC.out] at HP
       have hcl := fun wx (hb : Below ((w.alloc (.cells #[.int .i64 c.kind, .int .i64 c.h, .int .i64 c.t, .int .i64 c.n, .int .i64 c.c, .slice pl c.label.length cl, .slice pg c.grants.length cg, .string ⟨c.text.toArray⟩] 37)).alloc (.cells #[.int .i64 0, .int .i64 0, .string ⟨#[]⟩] 31)).heap.size ((w.alloc (.cells #[.int .i64 c.kind, .int .i64 c.h, .int .i64 c.t, .int .i64 c.n, .int .i64 c.c, .slice pl c.label.length cl, .slice pg c.grants.length cg, .string ⟨c.text.toArray⟩] 37)).alloc (.cells #[.int .i64 0, .int .i64 0, .string ⟨#[]⟩] 31)) wx) => Qmc (Z.kp h) t _ (Z.V h) (C.ks h) c _ wx ((HC0.out.ker h h4).below hb) (HG.out.ks h h4) (HV.out.below (Qc HBW.out hb))
       unfold calV at hcl
       have i0 : ¬ ((h : Int) < 0) := by omega
       have i1 : ¬ ((4 : Int) ≤ h) := by omega
       have i2 : (h : Int) < 4 := by omega
       have i3 : (0 : Int) ≤ h := by omega
       clear k6 k8 HKC
       obtain ⟨K', r, hKr⟩ : ∃ K' r, callL (C.ks h) t c = (K', r) := ⟨_, _, rfl⟩
       rw [hKr] at hcl HP
       simp only at hcl HP
       clear hKr
       obtain ⟨A0, hA0, hB0⟩ := HC0.out.box
       have HA0 := hid hA0
       have HKB := hid (hB0.ker h h4)
       have HX0d := HX0
       have HS8 : Hid (∀ w' : World, w'.heap[w.heap.size]? = some (.cells #[.int .i64 c.kind, .int .i64 c.h, .int .i64 c.t, .int .i64 c.n, .int .i64 c.c, .slice pl c.label.length cl, .slice pg c.grants.length cg, .string ⟨c.text.toArray⟩] 37 (0, 0)) → w'.heap[cb]? = some (.cells A0 88 (0, 0)) → w'.cell? ⟨w.heap.size, 0, none⟩ = some (.int .i64 c.kind) ∧ w'.cell? ⟨w.heap.size, 1, none⟩ = some (.int .i64 c.h) ∧ w'.cell? ⟨w.heap.size, 2, none⟩ = some (.int .i64 c.t) ∧ w'.cell? ⟨w.heap.size, 3, none⟩ = some (.int .i64 c.n) ∧ w'.cell? ⟨w.heap.size, 4, none⟩ = some (.int .i64 c.c) ∧ w'.cell? ⟨w.heap.size, 5, none⟩ = some (.slice pl c.label.length cl) ∧ w'.cell? ⟨w.heap.size, 6, none⟩ = some (.slice pg c.grants.length cg) ∧ w'.cell? ⟨w.heap.size, 7, none⟩ = some (.string ⟨c.text.toArray⟩) ∧ w'.cell? ⟨cb, 2 + h, none⟩ = some (.pointer (some ⟨Z.kp h, 0, none⟩))) := hid (fun w' h1 h2 => ⟨Qa h1 0, Qa h1 1, Qa h1 2, Qa h1 3, Qa h1 4, Qa h1 5, Qa h1 6, Qa h1 7, (Qa h2 (2 + h)).trans HKB.out⟩)
       clear hA0 hB0
       go_enter Tryz.func27, Tryz.ntmps27
       go_upto_region 8 with (first | (go_at_call 31; refine (hh _).mono ?_; rintro e w1 ⟨rfl, hw⟩; rw [hw]; clear hw) | (go_at_call 52; refine (htt _).mono ?_; rintro e w1 ⟨rfl, hw⟩; rw [hw]; clear hw))
       generalize ((w.alloc (.cells #[.int .i64 c.kind, .int .i64 c.h, .int .i64 c.t, .int .i64 c.n, .int .i64 c.c, .slice pl c.label.length cl, .slice pg c.grants.length cg, .string ⟨c.text.toArray⟩] 37)).alloc (.cells #[.int .i64 0, .int .i64 0, .string ⟨#[]⟩] 31)) = w0 at *
       refine wp_region_held_drew (S := (fun w' => w'.cell? ⟨w.heap.size, 0, none⟩ = some (.int .i64 c.kind) ∧ w'.cell? ⟨w.heap.size, 1, none⟩ = some (.int .i64 c.h) ∧ w'.cell? ⟨w.heap.size, 2, none⟩ = some (.int .i64 c.t) ∧ w'.cell? ⟨w.heap.size, 3, none⟩ = some (.int .i64 c.n) ∧ w'.cell? ⟨w.heap.size, 4, none⟩ = some (.int .i64 c.c) ∧ w'.cell? ⟨w.heap.size, 5, none⟩ = some (.slice pl c.label.length cl) ∧ w'.cell? ⟨w.heap.size, 6, none⟩ = some (.slice pg c.grants.length cg) ∧ w'.cell? ⟨w.heap.size, 7, none⟩ = some (.string ⟨c.text.toArray⟩) ∧ w'.cell? ⟨cb, 2 + h, none⟩ = some (.pointer (some ⟨Z.kp h, 0, none⟩)))) (by as_aux_lemma => kernel_rfl) (HS8.out _ HX0d.out HA0.out) (fun _hHeld => ?_)
       refine takeF 0 36 ?v1 rfl (Or.inl ⟨by rfl, ?hy1⟩) ?rest1
       case hy1 => intro wz hSw; (try dsimp only at hSw); go_simp; try with_reducible rfl
       simp only [Act.put, List.setIfInBounds_toArray, List.set_cons_zero, List.set_cons_succ]
       refine takeF 1 37 ?v2 rfl (Or.inl ⟨by rfl, ?hy2⟩) ?rest2
       case hy2 => intro wz hSw; (try dsimp only at hSw); go_simp; try with_reducible rfl
       simp only [Act.put, List.setIfInBounds_toArray, List.set_cons_zero, List.set_cons_succ]
       refine takeF 2 38 ?v3 rfl (Or.inl ⟨by rfl, ?hy3⟩) ?rest3
       case hy3 => intro wz hSw; (try dsimp only at hSw); go_simp; try with_reducible rfl
       simp only [Act.put, List.setIfInBounds_toArray, List.set_cons_zero, List.set_cons_succ]
       refine takeF 3 39 ?v4 rfl (Or.inl ⟨by rfl, ?hy4⟩) ?rest4
       case hy4 => intro wz hSw; (try dsimp only at hSw); go_simp; try with_reducible rfl
       simp only [Act.put, List.setIfInBounds_toArray, List.set_cons_zero, List.set_cons_succ]
       refine takeF 4 40 ?v5 rfl (Or.inl ⟨by rfl, ?hy5⟩) ?rest5
       case hy5 => intro wz hSw; (try dsimp only at hSw); go_simp; try with_reducible rfl
       simp only [Act.put, List.setIfInBounds_toArray, List.set_cons_zero, List.set_cons_succ]
       refine takeF 5 41 ?v6 rfl (Or.inl ⟨by rfl, ?hy6⟩) ?rest6
       case hy6 => intro wz hSw; (try dsimp only at hSw); go_simp; try with_reducible rfl
       simp only [Act.put, List.setIfInBounds_toArray, List.set_cons_zero, List.set_cons_succ]
       refine takeF 6 42 ?v7 rfl (Or.inl ⟨by rfl, ?hy7⟩) ?rest7
       case hy7 => intro wz hSw; (try dsimp only at hSw); go_simp; try with_reducible rfl
       simp only [Act.put, List.setIfInBounds_toArray, List.set_cons_zero, List.set_cons_succ]
       refine takeF 7 43 ?v8 rfl (Or.inl ⟨by rfl, ?hy8⟩) ?rest8
       case hy8 => intro wz hSw; (try dsimp only at hSw); go_simp; try with_reducible rfl
       simp only [Act.put, List.setIfInBounds_toArray, List.set_cons_zero, List.set_cons_succ]
       refine wpAnyH_ready (rs := [8]) (by as_aux_lemma => kernel_rfl) (by simp) ?_
       refine (AllReadyH.cons rfl (fun K' hK => ?_) AllReadyH.nil)
       go_simp
       go_wp2_with (go_at_call 55; refine (hcl _ (Below.refl _ _).drew).mono ?_; rintro e w5 ⟨rfl, G5, V5, hK5, hS5d⟩)
       have hS5 : KStep (Z.kp h) w0 (F ++ [w.heap.size + 1]) (Z.V h) w5 G5 V5 := ⟨⟨hS5d.kept.os, hS5d.kept.tape, hS5d.kept.output, hS5d.kept.size, hS5d.kept.block⟩, hS5d.rows, hS5d.more⟩
       have HX5 := hid (QY hS5 (HC0.out.ker h h4) HX0d.out (by decide) (by decide) (by decide) (by decide))
       have HA5 := hid (QY hS5 (HC0.out.ker h h4) HA0.out (by decide) (by decide) (by decide) (by decide))
       have HR5 := hid (QY hS5 (HC0.out.ker h h4) HXR.out (by decide) (by decide) (by decide) (by decide))
       obtain ⟨b0, b1, b2, b3, b4, b5⟩ := cells3 HR5.out
       have HK5 := hid hK5
       have HS5 := hid hS5
       clear hK5 hS5 hS5d hcl
       unfold repV
       refine hK.out _ _ (HS8.out _ HX5.out HA5.out) (fun _ => ?_)
       clear hK K'
       obtain ⟨rc, rn, rt⟩ := r
       have hKK := HC0.out.kernel h4 HK5.out HS5.out
       have hE := QF rc rn rt HR5.out (HS5.out.more.1 _ HM0.out) HLE.out hKK.1 (HS0.out.trans hKK.2)
       have HE := hid hE
       have HX6 := hid (Qfm HX5.out HR5.out (by decide) (QD _ _ (.int .i64 rc) (.int .i64 rn) (.string ⟨rt.toArray⟩)))
       have HA6 := hid (Qfm HA5.out HR5.out (by decide) (QD _ _ (.int .i64 rc) (.int .i64 rn) (.string ⟨rt.toArray⟩)))
       clear hE hKK
       refine wpAnyH_ready (rs := [9]) (by as_aux_lemma => kernel_rfl) (by simp) ?_
       refine (AllReadyH.cons rfl (fun K' hK => ?_) AllReadyH.nil)
       go_simp
       refine hK.out _ _ (HS8.out _ HX6.out HA6.out) (fun _ => ?_)
       clear hK K'
       refine wpAnyH_done (by as_aux_lemma => kernel_rfl) ?_ _
       go_wp2
       simp only [HP.out]
       exact bodyPost_ret (results_cell_row rfl _ _ (w.heap.size + 1) 31 _ (0, 0) _ rfl HE.out.1 Tryz.underlying31 rfl (by kernel_rfl)) rfl ⟨rfl, _, _, HE.out.2.1, HE.out.2.2⟩
end Go.Proofs.YtpdijobakfpnbaaGreat
