/- cluster.come: a frame that comes. -/
import Derived.Test.YtgpldlbmjakjhaaGreatRCClu
import Derived.Test.YtgpldlbmjakjhaaGreatRCPut
import Derived.Test.YtgpldlbmjakjhaaGreatRWDec
import Derived.Test.YtgpldlbmjakjhaaGreatRLAns
import Derived.Test.YtgpldlbmjakjhaaGreatRTakeD
import Derived.Test.YtgpldlbmjakjhaaGreatRCDel
import Derived.Test.YtgpldlbmjakjhaaGreatRHeap0
import Derived.Test.YtgpldlbmjakjhaaGreatRCSend
import Derived.Test.YtgpldlbmjakjhaaGreatRCAgain
import Derived.Test.YtgpldlbmjakjhaaGreatRKDelivE
import Derived.Test.YtgpldlbmjakjhaaGreatRWCert
namespace Go.Proofs.YtgpldlbmjakjhaaGreat
open Go.RowKit Go.Proofs.Parclose
theorem comeC_bad {C : Clu} {s : List UInt8} {f : Frm} {e : Int} (h : decL s = (f, e)) (he : e ≠ 0) : comeC C s = C := by
  unfold comeC
  rw [h]
  exact if_neg he
theorem comeC_ack {C : Clu} {s : List UInt8} {f : Frm} (h : decL s = (f, 0)) (hk : f.ack = true) : comeC C s = setLi C f.to f.fr (ansLn (lineC C f.to f.fr) f.seq).1 := by
  unfold comeC
  rw [h]
  simp only [if_pos, hk]
theorem comeC_ok {C : Clu} {s : List UInt8} {f : Frm} {l : Lne} (h : decL s = (f, 0)) (hk : f.ack = false) (ht : takeLn (lineC C f.fr f.to) f.seq = (l, 0)) : comeC C s = acceptC (putC (setLi C f.fr f.to l) ⟨f.to, f.fr, f.seq, true, 0, zeroMal, []⟩) f := by
  unfold comeC
  rw [h]
  simp [hk, ht]
theorem comeC_twice {C : Clu} {s : List UInt8} {f : Frm} {l : Lne} (h : decL s = (f, 0)) (hk : f.ack = false) (ht : takeLn (lineC C f.fr f.to) f.seq = (l, 10)) : comeC C s = putC (setLi C f.fr f.to l) ⟨f.to, f.fr, f.seq, true, 0, zeroMal, []⟩ := by
  unfold comeC
  rw [h]
  simp [hk, ht]
theorem comeC_old {C : Clu} {s : List UInt8} {f : Frm} {l : Lne} {e : Int} (h : decL s = (f, 0)) (hk : f.ack = false) (ht : takeLn (lineC C f.fr f.to) f.seq = (l, e)) (h0 : e ≠ 0) (h10 : e ≠ 10) : comeC C s = setLi C f.fr f.to l := by
  unfold comeC
  rw [h]
  simp [hk, ht, h0, h10]
theorem since_keep {B : Nat} {w1 w4 w5 w6 : World} {F G : List Nat} (h14 : Since B w1 w4) (hz : w1.heap.size ≤ w4.heap.size) (h45 : KeptF F w4 w5) (hm : More w4 F G) (hF : ∀ k ∈ F, k < B) (h : KeptF G w5 w6) : Since B w1 w6 := fun k hk hs => by
  have hz5 := h45.size
  rw [h.block k (by omega) (fun e => by
    rcases hm.2 k e with q | q
    · have := hF k q; omega
    · omega), h45.block k (by omega) (fun e => by have := hF k e; omega), h14 k hk hs]
set_option linter.unusedSimpArgs false in
set_option maxRecDepth 100000 in
set_option maxHeartbeats 6400000 in
theorem ccome_any (cb : Nat) (F : List Nat) (Z : CluV) (C : Clu) (s : List UInt8) (w : World) (hc : CluAt w cb F Z C) (hg : GoodC C) :
    Calls Tryz.prog 70 #[.pointer (some ⟨cb, 0, none⟩), .string ⟨s.toArray⟩] w fun e w' => e = .returned (.tuple #[]) ∧ ∃ G Z', CluAt w' cb G Z' (comeC C s) ∧ CStep cb w F Z w' G Z' := by
  have hdec := decode_new s w
  have HDF : Hid ((decL s).2 = 0 → frameE (decL s).1 = 0) := hid dec_frame
  obtain ⟨f, de, hDS⟩ : ∃ f de, decL s = (f, de) := ⟨_, _, rfl⟩
  have HDS := hid hDS
  rw [hDS] at hdec HDF
  simp only at hdec HDF
  clear hDS
  have HC := hid hc
  have HG := hid hg
  have hlt := hc.lt
  clear hc hg
  by_cases h0 : de = 0
  rotate_left
  · have HP : Hid (comeC C s = C) := hid (comeC_bad HDS.out h0)
    have hne : (de != 0) = true := by simpa using h0
    clear HDF h0
    go_enter Tryz.func70, Tryz.ntmps70
    go_wp2_with (go_at_call 17; refine hdec.mono ?_; rintro e w1 ⟨vf, rfl, hfr, hw1⟩; obtain ⟨vl, vg, vc, rfl, ⟨pl, cl, rfl, _⟩, ⟨pg, cg, rfl, _⟩, ⟨pc, cc, rfl, _⟩⟩ := hfr w1 (Since.refl _ _); unfold frmV; clear hfr)
    rw [HP.out]
    exact bodyPost_ret (results_none rfl _ _ _) rfl ⟨rfl, _, _, (HC.out.below hw1).below (below_box _ _), CStep.below (below_then hw1 (below_box _ _))⟩
  · subst h0
    have hfe := HDF.out rfl
    obtain ⟨hh1, hh2, hh3⟩ := frame_hosts hfe
    have HH2 := hid hh2
    obtain ⟨b, hb, hb4⟩ : ∃ b : Nat, f.fr = b ∧ b < 4 := by
      have : 0 ≤ f.fr ∧ f.fr < 4 := of_decide_eq_true hh1
      exact ⟨f.fr.toNat, by omega, by omega⟩
    obtain ⟨a, ha, ha4⟩ : ∃ a : Nat, f.to = a ∧ a < 4 := by
      have : 0 ≤ f.to ∧ f.to < 4 := of_decide_eq_true hh2
      exact ⟨f.to.toNat, by omega, by omega⟩
    clear HDF hfe hh1 hh2 hh3
    have ia0 : ¬ ((a : Int) < 0) := by omega
    have ia1 : ¬ ((4 : Int) ≤ a) := by omega
    have ia2 : (a : Int) < 4 := by omega
    have ia3 : (0 : Int) ≤ a := by omega
    have ib0 : ¬ ((b : Int) < 0) := by omega
    have ib1 : ¬ ((4 : Int) ≤ b) := by omega
    have ib2 : (b : Int) < 4 := by omega
    have ib3 : (0 : Int) ≤ b := by omega
    have HAB : Hid (f.to = (a : Int) ∧ f.fr = (b : Int)) := hid ⟨ha, hb⟩
    go_enter Tryz.func70, Tryz.ntmps70
    go_upto_region 0 with fail
    go_wp2_with fail
    refine hdec.mono ?_
    rintro e w1 ⟨vf, rfl, hfr, hw1⟩
    obtain ⟨vl, vg, vc, rfl, ⟨pl, cl, rfl, _⟩, ⟨pg, cg, rfl, _⟩, ⟨pc, cc, rfl, _⟩⟩ := id (hfr w1 (Since.refl _ _))
    unfold frmV at hfr ⊢
    have HFR := hid hfr
    clear hfr hdec
    rw [ha, hb] at HFR ⊢
    clear ha hb
    have HC1 := hid (HC.out.below hw1)
    generalize hack : f.ack = ak at HFR ⊢
    have HACK := hid hack
    clear hack
    cases ak with
    | true =>
      have HX2 := hid (heap_alloc_new w1 (.cells #[.int .i64 b, .int .i64 a, .int .i64 f.seq, .bool true, .int .i64 f.thread, .int .i64 f.mail.host, .int .i64 f.mail.thread, .slice pl f.mail.label.length cl, .slice pg f.mail.grants.length cg, .string ⟨f.mail.text.toArray⟩, .slice pc f.certs.length cc] 51))
      have HC2 := hid (HC1.out.below (below_box w1 (.cells #[.int .i64 b, .int .i64 a, .int .i64 f.seq, .bool true, .int .i64 f.thread, .int .i64 f.mail.host, .int .i64 f.mail.thread, .slice pl f.mail.label.length cl, .slice pg f.mail.grants.length cg, .string ⟨f.mail.text.toArray⟩, .slice pc f.certs.length cc] 51)))
      have HS2 := hid (CStep.below (cb := cb) (F := F) (Z := Z) (below_then hw1 (below_box w1 (.cells #[.int .i64 b, .int .i64 a, .int .i64 f.seq, .bool true, .int .i64 f.thread, .int .i64 f.mail.host, .int .i64 f.mail.thread, .slice pl f.mail.label.length cl, .slice pg f.mail.grants.length cg, .string ⟨f.mail.text.toArray⟩, .slice pc f.certs.length cc] 51))))
      obtain ⟨e0, e1, e2, e3, e4, e5, e6, e7, e8, e9, e10⟩ := cells11 HX2.out
      have HB12 := hid (below_box w1 (.cells #[.int .i64 b, .int .i64 a, .int .i64 f.seq, .bool true, .int .i64 f.thread, .int .i64 f.mail.host, .int .i64 f.mail.thread, .slice pl f.mail.label.length cl, .slice pg f.mail.grants.length cg, .string ⟨f.mail.text.toArray⟩, .slice pc f.certs.length cc] 51))
      have hlt2 := HC2.out.lt
      have hbl := heap_lt HX2.out
      have HLN := hid (HC2.out.line (a := a) (b := b) (by assumption) (by assumption))
      obtain ⟨⟨k0, k1, k2, k3, k4, k5, k6, k7, k8, k9, k10⟩, kf⟩ := HC2.out.lcells (a := a) (b := b) (by assumption) (by assumption) rfl rfl rfl
      obtain ⟨pv, cv, hvs⟩ := (HC2.out.snt a b (by assumption) (by assumption)).at.slice
      rw [hvs] at k1
      unfold lneC at HLN
      rw [hvs] at HLN
      go_upto_region 3 with fail
      generalize w1.alloc (.cells #[.int .i64 b, .int .i64 a, .int .i64 f.seq, .bool true, .int .i64 f.thread, .int .i64 f.mail.host, .int .i64 f.mail.thread, .slice pl f.mail.label.length cl, .slice pg f.mail.grants.length cg, .string ⟨f.mail.text.toArray⟩, .slice pc f.certs.length cc] 51) = w2 at *
      refine wp_region_held_drew (S := (fun w' => w'.cell? ⟨w1.heap.size, 0, none⟩ = some (.int .i64 b) ∧ w'.cell? ⟨w1.heap.size, 1, none⟩ = some (.int .i64 a))) (by as_aux_lemma => kernel_rfl) ⟨e0, e1⟩ (fun _hHeld => ?_)
      refine takeF 0 17 ?v1 rfl (Or.inl ⟨by rfl, ?hy1⟩) ?rest1
      case hy1 => intro wz hSw; (try dsimp only at hSw); go_simp; try with_reducible rfl
      simp only [Act.put, List.setIfInBounds_toArray, List.set_cons_zero, List.set_cons_succ]
      refine takeF 1 18 ?v2 rfl (Or.inl ⟨by rfl, ?hy2⟩) ?rest2
      case hy2 => intro wz hSw; (try dsimp only at hSw); go_simp; try with_reducible rfl
      simp only [Act.put, List.setIfInBounds_toArray, List.set_cons_zero, List.set_cons_succ]
      refine takeF 2 19 ?v3 rfl (Or.inl ⟨by rfl, ?hy3⟩) ?rest3
      case hy3 => intro wz hSw; (try dsimp only at hSw); go_simp; try with_reducible rfl
      simp only [Act.put, List.setIfInBounds_toArray, List.set_cons_zero, List.set_cons_succ]
      refine takeF 3 20 ?v4 rfl (Or.inl ⟨by rfl, ?hy4⟩) ?rest4
      case hy4 => intro wz hSw; (try dsimp only at hSw); go_simp; try with_reducible rfl
      simp only [Act.put, List.setIfInBounds_toArray, List.set_cons_zero, List.set_cons_succ]
      refine takeF 4 21 ?v5 rfl (Or.inl ⟨by rfl, ?hy5⟩) ?rest5
      case hy5 => intro wz hSw; (try dsimp only at hSw); go_simp; try with_reducible rfl
      simp only [Act.put, List.setIfInBounds_toArray, List.set_cons_zero, List.set_cons_succ]
      refine takeF 5 22 ?v6 rfl (Or.inl ⟨by rfl, ?hy6⟩) ?rest6
      case hy6 => intro wz hSw; (try dsimp only at hSw); go_simp; try with_reducible rfl
      simp only [Act.put, List.setIfInBounds_toArray, List.set_cons_zero, List.set_cons_succ]
      refine takeF 6 23 ?v7 rfl (Or.inl ⟨by rfl, ?hy7⟩) ?rest7
      case hy7 => intro wz hSw; (try dsimp only at hSw); go_simp; try with_reducible rfl
      simp only [Act.put, List.setIfInBounds_toArray, List.set_cons_zero, List.set_cons_succ]
      refine takeF 7 24 ?v8 rfl (Or.inl ⟨by rfl, ?hy8⟩) ?rest8
      case hy8 => intro wz hSw; (try dsimp only at hSw); go_simp; try with_reducible rfl
      simp only [Act.put, List.setIfInBounds_toArray, List.set_cons_zero, List.set_cons_succ]
      refine takeF 8 25 ?v9 rfl (Or.inl ⟨by rfl, ?hy9⟩) ?rest9
      case hy9 => intro wz hSw; (try dsimp only at hSw); go_simp; try with_reducible rfl
      simp only [Act.put, List.setIfInBounds_toArray, List.set_cons_zero, List.set_cons_succ]
      refine takeF 9 6 ?v10 rfl (Or.inl ⟨by rfl, ?hy10⟩) ?rest10
      case hy10 => intro wz hSw; (try dsimp only at hSw); go_simp; try with_reducible rfl
      simp only [Act.put, List.setIfInBounds_toArray, List.set_cons_zero, List.set_cons_succ]
      refine wpAnyH_done (by as_aux_lemma => kernel_rfl) ?_ _
      go_upto_region 4 with fail
      have hln := fun wx (hb : Below w2.heap.size w2 wx) => lans_any _ (C.lines a b) f.seq wx (HLN.out.below hb)
      refine wp_region_held_drew (S := (fun w' => w'.cell? ⟨w1.heap.size, 2, none⟩ = some (.int .i64 f.seq))) (by as_aux_lemma => kernel_rfl) e2 (fun _hHeld => ?_)
      refine takeF 0 27 ?v11 rfl (Or.inl ⟨by rfl, ?hy11⟩) ?rest11
      case hy11 => intro wz hSw; (try dsimp only at hSw); go_simp; try with_reducible rfl
      simp only [Act.put, List.setIfInBounds_toArray, List.set_cons_zero, List.set_cons_succ]
      refine takeF 1 28 ?v12 rfl (Or.inl ⟨by rfl, ?hy12⟩) ?rest12
      case hy12 => intro wz hSw; (try dsimp only at hSw); go_simp; try with_reducible rfl
      simp only [Act.put, List.setIfInBounds_toArray, List.set_cons_zero, List.set_cons_succ]
      refine takeF 2 29 ?v13 rfl (Or.inl ⟨by rfl, ?hy13⟩) ?rest13
      case hy13 => intro wz hSw; (try dsimp only at hSw); go_simp; try with_reducible rfl
      simp only [Act.put, List.setIfInBounds_toArray, List.set_cons_zero, List.set_cons_succ]
      refine takeF 4 31 ?v14 rfl (Or.inl ⟨by rfl, ?hy14⟩) ?rest14
      case hy14 => intro wz hSw; (try dsimp only at hSw); go_simp; try with_reducible rfl
      simp only [Act.put, List.setIfInBounds_toArray, List.set_cons_zero, List.set_cons_succ]
      refine takeF 5 32 ?v15 rfl (Or.inl ⟨by rfl, ?hy15⟩) ?rest15
      case hy15 => intro wz hSw; (try dsimp only at hSw); go_simp; try with_reducible rfl
      simp only [Act.put, List.setIfInBounds_toArray, List.set_cons_zero, List.set_cons_succ]
      refine wpAnyH_ready (rs := [3]) (by as_aux_lemma => kernel_rfl) (by simp) ?_
      refine (AllReadyH.cons rfl (fun K' hK => ?_) AllReadyH.nil)
      go_simp
      refine hK.out _ _ e2 (fun _ => ?_)
      clear hK K'
      refine wpAnyH_ready (rs := [6]) (by as_aux_lemma => kernel_rfl) (by simp) ?_
      refine (AllReadyH.cons rfl (fun K' hK => ?_) AllReadyH.nil)
      go_simp
      go_wp2_with (go_at_call 95; refine (hln _ (Below.refl _ _).drew.drew).mono ?_; rintro e w3 ⟨v3, rfl, hl3, hwd⟩)
      have hw3 : Below w2.heap.size w2 w3 := ⟨hwd.os, hwd.tape, hwd.output, hwd.size, hwd.block⟩
      clear hwd
      have HC3 := hid (HC2.out.below hw3)
      obtain ⟨nx1, st1, hi1, d0, d1, d2, d3, d4, d5, d6, d7, p1, c1, el, ev, hr3⟩ := LneNew.spelled (F := F) hl3 HC2.out.fin
      subst ev
      have HR3 := hid hr3
      have HEL := hid el
      clear hl3 hr3 el
      obtain ⟨⟨m0, m1, m2, m3, m4, m5, m6, m7, m8, m9, m10⟩, mf⟩ := HC3.out.lcells (a := a) (b := b) (by assumption) (by assumption) rfl rfl rfl
      rw [hvs] at m1
      have HX3 := hid (heap_keep HX2.out hw3)
      have t2 := heap_cell HX3.out 2
      have g0 := mf (10 + a * 44 + b * 11)
      have g1 := mf (10 + a * 44 + b * 11 + 1)
      have g2 := mf (10 + a * 44 + b * 11 + 2)
      have g3 := mf (10 + a * 44 + b * 11 + 3)
      have g4 := mf (10 + a * 44 + b * 11 + 4)
      have g5 := mf (10 + a * 44 + b * 11 + 5)
      have g6 := mf (10 + a * 44 + b * 11 + 6)
      have g7 := mf (10 + a * 44 + b * 11 + 7)
      have g8 := mf (10 + a * 44 + b * 11 + 8)
      have g9 := mf (10 + a * 44 + b * 11 + 9)
      have g10 := mf (10 + a * 44 + b * 11 + 10)
      have hlt3 : cb < w3.heap.size := HC3.out.lt
      refine hK.out _ _ t2 (fun _ => ?_)
      clear hK K'
      refine takeF 7 26 ?v16 rfl (Or.inl ⟨by rfl, ?hy16⟩) ?rest16
      case hy16 => intro wz hSw; (try dsimp only at hSw); go_simp; try with_reducible rfl
      simp only [Act.put, List.setIfInBounds_toArray, List.set_cons_zero, List.set_cons_succ]
      refine takeF 8 34 ?v17 rfl (Or.inl ⟨by rfl, ?hy17⟩) ?rest17
      case hy17 => intro wz hSw; (try dsimp only at hSw); go_simp; try with_reducible rfl
      simp only [Act.put, List.setIfInBounds_toArray, List.set_cons_zero, List.set_cons_succ]
      refine takeF 9 35 ?v18 rfl (Or.inl ⟨by rfl, ?hy18⟩) ?rest18
      case hy18 => intro wz hSw; (try dsimp only at hSw); go_simp; try with_reducible rfl
      simp only [Act.put, List.setIfInBounds_toArray, List.set_cons_zero, List.set_cons_succ]
      refine takeF 10 36 ?v19 rfl (Or.inl ⟨by rfl, ?hy19⟩) ?rest19
      case hy19 => intro wz hSw; (try dsimp only at hSw); go_simp; try with_reducible rfl
      simp only [Act.put, List.setIfInBounds_toArray, List.set_cons_zero, List.set_cons_succ]
      have hST : CluAt (((((((((((w3.setCell ⟨cb, 10 + a * 44 + b * 11, none⟩ (.int .i64 nx1)).setCell ⟨cb, 10 + a * 44 + b * 11 + 1, none⟩ (.slice p1 st1.length c1)).setCell ⟨cb, 10 + a * 44 + b * 11 + 2, none⟩ (.int .i64 hi1)).setCell ⟨cb, 10 + a * 44 + b * 11 + 3, none⟩ (.bool d0)).setCell ⟨cb, 10 + a * 44 + b * 11 + 4, none⟩ (.bool d1)).setCell ⟨cb, 10 + a * 44 + b * 11 + 5, none⟩ (.bool d2)).setCell ⟨cb, 10 + a * 44 + b * 11 + 6, none⟩ (.bool d3)).setCell ⟨cb, 10 + a * 44 + b * 11 + 7, none⟩ (.bool d4)).setCell ⟨cb, 10 + a * 44 + b * 11 + 8, none⟩ (.bool d5)).setCell ⟨cb, 10 + a * 44 + b * 11 + 9, none⟩ (.bool d6)).setCell ⟨cb, 10 + a * 44 + b * 11 + 10, none⟩ (.bool d7)) cb F { Z with vs := fun a' b' => if a' = a ∧ b' = b then .slice p1 st1.length c1 else Z.vs a' b' } (setLi C a b ⟨nx1, st1, hi1, [d0, d1, d2, d3, d4, d5, d6, d7]⟩) ∧ CStep cb w3 F Z (((((((((((w3.setCell ⟨cb, 10 + a * 44 + b * 11, none⟩ (.int .i64 nx1)).setCell ⟨cb, 10 + a * 44 + b * 11 + 1, none⟩ (.slice p1 st1.length c1)).setCell ⟨cb, 10 + a * 44 + b * 11 + 2, none⟩ (.int .i64 hi1)).setCell ⟨cb, 10 + a * 44 + b * 11 + 3, none⟩ (.bool d0)).setCell ⟨cb, 10 + a * 44 + b * 11 + 4, none⟩ (.bool d1)).setCell ⟨cb, 10 + a * 44 + b * 11 + 5, none⟩ (.bool d2)).setCell ⟨cb, 10 + a * 44 + b * 11 + 6, none⟩ (.bool d3)).setCell ⟨cb, 10 + a * 44 + b * 11 + 7, none⟩ (.bool d4)).setCell ⟨cb, 10 + a * 44 + b * 11 + 8, none⟩ (.bool d5)).setCell ⟨cb, 10 + a * 44 + b * 11 + 9, none⟩ (.bool d6)).setCell ⟨cb, 10 + a * 44 + b * 11 + 10, none⟩ (.bool d7)) F { Z with vs := fun a' b' => if a' = a ∧ b' = b then .slice p1 st1.length c1 else Z.vs a' b' } := HC3.out.setLine (by assumption) (by assumption) (l := ⟨nx1, st1, hi1, [d0, d1, d2, d3, d4, d5, d6, d7]⟩) HR3.out rfl
      have hxx : (((((((((((w3.setCell ⟨cb, 10 + a * 44 + b * 11, none⟩ (.int .i64 nx1)).setCell ⟨cb, 10 + a * 44 + b * 11 + 1, none⟩ (.slice p1 st1.length c1)).setCell ⟨cb, 10 + a * 44 + b * 11 + 2, none⟩ (.int .i64 hi1)).setCell ⟨cb, 10 + a * 44 + b * 11 + 3, none⟩ (.bool d0)).setCell ⟨cb, 10 + a * 44 + b * 11 + 4, none⟩ (.bool d1)).setCell ⟨cb, 10 + a * 44 + b * 11 + 5, none⟩ (.bool d2)).setCell ⟨cb, 10 + a * 44 + b * 11 + 6, none⟩ (.bool d3)).setCell ⟨cb, 10 + a * 44 + b * 11 + 7, none⟩ (.bool d4)).setCell ⟨cb, 10 + a * 44 + b * 11 + 8, none⟩ (.bool d5)).setCell ⟨cb, 10 + a * 44 + b * 11 + 9, none⟩ (.bool d6)).setCell ⟨cb, 10 + a * 44 + b * 11 + 10, none⟩ (.bool d7)).heap[w1.heap.size]? = some (.cells #[.int .i64 b, .int .i64 a, .int .i64 f.seq, .bool true, .int .i64 f.thread, .int .i64 f.mail.host, .int .i64 f.mail.thread, .slice pl f.mail.label.length cl, .slice pg f.mail.grants.length cg, .string ⟨f.mail.text.toArray⟩, .slice pc f.certs.length cc] 51 (0, 0)) := box_cstep hST.2 HC3.out HX3.out (by decide) (by decide) (by decide) (by decide) (by decide) (by decide)
      have HST := hid hST
      have HXX := hid hxx
      clear hST hxx
      have t2b := heap_cell HXX.out 2
      refine wpAnyH_ready (rs := [11]) (by as_aux_lemma => kernel_rfl) (by simp) ?_
      refine (AllReadyH.cons rfl (fun K' hK => ?_) AllReadyH.nil)
      go_simp
      refine hK.out _ _ t2b (fun _ => ?_)
      clear hK K'
      refine wpAnyH_done (by as_aux_lemma => kernel_rfl) ?_ _
      generalize (((((((((((w3.setCell ⟨cb, 10 + a * 44 + b * 11, none⟩ (.int .i64 nx1)).setCell ⟨cb, 10 + a * 44 + b * 11 + 1, none⟩ (.slice p1 st1.length c1)).setCell ⟨cb, 10 + a * 44 + b * 11 + 2, none⟩ (.int .i64 hi1)).setCell ⟨cb, 10 + a * 44 + b * 11 + 3, none⟩ (.bool d0)).setCell ⟨cb, 10 + a * 44 + b * 11 + 4, none⟩ (.bool d1)).setCell ⟨cb, 10 + a * 44 + b * 11 + 5, none⟩ (.bool d2)).setCell ⟨cb, 10 + a * 44 + b * 11 + 6, none⟩ (.bool d3)).setCell ⟨cb, 10 + a * 44 + b * 11 + 7, none⟩ (.bool d4)).setCell ⟨cb, 10 + a * 44 + b * 11 + 8, none⟩ (.bool d5)).setCell ⟨cb, 10 + a * 44 + b * 11 + 9, none⟩ (.bool d6)).setCell ⟨cb, 10 + a * 44 + b * 11 + 10, none⟩ (.bool d7)) = w4 at *
      generalize { Z with vs := fun a' b' => if a' = a ∧ b' = b then .slice p1 st1.length c1 else Z.vs a' b' } = Z4 at *
      have HE : Hid (comeC C s = setLi C a b ⟨nx1, st1, hi1, [d0, d1, d2, d3, d4, d5, d6, d7]⟩) := hid (by rw [comeC_ack HDS.out HACK.out, HAB.out.1, HAB.out.2, ← HEL.out]; rfl)
      clear k0 k1 k2 k3 k4 k5 k6 k7 k8 k9 k10 kf m0 m1 m2 m3 m4 m5 m6 m7 m8 m9 m10 mf g0 g1 g2 g3 g4 g5 g6 g7 g8 g9 g10 hlt3 HR3 HX3 HC3 HLN hln t2 t2b
      go_wp2
      rw [HE.out]
      exact bodyPost_ret (results_none rfl _ _ _) rfl ⟨rfl, _, _, HST.out.1, HS2.out.trans ((CStep.below hw3).trans HST.out.2)⟩
    | false =>
      have HX2 := hid (heap_alloc_new w1 (.cells #[.int .i64 b, .int .i64 a, .int .i64 f.seq, .bool false, .int .i64 f.thread, .int .i64 f.mail.host, .int .i64 f.mail.thread, .slice pl f.mail.label.length cl, .slice pg f.mail.grants.length cg, .string ⟨f.mail.text.toArray⟩, .slice pc f.certs.length cc] 51))
      have HC2 := hid (HC1.out.below (below_box w1 (.cells #[.int .i64 b, .int .i64 a, .int .i64 f.seq, .bool false, .int .i64 f.thread, .int .i64 f.mail.host, .int .i64 f.mail.thread, .slice pl f.mail.label.length cl, .slice pg f.mail.grants.length cg, .string ⟨f.mail.text.toArray⟩, .slice pc f.certs.length cc] 51)))
      have HS2 := hid (CStep.below (cb := cb) (F := F) (Z := Z) (below_then hw1 (below_box w1 (.cells #[.int .i64 b, .int .i64 a, .int .i64 f.seq, .bool false, .int .i64 f.thread, .int .i64 f.mail.host, .int .i64 f.mail.thread, .slice pl f.mail.label.length cl, .slice pg f.mail.grants.length cg, .string ⟨f.mail.text.toArray⟩, .slice pc f.certs.length cc] 51))))
      obtain ⟨e0, e1, e2, e3, e4, e5, e6, e7, e8, e9, e10⟩ := cells11 HX2.out
      have HB12 := hid (below_box w1 (.cells #[.int .i64 b, .int .i64 a, .int .i64 f.seq, .bool false, .int .i64 f.thread, .int .i64 f.mail.host, .int .i64 f.mail.thread, .slice pl f.mail.label.length cl, .slice pg f.mail.grants.length cg, .string ⟨f.mail.text.toArray⟩, .slice pc f.certs.length cc] 51))
      have hlt2 := HC2.out.lt
      have hbl := heap_lt HX2.out
      have HLN := hid (HC2.out.line (a := b) (b := a) (by assumption) (by assumption))
      obtain ⟨⟨k0, k1, k2, k3, k4, k5, k6, k7, k8, k9, k10⟩, kf⟩ := HC2.out.lcells (a := b) (b := a) (by assumption) (by assumption) rfl rfl rfl
      obtain ⟨pv, cv, hvs⟩ := (HC2.out.snt b a (by assumption) (by assumption)).at.slice
      rw [hvs] at k1
      unfold lneC at HLN
      rw [hvs] at HLN
      go_upto_region 5 with fail
      generalize w1.alloc (.cells #[.int .i64 b, .int .i64 a, .int .i64 f.seq, .bool false, .int .i64 f.thread, .int .i64 f.mail.host, .int .i64 f.mail.thread, .slice pl f.mail.label.length cl, .slice pg f.mail.grants.length cg, .string ⟨f.mail.text.toArray⟩, .slice pc f.certs.length cc] 51) = w2 at *
      refine wp_region_held_drew (S := (fun w' => w'.cell? ⟨w1.heap.size, 0, none⟩ = some (.int .i64 b) ∧ w'.cell? ⟨w1.heap.size, 1, none⟩ = some (.int .i64 a))) (by as_aux_lemma => kernel_rfl) ⟨e0, e1⟩ (fun _hHeld => ?_)
      refine takeF 0 37 ?v20 rfl (Or.inl ⟨by rfl, ?hy20⟩) ?rest20
      case hy20 => intro wz hSw; (try dsimp only at hSw); go_simp; try with_reducible rfl
      simp only [Act.put, List.setIfInBounds_toArray, List.set_cons_zero, List.set_cons_succ]
      refine takeF 1 38 ?v21 rfl (Or.inl ⟨by rfl, ?hy21⟩) ?rest21
      case hy21 => intro wz hSw; (try dsimp only at hSw); go_simp; try with_reducible rfl
      simp only [Act.put, List.setIfInBounds_toArray, List.set_cons_zero, List.set_cons_succ]
      refine takeF 2 39 ?v22 rfl (Or.inl ⟨by rfl, ?hy22⟩) ?rest22
      case hy22 => intro wz hSw; (try dsimp only at hSw); go_simp; try with_reducible rfl
      simp only [Act.put, List.setIfInBounds_toArray, List.set_cons_zero, List.set_cons_succ]
      refine takeF 3 40 ?v23 rfl (Or.inl ⟨by rfl, ?hy23⟩) ?rest23
      case hy23 => intro wz hSw; (try dsimp only at hSw); go_simp; try with_reducible rfl
      simp only [Act.put, List.setIfInBounds_toArray, List.set_cons_zero, List.set_cons_succ]
      refine takeF 4 41 ?v24 rfl (Or.inl ⟨by rfl, ?hy24⟩) ?rest24
      case hy24 => intro wz hSw; (try dsimp only at hSw); go_simp; try with_reducible rfl
      simp only [Act.put, List.setIfInBounds_toArray, List.set_cons_zero, List.set_cons_succ]
      refine takeF 5 42 ?v25 rfl (Or.inl ⟨by rfl, ?hy25⟩) ?rest25
      case hy25 => intro wz hSw; (try dsimp only at hSw); go_simp; try with_reducible rfl
      simp only [Act.put, List.setIfInBounds_toArray, List.set_cons_zero, List.set_cons_succ]
      refine takeF 6 43 ?v26 rfl (Or.inl ⟨by rfl, ?hy26⟩) ?rest26
      case hy26 => intro wz hSw; (try dsimp only at hSw); go_simp; try with_reducible rfl
      simp only [Act.put, List.setIfInBounds_toArray, List.set_cons_zero, List.set_cons_succ]
      refine takeF 7 44 ?v27 rfl (Or.inl ⟨by rfl, ?hy27⟩) ?rest27
      case hy27 => intro wz hSw; (try dsimp only at hSw); go_simp; try with_reducible rfl
      simp only [Act.put, List.setIfInBounds_toArray, List.set_cons_zero, List.set_cons_succ]
      refine takeF 8 45 ?v28 rfl (Or.inl ⟨by rfl, ?hy28⟩) ?rest28
      case hy28 => intro wz hSw; (try dsimp only at hSw); go_simp; try with_reducible rfl
      simp only [Act.put, List.setIfInBounds_toArray, List.set_cons_zero, List.set_cons_succ]
      refine takeF 9 7 ?v29 rfl (Or.inl ⟨by rfl, ?hy29⟩) ?rest29
      case hy29 => intro wz hSw; (try dsimp only at hSw); go_simp; try with_reducible rfl
      simp only [Act.put, List.setIfInBounds_toArray, List.set_cons_zero, List.set_cons_succ]
      refine wpAnyH_done (by as_aux_lemma => kernel_rfl) ?_ _
      go_upto_region 6 with fail
      have hln := fun wx (hb : Below w2.heap.size w2 wx) => ltake_any _ (C.lines b a) f.seq wx (HLN.out.below hb)
      refine wp_region_held_drew (S := (fun w' => w'.cell? ⟨w1.heap.size, 2, none⟩ = some (.int .i64 f.seq))) (by as_aux_lemma => kernel_rfl) e2 (fun _hHeld => ?_)
      refine takeF 0 47 ?v30 rfl (Or.inl ⟨by rfl, ?hy30⟩) ?rest30
      case hy30 => intro wz hSw; (try dsimp only at hSw); go_simp; try with_reducible rfl
      simp only [Act.put, List.setIfInBounds_toArray, List.set_cons_zero, List.set_cons_succ]
      refine takeF 1 48 ?v31 rfl (Or.inl ⟨by rfl, ?hy31⟩) ?rest31
      case hy31 => intro wz hSw; (try dsimp only at hSw); go_simp; try with_reducible rfl
      simp only [Act.put, List.setIfInBounds_toArray, List.set_cons_zero, List.set_cons_succ]
      refine takeF 2 49 ?v32 rfl (Or.inl ⟨by rfl, ?hy32⟩) ?rest32
      case hy32 => intro wz hSw; (try dsimp only at hSw); go_simp; try with_reducible rfl
      simp only [Act.put, List.setIfInBounds_toArray, List.set_cons_zero, List.set_cons_succ]
      refine takeF 4 51 ?v33 rfl (Or.inl ⟨by rfl, ?hy33⟩) ?rest33
      case hy33 => intro wz hSw; (try dsimp only at hSw); go_simp; try with_reducible rfl
      simp only [Act.put, List.setIfInBounds_toArray, List.set_cons_zero, List.set_cons_succ]
      refine takeF 5 52 ?v34 rfl (Or.inl ⟨by rfl, ?hy34⟩) ?rest34
      case hy34 => intro wz hSw; (try dsimp only at hSw); go_simp; try with_reducible rfl
      simp only [Act.put, List.setIfInBounds_toArray, List.set_cons_zero, List.set_cons_succ]
      refine wpAnyH_ready (rs := [3]) (by as_aux_lemma => kernel_rfl) (by simp) ?_
      refine (AllReadyH.cons rfl (fun K' hK => ?_) AllReadyH.nil)
      go_simp
      refine hK.out _ _ e2 (fun _ => ?_)
      clear hK K'
      refine wpAnyH_ready (rs := [6]) (by as_aux_lemma => kernel_rfl) (by simp) ?_
      refine (AllReadyH.cons rfl (fun K' hK => ?_) AllReadyH.nil)
      go_simp
      go_wp2_with (go_at_call 96; refine (hln _ (Below.refl _ _).drew.drew).mono ?_; rintro e w3 ⟨v3, rfl, hl3, hwd⟩)
      have hw3 : Below w2.heap.size w2 w3 := ⟨hwd.os, hwd.tape, hwd.output, hwd.size, hwd.block⟩
      clear hwd
      have HC3 := hid (HC2.out.below hw3)
      obtain ⟨nx1, st1, hi1, d0, d1, d2, d3, d4, d5, d6, d7, p1, c1, el, ev, hr3⟩ := LneNew.spelled (F := F) hl3 HC2.out.fin
      subst ev
      have HR3 := hid hr3
      have HEL := hid el
      clear hl3 hr3 el
      obtain ⟨⟨m0, m1, m2, m3, m4, m5, m6, m7, m8, m9, m10⟩, mf⟩ := HC3.out.lcells (a := b) (b := a) (by assumption) (by assumption) rfl rfl rfl
      rw [hvs] at m1
      have HX3 := hid (heap_keep HX2.out hw3)
      have t2 := heap_cell HX3.out 2
      have g0 := mf (10 + b * 44 + a * 11)
      have g1 := mf (10 + b * 44 + a * 11 + 1)
      have g2 := mf (10 + b * 44 + a * 11 + 2)
      have g3 := mf (10 + b * 44 + a * 11 + 3)
      have g4 := mf (10 + b * 44 + a * 11 + 4)
      have g5 := mf (10 + b * 44 + a * 11 + 5)
      have g6 := mf (10 + b * 44 + a * 11 + 6)
      have g7 := mf (10 + b * 44 + a * 11 + 7)
      have g8 := mf (10 + b * 44 + a * 11 + 8)
      have g9 := mf (10 + b * 44 + a * 11 + 9)
      have g10 := mf (10 + b * 44 + a * 11 + 10)
      have hlt3 : cb < w3.heap.size := HC3.out.lt
      refine hK.out _ _ t2 (fun _ => ?_)
      clear hK K'
      refine takeF 7 46 ?v35 rfl (Or.inl ⟨by rfl, ?hy35⟩) ?rest35
      case hy35 => intro wz hSw; (try dsimp only at hSw); go_simp; try with_reducible rfl
      simp only [Act.put, List.setIfInBounds_toArray, List.set_cons_zero, List.set_cons_succ]
      refine takeF 8 54 ?v36 rfl (Or.inl ⟨by rfl, ?hy36⟩) ?rest36
      case hy36 => intro wz hSw; (try dsimp only at hSw); go_simp; try with_reducible rfl
      simp only [Act.put, List.setIfInBounds_toArray, List.set_cons_zero, List.set_cons_succ]
      refine takeF 9 55 ?v37 rfl (Or.inl ⟨by rfl, ?hy37⟩) ?rest37
      case hy37 => intro wz hSw; (try dsimp only at hSw); go_simp; try with_reducible rfl
      simp only [Act.put, List.setIfInBounds_toArray, List.set_cons_zero, List.set_cons_succ]
      refine takeF 10 56 ?v38 rfl (Or.inl ⟨by rfl, ?hy38⟩) ?rest38
      case hy38 => intro wz hSw; (try dsimp only at hSw); go_simp; try with_reducible rfl
      simp only [Act.put, List.setIfInBounds_toArray, List.set_cons_zero, List.set_cons_succ]
      have hST : CluAt (((((((((((w3.setCell ⟨cb, 10 + b * 44 + a * 11, none⟩ (.int .i64 nx1)).setCell ⟨cb, 10 + b * 44 + a * 11 + 1, none⟩ (.slice p1 st1.length c1)).setCell ⟨cb, 10 + b * 44 + a * 11 + 2, none⟩ (.int .i64 hi1)).setCell ⟨cb, 10 + b * 44 + a * 11 + 3, none⟩ (.bool d0)).setCell ⟨cb, 10 + b * 44 + a * 11 + 4, none⟩ (.bool d1)).setCell ⟨cb, 10 + b * 44 + a * 11 + 5, none⟩ (.bool d2)).setCell ⟨cb, 10 + b * 44 + a * 11 + 6, none⟩ (.bool d3)).setCell ⟨cb, 10 + b * 44 + a * 11 + 7, none⟩ (.bool d4)).setCell ⟨cb, 10 + b * 44 + a * 11 + 8, none⟩ (.bool d5)).setCell ⟨cb, 10 + b * 44 + a * 11 + 9, none⟩ (.bool d6)).setCell ⟨cb, 10 + b * 44 + a * 11 + 10, none⟩ (.bool d7)) cb F { Z with vs := fun a' b' => if a' = b ∧ b' = a then .slice p1 st1.length c1 else Z.vs a' b' } (setLi C b a ⟨nx1, st1, hi1, [d0, d1, d2, d3, d4, d5, d6, d7]⟩) ∧ CStep cb w3 F Z (((((((((((w3.setCell ⟨cb, 10 + b * 44 + a * 11, none⟩ (.int .i64 nx1)).setCell ⟨cb, 10 + b * 44 + a * 11 + 1, none⟩ (.slice p1 st1.length c1)).setCell ⟨cb, 10 + b * 44 + a * 11 + 2, none⟩ (.int .i64 hi1)).setCell ⟨cb, 10 + b * 44 + a * 11 + 3, none⟩ (.bool d0)).setCell ⟨cb, 10 + b * 44 + a * 11 + 4, none⟩ (.bool d1)).setCell ⟨cb, 10 + b * 44 + a * 11 + 5, none⟩ (.bool d2)).setCell ⟨cb, 10 + b * 44 + a * 11 + 6, none⟩ (.bool d3)).setCell ⟨cb, 10 + b * 44 + a * 11 + 7, none⟩ (.bool d4)).setCell ⟨cb, 10 + b * 44 + a * 11 + 8, none⟩ (.bool d5)).setCell ⟨cb, 10 + b * 44 + a * 11 + 9, none⟩ (.bool d6)).setCell ⟨cb, 10 + b * 44 + a * 11 + 10, none⟩ (.bool d7)) F { Z with vs := fun a' b' => if a' = b ∧ b' = a then .slice p1 st1.length c1 else Z.vs a' b' } := HC3.out.setLine (by assumption) (by assumption) (l := ⟨nx1, st1, hi1, [d0, d1, d2, d3, d4, d5, d6, d7]⟩) HR3.out rfl
      have hxx : (((((((((((w3.setCell ⟨cb, 10 + b * 44 + a * 11, none⟩ (.int .i64 nx1)).setCell ⟨cb, 10 + b * 44 + a * 11 + 1, none⟩ (.slice p1 st1.length c1)).setCell ⟨cb, 10 + b * 44 + a * 11 + 2, none⟩ (.int .i64 hi1)).setCell ⟨cb, 10 + b * 44 + a * 11 + 3, none⟩ (.bool d0)).setCell ⟨cb, 10 + b * 44 + a * 11 + 4, none⟩ (.bool d1)).setCell ⟨cb, 10 + b * 44 + a * 11 + 5, none⟩ (.bool d2)).setCell ⟨cb, 10 + b * 44 + a * 11 + 6, none⟩ (.bool d3)).setCell ⟨cb, 10 + b * 44 + a * 11 + 7, none⟩ (.bool d4)).setCell ⟨cb, 10 + b * 44 + a * 11 + 8, none⟩ (.bool d5)).setCell ⟨cb, 10 + b * 44 + a * 11 + 9, none⟩ (.bool d6)).setCell ⟨cb, 10 + b * 44 + a * 11 + 10, none⟩ (.bool d7)).heap[w1.heap.size]? = some (.cells #[.int .i64 b, .int .i64 a, .int .i64 f.seq, .bool false, .int .i64 f.thread, .int .i64 f.mail.host, .int .i64 f.mail.thread, .slice pl f.mail.label.length cl, .slice pg f.mail.grants.length cg, .string ⟨f.mail.text.toArray⟩, .slice pc f.certs.length cc] 51 (0, 0)) := box_cstep hST.2 HC3.out HX3.out (by decide) (by decide) (by decide) (by decide) (by decide) (by decide)
      have HST := hid hST
      have HXX := hid hxx
      clear hST hxx
      have t2b := heap_cell HXX.out 2
      refine wpAnyH_ready (rs := [11]) (by as_aux_lemma => kernel_rfl) (by simp) ?_
      refine (AllReadyH.cons rfl (fun K' hK => ?_) AllReadyH.nil)
      go_simp
      refine hK.out _ _ t2b (fun _ => ?_)
      clear hK K'
      refine takeF 12 5 ?v39 rfl (Or.inl ⟨by rfl, ?hy39⟩) ?rest39
      case hy39 => intro wz hSw; (try dsimp only at hSw); go_simp; try with_reducible rfl
      simp only [Act.put, List.setIfInBounds_toArray, List.set_cons_zero, List.set_cons_succ]
      refine wpAnyH_done (by as_aux_lemma => kernel_rfl) ?_ _
      generalize (((((((((((w3.setCell ⟨cb, 10 + b * 44 + a * 11, none⟩ (.int .i64 nx1)).setCell ⟨cb, 10 + b * 44 + a * 11 + 1, none⟩ (.slice p1 st1.length c1)).setCell ⟨cb, 10 + b * 44 + a * 11 + 2, none⟩ (.int .i64 hi1)).setCell ⟨cb, 10 + b * 44 + a * 11 + 3, none⟩ (.bool d0)).setCell ⟨cb, 10 + b * 44 + a * 11 + 4, none⟩ (.bool d1)).setCell ⟨cb, 10 + b * 44 + a * 11 + 5, none⟩ (.bool d2)).setCell ⟨cb, 10 + b * 44 + a * 11 + 6, none⟩ (.bool d3)).setCell ⟨cb, 10 + b * 44 + a * 11 + 7, none⟩ (.bool d4)).setCell ⟨cb, 10 + b * 44 + a * 11 + 8, none⟩ (.bool d5)).setCell ⟨cb, 10 + b * 44 + a * 11 + 9, none⟩ (.bool d6)).setCell ⟨cb, 10 + b * 44 + a * 11 + 10, none⟩ (.bool d7)) = w4 at *
      generalize { Z with vs := fun a' b' => if a' = b ∧ b' = a then .slice p1 st1.length c1 else Z.vs a' b' } = Z4 at *
      obtain ⟨tl, te, hTK⟩ : ∃ tl te, takeLn (C.lines b a) f.seq = (tl, te) := ⟨_, _, rfl⟩
      have HTL : Hid (takeLn (lineC C f.fr f.to) f.seq = (⟨nx1, st1, hi1, [d0, d1, d2, d3, d4, d5, d6, d7]⟩, te)) := hid (by rw [HAB.out.1, HAB.out.2]; have e := HEL.out; rw [hTK] at e; simp only at e; rw [← e]; exact hTK)
      rw [hTK]
      simp only
      clear k0 k1 k2 k3 k4 k5 k6 k7 k8 k9 k10 kf m0 m1 m2 m3 m4 m5 m6 m7 m8 m9 m10 mf g0 g1 g2 g3 g4 g5 g6 g7 g8 g9 g10 hlt3 HR3 HX3 HC3 HLN hln t2 t2b hTK HEL
      obtain ⟨y0, y1, y2, y3, y4, y5, y6, y7, y8, y9, y10⟩ := cells11 HXX.out
      have HAK : Hid (FrmAt w4 (.agg #[.int .i64 a, .int .i64 b, .int .i64 f.seq, .bool true, .int .i64 0, .int .i64 0, .int .i64 0, .slice none 0 0, .slice none 0 0, .string ⟨#[]⟩, .slice none 0 0]) (⟨a, b, f.seq, true, 0, zeroMal, []⟩ : Frm)) := hid ⟨.slice none 0 0, .slice none 0 0, .slice none 0 0, rfl, LabAt.nil _ _ _ (fun _ => rfl), IntsAt.nil _ _ _ (fun _ => rfl), CrtsAt.nil _ _ _ (fun _ => rfl)⟩
      have HG4 : Hid (GoodC (setLi C b a ⟨nx1, st1, hi1, [d0, d1, d2, d3, d4, d5, d6, d7]⟩)) := hid (setLi_good HG.out _ _ _)
      have hput := cput_any cb F Z4 (setLi C b a ⟨nx1, st1, hi1, [d0, d1, d2, d3, d4, d5, d6, d7]⟩) _ (⟨a, b, f.seq, true, 0, zeroMal, []⟩ : Frm) w4 HST.out.1 HG4.out.net HAK.out
      have HS24 := hid (HS2.out.trans ((CStep.below hw3).trans HST.out.2))
      have HSI4 : Hid (Since w.heap.size w1 w4) := hid ((since_below (below_then HB12.out hw3)).trans (HST.out.2.since (HC2.out.below hw3) HC.out.fin) (below_then HB12.out hw3).size)
      have HSZ4 : Hid (w1.heap.size ≤ w4.heap.size) := hid (Nat.le_trans (below_then HB12.out hw3).size HST.out.2.kept.size)
      by_cases h0 : te = 0
      · subst h0
        have HE : Hid (comeC C s = acceptC (putC (setLi C b a ⟨nx1, st1, hi1, [d0, d1, d2, d3, d4, d5, d6, d7]⟩) (⟨a, b, f.seq, true, 0, zeroMal, []⟩ : Frm)) f) := hid (by rw [comeC_ok HDS.out HACK.out HTL.out, HAB.out.1, HAB.out.2])
        have HG5 := hid (putC_good HG4.out (⟨a, b, f.seq, true, 0, zeroMal, []⟩ : Frm))
        generalize setLi C b a ⟨nx1, st1, hi1, [d0, d1, d2, d3, d4, d5, d6, d7]⟩ = C4 at *
        go_wp2_with (first | (go_at_call 97; refine hput.mono ?_; rintro e w5 ⟨rfl, G5, Z5, hC5, hS5⟩; have HC5 := hid hC5; have HS5 := hid hS5; have HX5 := hid (box_cstep hS5 HST.out.1 HXX.out (by decide) (by decide) (by decide) (by decide) (by decide) (by decide)); obtain ⟨z0, z1, z2, z3, z4, z5, z6, z7, z8, z9, z10⟩ := cells11 HX5.out; clear hC5 hS5 hput) | fail)
        refine (caccept_any cb G5 Z5 _ _ f w5 HC5.out HG5.out (fun w'' hk => HFR.out w'' (since_keep HSI4.out HSZ4.out (HS5.out.keptF HST.out.1) HS5.out.more HC.out.fin hk)) HH2.out).mono ?_
        rintro e w6 ⟨rfl, G6, Z6, hC6, hS6⟩
        have HC6 := hid hC6
        have HS6 := hid hS6
        clear hC6 hS6
        go_wp2
        rw [HE.out]
        exact bodyPost_end (results_none rfl _ _ _) rfl ⟨rfl, _, _, HC6.out, HS24.out.trans (HS5.out.trans HS6.out)⟩
      · by_cases h10 : te = 10
        · subst h10
          have HE : Hid (comeC C s = putC (setLi C b a ⟨nx1, st1, hi1, [d0, d1, d2, d3, d4, d5, d6, d7]⟩) (⟨a, b, f.seq, true, 0, zeroMal, []⟩ : Frm)) := hid (by rw [comeC_twice HDS.out HACK.out HTL.out, HAB.out.1, HAB.out.2])
          go_wp2_with (first | (go_at_call 97; refine hput.mono ?_; rintro e w5 ⟨rfl, G5, Z5, hC5, hS5⟩; have HC5 := hid hC5; have HS5 := hid hS5; clear hC5 hS5 hput) | fail)
          rw [HE.out]
          exact bodyPost_end (results_none rfl _ _ _) rfl ⟨rfl, _, _, HC5.out, HS24.out.trans HS5.out⟩
        · have HE : Hid (comeC C s = setLi C b a ⟨nx1, st1, hi1, [d0, d1, d2, d3, d4, d5, d6, d7]⟩) := hid (by rw [comeC_old HDS.out HACK.out HTL.out h0 h10, HAB.out.1, HAB.out.2])
          have he0 : (te == 0) = false := by simpa using h0
          have he1 : (te == 10) = false := by simpa using h10
          clear h0 h10
          go_wp2
          rw [HE.out]
          exact bodyPost_end (results_none rfl _ _ _) rfl ⟨rfl, _, _, HST.out.1, HS24.out⟩
end Go.Proofs.YtgpldlbmjakjhaaGreat
namespace Go.Proofs.YtgpldlbmjakjhaaGreat
open Go.RowKit Go.Proofs.Parclose
theorem strs_get (l : List (List UInt8)) (j : Nat) (hj : j < l.length) : (strs l)[j]? = some (.string ⟨(l.getD j []).toArray⟩) := by
  unfold strs strV
  rw [List.getElem?_map, List.getElem?_eq_getElem hj, List.getD_eq_getElem?_getD, List.getElem?_eq_getElem hj]
  rfl
theorem strs_del (l : List (List UInt8)) (i : Nat) : (strs l).take i ++ (strs l).drop (i + 1) = strs (l.take i ++ l.drop (i + 1)) := by
  unfold strs
  rw [List.map_append, List.map_take, List.map_drop]
theorem moveC_out {C : Clu} {k n : Int} (h : ¬ (0 ≤ n ∧ n < (C.net.length : Int))) : moveC C k n = (C, code 4) := by
  unfold moveC
  rw [if_neg h]
theorem moveC_in {C : Clu} {k : Int} {i : Nat} (h : i < C.net.length) : moveC C k i = ((if k = 4 then (if k = 3 then C else { C with net := C.net.take i ++ C.net.drop (i + 1) }) else comeC (if k = 3 then C else { C with net := C.net.take i ++ C.net.drop (i + 1) }) (C.net.getD i [])), ⟨0, ((C.net.getD i []).length : Int), []⟩) := by
  unfold moveC
  rw [if_pos (by omega)]
  simp only [Int.toNat_natCast]
set_option maxRecDepth 100000 in
set_option maxHeartbeats 3200000 in
theorem cmove_any (cb : Nat) (k n : Int) (F : List Nat) (Z : CluV) (C : Clu) (w : World) (hc : CluAt w cb F Z C) (hg : GoodC C) (hk : k = 2 ∨ k = 3 ∨ k = 4) :
    Calls Tryz.prog 49 #[.pointer (some ⟨cb, 0, none⟩), .int .i64 k, .int .i64 n] w fun e w' => e = .returned (.agg #[.int .i64 (moveC C k n).2.code, .int .i64 (moveC C k n).2.n, .string ⟨(moveC C k n).2.text.toArray⟩]) ∧ ∃ G Z', CluAt w' cb G Z' (moveC C k n).1 ∧ CStep cb w F Z w' G Z' := by
  obtain ⟨pn, cn, hvn⟩ := texts_slice hc.net
  have k186 := hc.cnet.1
  rw [hvn] at k186
  have hlt := hc.lt
  have HC0 := hid (hc.reserve (.cells #[.int .i64 0, .int .i64 0, .string ⟨#[]⟩] 35))
  have HS0 := hid (CStep.reserve cb w F Z (.cells #[.int .i64 0, .int .i64 0, .string ⟨#[]⟩] 35))
  have HM0 : Hid (w.heap.size ∈ F ++ [w.heap.size]) := hid (by simp)
  have HC := hid hc
  have HG := hid hg
  have HVN := hid hvn
  clear hc hg hvn
  by_cases h1 : 0 ≤ n ∧ n < (C.net.length : Int)
  rotate_left
  · simp only [moveC_out h1]
    by_cases h2 : n < 0
    · clear h1
      go_enter Tryz.func49, Tryz.ntmps49
      go_wp2_with (go_at_call 47; refine (canswer_any 4 _).mono ?_; rintro e w1 ⟨rfl, hw1⟩; have HB1 := hid hw1; obtain ⟨b0, b1, b2, b3, b4, b5⟩ := cells3 (heap_keep (zero_box w) hw1); clear hw1)
      obtain ⟨e1, e2, e3⟩ := creply_end 4 0 [] (heap_keep (zero_box w) HB1.out) HM0.out (Nat.le_refl _) (HC0.out.below HB1.out) (HS0.out.trans (CStep.below HB1.out))
      exact bodyPost_ret (results_cell_row rfl _ _ w.heap.size 35 _ (0, 0) _ rfl e1 Tryz.underlying35 rfl (by kernel_rfl)) rfl ⟨rfl, _, _, e2, e3⟩
    · have h3 : (C.net.length : Int) ≤ n := by omega
      clear h1
      go_enter Tryz.func49, Tryz.ntmps49
      go_wp2_with (go_at_call 47; refine (canswer_any 4 _).mono ?_; rintro e w1 ⟨rfl, hw1⟩; have HB1 := hid hw1; obtain ⟨b0, b1, b2, b3, b4, b5⟩ := cells3 (heap_keep (zero_box w) hw1); clear hw1)
      obtain ⟨e1, e2, e3⟩ := creply_end 4 0 [] (heap_keep (zero_box w) HB1.out) HM0.out (Nat.le_refl _) (HC0.out.below HB1.out) (HS0.out.trans (CStep.below HB1.out))
      exact bodyPost_ret (results_cell_row rfl _ _ w.heap.size 35 _ (0, 0) _ rfl e1 Tryz.underlying35 rfl (by kernel_rfl)) rfl ⟨rfl, _, _, e2, e3⟩
  · obtain ⟨i, rfl⟩ : ∃ i : Nat, n = i := ⟨n.toNat, by omega⟩
    have hi : i < C.net.length := by omega
    simp only [moveC_in hi]
    have HN := hid HC.out.net
    rw [HVN.out] at HN
    obtain ⟨g, hpn⟩ : ∃ g, pn = some ⟨g, 0, none⟩ := by
      rcases HN.out.2 with ⟨h, h0⟩ | ⟨g, cap, cur, h, _⟩
      · omega
      · injection h with h _ _; exact ⟨g, h⟩
    subst hpn
    have xi : w.cell? ⟨g, i, none⟩ = some (.string ⟨(C.net.getD i []).toArray⟩) := by
      have := World.ownsRow.cells HN.out (g := g) rfl i _ (strs_get C.net i hi)
      rwa [WideShapes.add_plain, Nat.zero_add] at this
    have hgl := cell_block xi
    obtain ⟨m, hm⟩ : ∃ m, C.net.length = m + 1 := ⟨C.net.length - 1, by omega⟩
    have hm60 : m ≤ 1000 := by have := HG.out.net; omega
    have I0 : (0 : Int) ≤ i := by omega
    have I1 : (i : Int) < (C.net.length : Int) := by omega
    have I2 : ¬ ((i : Int) < 0) := by omega
    have I3 : ¬ ((C.net.length : Int) ≤ i) := by omega
    generalize C.net.getD i [] = s at *
    have hwi : IntKind.i64.wrap ((i : Int) + 1) = (i : Int) + 1 := Go.wrap_small _ (by omega) (by omega)
    have HLN : Hid ((C.net.take i ++ C.net.drop (i + 1)).length = m) := hid (by rw [List.length_append, List.length_take, List.length_drop]; omega)
    rcases hk with rfl | rfl | rfl
    · simp only [if_neg (show ¬ ((2 : Int) = 4) by decide), if_neg (show ¬ ((2 : Int) = 3) by decide)]
      have hdel := deleteT_any g m cn i (strs C.net) (w.alloc (.cells #[.int .i64 0, .int .i64 0, .string ⟨#[]⟩] 35)) (by rw [← hm]; exact own_later HN.out (below_box w _)) hm60 (by omega) (strs_one C.net)
      rw [← hm, strs_del] at hdel
      rw [← HLN.out] at hdel
      have HCD : Hid (GoodC { C with net := C.net.take i ++ C.net.drop (i + 1) }) := hid ⟨HG.out.ks, HG.out.now, HG.out.acts, by show (C.net.take i ++ C.net.drop (i + 1)).length ≤ 60; rw [HLN.out]; have := HG.out.net; omega⟩
      clear HLN hm
      generalize C.net.take i ++ C.net.drop (i + 1) = net' at *
      obtain ⟨A0, hA0, hB0⟩ := HC0.out.box
      have HA0 := hid hA0
      have HB0 := hid hB0.net
      have hgc : cb ≠ g := fun e => own_box (own_later HN.out (below_box w (.cells #[.int .i64 0, .int .i64 0, .string ⟨#[]⟩] 35))) hA0 (by decide) (by rw [e]; rfl)
      clear hA0 hB0
      go_enter Tryz.func49, Tryz.ntmps49
      go_wp2_with (first
        | (go_at_call 69; refine hdel.mono ?_; rintro e w1 ⟨rfl, hown, hgr⟩; have hA1 := heap_tk HA0.out hgc hgr; have d186 := (heap_cell hA1 186).trans HB0.out; rw [HVN.out] at d186; have q186 := heap_frozen hA1 186; have hSN := HC0.out.setNet (by rw [HVN.out]; exact hgr) hown (by rw [HVN.out]; exact fun k hk => .inl hk); have HSN := hid hSN; have HX1 := hid (box_cstep hSN.2 HC0.out (zero_box w) (by decide) (by decide) (by decide) (by decide) (by decide) (by decide)); clear hSN hA1 hdel)
        | (go_at_call 70; refine (ccome_any cb _ _ _ s _ HSN.out.1 HCD.out).mono ?_; rintro e w2 ⟨rfl, G2, Z2, hC2, hS2⟩; have HX2 := hid (box_cstep hS2 HSN.out.1 HX1.out (by decide) (by decide) (by decide) (by decide) (by decide) (by decide)); have HC2 := hid hC2; have HS2 := hid hS2; obtain ⟨b0, b1, b2, b3, b4, b5⟩ := cells3 HX2.out; clear hC2 hS2))
      obtain ⟨e1, e2, e3⟩ := creply_end 0 s.length [] HX2.out (HS2.out.more.1 _ (HSN.out.2.more.1 _ HM0.out)) (Nat.le_refl _) HC2.out (HS0.out.trans (HSN.out.2.trans HS2.out))
      exact bodyPost_ret (results_cell_row rfl _ _ w.heap.size 35 _ (0, 0) _ rfl e1 Tryz.underlying35 rfl (by kernel_rfl)) rfl ⟨rfl, _, _, e2, e3⟩
    · simp only [if_neg (show ¬ ((3 : Int) = 4) by decide), if_pos]
      go_enter Tryz.func49, Tryz.ntmps49
      go_wp2_with (first
        | (go_at_call 70; refine (ccome_any cb _ _ _ s _ HC0.out HG.out).mono ?_; rintro e w2 ⟨rfl, G2, Z2, hC2, hS2⟩; have HX2 := hid (box_cstep hS2 HC0.out (zero_box w) (by decide) (by decide) (by decide) (by decide) (by decide) (by decide)); have HC2 := hid hC2; have HS2 := hid hS2; obtain ⟨b0, b1, b2, b3, b4, b5⟩ := cells3 HX2.out; clear hC2 hS2)
        | fail)
      obtain ⟨e1, e2, e3⟩ := creply_end 0 s.length [] HX2.out (HS2.out.more.1 _ HM0.out) (Nat.le_refl _) HC2.out (HS0.out.trans HS2.out)
      exact bodyPost_ret (results_cell_row rfl _ _ w.heap.size 35 _ (0, 0) _ rfl e1 Tryz.underlying35 rfl (by kernel_rfl)) rfl ⟨rfl, _, _, e2, e3⟩
    · simp only [if_neg (show ¬ ((4 : Int) = 3) by decide), if_pos]
      have hdel := deleteT_any g m cn i (strs C.net) (w.alloc (.cells #[.int .i64 0, .int .i64 0, .string ⟨#[]⟩] 35)) (by rw [← hm]; exact own_later HN.out (below_box w _)) hm60 (by omega) (strs_one C.net)
      rw [← hm, strs_del] at hdel
      rw [← HLN.out] at hdel
      have HCD : Hid (GoodC { C with net := C.net.take i ++ C.net.drop (i + 1) }) := hid ⟨HG.out.ks, HG.out.now, HG.out.acts, by show (C.net.take i ++ C.net.drop (i + 1)).length ≤ 60; rw [HLN.out]; have := HG.out.net; omega⟩
      clear HLN hm
      generalize C.net.take i ++ C.net.drop (i + 1) = net' at *
      obtain ⟨A0, hA0, hB0⟩ := HC0.out.box
      have HA0 := hid hA0
      have HB0 := hid hB0.net
      have hgc : cb ≠ g := fun e => own_box (own_later HN.out (below_box w (.cells #[.int .i64 0, .int .i64 0, .string ⟨#[]⟩] 35))) hA0 (by decide) (by rw [e]; rfl)
      clear hA0 hB0
      go_enter Tryz.func49, Tryz.ntmps49
      go_wp2_with (first
        | (go_at_call 69; refine hdel.mono ?_; rintro e w1 ⟨rfl, hown, hgr⟩; have hA1 := heap_tk HA0.out hgc hgr; have d186 := (heap_cell hA1 186).trans HB0.out; rw [HVN.out] at d186; have q186 := heap_frozen hA1 186; have hSN := HC0.out.setNet (by rw [HVN.out]; exact hgr) hown (by rw [HVN.out]; exact fun k hk => .inl hk); have HSN := hid hSN; have HX1 := hid (box_cstep hSN.2 HC0.out (zero_box w) (by decide) (by decide) (by decide) (by decide) (by decide) (by decide)); obtain ⟨b0, b1, b2, b3, b4, b5⟩ := cells3 HX1.out; clear hSN hA1 hdel)
        | fail)
      obtain ⟨e1, e2, e3⟩ := creply_end 0 s.length [] HX1.out (HSN.out.2.more.1 _ HM0.out) (Nat.le_refl _) HSN.out.1 (HS0.out.trans HSN.out.2)
      exact bodyPost_ret (results_cell_row rfl _ _ w.heap.size 35 _ (0, 0) _ rfl e1 Tryz.underlying35 rfl (by kernel_rfl)) rfl ⟨rfl, _, _, e2, e3⟩
end Go.Proofs.YtgpldlbmjakjhaaGreat
namespace Go.Proofs.YtgpldlbmjakjhaaGreat
open Go.RowKit Go.Proofs.Parclose
def acV (a : Ac) (vl vg : Value) : Value := .agg #[.int .i64 a.kind, .int .i64 a.h, .int .i64 a.t, .int .i64 a.n, .int .i64 a.call.kind, .int .i64 a.call.h, .int .i64 a.call.t, .int .i64 a.call.n, .int .i64 a.call.c, vl, vg, .string ⟨a.call.text.toArray⟩]
def AcAt (w : World) (v : Value) (a : Ac) : Prop := ∃ vl vg, v = acV a vl vg ∧ LabAt w vl a.call.label ∧ IntsAt w vg a.call.grants
theorem AcAt.below {w wr : World} {v : Value} {a : Ac} (h : AcAt w v a) (hb : Below w.heap.size w wr) : AcAt wr v a := by
  obtain ⟨vl, vg, e, h1, h2⟩ := h
  exact ⟨vl, vg, e, h1.below hb, h2.below hb⟩
def AcRo (w : World) (F : List Nat) (v : Value) (a : Ac) : Prop := ∃ vl vg, v = acV a vl vg ∧ RoLab w F vl a.call.label ∧ RoInts w F vg a.call.grants
theorem AcRo.at {w : World} {F : List Nat} {v : Value} {a : Ac} (h : AcRo w F v a) : AcAt w v a := by
  obtain ⟨vl, vg, e, h1, h2⟩ := h
  exact ⟨vl, vg, e, h1.1, h2.1⟩
theorem CluAt.setActs1 {w : World} {cb : Nat} {F : List Nat} {Z : CluV} {C : Clu} (h : CluAt w cb F Z C) : CluAt (w.setCell ⟨cb, 1, none⟩ (.int .i64 ((C.acts : Int) + 1))) cb F Z { C with acts := C.acts + 1 } ∧ CStep cb w F Z (w.setCell ⟨cb, 1, none⟩ (.int .i64 ((C.acts : Int) + 1))) F Z := by
  have h1 := h.setActs (C.acts + 1)
  rw [show (((C.acts + 1 : Nat)) : Int) = (C.acts : Int) + 1 by omega] at h1
  exact h1
theorem CluAt.cacts {w : World} {cb : Nat} {F : List Nat} {Z : CluV} {C : Clu} (h : CluAt w cb F Z C) : w.cell? ⟨cb, 1, none⟩ = some (.int .i64 C.acts) ∧ w.frozen? ⟨cb, 1, none⟩ = false := by
  obtain ⟨A, hA, hB⟩ := h.box
  exact ⟨(heap_cell hA 1).trans hB.acts, heap_frozen hA _⟩
theorem doC_call {C : Clu} {a : Ac} (h : C.acts < 300) (k : a.kind = 1) : doC C a = callC { C with acts := C.acts + 1 } a.h a.t a.call := by
  unfold doC
  rw [if_neg (by omega), if_pos k]
theorem doC_move {C : Clu} {a : Ac} (h : C.acts < 300) (k : a.kind = 2 ∨ a.kind = 3 ∨ a.kind = 4) : doC C a = moveC { C with acts := C.acts + 1 } a.kind a.n := by
  unfold doC
  rw [if_neg (by omega), if_neg (by omega), if_pos k]
theorem doC_tick {C : Clu} {a : Ac} (h : C.acts < 300) (k : a.kind = 5) : doC C a = tickC { C with acts := C.acts + 1 } a.n := by
  unfold doC
  rw [if_neg (by omega), if_neg (by omega), if_neg (by omega), if_pos k]
theorem doC_kind {C : Clu} {a : Ac} (h : C.acts < 300) (k1 : a.kind ≠ 1) (k2 : ¬ (a.kind = 2 ∨ a.kind = 3 ∨ a.kind = 4)) (k5 : a.kind ≠ 5) : doC C a = ({ C with acts := C.acts + 1 }, code 3) := by
  unfold doC
  rw [if_neg (by omega), if_neg k1, if_neg k2, if_neg k5]
set_option maxRecDepth 100000 in
set_option maxHeartbeats 6400000 in
theorem cdo_any (cb : Nat) (F : List Nat) (Z : CluV) (C : Clu) (va : Value) (a : Ac) (w : World) (hc : CluAt w cb F Z C) (hg : GoodC C) (hv : AcRo w F va a) :
    Calls Tryz.prog 22 #[.pointer (some ⟨cb, 0, none⟩), va] w fun e w' => e = .returned (.agg #[.int .i64 (doC C a).2.code, .int .i64 (doC C a).2.n, .string ⟨(doC C a).2.text.toArray⟩]) ∧ ∃ G Z', CluAt w' cb G Z' (doC C a).1 ∧ CStep cb w F Z w' G Z' := by
  have HV := hid hv
  obtain ⟨vl, vg, rfl, ⟨⟨pl, cl, rfl, _⟩, _⟩, ⟨⟨pg, cg, rfl, _⟩, _⟩⟩ := hv
  unfold acV at HV ⊢
  have hlt := hc.lt
  obtain ⟨k1, f1⟩ := hc.cacts
  have hact := hg.acts
  have hneq : cb ≠ w.heap.size := by omega
  by_cases h300 : 300 ≤ C.acts
  · have HP := hid (doC_full C a h300)
    have h3 : (300 : Int) ≤ (C.acts : Int) := by omega
    have hbb := below_box w (.cells #[.int .i64 a.kind, .int .i64 a.h, .int .i64 a.t, .int .i64 a.n, .int .i64 a.call.kind, .int .i64 a.call.h, .int .i64 a.call.t, .int .i64 a.call.n, .int .i64 a.call.c, .slice pl a.call.label.length cl, .slice pg a.call.grants.length cg, .string ⟨a.call.text.toArray⟩] 32)
    have HC1 := hid ((hc.below hbb).reserve (.cells #[.int .i64 0, .int .i64 0, .string ⟨#[]⟩] 35))
    have HS1 := hid ((CStep.below (cb := cb) (F := F) (Z := Z) hbb).trans (CStep.reserve cb _ F Z (.cells #[.int .i64 0, .int .i64 0, .string ⟨#[]⟩] 35)))
    rw [size_box] at HC1 HS1
    have HXR := hid (heap_alloc2_new w (.cells #[.int .i64 a.kind, .int .i64 a.h, .int .i64 a.t, .int .i64 a.n, .int .i64 a.call.kind, .int .i64 a.call.h, .int .i64 a.call.t, .int .i64 a.call.n, .int .i64 a.call.c, .slice pl a.call.label.length cl, .slice pg a.call.grants.length cg, .string ⟨a.call.text.toArray⟩] 32) (.cells #[.int .i64 0, .int .i64 0, .string ⟨#[]⟩] 35))
    have HM0 : Hid (w.heap.size + 1 ∈ F ++ [w.heap.size + 1]) := hid (by simp)
    clear hc hg hbb h300
    go_enter Tryz.func22, Tryz.ntmps22
    go_wp2_with (go_at_call 47; refine (canswer_any _ _).mono ?_; rintro e w9 ⟨rfl, hw9⟩; have HB9 := hid hw9; have HX9 := hid (heap_keep HXR.out hw9); obtain ⟨b0, b1, b2, b3, b4, b5⟩ := cells3 HX9.out; clear hw9)
    obtain ⟨e1, e2, e3⟩ := creply_end 5 0 [] HX9.out HM0.out (Nat.le_succ _) (HC1.out.below HB9.out) (HS1.out.trans (CStep.below HB9.out))
    rw [HP.out]
    exact bodyPost_ret (results_cell_row rfl _ _ (w.heap.size + 1) 35 _ (0, 0) _ rfl e1 Tryz.underlying35 rfl (by kernel_rfl)) rfl ⟨rfl, _, _, e2, e3⟩
  · have h300' : C.acts < 300 := by omega
    have h3 : ¬ ((300 : Int) ≤ (C.acts : Int)) := by omega
    have hwr : IntKind.i64.wrap ((C.acts : Int) + 1) = (C.acts : Int) + 1 := Go.wrap_small _ (by omega) (by omega)
    have hSA := hc.setActs1
    have hbb := below_box (w.setCell ⟨cb, 1, none⟩ (.int .i64 ((C.acts : Int) + 1))) (.cells #[.int .i64 a.kind, .int .i64 a.h, .int .i64 a.t, .int .i64 a.n, .int .i64 a.call.kind, .int .i64 a.call.h, .int .i64 a.call.t, .int .i64 a.call.n, .int .i64 a.call.c, .slice pl a.call.label.length cl, .slice pg a.call.grants.length cg, .string ⟨a.call.text.toArray⟩] 32)
    have hSZ : (w.setCell ⟨cb, 1, none⟩ (.int .i64 ((C.acts : Int) + 1))).heap.size = w.heap.size := World.size_setCell _ _ _
    have HC1 := hid ((hSA.1.below hbb).reserve (.cells #[.int .i64 0, .int .i64 0, .string ⟨#[]⟩] 35))
    have HS1 := hid (hSA.2.trans ((CStep.below (cb := cb) (F := F) (Z := Z) hbb).trans (CStep.reserve cb _ F Z (.cells #[.int .i64 0, .int .i64 0, .string ⟨#[]⟩] 35))))
    rw [size_box, hSZ] at HC1 HS1
    have HXR := hid (heap_alloc2_new (w.setCell ⟨cb, 1, none⟩ (.int .i64 ((C.acts : Int) + 1))) (.cells #[.int .i64 a.kind, .int .i64 a.h, .int .i64 a.t, .int .i64 a.n, .int .i64 a.call.kind, .int .i64 a.call.h, .int .i64 a.call.t, .int .i64 a.call.n, .int .i64 a.call.c, .slice pl a.call.label.length cl, .slice pg a.call.grants.length cg, .string ⟨a.call.text.toArray⟩] 32) (.cells #[.int .i64 0, .int .i64 0, .string ⟨#[]⟩] 35))
    rw [hSZ] at HXR
    have HKP : Hid (KeptF F w (((w.setCell ⟨cb, 1, none⟩ (.int .i64 ((C.acts : Int) + 1))).alloc (.cells #[.int .i64 a.kind, .int .i64 a.h, .int .i64 a.t, .int .i64 a.n, .int .i64 a.call.kind, .int .i64 a.call.h, .int .i64 a.call.t, .int .i64 a.call.n, .int .i64 a.call.c, .slice pl a.call.label.length cl, .slice pg a.call.grants.length cg, .string ⟨a.call.text.toArray⟩] 32)).alloc (.cells #[.int .i64 0, .int .i64 0, .string ⟨#[]⟩] 35))) := hid (HS1.out.keptF hc)
    have HVA : Hid (LabAt (((w.setCell ⟨cb, 1, none⟩ (.int .i64 ((C.acts : Int) + 1))).alloc (.cells #[.int .i64 a.kind, .int .i64 a.h, .int .i64 a.t, .int .i64 a.n, .int .i64 a.call.kind, .int .i64 a.call.h, .int .i64 a.call.t, .int .i64 a.call.n, .int .i64 a.call.c, .slice pl a.call.label.length cl, .slice pg a.call.grants.length cg, .string ⟨a.call.text.toArray⟩] 32)).alloc (.cells #[.int .i64 0, .int .i64 0, .string ⟨#[]⟩] 35)) (.slice pl a.call.label.length cl) a.call.label ∧ IntsAt (((w.setCell ⟨cb, 1, none⟩ (.int .i64 ((C.acts : Int) + 1))).alloc (.cells #[.int .i64 a.kind, .int .i64 a.h, .int .i64 a.t, .int .i64 a.n, .int .i64 a.call.kind, .int .i64 a.call.h, .int .i64 a.call.t, .int .i64 a.call.n, .int .i64 a.call.c, .slice pl a.call.label.length cl, .slice pg a.call.grants.length cg, .string ⟨a.call.text.toArray⟩] 32)).alloc (.cells #[.int .i64 0, .int .i64 0, .string ⟨#[]⟩] 35)) (.slice pg a.call.grants.length cg) a.call.grants) := hid (by
      obtain ⟨vl', vg', e, h1, h2⟩ := HV.out
      unfold acV at e
      injection e with e
      simp only [Array.mk.injEq, List.cons.injEq, true_and, and_true] at e
      obtain ⟨rfl, rfl⟩ := e
      exact ⟨(h1.keep HKP.out (More.refl _ _)).1, (h2.keep HKP.out (More.refl _ _)).1⟩)
    have HM0 : Hid (w.heap.size + 1 ∈ F ++ [w.heap.size + 1]) := hid (by simp)
    have HLE : Hid (w.heap.size ≤ w.heap.size + 1) := hid (Nat.le_succ _)
    have HG1 : Hid (GoodC { C with acts := C.acts + 1 }) := hid ⟨hg.ks, hg.now, by show C.acts + 1 ≤ 300; omega, hg.net⟩
    clear hc hg hbb hSA h300 HV
    by_cases q1 : a.kind = 1
    · have HP := hid (doC_call (a := a) h300' q1)
      have e1' : (a.kind == 1) = true := by simpa using q1
      have hcall := ccall_any cb a.h a.t _ Z { C with acts := C.acts + 1 } _ a.call (((w.setCell ⟨cb, 1, none⟩ (.int .i64 ((C.acts : Int) + 1))).alloc (.cells #[.int .i64 a.kind, .int .i64 a.h, .int .i64 a.t, .int .i64 a.n, .int .i64 a.call.kind, .int .i64 a.call.h, .int .i64 a.call.t, .int .i64 a.call.n, .int .i64 a.call.c, .slice pl a.call.label.length cl, .slice pg a.call.grants.length cg, .string ⟨a.call.text.toArray⟩] 32)).alloc (.cells #[.int .i64 0, .int .i64 0, .string ⟨#[]⟩] 35)) HC1.out HG1.out ⟨_, _, rfl, HVA.out.1, HVA.out.2⟩
      unfold calV at hcall
      generalize callC { C with acts := C.acts + 1 } a.h a.t a.call = SC at *
      clear q1
      go_enter Tryz.func22, Tryz.ntmps22
      go_wp2_with (go_at_call 48; refine hcall.mono ?_; rintro e w5 ⟨rfl, G5, Z5, hC5, hS5⟩; have HC5 := hid hC5; have HS5 := hid hS5; have HX5 := hid (box_cstep hS5 HC1.out HXR.out (by decide) (by decide) (by decide) (by decide) (by decide) (by decide)); obtain ⟨b0, b1, b2, b3, b4, b5⟩ := cells3 HX5.out; clear hC5 hS5 hcall)
      obtain ⟨e1, e2, e3⟩ := creply_end SC.2.code SC.2.n SC.2.text HX5.out (HS5.out.more.1 _ HM0.out) HLE.out HC5.out (HS1.out.trans HS5.out)
      rw [HP.out]
      exact bodyPost_ret (results_cell_row rfl _ _ (w.heap.size + 1) 35 _ (0, 0) _ rfl e1 Tryz.underlying35 rfl (by kernel_rfl)) rfl ⟨rfl, _, _, e2, e3⟩
    · have e1' : (a.kind == 1) = false := by simpa using q1
      by_cases q2 : a.kind = 2 ∨ a.kind = 3 ∨ a.kind = 4
      · have HP := hid (doC_move (a := a) h300' q2)
        have hmv := cmove_any cb a.kind a.n _ Z { C with acts := C.acts + 1 } (((w.setCell ⟨cb, 1, none⟩ (.int .i64 ((C.acts : Int) + 1))).alloc (.cells #[.int .i64 a.kind, .int .i64 a.h, .int .i64 a.t, .int .i64 a.n, .int .i64 a.call.kind, .int .i64 a.call.h, .int .i64 a.call.t, .int .i64 a.call.n, .int .i64 a.call.c, .slice pl a.call.label.length cl, .slice pg a.call.grants.length cg, .string ⟨a.call.text.toArray⟩] 32)).alloc (.cells #[.int .i64 0, .int .i64 0, .string ⟨#[]⟩] 35)) HC1.out HG1.out q2
        generalize moveC { C with acts := C.acts + 1 } a.kind a.n = SC at *
        rcases q2 with q2 | q2 | q2
        · have e2' : (a.kind == 2) = true := by simpa using q2
          clear q1 q2
          go_enter Tryz.func22, Tryz.ntmps22
          go_wp2_with (go_at_call 49; refine hmv.mono ?_; rintro e w5 ⟨rfl, G5, Z5, hC5, hS5⟩; have HC5 := hid hC5; have HS5 := hid hS5; have HX5 := hid (box_cstep hS5 HC1.out HXR.out (by decide) (by decide) (by decide) (by decide) (by decide) (by decide)); obtain ⟨b0, b1, b2, b3, b4, b5⟩ := cells3 HX5.out; clear hC5 hS5 hmv)
          obtain ⟨e1, e2, e3⟩ := creply_end SC.2.code SC.2.n SC.2.text HX5.out (HS5.out.more.1 _ HM0.out) HLE.out HC5.out (HS1.out.trans HS5.out)
          rw [HP.out]
          exact bodyPost_ret (results_cell_row rfl _ _ (w.heap.size + 1) 35 _ (0, 0) _ rfl e1 Tryz.underlying35 rfl (by kernel_rfl)) rfl ⟨rfl, _, _, e2, e3⟩
        · have e2' : (a.kind == 2) = false := by simp [q2]
          have e3' : (a.kind == 3) = true := by simpa using q2
          clear q1 q2
          go_enter Tryz.func22, Tryz.ntmps22
          go_wp2_with (go_at_call 49; refine hmv.mono ?_; rintro e w5 ⟨rfl, G5, Z5, hC5, hS5⟩; have HC5 := hid hC5; have HS5 := hid hS5; have HX5 := hid (box_cstep hS5 HC1.out HXR.out (by decide) (by decide) (by decide) (by decide) (by decide) (by decide)); obtain ⟨b0, b1, b2, b3, b4, b5⟩ := cells3 HX5.out; clear hC5 hS5 hmv)
          obtain ⟨e1, e2, e3⟩ := creply_end SC.2.code SC.2.n SC.2.text HX5.out (HS5.out.more.1 _ HM0.out) HLE.out HC5.out (HS1.out.trans HS5.out)
          rw [HP.out]
          exact bodyPost_ret (results_cell_row rfl _ _ (w.heap.size + 1) 35 _ (0, 0) _ rfl e1 Tryz.underlying35 rfl (by kernel_rfl)) rfl ⟨rfl, _, _, e2, e3⟩
        · have e2' : (a.kind == 2) = false := by simp [q2]
          have e3' : (a.kind == 3) = false := by simp [q2]
          have e4' : (a.kind == 4) = true := by simpa using q2
          clear q1 q2
          go_enter Tryz.func22, Tryz.ntmps22
          go_wp2_with (go_at_call 49; refine hmv.mono ?_; rintro e w5 ⟨rfl, G5, Z5, hC5, hS5⟩; have HC5 := hid hC5; have HS5 := hid hS5; have HX5 := hid (box_cstep hS5 HC1.out HXR.out (by decide) (by decide) (by decide) (by decide) (by decide) (by decide)); obtain ⟨b0, b1, b2, b3, b4, b5⟩ := cells3 HX5.out; clear hC5 hS5 hmv)
          obtain ⟨e1, e2, e3⟩ := creply_end SC.2.code SC.2.n SC.2.text HX5.out (HS5.out.more.1 _ HM0.out) HLE.out HC5.out (HS1.out.trans HS5.out)
          rw [HP.out]
          exact bodyPost_ret (results_cell_row rfl _ _ (w.heap.size + 1) 35 _ (0, 0) _ rfl e1 Tryz.underlying35 rfl (by kernel_rfl)) rfl ⟨rfl, _, _, e2, e3⟩
      · have e2' : (a.kind == 2) = false := by simp; omega
        have e3' : (a.kind == 3) = false := by simp; omega
        have e4' : (a.kind == 4) = false := by simp; omega
        by_cases q5 : a.kind = 5
        · have HP := hid (doC_tick (a := a) h300' q5)
          have e5' : (a.kind == 5) = true := by simpa using q5
          have htk := ctick_any cb a.n _ Z { C with acts := C.acts + 1 } (((w.setCell ⟨cb, 1, none⟩ (.int .i64 ((C.acts : Int) + 1))).alloc (.cells #[.int .i64 a.kind, .int .i64 a.h, .int .i64 a.t, .int .i64 a.n, .int .i64 a.call.kind, .int .i64 a.call.h, .int .i64 a.call.t, .int .i64 a.call.n, .int .i64 a.call.c, .slice pl a.call.label.length cl, .slice pg a.call.grants.length cg, .string ⟨a.call.text.toArray⟩] 32)).alloc (.cells #[.int .i64 0, .int .i64 0, .string ⟨#[]⟩] 35)) HC1.out HG1.out
          generalize tickC { C with acts := C.acts + 1 } a.n = SC at *
          clear q1 q2 q5
          go_enter Tryz.func22, Tryz.ntmps22
          go_wp2_with (go_at_call 50; refine htk.mono ?_; rintro e w5 ⟨rfl, G5, Z5, hC5, hS5⟩; have HC5 := hid hC5; have HS5 := hid hS5; have HX5 := hid (box_cstep hS5 HC1.out HXR.out (by decide) (by decide) (by decide) (by decide) (by decide) (by decide)); obtain ⟨b0, b1, b2, b3, b4, b5⟩ := cells3 HX5.out; clear hC5 hS5 htk)
          obtain ⟨e1, e2, e3⟩ := creply_end SC.2.code SC.2.n SC.2.text HX5.out (HS5.out.more.1 _ HM0.out) HLE.out HC5.out (HS1.out.trans HS5.out)
          rw [HP.out]
          exact bodyPost_ret (results_cell_row rfl _ _ (w.heap.size + 1) 35 _ (0, 0) _ rfl e1 Tryz.underlying35 rfl (by kernel_rfl)) rfl ⟨rfl, _, _, e2, e3⟩
        · have HP := hid (doC_kind (a := a) h300' q1 q2 q5)
          have e5' : (a.kind == 5) = false := by simpa using q5
          clear q1 q2 q5
          go_enter Tryz.func22, Tryz.ntmps22
          go_wp2_with (go_at_call 47; refine (canswer_any _ _).mono ?_; rintro e w9 ⟨rfl, hw9⟩; have HB9 := hid hw9; have HX9 := hid (heap_keep HXR.out hw9); obtain ⟨b0, b1, b2, b3, b4, b5⟩ := cells3 HX9.out; clear hw9)
          obtain ⟨e1, e2, e3⟩ := creply_end 3 0 [] HX9.out HM0.out (Nat.le_succ _) (HC1.out.below HB9.out) (HS1.out.trans (CStep.below HB9.out))
          rw [HP.out]
          exact bodyPost_ret (results_cell_row rfl _ _ (w.heap.size + 1) 35 _ (0, 0) _ rfl e1 Tryz.underlying35 rfl (by kernel_rfl)) rfl ⟨rfl, _, _, e2, e3⟩
end Go.Proofs.YtgpldlbmjakjhaaGreat
namespace Go.Proofs.YtgpldlbmjakjhaaGreat
open Go.RowKit Go.Proofs.Parclose
def thrC (C : Clu) (h t : Int) : Thr := if hostB h = true then thrOf (C.ks h.toNat) t else zeroThr
set_option maxRecDepth 100000 in
set_option maxHeartbeats 3200000 in
theorem cthread_any (cb : Nat) (h t : Int) (F : List Nat) (Z : CluV) (C : Clu) (w : World) (hc : CluAt w cb F Z C) (hg : GoodC C) :
    Calls Tryz.prog 13 #[.pointer (some ⟨cb, 0, none⟩), .int .i64 h, .int .i64 t] w fun e w' => ∃ pl cl po co pj cj pm cm, e = .returned (.agg #[.slice pl (thrC C h t).label.length cl, .slice po (thrC C h t).own.length co, .string ⟨(thrC C h t).text.toArray⟩, .slice pj (thrC C h t).objs.length cj, .slice pm (thrC C h t).mails.length cm]) ∧ ThrNew w' w.heap.size (.slice pl (thrC C h t).label.length cl) (.slice po (thrC C h t).own.length co) (.slice pj (thrC C h t).objs.length cj) (.slice pm (thrC C h t).mails.length cm) (thrC C h t) ∧ Below w.heap.size w w' := by
  have hh := fun wx => chost_any h wx
  have HX0 := hid (heap_alloc_new w (.cells #[.slice none 0 0, .slice none 0 0, .string ⟨#[]⟩, .slice none 0 0, .slice none 0 0] 42))
  have HBB := hid (below_box w (.cells #[.slice none 0 0, .slice none 0 0, .string ⟨#[]⟩, .slice none 0 0, .slice none 0 0] 42))
  have hlt := hc.lt
  cases e1 : hostB h with
  | false =>
    have HT : Hid (thrC C h t = zeroThr) := hid (by unfold thrC; rw [e1]; rfl)
    rw [HT.out]
    rw [e1] at hh
    clear hc hg
    go_enter Tryz.func13, Tryz.ntmps13
    go_wp2_with (go_at_call 32; refine (hh _).mono ?_; rintro e w1 ⟨rfl, hw⟩; rw [hw]; clear hw)
    exact bodyPost_ret (results_cell_row rfl _ _ w.heap.size 42 _ (0, 0) _ rfl HX0.out Tryz.underlying42 rfl (by kernel_rfl)) rfl ⟨none, 0, none, 0, none, 0, none, 0, rfl, zero_new _ _, HBB.out⟩
  | true =>
    rw [e1] at hh
    obtain ⟨x, hx, x4⟩ : ∃ x : Nat, h = x ∧ x < 4 := by
      have : 0 ≤ h ∧ h < 4 := of_decide_eq_true e1
      exact ⟨h.toNat, by omega, by omega⟩
    have HT : Hid (thrC C h t = thrOf (C.ks x) t) := hid (by unfold thrC; rw [e1, hx]; simp)
    rw [HT.out]
    subst hx
    have k2 := hc.cker x4
    have hth := fun wx (hb : Below w.heap.size w wx) => Thread_any (Z.kp x) t F (Z.V x) (C.ks x) wx ((hc.ker x x4).below hb) (hg.ks x x4)
    have i0 : ¬ ((x : Int) < 0) := by omega
    have i1 : ¬ ((4 : Int) ≤ x) := by omega
    have i2 : (x : Int) < 4 := by omega
    have i3 : (0 : Int) ≤ x := by omega
    clear hc hg e1 HT
    generalize thrOf (C.ks x) t = th at *
    go_enter Tryz.func13, Tryz.ntmps13
    go_wp2_with (first
      | (go_at_call 32; refine (hh _).mono ?_; rintro e w1 ⟨rfl, hw⟩; rw [hw]; clear hw)
      | (go_at_call 34; refine (hth _ HBB.out).mono ?_; rintro e w2 ⟨p1, q1, p2, q2, p5, q5, p6, q6, rfl, hn, hw2⟩; have HN := hid hn; have HX := hid (heap_keep HX0.out hw2); have HB := hid (below_then HBB.out hw2); obtain ⟨b0, b1, b2, b3, b4⟩ : w2.cell? ⟨w.heap.size, 0, none⟩ = some (.slice none 0 0) ∧ w2.cell? ⟨w.heap.size, 1, none⟩ = some (.slice none 0 0) ∧ w2.cell? ⟨w.heap.size, 2, none⟩ = some (.string ⟨#[]⟩) ∧ w2.cell? ⟨w.heap.size, 3, none⟩ = some (.slice none 0 0) ∧ w2.cell? ⟨w.heap.size, 4, none⟩ = some (.slice none 0 0) := ⟨heap_cell HX.out 0, heap_cell HX.out 1, heap_cell HX.out 2, heap_cell HX.out 3, heap_cell HX.out 4⟩; have f0 := heap_frozen HX.out 0; have f1 := heap_frozen HX.out 1; have f2 := heap_frozen HX.out 2; have f3 := heap_frozen HX.out 3; have f4 := heap_frozen HX.out 4; clear hn hw2))
    have hW := st5_heap (.slice p1 th.label.length q1) (.slice p2 th.own.length q2) (.string ⟨th.text.toArray⟩) (.slice p5 th.objs.length q5) (.slice p6 th.mails.length q6) HX.out
    have hS := st5_grown w2 w.heap.size (.slice p1 th.label.length q1) (.slice p2 th.own.length q2) (.string ⟨th.text.toArray⟩) (.slice p5 th.objs.length q5) (.slice p6 th.mails.length q6)
    have hb7 := HB.out.grown hS HB.out.size (fun k hk => by cases hk; exact Nat.le_refl _)
    have hn := (HN.out.base HBB.out.size).keep (R := [w.heap.size]) (fun k hk => .inr ⟨_, _, by simp at hk; subst hk; exact HX.out, by decide, by decide, by decide, by decide⟩) (kept_grown hS fun k e => .inl (by have := Option.some.inj e; simp; omega))
    exact bodyPost_ret (results_cell_row rfl _ _ w.heap.size 42 _ (0, 0) _ rfl hW Tryz.underlying42 rfl (by kernel_rfl)) rfl ⟨_, _, _, _, _, _, _, _, rfl, hn, hb7⟩
end Go.Proofs.YtgpldlbmjakjhaaGreat
namespace Go.Proofs.YtgpldlbmjakjhaaGreat
open Go.RowKit Go.Proofs.Parclose
theorem mail_len {m : Mal} (h : mailE m = 0) : m.label.length ≤ 8 ∧ m.grants.length ≤ 8 := by
  unfold mailE at h
  split at h
  · rename_i h1
    simp only [Bool.and_eq_true] at h1
    exact ⟨((goodB_iff _).1 h1.1.2).1, (of_decide_eq_true h1.2).1⟩
  · cases h
set_option linter.unusedSimpArgs false in
set_option maxRecDepth 100000 in
set_option maxHeartbeats 12800000 in
theorem tsameThread_eq (B1 B2 : Nat) (th : Thr) (pl1 po1 pj1 pm1 pl2 po2 pj2 pm2 : Option Addr) (cl1 co1 cj1 cm1 cl2 co2 cj2 cm2 : Nat) (w : World) (h1 : ThrNew w B1 (.slice pl1 th.label.length cl1) (.slice po1 th.own.length co1) (.slice pj1 th.objs.length cj1) (.slice pm1 th.mails.length cm1) th) (h2 : ThrNew w B2 (.slice pl2 th.label.length cl2) (.slice po2 th.own.length co2) (.slice pj2 th.objs.length cj2) (.slice pm2 th.mails.length cm2) th) (hg : GoodT th) :
    Calls Tryz.prog 24 #[.agg #[.slice pl1 th.label.length cl1, .slice po1 th.own.length co1, .string ⟨th.text.toArray⟩, .slice pj1 th.objs.length cj1, .slice pm1 th.mails.length cm1], .agg #[.slice pl2 th.label.length cl2, .slice po2 th.own.length co2, .string ⟨th.text.toArray⟩, .slice pj2 th.objs.length cj2, .slice pm2 th.mails.length cm2]] w fun e w' => e = .returned (.bool true) ∧ Below w.heap.size w w' := by
  have hb0 : Below w.heap.size w ((w.alloc (.cells #[.slice pl1 th.label.length cl1, .slice po1 th.own.length co1, .string ⟨th.text.toArray⟩, .slice pj1 th.objs.length cj1, .slice pm1 th.mails.length cm1] 42)).alloc (.cells #[.slice pl2 th.label.length cl2, .slice po2 th.own.length co2, .string ⟨th.text.toArray⟩, .slice pj2 th.objs.length cj2, .slice pm2 th.mails.length cm2] 42)) := (below_box w _).alloc (below_box w _).size _
  have HX1 := hid (heap_alloc2_old w (.cells #[.slice pl1 th.label.length cl1, .slice po1 th.own.length co1, .string ⟨th.text.toArray⟩, .slice pj1 th.objs.length cj1, .slice pm1 th.mails.length cm1] 42) (.cells #[.slice pl2 th.label.length cl2, .slice po2 th.own.length co2, .string ⟨th.text.toArray⟩, .slice pj2 th.objs.length cj2, .slice pm2 th.mails.length cm2] 42))
  have HX2 := hid (heap_alloc2_new w (.cells #[.slice pl1 th.label.length cl1, .slice po1 th.own.length co1, .string ⟨th.text.toArray⟩, .slice pj1 th.objs.length cj1, .slice pm1 th.mails.length cm1] 42) (.cells #[.slice pl2 th.label.length cl2, .slice po2 th.own.length co2, .string ⟨th.text.toArray⟩, .slice pj2 th.objs.length cj2, .slice pm2 th.mails.length cm2] 42))
  have HT1 := hid (h1.below hb0)
  have HT2 := hid (h2.below hb0)
  have hl8 := hg.label.1
  have hol := hg.own
  have hob := hg.objs
  have hml := hg.mails
  have HGM := hid hg.mail
  have HGO := hid hg.obj
  have hss : sameB th.label th.label = true := (sameB_iff _ _).2 rfl
  have hsl := fun wx (hb : Below ((w.alloc (.cells #[.slice pl1 th.label.length cl1, .slice po1 th.own.length co1, .string ⟨th.text.toArray⟩, .slice pj1 th.objs.length cj1, .slice pm1 th.mails.length cm1] 42)).alloc (.cells #[.slice pl2 th.label.length cl2, .slice po2 th.own.length co2, .string ⟨th.text.toArray⟩, .slice pj2 th.objs.length cj2, .slice pm2 th.mails.length cm2] 42)).heap.size ((w.alloc (.cells #[.slice pl1 th.label.length cl1, .slice po1 th.own.length co1, .string ⟨th.text.toArray⟩, .slice pj1 th.objs.length cj1, .slice pm1 th.mails.length cm1] 42)).alloc (.cells #[.slice pl2 th.label.length cl2, .slice po2 th.own.length co2, .string ⟨th.text.toArray⟩, .slice pj2 th.objs.length cj2, .slice pm2 th.mails.length cm2] 42)) wx) => same_any _ _ th.label th.label wx ((labs_of_own HT1.out.lab (by omega)).below hb) ((labs_of_own HT2.out.lab (by omega)).below hb)
  rw [hss] at hsl
  have hsn := fun wx (hb : Below ((w.alloc (.cells #[.slice pl1 th.label.length cl1, .slice po1 th.own.length co1, .string ⟨th.text.toArray⟩, .slice pj1 th.objs.length cj1, .slice pm1 th.mails.length cm1] 42)).alloc (.cells #[.slice pl2 th.label.length cl2, .slice po2 th.own.length co2, .string ⟨th.text.toArray⟩, .slice pj2 th.objs.length cj2, .slice pm2 th.mails.length cm2] 42)).heap.size ((w.alloc (.cells #[.slice pl1 th.label.length cl1, .slice po1 th.own.length co1, .string ⟨th.text.toArray⟩, .slice pj1 th.objs.length cj1, .slice pm1 th.mails.length cm1] 42)).alloc (.cells #[.slice pl2 th.label.length cl2, .slice po2 th.own.length co2, .string ⟨th.text.toArray⟩, .slice pj2 th.objs.length cj2, .slice pm2 th.mails.length cm2] 42)) wx) => tsameNumbers_eq _ _ th.own wx ((nums_of_own HT1.out.own (by omega)).below hb) ((nums_of_own HT2.out.own (by omega)).below hb)
  have HB0 := hid hb0
  clear h1 h2 hg hss hb0
  go_enter Tryz.func24, Tryz.ntmps24
  go_upto_region 1 with fail
  generalize ((w.alloc (.cells #[.slice pl1 th.label.length cl1, .slice po1 th.own.length co1, .string ⟨th.text.toArray⟩, .slice pj1 th.objs.length cj1, .slice pm1 th.mails.length cm1] 42)).alloc (.cells #[.slice pl2 th.label.length cl2, .slice po2 th.own.length co2, .string ⟨th.text.toArray⟩, .slice pj2 th.objs.length cj2, .slice pm2 th.mails.length cm2] 42)) = w0 at *
  have HSB : Hid (∀ w', Below w0.heap.size w0 w' → w'.cell? ⟨w.heap.size, 0, none⟩ = some (.slice pl1 th.label.length cl1) ∧ w'.cell? ⟨w.heap.size, 1, none⟩ = some (.slice po1 th.own.length co1) ∧ w'.cell? ⟨w.heap.size, 2, none⟩ = some (.string ⟨th.text.toArray⟩) ∧ w'.cell? ⟨w.heap.size, 3, none⟩ = some (.slice pj1 th.objs.length cj1) ∧ w'.cell? ⟨w.heap.size, 4, none⟩ = some (.slice pm1 th.mails.length cm1) ∧ w'.cell? ⟨w.heap.size + 1, 0, none⟩ = some (.slice pl2 th.label.length cl2) ∧ w'.cell? ⟨w.heap.size + 1, 1, none⟩ = some (.slice po2 th.own.length co2) ∧ w'.cell? ⟨w.heap.size + 1, 2, none⟩ = some (.string ⟨th.text.toArray⟩) ∧ w'.cell? ⟨w.heap.size + 1, 3, none⟩ = some (.slice pj2 th.objs.length cj2) ∧ w'.cell? ⟨w.heap.size + 1, 4, none⟩ = some (.slice pm2 th.mails.length cm2)) := hid (fun w' hw => ⟨heap_cell (heap_keep HX1.out hw) 0, heap_cell (heap_keep HX1.out hw) 1, heap_cell (heap_keep HX1.out hw) 2, heap_cell (heap_keep HX1.out hw) 3, heap_cell (heap_keep HX1.out hw) 4, heap_cell (heap_keep HX2.out hw) 0, heap_cell (heap_keep HX2.out hw) 1, heap_cell (heap_keep HX2.out hw) 2, heap_cell (heap_keep HX2.out hw) 3, heap_cell (heap_keep HX2.out hw) 4⟩)
  obtain ⟨a0, a1, a2, a3, a4, b0, b1, b2, b3, b4⟩ := HSB.out _ (Below.refl _ _)
  go_upto_region 3 with (first
    | (go_at_call 54; refine (hsl _ (Below.refl _ _)).mono ?_; rintro e w1 ⟨rfl, hw1⟩; clear a0 a1 a2 a3 a4 b0 b1 b2 b3 b4; obtain ⟨a0, a1, a2, a3, a4, b0, b1, b2, b3, b4⟩ := HSB.out _ hw1)
    | (go_at_call 55; refine (hsn _ hw1).mono ?_; rintro e w2 ⟨rfl, hw2d⟩; have hw2 := below_then hw1 hw2d; clear hw2d a0 a1 a2 a3 a4 b0 b1 b2 b3 b4; obtain ⟨a0, a1, a2, a3, a4, b0, b1, b2, b3, b4⟩ := HSB.out _ hw2))
  have HB2 := hid hw2
  clear hsl hsn hw1 hw2
  go_wp2_with fail
  go_loopw [49] (fun i wr => ∃ k : Nat, k ≤ th.objs.length ∧ i = .int .i64 k ∧ Below w0.heap.size w0 wr) (fun i _ => th.objs.length - (intOf i).toNat)
  case atStart => exact ⟨0, Nat.zero_le _, rfl, HB2.out⟩
  case round =>
    clear a0 a1 a2 a3 a4 b0 b1 b2 b3 b4 HB2
    obtain ⟨i, hi, rfl, hbr⟩ := hrel
    by_cases hlt : i < th.objs.length
    · have hI : (i : Int) < (th.objs.length : Int) := by omega
      have I0 : (0 : Int) ≤ i := by omega
      obtain ⟨ga, la, ka, e1, c0, c1, o1⟩ := (HT1.out.objs.keep (far_low (R := []) (fun k hk => by cases hk)) (kept_below _ hbr)).get i hlt
      obtain ⟨gb, lb, kb, e2, d0, d1, o2⟩ := (HT2.out.objs.keep (far_low (R := []) (fun k hk => by cases hk)) (kept_below _ hbr)).get i hlt
      have hgo := (HGO.out _ (List.getElem_mem hlt)).2.1
      subst e1 e2
      generalize th.objs[i] = x at *
      have hss : sameB x.label x.label = true := (sameB_iff _ _).2 rfl
      have hsame := fun wx (hb : Below wr.heap.size wr wx) => same_any _ _ x.label x.label wx ((labs_of_own o1 (by omega)).below hb) ((labs_of_own o2 (by omega)).below hb)
      rw [hss] at hsame
      have HS6 : Hid (∀ w', Below wr.heap.size wr w' → w'.cell? ⟨w.heap.size, 0, none⟩ = some (.slice pl1 th.label.length cl1) ∧ w'.cell? ⟨w.heap.size, 1, none⟩ = some (.slice po1 th.own.length co1) ∧ w'.cell? ⟨w.heap.size, 2, none⟩ = some (.string ⟨th.text.toArray⟩) ∧ w'.cell? ⟨w.heap.size, 3, none⟩ = some (.slice (some ⟨ga, 0, none⟩) th.objs.length cj1) ∧ w'.cell? ⟨w.heap.size, 4, none⟩ = some (.slice pm1 th.mails.length cm1) ∧ w'.cell? ⟨w.heap.size + 1, 0, none⟩ = some (.slice pl2 th.label.length cl2) ∧ w'.cell? ⟨w.heap.size + 1, 1, none⟩ = some (.slice po2 th.own.length co2) ∧ w'.cell? ⟨w.heap.size + 1, 2, none⟩ = some (.string ⟨th.text.toArray⟩) ∧ w'.cell? ⟨w.heap.size + 1, 3, none⟩ = some (.slice (some ⟨gb, 0, none⟩) th.objs.length cj2) ∧ w'.cell? ⟨w.heap.size + 1, 4, none⟩ = some (.slice pm2 th.mails.length cm2) ∧ w'.cell? ⟨ga, i * 2, none⟩ = some (.slice la x.label.length ka) ∧ w'.cell? ⟨ga, i * 2 + 1, none⟩ = some (.string ⟨x.text.toArray⟩) ∧ w'.cell? ⟨gb, i * 2, none⟩ = some (.slice lb x.label.length kb) ∧ w'.cell? ⟨gb, i * 2 + 1, none⟩ = some (.string ⟨x.text.toArray⟩)) := hid (fun w' hw => by
        obtain ⟨q0, q1, q2, q3, q4, r0, r1, r2, r3, r4⟩ := HSB.out _ (below_then hbr hw)
        exact ⟨q0, q1, q2, q3, q4, r0, r1, r2, r3, r4, (hw.cell (cell_block c0)).trans c0, (hw.cell (cell_block c1)).trans c1, (hw.cell (cell_block d0)).trans d0, (hw.cell (cell_block d1)).trans d1⟩)
      clear o1 o2 c0 c1 d0 d1 hss
      have htt : (x.text.toArray == x.text.toArray) = true := by simp
      go_upto_region 6 with fail
      refine wp_region_held_drew (S := (fun w' => w'.cell? ⟨w.heap.size, 0, none⟩ = some (.slice pl1 th.label.length cl1) ∧ w'.cell? ⟨w.heap.size, 1, none⟩ = some (.slice po1 th.own.length co1) ∧ w'.cell? ⟨w.heap.size, 2, none⟩ = some (.string ⟨th.text.toArray⟩) ∧ w'.cell? ⟨w.heap.size, 3, none⟩ = some (.slice (some ⟨ga, 0, none⟩) th.objs.length cj1) ∧ w'.cell? ⟨w.heap.size, 4, none⟩ = some (.slice pm1 th.mails.length cm1) ∧ w'.cell? ⟨w.heap.size + 1, 0, none⟩ = some (.slice pl2 th.label.length cl2) ∧ w'.cell? ⟨w.heap.size + 1, 1, none⟩ = some (.slice po2 th.own.length co2) ∧ w'.cell? ⟨w.heap.size + 1, 2, none⟩ = some (.string ⟨th.text.toArray⟩) ∧ w'.cell? ⟨w.heap.size + 1, 3, none⟩ = some (.slice (some ⟨gb, 0, none⟩) th.objs.length cj2) ∧ w'.cell? ⟨w.heap.size + 1, 4, none⟩ = some (.slice pm2 th.mails.length cm2) ∧ w'.cell? ⟨ga, i * 2, none⟩ = some (.slice la x.label.length ka) ∧ w'.cell? ⟨ga, i * 2 + 1, none⟩ = some (.string ⟨x.text.toArray⟩) ∧ w'.cell? ⟨gb, i * 2, none⟩ = some (.slice lb x.label.length kb) ∧ w'.cell? ⟨gb, i * 2 + 1, none⟩ = some (.string ⟨x.text.toArray⟩))) (by as_aux_lemma => kernel_rfl) (HS6.out _ (Below.refl _ _).drew) (fun _hHeld => ?_)
      refine takeF 0 52 ?v1 rfl (Or.inl ⟨by rfl, ?hy1⟩) ?rest1
      case hy1 => intro wz hSw; (try dsimp only at hSw); go_simp; try with_reducible rfl
      simp only [Act.put, List.setIfInBounds_toArray, List.set_cons_zero, List.set_cons_succ]
      refine takeF 1 53 ?v2 rfl (Or.inl ⟨by rfl, ?hy2⟩) ?rest2
      case hy2 => intro wz hSw; (try dsimp only at hSw); go_simp; try with_reducible rfl
      simp only [Act.put, List.setIfInBounds_toArray, List.set_cons_zero, List.set_cons_succ]
      refine takeF 2 54 ?v3 rfl (Or.inl ⟨by rfl, ?hy3⟩) ?rest3
      case hy3 => intro wz hSw; (try dsimp only at hSw); go_simp; try with_reducible rfl
      simp only [Act.put, List.setIfInBounds_toArray, List.set_cons_zero, List.set_cons_succ]
      refine takeF 3 55 ?v4 rfl (Or.inl ⟨by rfl, ?hy4⟩) ?rest4
      case hy4 => intro wz hSw; (try dsimp only at hSw); go_simp; try with_reducible rfl
      simp only [Act.put, List.setIfInBounds_toArray, List.set_cons_zero, List.set_cons_succ]
      refine takeF 4 56 ?v5 rfl (Or.inl ⟨by rfl, ?hy5⟩) ?rest5
      case hy5 => intro wz hSw; (try dsimp only at hSw); go_simp; try with_reducible rfl
      simp only [Act.put, List.setIfInBounds_toArray, List.set_cons_zero, List.set_cons_succ]
      refine takeF 5 57 ?v6 rfl (Or.inl ⟨by rfl, ?hy6⟩) ?rest6
      case hy6 => intro wz hSw; (try dsimp only at hSw); go_simp; try with_reducible rfl
      simp only [Act.put, List.setIfInBounds_toArray, List.set_cons_zero, List.set_cons_succ]
      refine takeF 6 58 ?v7 rfl (Or.inl ⟨by rfl, ?hy7⟩) ?rest7
      case hy7 => intro wz hSw; (try dsimp only at hSw); go_simp; try with_reducible rfl
      simp only [Act.put, List.setIfInBounds_toArray, List.set_cons_zero, List.set_cons_succ]
      refine takeF 7 59 ?v8 rfl (Or.inl ⟨by rfl, ?hy8⟩) ?rest8
      case hy8 => intro wz hSw; (try dsimp only at hSw); go_simp; try with_reducible rfl
      simp only [Act.put, List.setIfInBounds_toArray, List.set_cons_zero, List.set_cons_succ]
      refine takeF 8 60 ?v9 rfl (Or.inl ⟨by rfl, ?hy9⟩) ?rest9
      case hy9 => intro wz hSw; (try dsimp only at hSw); go_simp; try with_reducible rfl
      simp only [Act.put, List.setIfInBounds_toArray, List.set_cons_zero, List.set_cons_succ]
      refine takeF 9 61 ?v10 rfl (Or.inl ⟨by rfl, ?hy10⟩) ?rest10
      case hy10 => intro wz hSw; (try dsimp only at hSw); go_simp; try with_reducible rfl
      simp only [Act.put, List.setIfInBounds_toArray, List.set_cons_zero, List.set_cons_succ]
      refine takeF 10 62 ?v11 rfl (Or.inl ⟨by rfl, ?hy11⟩) ?rest11
      case hy11 => intro wz hSw; (try dsimp only at hSw); go_simp; try with_reducible rfl
      simp only [Act.put, List.setIfInBounds_toArray, List.set_cons_zero, List.set_cons_succ]
      refine takeF 11 63 ?v12 rfl (Or.inl ⟨by rfl, ?hy12⟩) ?rest12
      case hy12 => intro wz hSw; (try dsimp only at hSw); go_simp; try with_reducible rfl
      simp only [Act.put, List.setIfInBounds_toArray, List.set_cons_zero, List.set_cons_succ]
      refine takeF 12 64 ?v13 rfl (Or.inl ⟨by rfl, ?hy13⟩) ?rest13
      case hy13 => intro wz hSw; (try dsimp only at hSw); go_simp; try with_reducible rfl
      simp only [Act.put, List.setIfInBounds_toArray, List.set_cons_zero, List.set_cons_succ]
      refine takeF 13 65 ?v14 rfl (Or.inl ⟨by rfl, ?hy14⟩) ?rest14
      case hy14 => intro wz hSw; (try dsimp only at hSw); go_simp; try with_reducible rfl
      simp only [Act.put, List.setIfInBounds_toArray, List.set_cons_zero, List.set_cons_succ]
      refine takeF 14 66 ?v15 rfl (Or.inl ⟨by rfl, ?hy15⟩) ?rest15
      case hy15 => intro wz hSw; (try dsimp only at hSw); go_simp; try with_reducible rfl
      simp only [Act.put, List.setIfInBounds_toArray, List.set_cons_zero, List.set_cons_succ]
      refine takeF 15 67 ?v16 rfl (Or.inl ⟨by rfl, ?hy16⟩) ?rest16
      case hy16 => intro wz hSw; (try dsimp only at hSw); go_simp; try with_reducible rfl
      simp only [Act.put, List.setIfInBounds_toArray, List.set_cons_zero, List.set_cons_succ]
      refine takeF 16 68 ?v17 rfl (Or.inl ⟨by rfl, ?hy17⟩) ?rest17
      case hy17 => intro wz hSw; (try dsimp only at hSw); go_simp; try with_reducible rfl
      simp only [Act.put, List.setIfInBounds_toArray, List.set_cons_zero, List.set_cons_succ]
      refine takeF 17 69 ?v18 rfl (Or.inl ⟨by rfl, ?hy18⟩) ?rest18
      case hy18 => intro wz hSw; (try dsimp only at hSw); go_simp; try with_reducible rfl
      simp only [Act.put, List.setIfInBounds_toArray, List.set_cons_zero, List.set_cons_succ]
      refine takeF 18 70 ?v19 rfl (Or.inl ⟨by rfl, ?hy19⟩) ?rest19
      case hy19 => intro wz hSw; (try dsimp only at hSw); go_simp; try with_reducible rfl
      simp only [Act.put, List.setIfInBounds_toArray, List.set_cons_zero, List.set_cons_succ]
      refine takeF 19 71 ?v20 rfl (Or.inl ⟨by rfl, ?hy20⟩) ?rest20
      case hy20 => intro wz hSw; (try dsimp only at hSw); go_simp; try with_reducible rfl
      simp only [Act.put, List.setIfInBounds_toArray, List.set_cons_zero, List.set_cons_succ]
      refine takeF 20 72 ?v21 rfl (Or.inl ⟨by rfl, ?hy21⟩) ?rest21
      case hy21 => intro wz hSw; (try dsimp only at hSw); go_simp; try with_reducible rfl
      simp only [Act.put, List.setIfInBounds_toArray, List.set_cons_zero, List.set_cons_succ]
      refine takeF 21 73 ?v22 rfl (Or.inl ⟨by rfl, ?hy22⟩) ?rest22
      case hy22 => intro wz hSw; (try dsimp only at hSw); go_simp; try with_reducible rfl
      simp only [Act.put, List.setIfInBounds_toArray, List.set_cons_zero, List.set_cons_succ]
      refine takeF 22 74 ?v23 rfl (Or.inl ⟨by rfl, ?hy23⟩) ?rest23
      case hy23 => intro wz hSw; (try dsimp only at hSw); go_simp; try with_reducible rfl
      simp only [Act.put, List.setIfInBounds_toArray, List.set_cons_zero, List.set_cons_succ]
      refine takeF 23 75 ?v24 rfl (Or.inl ⟨by rfl, ?hy24⟩) ?rest24
      case hy24 => intro wz hSw; (try dsimp only at hSw); go_simp; try with_reducible rfl
      simp only [Act.put, List.setIfInBounds_toArray, List.set_cons_zero, List.set_cons_succ]
      refine takeF 24 76 ?v25 rfl (Or.inl ⟨by rfl, ?hy25⟩) ?rest25
      case hy25 => intro wz hSw; (try dsimp only at hSw); go_simp; try with_reducible rfl
      simp only [Act.put, List.setIfInBounds_toArray, List.set_cons_zero, List.set_cons_succ]
      refine takeF 25 77 ?v26 rfl (Or.inl ⟨by rfl, ?hy26⟩) ?rest26
      case hy26 => intro wz hSw; (try dsimp only at hSw); go_simp; try with_reducible rfl
      simp only [Act.put, List.setIfInBounds_toArray, List.set_cons_zero, List.set_cons_succ]
      refine wpAnyH_ready (rs := [26]) (by as_aux_lemma => kernel_rfl) (by simp) ?_
      refine (AllReadyH.cons rfl (fun K' hK => ?_) AllReadyH.nil)
      go_simp
      go_wp2_with (go_at_call 54; refine (hsame _ (Below.refl _ _).drew).mono ?_; rintro e w5 ⟨rfl, hwd⟩)
      have hw5 : Below wr.heap.size wr w5 := ⟨hwd.os, hwd.tape, hwd.output, hwd.size, hwd.block⟩
      clear hwd
      refine hK.out _ _ (HS6.out _ hw5) (fun _ => ?_)
      clear hK K'
      refine takeF 27 79 ?v27 rfl (Or.inl ⟨by rfl, ?hy27⟩) ?rest27
      case hy27 => intro wz hSw; (try dsimp only at hSw); go_simp; try with_reducible rfl
      simp only [Act.put, List.setIfInBounds_toArray, List.set_cons_zero, List.set_cons_succ]
      refine takeF 28 80 ?v28 rfl (Or.inl ⟨by rfl, ?hy28⟩) ?rest28
      case hy28 => intro wz hSw; (try dsimp only at hSw); go_simp; try with_reducible rfl
      simp only [Act.put, List.setIfInBounds_toArray, List.set_cons_zero, List.set_cons_succ]
      refine wpAnyH_done (by as_aux_lemma => kernel_rfl) ?_ _
      go_wp2
      go_roundw
      case rel => exact ⟨i + 1, hlt, by go_num, below_then hbr hw5⟩
      case measure => simp [intOf]; omega
    · have hik : i = th.objs.length := by omega
      subst hik
      obtain ⟨a0, a1, a2, a3, a4, b0, b1, b2, b3, b4⟩ := HSB.out _ hbr
      have HBR := hid hbr
      clear hbr
      go_wp2_with fail
      go_loopw [85] (fun i wr => ∃ k : Nat, k ≤ th.mails.length ∧ i = .int .i64 k ∧ Below w0.heap.size w0 wr) (fun i _ => th.mails.length - (intOf i).toNat)
      case atStart => exact ⟨0, Nat.zero_le _, rfl, HBR.out⟩
      case round =>
        clear a0 a1 a2 a3 a4 b0 b1 b2 b3 b4 HBR
        obtain ⟨i, hi2, rfl, hbr⟩ := hrel
        by_cases hlt : i < th.mails.length
        · have hI : (i : Int) < (th.mails.length : Int) := by omega
          have I0 : (0 : Int) ≤ i := by omega
          obtain ⟨ga, la, ka, na, ma, e1, c0, c1, c2, c3, c4, o1, o1'⟩ := (HT1.out.mails.keep (far_low (R := []) (fun k hk => by cases hk)) (kept_below _ hbr)).get i hlt
          obtain ⟨gb, lb, kb, nb, mb, e2, d0, d1, d2, d3, d4, o2, o2'⟩ := (HT2.out.mails.keep (far_low (R := []) (fun k hk => by cases hk)) (kept_below _ hbr)).get i hlt
          have hgm := mail_len (HGM.out _ (List.getElem_mem hlt))
          subst e1 e2
          generalize th.mails[i] = x at *
          have hsame := fun wx (hb : Below wr.heap.size wr wx) => tsameMail_eq _ _ x wx ⟨_, _, rfl, (labs_of_own o1 (by omega)).below hb, (nums_of_own o1' (by omega)).below hb⟩ ⟨_, _, rfl, (labs_of_own o2 (by omega)).below hb, (nums_of_own o2' (by omega)).below hb⟩
          unfold malV at hsame
          have HS12 : Hid (∀ w', Below wr.heap.size wr w' → w'.cell? ⟨w.heap.size, 0, none⟩ = some (.slice pl1 th.label.length cl1) ∧ w'.cell? ⟨w.heap.size, 1, none⟩ = some (.slice po1 th.own.length co1) ∧ w'.cell? ⟨w.heap.size, 2, none⟩ = some (.string ⟨th.text.toArray⟩) ∧ w'.cell? ⟨w.heap.size, 3, none⟩ = some (.slice pj1 th.objs.length cj1) ∧ w'.cell? ⟨w.heap.size, 4, none⟩ = some (.slice (some ⟨ga, 0, none⟩) th.mails.length cm1) ∧ w'.cell? ⟨w.heap.size + 1, 0, none⟩ = some (.slice pl2 th.label.length cl2) ∧ w'.cell? ⟨w.heap.size + 1, 1, none⟩ = some (.slice po2 th.own.length co2) ∧ w'.cell? ⟨w.heap.size + 1, 2, none⟩ = some (.string ⟨th.text.toArray⟩) ∧ w'.cell? ⟨w.heap.size + 1, 3, none⟩ = some (.slice pj2 th.objs.length cj2) ∧ w'.cell? ⟨w.heap.size + 1, 4, none⟩ = some (.slice (some ⟨gb, 0, none⟩) th.mails.length cm2) ∧ w'.cell? ⟨ga, i * 5, none⟩ = some (.int .i64 x.host) ∧ w'.cell? ⟨ga, i * 5 + 1, none⟩ = some (.int .i64 x.thread) ∧ w'.cell? ⟨ga, i * 5 + 2, none⟩ = some (.slice la x.label.length ka) ∧ w'.cell? ⟨ga, i * 5 + 3, none⟩ = some (.slice na x.grants.length ma) ∧ w'.cell? ⟨ga, i * 5 + 4, none⟩ = some (.string ⟨x.text.toArray⟩) ∧ w'.cell? ⟨gb, i * 5, none⟩ = some (.int .i64 x.host) ∧ w'.cell? ⟨gb, i * 5 + 1, none⟩ = some (.int .i64 x.thread) ∧ w'.cell? ⟨gb, i * 5 + 2, none⟩ = some (.slice lb x.label.length kb) ∧ w'.cell? ⟨gb, i * 5 + 3, none⟩ = some (.slice nb x.grants.length mb) ∧ w'.cell? ⟨gb, i * 5 + 4, none⟩ = some (.string ⟨x.text.toArray⟩)) := hid (fun w' hw => by
            obtain ⟨q0, q1, q2, q3, q4, r0, r1, r2, r3, r4⟩ := HSB.out _ (below_then hbr hw)
            exact ⟨q0, q1, q2, q3, q4, r0, r1, r2, r3, r4, (hw.cell (cell_block c0)).trans c0, (hw.cell (cell_block c1)).trans c1, (hw.cell (cell_block c2)).trans c2, (hw.cell (cell_block c3)).trans c3, (hw.cell (cell_block c4)).trans c4, (hw.cell (cell_block d0)).trans d0, (hw.cell (cell_block d1)).trans d1, (hw.cell (cell_block d2)).trans d2, (hw.cell (cell_block d3)).trans d3, (hw.cell (cell_block d4)).trans d4⟩)
          clear o1 o2 o1' o2' c0 c1 c2 c3 c4 d0 d1 d2 d3 d4 hgm
          go_upto_region 12 with fail
          refine wp_region_held_drew (S := (fun w' => w'.cell? ⟨w.heap.size, 0, none⟩ = some (.slice pl1 th.label.length cl1) ∧ w'.cell? ⟨w.heap.size, 1, none⟩ = some (.slice po1 th.own.length co1) ∧ w'.cell? ⟨w.heap.size, 2, none⟩ = some (.string ⟨th.text.toArray⟩) ∧ w'.cell? ⟨w.heap.size, 3, none⟩ = some (.slice pj1 th.objs.length cj1) ∧ w'.cell? ⟨w.heap.size, 4, none⟩ = some (.slice (some ⟨ga, 0, none⟩) th.mails.length cm1) ∧ w'.cell? ⟨w.heap.size + 1, 0, none⟩ = some (.slice pl2 th.label.length cl2) ∧ w'.cell? ⟨w.heap.size + 1, 1, none⟩ = some (.slice po2 th.own.length co2) ∧ w'.cell? ⟨w.heap.size + 1, 2, none⟩ = some (.string ⟨th.text.toArray⟩) ∧ w'.cell? ⟨w.heap.size + 1, 3, none⟩ = some (.slice pj2 th.objs.length cj2) ∧ w'.cell? ⟨w.heap.size + 1, 4, none⟩ = some (.slice (some ⟨gb, 0, none⟩) th.mails.length cm2) ∧ w'.cell? ⟨ga, i * 5, none⟩ = some (.int .i64 x.host) ∧ w'.cell? ⟨ga, i * 5 + 1, none⟩ = some (.int .i64 x.thread) ∧ w'.cell? ⟨ga, i * 5 + 2, none⟩ = some (.slice la x.label.length ka) ∧ w'.cell? ⟨ga, i * 5 + 3, none⟩ = some (.slice na x.grants.length ma) ∧ w'.cell? ⟨ga, i * 5 + 4, none⟩ = some (.string ⟨x.text.toArray⟩) ∧ w'.cell? ⟨gb, i * 5, none⟩ = some (.int .i64 x.host) ∧ w'.cell? ⟨gb, i * 5 + 1, none⟩ = some (.int .i64 x.thread) ∧ w'.cell? ⟨gb, i * 5 + 2, none⟩ = some (.slice lb x.label.length kb) ∧ w'.cell? ⟨gb, i * 5 + 3, none⟩ = some (.slice nb x.grants.length mb) ∧ w'.cell? ⟨gb, i * 5 + 4, none⟩ = some (.string ⟨x.text.toArray⟩))) (by as_aux_lemma => kernel_rfl) (HS12.out _ (Below.refl _ _).drew) (fun _hHeld => ?_)
          refine takeF 0 88 ?v29 rfl (Or.inl ⟨by rfl, ?hy29⟩) ?rest29
          case hy29 => intro wz hSw; (try dsimp only at hSw); go_simp; try with_reducible rfl
          simp only [Act.put, List.setIfInBounds_toArray, List.set_cons_zero, List.set_cons_succ]
          refine takeF 1 89 ?v30 rfl (Or.inl ⟨by rfl, ?hy30⟩) ?rest30
          case hy30 => intro wz hSw; (try dsimp only at hSw); go_simp; try with_reducible rfl
          simp only [Act.put, List.setIfInBounds_toArray, List.set_cons_zero, List.set_cons_succ]
          refine takeF 2 90 ?v31 rfl (Or.inl ⟨by rfl, ?hy31⟩) ?rest31
          case hy31 => intro wz hSw; (try dsimp only at hSw); go_simp; try with_reducible rfl
          simp only [Act.put, List.setIfInBounds_toArray, List.set_cons_zero, List.set_cons_succ]
          refine takeF 3 91 ?v32 rfl (Or.inl ⟨by rfl, ?hy32⟩) ?rest32
          case hy32 => intro wz hSw; (try dsimp only at hSw); go_simp; try with_reducible rfl
          simp only [Act.put, List.setIfInBounds_toArray, List.set_cons_zero, List.set_cons_succ]
          refine takeF 4 92 ?v33 rfl (Or.inl ⟨by rfl, ?hy33⟩) ?rest33
          case hy33 => intro wz hSw; (try dsimp only at hSw); go_simp; try with_reducible rfl
          simp only [Act.put, List.setIfInBounds_toArray, List.set_cons_zero, List.set_cons_succ]
          refine takeF 5 93 ?v34 rfl (Or.inl ⟨by rfl, ?hy34⟩) ?rest34
          case hy34 => intro wz hSw; (try dsimp only at hSw); go_simp; try with_reducible rfl
          simp only [Act.put, List.setIfInBounds_toArray, List.set_cons_zero, List.set_cons_succ]
          refine takeF 6 94 ?v35 rfl (Or.inl ⟨by rfl, ?hy35⟩) ?rest35
          case hy35 => intro wz hSw; (try dsimp only at hSw); go_simp; try with_reducible rfl
          simp only [Act.put, List.setIfInBounds_toArray, List.set_cons_zero, List.set_cons_succ]
          refine takeF 7 95 ?v36 rfl (Or.inl ⟨by rfl, ?hy36⟩) ?rest36
          case hy36 => intro wz hSw; (try dsimp only at hSw); go_simp; try with_reducible rfl
          simp only [Act.put, List.setIfInBounds_toArray, List.set_cons_zero, List.set_cons_succ]
          refine takeF 8 96 ?v37 rfl (Or.inl ⟨by rfl, ?hy37⟩) ?rest37
          case hy37 => intro wz hSw; (try dsimp only at hSw); go_simp; try with_reducible rfl
          simp only [Act.put, List.setIfInBounds_toArray, List.set_cons_zero, List.set_cons_succ]
          refine takeF 9 97 ?v38 rfl (Or.inl ⟨by rfl, ?hy38⟩) ?rest38
          case hy38 => intro wz hSw; (try dsimp only at hSw); go_simp; try with_reducible rfl
          simp only [Act.put, List.setIfInBounds_toArray, List.set_cons_zero, List.set_cons_succ]
          refine wpAnyH_ready (rs := [10]) (by as_aux_lemma => kernel_rfl) (by simp) ?_
          refine (AllReadyH.cons rfl (fun K' hK => ?_) AllReadyH.nil)
          go_simp
          go_wp2_with (go_at_call 56; refine (hsame _ (Below.refl _ _).drew).mono ?_; rintro e w5 ⟨rfl, hwd⟩)
          have hw5 : Below wr.heap.size wr w5 := ⟨hwd.os, hwd.tape, hwd.output, hwd.size, hwd.block⟩
          clear hwd
          refine hK.out _ _ (HS12.out _ hw5) (fun _ => ?_)
          clear hK K'
          refine takeF 11 99 ?v39 rfl (Or.inl ⟨by rfl, ?hy39⟩) ?rest39
          case hy39 => intro wz hSw; (try dsimp only at hSw); go_simp; try with_reducible rfl
          simp only [Act.put, List.setIfInBounds_toArray, List.set_cons_zero, List.set_cons_succ]
          refine wpAnyH_done (by as_aux_lemma => kernel_rfl) ?_ _
          go_wp2
          go_roundw
          case rel => exact ⟨i + 1, hlt, by go_num, below_then hbr hw5⟩
          case measure => simp [intOf]; omega
        · have hik : i = th.mails.length := by omega
          subst hik
          go_wp2
          go_ret
          exact ⟨rfl, below_then HB0.out hbr⟩
end Go.Proofs.YtgpldlbmjakjhaaGreat
