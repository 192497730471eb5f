/- cluster.come: a frame that comes. -/
import Derived.Test.YtpdijobakfpnbaaGreatJCAccept
import Derived.Test.YtpdijobakfpnbaaGreatJCPut
import Derived.Test.YtpdijobakfpnbaaGreatJWDec
import Derived.Test.YtpdijobakfpnbaaGreatJLAns
import Derived.Test.YtpdijobakfpnbaaGreatJKTake
import Derived.Test.YtpdijobakfpnbaaGreatJCClu
import Derived.Test.YtpdijobakfpnbaaGreatJRows0
import Derived.Test.YtpdijobakfpnbaaGreatJCAway
import Derived.Test.YtpdijobakfpnbaaGreatJCAgain
namespace Go.Proofs.YtpdijobakfpnbaaGreat
open Go.RowKit Go.Proofs.Parclose
theorem Qkr {C : Clu} {s : List UInt8} {f : Frm} {e : Int} (h : decL s = (f, e)) (he : e ≠ 0) : comeC C s = C := by
 unfold comeC
 rw [h]
 exact if_neg he
theorem Qks {C : Clu} {s : List UInt8} {f : Frm} (h : decL s = (f, 0)) (hk : f.ack = true) : comeC C s = setLi C f.to f.fr (ansLn (lineC C f.to f.fr) f.seq).1 := by
 unfold comeC
 rw [h]
 simp only [if_pos, hk]
theorem QlY {C : Clu} {s : List UInt8} {f : Frm} {l : Lne} (h : decL s = (f, 0)) (hk : f.ack = false) (ht : takeLn (lineC C f.fr f.to) f.seq = (l, 0)) : comeC C s = acceptC (putC (setLi C f.fr f.to l) ⟨f.to, f.fr, f.seq, true, 0, zeroMal, []⟩) f := by
 unfold comeC
 rw [h]
 simp [hk, ht]
theorem QgS {C : Clu} {s : List UInt8} {f : Frm} {l : Lne} (h : decL s = (f, 0)) (hk : f.ack = false) (ht : takeLn (lineC C f.fr f.to) f.seq = (l, 10)) : comeC C s = putC (setLi C f.fr f.to l) ⟨f.to, f.fr, f.seq, true, 0, zeroMal, []⟩ := by
 unfold comeC
 rw [h]
 simp [hk, ht]
theorem Qkq {C : Clu} {s : List UInt8} {f : Frm} {l : Lne} {e : Int} (h : decL s = (f, 0)) (hk : f.ack = false) (ht : takeLn (lineC C f.fr f.to) f.seq = (l, e)) (h0 : e ≠ 0) (h10 : e ≠ 10) : comeC C s = setLi C f.fr f.to l := by
 unfold comeC
 rw [h]
 simp [hk, ht, h0, h10]
theorem QhF {B : Nat} {w1 w4 w5 w6 : World} {F G : List Nat} (h14 : Since B w1 w4) (hz : w1.heap.size ≤ w4.heap.size) (h45 : KeptF F w4 w5) (hm : More w4 F G) (hF : ∀ k ∈ F, k < B) (h : KeptF G w5 w6) : Since B w1 w6 := fun k hk hs => by
 have hz5 := h45.size
 rw [h.block k (by omega) (fun e => by
  rcases hm.2 k e with q | q
  · have := hF k q; omega
  · omega), h45.block k (by omega) (fun e => by have := hF k e; omega), h14 k hk hs]
set_option linter.unusedSimpArgs false in
set_option maxRecDepth 100000 in
set_option maxHeartbeats 6400000 in
theorem Qfl (cb : Nat) (F : List Nat) (Z : CluV) (C : Clu) (s : List UInt8) (w : World) (hc : CluAt w cb F Z C) (hg : GoodC C) :
 Calls Tryz.prog 57 #[.pointer (some ⟨cb, 0, none⟩), .string ⟨s.toArray⟩] w fun e w' => e = .returned (.tuple #[]) ∧ ∃ G Z', CluAt w' cb G Z' (comeC C s) ∧ CStep cb w F Z w' G Z' := by
 have hdec := Qiy s w
 have HDF : Hid ((decL s).2 = 0 → frameE (decL s).1 = 0) := hid Qcd
 obtain ⟨f, de, hDS⟩ : ∃ f de, decL s = (f, de) := ⟨_, _, rfl⟩
 have HDS := hid hDS
 rw [hDS] at hdec HDF
 simp only at hdec HDF
 clear hDS
 have HC := hid hc
 have HG := hid hg
 have hlt := hc.lt
 clear hc hg
 by_cases h0 : de = 0
 rotate_left
 · have HP : Hid (comeC C s = C) := hid (Qkr HDS.out h0)
   have hne : (de != 0) = true := by simpa using h0
   clear HDF h0
   go_enter Tryz.func57, Tryz.ntmps57
   go_wp2_with (go_at_call 98; refine hdec.mono ?_; rintro e w1 ⟨vf, rfl, hfr, hw1⟩; obtain ⟨vl, vg, vc, rfl, ⟨pl, cl, rfl, _⟩, ⟨pg, cg, rfl, _⟩, ⟨pc, cc, rfl, _⟩⟩ := hfr w1 (Since.refl _ _); unfold frmV; clear hfr)
   rw [HP.out]
   exact bodyPost_ret (results_none rfl _ _ _) rfl ⟨rfl, _, _, (HC.out.below hw1).below (Qd _ _), CStep.below (Qc hw1 (Qd _ _))⟩
 · subst h0
   have hfe := HDF.out rfl
   obtain ⟨hh1, hh2, hh3⟩ := Qab hfe
   have HH2 := hid hh2
   obtain ⟨b, hb, hb4⟩ : ∃ b : Nat, f.fr = b ∧ b < 4 := by
    have : 0 ≤ f.fr ∧ f.fr < 4 := of_decide_eq_true hh1
    exact ⟨f.fr.toNat, by omega, by omega⟩
   obtain ⟨a, ha, ha4⟩ : ∃ a : Nat, f.to = a ∧ a < 4 := by
    have : 0 ≤ f.to ∧ f.to < 4 := of_decide_eq_true hh2
    exact ⟨f.to.toNat, by omega, by omega⟩
   clear HDF hfe hh1 hh2 hh3
   have ia0 : ¬ ((a : Int) < 0) := by omega
   have ia1 : ¬ ((4 : Int) ≤ a) := by omega
   have ia2 : (a : Int) < 4 := by omega
   have ia3 : (0 : Int) ≤ a := by omega
   have ib0 : ¬ ((b : Int) < 0) := by omega
   have ib1 : ¬ ((4 : Int) ≤ b) := by omega
   have ib2 : (b : Int) < 4 := by omega
   have ib3 : (0 : Int) ≤ b := by omega
   have HAB : Hid (f.to = (a : Int) ∧ f.fr = (b : Int)) := hid ⟨ha, hb⟩
   go_enter Tryz.func57, Tryz.ntmps57
   go_upto_region 0 with fail
   go_wp2_with fail
   refine hdec.mono ?_
   rintro e w1 ⟨vf, rfl, hfr, hw1⟩
   obtain ⟨vl, vg, vc, rfl, ⟨pl, cl, rfl, _⟩, ⟨pg, cg, rfl, _⟩, ⟨pc, cc, rfl, _⟩⟩ := id (hfr w1 (Since.refl _ _))
   unfold frmV at hfr ⊢
   have HFR := hid hfr
   clear hfr hdec
   rw [ha, hb] at HFR ⊢
   clear ha hb
   have HC1 := hid (HC.out.below hw1)
   generalize hack : f.ack = ak at HFR ⊢
   have HACK := hid hack
   clear hack
   cases ak with
   | true =>
    have HX2 := hid (heap_alloc_new w1 (.cells #[.int .i64 b, .int .i64 a, .int .i64 f.seq, .bool true, .int .i64 f.thread, .int .i64 f.mail.host, .int .i64 f.mail.thread, .slice pl f.mail.label.length cl, .slice pg f.mail.grants.length cg, .string ⟨f.mail.text.toArray⟩, .slice pc f.certs.length cc] 111))
    have HC2 := hid (HC1.out.below (Qd w1 (.cells #[.int .i64 b, .int .i64 a, .int .i64 f.seq, .bool true, .int .i64 f.thread, .int .i64 f.mail.host, .int .i64 f.mail.thread, .slice pl f.mail.label.length cl, .slice pg f.mail.grants.length cg, .string ⟨f.mail.text.toArray⟩, .slice pc f.certs.length cc] 111)))
    have HS2 := hid (CStep.below (cb := cb) (F := F) (Z := Z) (Qc hw1 (Qd w1 (.cells #[.int .i64 b, .int .i64 a, .int .i64 f.seq, .bool true, .int .i64 f.thread, .int .i64 f.mail.host, .int .i64 f.mail.thread, .slice pl f.mail.label.length cl, .slice pg f.mail.grants.length cg, .string ⟨f.mail.text.toArray⟩, .slice pc f.certs.length cc] 111))))
    obtain ⟨e0, e1, e2, e3, e4, e5, e6, e7, e8, e9, e10⟩ := cells11 HX2.out
    have HB12 := hid (Qd w1 (.cells #[.int .i64 b, .int .i64 a, .int .i64 f.seq, .bool true, .int .i64 f.thread, .int .i64 f.mail.host, .int .i64 f.mail.thread, .slice pl f.mail.label.length cl, .slice pg f.mail.grants.length cg, .string ⟨f.mail.text.toArray⟩, .slice pc f.certs.length cc] 111))
    have hlt2 := HC2.out.lt
    have hbl := Qw HX2.out
    have HLN := hid (HC2.out.line (a := a) (b := b) (by assumption) (by assumption))
    obtain ⟨⟨k0, k1, k2, k3, k4, k5, k6, k7, k8, k9, k10⟩, kf⟩ := HC2.out.lcells (a := a) (b := b) (by assumption) (by assumption) rfl rfl rfl
    obtain ⟨pv, cv, hvs⟩ := (HC2.out.snt a b (by assumption) (by assumption)).at.slice
    rw [hvs] at k1
    unfold lneC at HLN
    rw [hvs] at HLN
    go_upto_region 3 with fail
    generalize w1.alloc (.cells #[.int .i64 b, .int .i64 a, .int .i64 f.seq, .bool true, .int .i64 f.thread, .int .i64 f.mail.host, .int .i64 f.mail.thread, .slice pl f.mail.label.length cl, .slice pg f.mail.grants.length cg, .string ⟨f.mail.text.toArray⟩, .slice pc f.certs.length cc] 111) = w2 at *
    refine wp_region_held_drew (S := (fun w' => w'.cell? ⟨w1.heap.size, 0, none⟩ = some (.int .i64 b) ∧ w'.cell? ⟨w1.heap.size, 1, none⟩ = some (.int .i64 a))) (by as_aux_lemma => kernel_rfl) ⟨e0, e1⟩ (fun _hHeld => ?_)
    refine takeF 0 17 ?v1 rfl (Or.inl ⟨by rfl, ?hy1⟩) ?rest1
    case hy1 => intro wz hSw; (try dsimp only at hSw); go_simp; try with_reducible rfl
    simp only [Act.put, List.setIfInBounds_toArray, List.set_cons_zero, List.set_cons_succ]
    refine takeF 1 18 ?v2 rfl (Or.inl ⟨by rfl, ?hy2⟩) ?rest2
    case hy2 => intro wz hSw; (try dsimp only at hSw); go_simp; try with_reducible rfl
    simp only [Act.put, List.setIfInBounds_toArray, List.set_cons_zero, List.set_cons_succ]
    refine takeF 2 19 ?v3 rfl (Or.inl ⟨by rfl, ?hy3⟩) ?rest3
    case hy3 => intro wz hSw; (try dsimp only at hSw); go_simp; try with_reducible rfl
    simp only [Act.put, List.setIfInBounds_toArray, List.set_cons_zero, List.set_cons_succ]
    refine takeF 3 20 ?v4 rfl (Or.inl ⟨by rfl, ?hy4⟩) ?rest4
    case hy4 => intro wz hSw; (try dsimp only at hSw); go_simp; try with_reducible rfl
    simp only [Act.put, List.setIfInBounds_toArray, List.set_cons_zero, List.set_cons_succ]
    refine takeF 4 21 ?v5 rfl (Or.inl ⟨by rfl, ?hy5⟩) ?rest5
    case hy5 => intro wz hSw; (try dsimp only at hSw); go_simp; try with_reducible rfl
    simp only [Act.put, List.setIfInBounds_toArray, List.set_cons_zero, List.set_cons_succ]
    refine takeF 5 22 ?v6 rfl (Or.inl ⟨by rfl, ?hy6⟩) ?rest6
    case hy6 => intro wz hSw; (try dsimp only at hSw); go_simp; try with_reducible rfl
    simp only [Act.put, List.setIfInBounds_toArray, List.set_cons_zero, List.set_cons_succ]
    refine takeF 6 23 ?v7 rfl (Or.inl ⟨by rfl, ?hy7⟩) ?rest7
    case hy7 => intro wz hSw; (try dsimp only at hSw); go_simp; try with_reducible rfl
    simp only [Act.put, List.setIfInBounds_toArray, List.set_cons_zero, List.set_cons_succ]
    refine takeF 7 24 ?v8 rfl (Or.inl ⟨by rfl, ?hy8⟩) ?rest8
    case hy8 => intro wz hSw; (try dsimp only at hSw); go_simp; try with_reducible rfl
    simp only [Act.put, List.setIfInBounds_toArray, List.set_cons_zero, List.set_cons_succ]
    refine takeF 8 25 ?v9 rfl (Or.inl ⟨by rfl, ?hy9⟩) ?rest9
    case hy9 => intro wz hSw; (try dsimp only at hSw); go_simp; try with_reducible rfl
    simp only [Act.put, List.setIfInBounds_toArray, List.set_cons_zero, List.set_cons_succ]
    refine takeF 9 6 ?v10 rfl (Or.inl ⟨by rfl, ?hy10⟩) ?rest10
    case hy10 => intro wz hSw; (try dsimp only at hSw); go_simp; try with_reducible rfl
    simp only [Act.put, List.setIfInBounds_toArray, List.set_cons_zero, List.set_cons_succ]
    refine wpAnyH_done (by as_aux_lemma => kernel_rfl) ?_ _
    go_upto_region 4 with fail
    have hln := fun wx (hb : Below w2.heap.size w2 wx) => QlA _ (C.lines a b) f.seq wx (HLN.out.below hb)
    refine wp_region_held_drew (S := (fun w' => w'.cell? ⟨w1.heap.size, 2, none⟩ = some (.int .i64 f.seq))) (by as_aux_lemma => kernel_rfl) e2 (fun _hHeld => ?_)
    refine takeF 0 27 ?v11 rfl (Or.inl ⟨by rfl, ?hy11⟩) ?rest11
    case hy11 => intro wz hSw; (try dsimp only at hSw); go_simp; try with_reducible rfl
    simp only [Act.put, List.setIfInBounds_toArray, List.set_cons_zero, List.set_cons_succ]
    refine takeF 1 28 ?v12 rfl (Or.inl ⟨by rfl, ?hy12⟩) ?rest12
    case hy12 => intro wz hSw; (try dsimp only at hSw); go_simp; try with_reducible rfl
    simp only [Act.put, List.setIfInBounds_toArray, List.set_cons_zero, List.set_cons_succ]
    refine takeF 2 29 ?v13 rfl (Or.inl ⟨by rfl, ?hy13⟩) ?rest13
    case hy13 => intro wz hSw; (try dsimp only at hSw); go_simp; try with_reducible rfl
    simp only [Act.put, List.setIfInBounds_toArray, List.set_cons_zero, List.set_cons_succ]
    refine takeF 4 31 ?v14 rfl (Or.inl ⟨by rfl, ?hy14⟩) ?rest14
    case hy14 => intro wz hSw; (try dsimp only at hSw); go_simp; try with_reducible rfl
    simp only [Act.put, List.setIfInBounds_toArray, List.set_cons_zero, List.set_cons_succ]
    refine takeF 5 32 ?v15 rfl (Or.inl ⟨by rfl, ?hy15⟩) ?rest15
    case hy15 => intro wz hSw; (try dsimp only at hSw); go_simp; try with_reducible rfl
    simp only [Act.put, List.setIfInBounds_toArray, List.set_cons_zero, List.set_cons_succ]
    refine wpAnyH_ready (rs := [3]) (by as_aux_lemma => kernel_rfl) (by simp) ?_
    refine (AllReadyH.cons rfl (fun K' hK => ?_) AllReadyH.nil)
    go_simp
    refine hK.out _ _ e2 (fun _ => ?_)
    clear hK K'
    refine wpAnyH_ready (rs := [6]) (by as_aux_lemma => kernel_rfl) (by simp) ?_
    refine (AllReadyH.cons rfl (fun K' hK => ?_) AllReadyH.nil)
    go_simp
    go_wp2_with (go_at_call 99; refine (hln _ (Below.refl _ _).drew.drew).mono ?_; rintro e w3 ⟨v3, rfl, hl3, hwd⟩)
    have hw3 : Below w2.heap.size w2 w3 := ⟨hwd.os, hwd.tape, hwd.output, hwd.size, hwd.block⟩
    clear hwd
    have HC3 := hid (HC2.out.below hw3)
    obtain ⟨nx1, st1, hi1, d0, d1, d2, d3, d4, d5, d6, d7, p1, c1, el, ev, hr3⟩ := LneNew.spelled (F := F) hl3 HC2.out.fin
    subst ev
    have HR3 := hid hr3
    have HEL := hid el
    clear hl3 hr3 el
    obtain ⟨⟨m0, m1, m2, m3, m4, m5, m6, m7, m8, m9, m10⟩, mf⟩ := HC3.out.lcells (a := a) (b := b) (by assumption) (by assumption) rfl rfl rfl
    rw [hvs] at m1
    have HX3 := hid (Qe HX2.out hw3)
    have t2 := Qa HX3.out 2
    have g0 := mf (10 + a * 44 + b * 11)
    have g1 := mf (10 + a * 44 + b * 11 + 1)
    have g2 := mf (10 + a * 44 + b * 11 + 2)
    have g3 := mf (10 + a * 44 + b * 11 + 3)
    have g4 := mf (10 + a * 44 + b * 11 + 4)
    have g5 := mf (10 + a * 44 + b * 11 + 5)
    have g6 := mf (10 + a * 44 + b * 11 + 6)
    have g7 := mf (10 + a * 44 + b * 11 + 7)
    have g8 := mf (10 + a * 44 + b * 11 + 8)
    have g9 := mf (10 + a * 44 + b * 11 + 9)
    have g10 := mf (10 + a * 44 + b * 11 + 10)
    have hlt3 : cb < w3.heap.size := HC3.out.lt
    refine hK.out _ _ t2 (fun _ => ?_)
    clear hK K'
    refine takeF 7 26 ?v16 rfl (Or.inl ⟨by rfl, ?hy16⟩) ?rest16
    case hy16 => intro wz hSw; (try dsimp only at hSw); go_simp; try with_reducible rfl
    simp only [Act.put, List.setIfInBounds_toArray, List.set_cons_zero, List.set_cons_succ]
    refine takeF 8 34 ?v17 rfl (Or.inl ⟨by rfl, ?hy17⟩) ?rest17
    case hy17 => intro wz hSw; (try dsimp only at hSw); go_simp; try with_reducible rfl
    simp only [Act.put, List.setIfInBounds_toArray, List.set_cons_zero, List.set_cons_succ]
    refine takeF 9 35 ?v18 rfl (Or.inl ⟨by rfl, ?hy18⟩) ?rest18
    case hy18 => intro wz hSw; (try dsimp only at hSw); go_simp; try with_reducible rfl
    simp only [Act.put, List.setIfInBounds_toArray, List.set_cons_zero, List.set_cons_succ]
    refine takeF 10 36 ?v19 rfl (Or.inl ⟨by rfl, ?hy19⟩) ?rest19
    case hy19 => intro wz hSw; (try dsimp only at hSw); go_simp; try with_reducible rfl
    simp only [Act.put, List.setIfInBounds_toArray, List.set_cons_zero, List.set_cons_succ]
    have hST : CluAt (((((((((((w3.setCell ⟨cb, 10 + a * 44 + b * 11, none⟩ (.int .i64 nx1)).setCell ⟨cb, 10 + a * 44 + b * 11 + 1, none⟩ (.slice p1 st1.length c1)).setCell ⟨cb, 10 + a * 44 + b * 11 + 2, none⟩ (.int .i64 hi1)).setCell ⟨cb, 10 + a * 44 + b * 11 + 3, none⟩ (.bool d0)).setCell ⟨cb, 10 + a * 44 + b * 11 + 4, none⟩ (.bool d1)).setCell ⟨cb, 10 + a * 44 + b * 11 + 5, none⟩ (.bool d2)).setCell ⟨cb, 10 + a * 44 + b * 11 + 6, none⟩ (.bool d3)).setCell ⟨cb, 10 + a * 44 + b * 11 + 7, none⟩ (.bool d4)).setCell ⟨cb, 10 + a * 44 + b * 11 + 8, none⟩ (.bool d5)).setCell ⟨cb, 10 + a * 44 + b * 11 + 9, none⟩ (.bool d6)).setCell ⟨cb, 10 + a * 44 + b * 11 + 10, none⟩ (.bool d7)) cb F { Z with vs := fun a' b' => if a' = a ∧ b' = b then .slice p1 st1.length c1 else Z.vs a' b' } (setLi C a b ⟨nx1, st1, hi1, [d0, d1, d2, d3, d4, d5, d6, d7]⟩) ∧ CStep cb w3 F Z (((((((((((w3.setCell ⟨cb, 10 + a * 44 + b * 11, none⟩ (.int .i64 nx1)).setCell ⟨cb, 10 + a * 44 + b * 11 + 1, none⟩ (.slice p1 st1.length c1)).setCell ⟨cb, 10 + a * 44 + b * 11 + 2, none⟩ (.int .i64 hi1)).setCell ⟨cb, 10 + a * 44 + b * 11 + 3, none⟩ (.bool d0)).setCell ⟨cb, 10 + a * 44 + b * 11 + 4, none⟩ (.bool d1)).setCell ⟨cb, 10 + a * 44 + b * 11 + 5, none⟩ (.bool d2)).setCell ⟨cb, 10 + a * 44 + b * 11 + 6, none⟩ (.bool d3)).setCell ⟨cb, 10 + a * 44 + b * 11 + 7, none⟩ (.bool d4)).setCell ⟨cb, 10 + a * 44 + b * 11 + 8, none⟩ (.bool d5)).setCell ⟨cb, 10 + a * 44 + b * 11 + 9, none⟩ (.bool d6)).setCell ⟨cb, 10 + a * 44 + b * 11 + 10, none⟩ (.bool d7)) F { Z with vs := fun a' b' => if a' = a ∧ b' = b then .slice p1 st1.length c1 else Z.vs a' b' } := HC3.out.setLine (by assumption) (by assumption) (l := ⟨nx1, st1, hi1, [d0, d1, d2, d3, d4, d5, d6, d7]⟩) HR3.out rfl
    have hxx : (((((((((((w3.setCell ⟨cb, 10 + a * 44 + b * 11, none⟩ (.int .i64 nx1)).setCell ⟨cb, 10 + a * 44 + b * 11 + 1, none⟩ (.slice p1 st1.length c1)).setCell ⟨cb, 10 + a * 44 + b * 11 + 2, none⟩ (.int .i64 hi1)).setCell ⟨cb, 10 + a * 44 + b * 11 + 3, none⟩ (.bool d0)).setCell ⟨cb, 10 + a * 44 + b * 11 + 4, none⟩ (.bool d1)).setCell ⟨cb, 10 + a * 44 + b * 11 + 5, none⟩ (.bool d2)).setCell ⟨cb, 10 + a * 44 + b * 11 + 6, none⟩ (.bool d3)).setCell ⟨cb, 10 + a * 44 + b * 11 + 7, none⟩ (.bool d4)).setCell ⟨cb, 10 + a * 44 + b * 11 + 8, none⟩ (.bool d5)).setCell ⟨cb, 10 + a * 44 + b * 11 + 9, none⟩ (.bool d6)).setCell ⟨cb, 10 + a * 44 + b * 11 + 10, none⟩ (.bool d7)).heap[w1.heap.size]? = some (.cells #[.int .i64 b, .int .i64 a, .int .i64 f.seq, .bool true, .int .i64 f.thread, .int .i64 f.mail.host, .int .i64 f.mail.thread, .slice pl f.mail.label.length cl, .slice pg f.mail.grants.length cg, .string ⟨f.mail.text.toArray⟩, .slice pc f.certs.length cc] 111 (0, 0)) := QI hST.2 HC3.out HX3.out (by decide) (by decide) (by decide) (by decide) (by decide) (by decide)
    have HST := hid hST
    have HXX := hid hxx
    clear hST hxx
    have t2b := Qa HXX.out 2
    refine wpAnyH_ready (rs := [11]) (by as_aux_lemma => kernel_rfl) (by simp) ?_
    refine (AllReadyH.cons rfl (fun K' hK => ?_) AllReadyH.nil)
    go_simp
    refine hK.out _ _ t2b (fun _ => ?_)
    clear hK K'
    refine wpAnyH_done (by as_aux_lemma => kernel_rfl) ?_ _
    generalize (((((((((((w3.setCell ⟨cb, 10 + a * 44 + b * 11, none⟩ (.int .i64 nx1)).setCell ⟨cb, 10 + a * 44 + b * 11 + 1, none⟩ (.slice p1 st1.length c1)).setCell ⟨cb, 10 + a * 44 + b * 11 + 2, none⟩ (.int .i64 hi1)).setCell ⟨cb, 10 + a * 44 + b * 11 + 3, none⟩ (.bool d0)).setCell ⟨cb, 10 + a * 44 + b * 11 + 4, none⟩ (.bool d1)).setCell ⟨cb, 10 + a * 44 + b * 11 + 5, none⟩ (.bool d2)).setCell ⟨cb, 10 + a * 44 + b * 11 + 6, none⟩ (.bool d3)).setCell ⟨cb, 10 + a * 44 + b * 11 + 7, none⟩ (.bool d4)).setCell ⟨cb, 10 + a * 44 + b * 11 + 8, none⟩ (.bool d5)).setCell ⟨cb, 10 + a * 44 + b * 11 + 9, none⟩ (.bool d6)).setCell ⟨cb, 10 + a * 44 + b * 11 + 10, none⟩ (.bool d7)) = w4 at *
    generalize { Z with vs := fun a' b' => if a' = a ∧ b' = b then .slice p1 st1.length c1 else Z.vs a' b' } = Z4 at *
    have HE : Hid (comeC C s = setLi C a b ⟨nx1, st1, hi1, [d0, d1, d2, d3, d4, d5, d6, d7]⟩) := hid (by rw [Qks HDS.out HACK.out, HAB.out.1, HAB.out.2, ← HEL.out]; rfl)
    clear k0 k1 k2 k3 k4 k5 k6 k7 k8 k9 k10 kf m0 m1 m2 m3 m4 m5 m6 m7 m8 m9 m10 mf g0 g1 g2 g3 g4 g5 g6 g7 g8 g9 g10 hlt3 HR3 HX3 HC3 HLN hln t2 t2b
    go_wp2
    rw [HE.out]
    exact bodyPost_ret (results_none rfl _ _ _) rfl ⟨rfl, _, _, HST.out.1, HS2.out.trans ((CStep.below hw3).trans HST.out.2)⟩
   | false =>
    have HX2 := hid (heap_alloc_new w1 (.cells #[.int .i64 b, .int .i64 a, .int .i64 f.seq, .bool false, .int .i64 f.thread, .int .i64 f.mail.host, .int .i64 f.mail.thread, .slice pl f.mail.label.length cl, .slice pg f.mail.grants.length cg, .string ⟨f.mail.text.toArray⟩, .slice pc f.certs.length cc] 111))
    have HC2 := hid (HC1.out.below (Qd w1 (.cells #[.int .i64 b, .int .i64 a, .int .i64 f.seq, .bool false, .int .i64 f.thread, .int .i64 f.mail.host, .int .i64 f.mail.thread, .slice pl f.mail.label.length cl, .slice pg f.mail.grants.length cg, .string ⟨f.mail.text.toArray⟩, .slice pc f.certs.length cc] 111)))
    have HS2 := hid (CStep.below (cb := cb) (F := F) (Z := Z) (Qc hw1 (Qd w1 (.cells #[.int .i64 b, .int .i64 a, .int .i64 f.seq, .bool false, .int .i64 f.thread, .int .i64 f.mail.host, .int .i64 f.mail.thread, .slice pl f.mail.label.length cl, .slice pg f.mail.grants.length cg, .string ⟨f.mail.text.toArray⟩, .slice pc f.certs.length cc] 111))))
    obtain ⟨e0, e1, e2, e3, e4, e5, e6, e7, e8, e9, e10⟩ := cells11 HX2.out
    have HB12 := hid (Qd w1 (.cells #[.int .i64 b, .int .i64 a, .int .i64 f.seq, .bool false, .int .i64 f.thread, .int .i64 f.mail.host, .int .i64 f.mail.thread, .slice pl f.mail.label.length cl, .slice pg f.mail.grants.length cg, .string ⟨f.mail.text.toArray⟩, .slice pc f.certs.length cc] 111))
    have hlt2 := HC2.out.lt
    have hbl := Qw HX2.out
    have HLN := hid (HC2.out.line (a := b) (b := a) (by assumption) (by assumption))
    obtain ⟨⟨k0, k1, k2, k3, k4, k5, k6, k7, k8, k9, k10⟩, kf⟩ := HC2.out.lcells (a := b) (b := a) (by assumption) (by assumption) rfl rfl rfl
    obtain ⟨pv, cv, hvs⟩ := (HC2.out.snt b a (by assumption) (by assumption)).at.slice
    rw [hvs] at k1
    unfold lneC at HLN
    rw [hvs] at HLN
    go_upto_region 5 with fail
    generalize w1.alloc (.cells #[.int .i64 b, .int .i64 a, .int .i64 f.seq, .bool false, .int .i64 f.thread, .int .i64 f.mail.host, .int .i64 f.mail.thread, .slice pl f.mail.label.length cl, .slice pg f.mail.grants.length cg, .string ⟨f.mail.text.toArray⟩, .slice pc f.certs.length cc] 111) = w2 at *
    refine wp_region_held_drew (S := (fun w' => w'.cell? ⟨w1.heap.size, 0, none⟩ = some (.int .i64 b) ∧ w'.cell? ⟨w1.heap.size, 1, none⟩ = some (.int .i64 a))) (by as_aux_lemma => kernel_rfl) ⟨e0, e1⟩ (fun _hHeld => ?_)
    refine takeF 0 37 ?v20 rfl (Or.inl ⟨by rfl, ?hy20⟩) ?rest20
    case hy20 => intro wz hSw; (try dsimp only at hSw); go_simp; try with_reducible rfl
    simp only [Act.put, List.setIfInBounds_toArray, List.set_cons_zero, List.set_cons_succ]
    refine takeF 1 38 ?v21 rfl (Or.inl ⟨by rfl, ?hy21⟩) ?rest21
    case hy21 => intro wz hSw; (try dsimp only at hSw); go_simp; try with_reducible rfl
    simp only [Act.put, List.setIfInBounds_toArray, List.set_cons_zero, List.set_cons_succ]
    refine takeF 2 39 ?v22 rfl (Or.inl ⟨by rfl, ?hy22⟩) ?rest22
    case hy22 => intro wz hSw; (try dsimp only at hSw); go_simp; try with_reducible rfl
    simp only [Act.put, List.setIfInBounds_toArray, List.set_cons_zero, List.set_cons_succ]
    refine takeF 3 40 ?v23 rfl (Or.inl ⟨by rfl, ?hy23⟩) ?rest23
    case hy23 => intro wz hSw; (try dsimp only at hSw); go_simp; try with_reducible rfl
    simp only [Act.put, List.setIfInBounds_toArray, List.set_cons_zero, List.set_cons_succ]
    refine takeF 4 41 ?v24 rfl (Or.inl ⟨by rfl, ?hy24⟩) ?rest24
    case hy24 => intro wz hSw; (try dsimp only at hSw); go_simp; try with_reducible rfl
    simp only [Act.put, List.setIfInBounds_toArray, List.set_cons_zero, List.set_cons_succ]
    refine takeF 5 42 ?v25 rfl (Or.inl ⟨by rfl, ?hy25⟩) ?rest25
    case hy25 => intro wz hSw; (try dsimp only at hSw); go_simp; try with_reducible rfl
    simp only [Act.put, List.setIfInBounds_toArray, List.set_cons_zero, List.set_cons_succ]
    refine takeF 6 43 ?v26 rfl (Or.inl ⟨by rfl, ?hy26⟩) ?rest26
    case hy26 => intro wz hSw; (try dsimp only at hSw); go_simp; try with_reducible rfl
    simp only [Act.put, List.setIfInBounds_toArray, List.set_cons_zero, List.set_cons_succ]
    refine takeF 7 44 ?v27 rfl (Or.inl ⟨by rfl, ?hy27⟩) ?rest27
    case hy27 => intro wz hSw; (try dsimp only at hSw); go_simp; try with_reducible rfl
    simp only [Act.put, List.setIfInBounds_toArray, List.set_cons_zero, List.set_cons_succ]
    refine takeF 8 45 ?v28 rfl (Or.inl ⟨by rfl, ?hy28⟩) ?rest28
    case hy28 => intro wz hSw; (try dsimp only at hSw); go_simp; try with_reducible rfl
    simp only [Act.put, List.setIfInBounds_toArray, List.set_cons_zero, List.set_cons_succ]
    refine takeF 9 7 ?v29 rfl (Or.inl ⟨by rfl, ?hy29⟩) ?rest29
    case hy29 => intro wz hSw; (try dsimp only at hSw); go_simp; try with_reducible rfl
    simp only [Act.put, List.setIfInBounds_toArray, List.set_cons_zero, List.set_cons_succ]
    refine wpAnyH_done (by as_aux_lemma => kernel_rfl) ?_ _
    go_upto_region 6 with fail
    have hln := fun wx (hb : Below w2.heap.size w2 wx) => QjR _ (C.lines b a) f.seq wx (HLN.out.below hb)
    refine wp_region_held_drew (S := (fun w' => w'.cell? ⟨w1.heap.size, 2, none⟩ = some (.int .i64 f.seq))) (by as_aux_lemma => kernel_rfl) e2 (fun _hHeld => ?_)
    refine takeF 0 47 ?v30 rfl (Or.inl ⟨by rfl, ?hy30⟩) ?rest30
    case hy30 => intro wz hSw; (try dsimp only at hSw); go_simp; try with_reducible rfl
    simp only [Act.put, List.setIfInBounds_toArray, List.set_cons_zero, List.set_cons_succ]
    refine takeF 1 48 ?v31 rfl (Or.inl ⟨by rfl, ?hy31⟩) ?rest31
    case hy31 => intro wz hSw; (try dsimp only at hSw); go_simp; try with_reducible rfl
    simp only [Act.put, List.setIfInBounds_toArray, List.set_cons_zero, List.set_cons_succ]
    refine takeF 2 49 ?v32 rfl (Or.inl ⟨by rfl, ?hy32⟩) ?rest32
    case hy32 => intro wz hSw; (try dsimp only at hSw); go_simp; try with_reducible rfl
    simp only [Act.put, List.setIfInBounds_toArray, List.set_cons_zero, List.set_cons_succ]
    refine takeF 4 51 ?v33 rfl (Or.inl ⟨by rfl, ?hy33⟩) ?rest33
    case hy33 => intro wz hSw; (try dsimp only at hSw); go_simp; try with_reducible rfl
    simp only [Act.put, List.setIfInBounds_toArray, List.set_cons_zero, List.set_cons_succ]
    refine takeF 5 52 ?v34 rfl (Or.inl ⟨by rfl, ?hy34⟩) ?rest34
    case hy34 => intro wz hSw; (try dsimp only at hSw); go_simp; try with_reducible rfl
    simp only [Act.put, List.setIfInBounds_toArray, List.set_cons_zero, List.set_cons_succ]
    refine wpAnyH_ready (rs := [3]) (by as_aux_lemma => kernel_rfl) (by simp) ?_
    refine (AllReadyH.cons rfl (fun K' hK => ?_) AllReadyH.nil)
    go_simp
    refine hK.out _ _ e2 (fun _ => ?_)
    clear hK K'
    refine wpAnyH_ready (rs := [6]) (by as_aux_lemma => kernel_rfl) (by simp) ?_
    refine (AllReadyH.cons rfl (fun K' hK => ?_) AllReadyH.nil)
    go_simp
    go_wp2_with (go_at_call 100; refine (hln _ (Below.refl _ _).drew.drew).mono ?_; rintro e w3 ⟨v3, rfl, hl3, hwd⟩)
    have hw3 : Below w2.heap.size w2 w3 := ⟨hwd.os, hwd.tape, hwd.output, hwd.size, hwd.block⟩
    clear hwd
    have HC3 := hid (HC2.out.below hw3)
    obtain ⟨nx1, st1, hi1, d0, d1, d2, d3, d4, d5, d6, d7, p1, c1, el, ev, hr3⟩ := LneNew.spelled (F := F) hl3 HC2.out.fin
    subst ev
    have HR3 := hid hr3
    have HEL := hid el
    clear hl3 hr3 el
    obtain ⟨⟨m0, m1, m2, m3, m4, m5, m6, m7, m8, m9, m10⟩, mf⟩ := HC3.out.lcells (a := b) (b := a) (by assumption) (by assumption) rfl rfl rfl
    rw [hvs] at m1
    have HX3 := hid (Qe HX2.out hw3)
    have t2 := Qa HX3.out 2
    have g0 := mf (10 + b * 44 + a * 11)
    have g1 := mf (10 + b * 44 + a * 11 + 1)
    have g2 := mf (10 + b * 44 + a * 11 + 2)
    have g3 := mf (10 + b * 44 + a * 11 + 3)
    have g4 := mf (10 + b * 44 + a * 11 + 4)
    have g5 := mf (10 + b * 44 + a * 11 + 5)
    have g6 := mf (10 + b * 44 + a * 11 + 6)
    have g7 := mf (10 + b * 44 + a * 11 + 7)
    have g8 := mf (10 + b * 44 + a * 11 + 8)
    have g9 := mf (10 + b * 44 + a * 11 + 9)
    have g10 := mf (10 + b * 44 + a * 11 + 10)
    have hlt3 : cb < w3.heap.size := HC3.out.lt
    refine hK.out _ _ t2 (fun _ => ?_)
    clear hK K'
    refine takeF 7 46 ?v35 rfl (Or.inl ⟨by rfl, ?hy35⟩) ?rest35
    case hy35 => intro wz hSw; (try dsimp only at hSw); go_simp; try with_reducible rfl
    simp only [Act.put, List.setIfInBounds_toArray, List.set_cons_zero, List.set_cons_succ]
    refine takeF 8 54 ?v36 rfl (Or.inl ⟨by rfl, ?hy36⟩) ?rest36
    case hy36 => intro wz hSw; (try dsimp only at hSw); go_simp; try with_reducible rfl
    simp only [Act.put, List.setIfInBounds_toArray, List.set_cons_zero, List.set_cons_succ]
    refine takeF 9 55 ?v37 rfl (Or.inl ⟨by rfl, ?hy37⟩) ?rest37
    case hy37 => intro wz hSw; (try dsimp only at hSw); go_simp; try with_reducible rfl
    simp only [Act.put, List.setIfInBounds_toArray, List.set_cons_zero, List.set_cons_succ]
    refine takeF 10 56 ?v38 rfl (Or.inl ⟨by rfl, ?hy38⟩) ?rest38
    case hy38 => intro wz hSw; (try dsimp only at hSw); go_simp; try with_reducible rfl
    simp only [Act.put, List.setIfInBounds_toArray, List.set_cons_zero, List.set_cons_succ]
    have hST : CluAt (((((((((((w3.setCell ⟨cb, 10 + b * 44 + a * 11, none⟩ (.int .i64 nx1)).setCell ⟨cb, 10 + b * 44 + a * 11 + 1, none⟩ (.slice p1 st1.length c1)).setCell ⟨cb, 10 + b * 44 + a * 11 + 2, none⟩ (.int .i64 hi1)).setCell ⟨cb, 10 + b * 44 + a * 11 + 3, none⟩ (.bool d0)).setCell ⟨cb, 10 + b * 44 + a * 11 + 4, none⟩ (.bool d1)).setCell ⟨cb, 10 + b * 44 + a * 11 + 5, none⟩ (.bool d2)).setCell ⟨cb, 10 + b * 44 + a * 11 + 6, none⟩ (.bool d3)).setCell ⟨cb, 10 + b * 44 + a * 11 + 7, none⟩ (.bool d4)).setCell ⟨cb, 10 + b * 44 + a * 11 + 8, none⟩ (.bool d5)).setCell ⟨cb, 10 + b * 44 + a * 11 + 9, none⟩ (.bool d6)).setCell ⟨cb, 10 + b * 44 + a * 11 + 10, none⟩ (.bool d7)) cb F { Z with vs := fun a' b' => if a' = b ∧ b' = a then .slice p1 st1.length c1 else Z.vs a' b' } (setLi C b a ⟨nx1, st1, hi1, [d0, d1, d2, d3, d4, d5, d6, d7]⟩) ∧ CStep cb w3 F Z (((((((((((w3.setCell ⟨cb, 10 + b * 44 + a * 11, none⟩ (.int .i64 nx1)).setCell ⟨cb, 10 + b * 44 + a * 11 + 1, none⟩ (.slice p1 st1.length c1)).setCell ⟨cb, 10 + b * 44 + a * 11 + 2, none⟩ (.int .i64 hi1)).setCell ⟨cb, 10 + b * 44 + a * 11 + 3, none⟩ (.bool d0)).setCell ⟨cb, 10 + b * 44 + a * 11 + 4, none⟩ (.bool d1)).setCell ⟨cb, 10 + b * 44 + a * 11 + 5, none⟩ (.bool d2)).setCell ⟨cb, 10 + b * 44 + a * 11 + 6, none⟩ (.bool d3)).setCell ⟨cb, 10 + b * 44 + a * 11 + 7, none⟩ (.bool d4)).setCell ⟨cb, 10 + b * 44 + a * 11 + 8, none⟩ (.bool d5)).setCell ⟨cb, 10 + b * 44 + a * 11 + 9, none⟩ (.bool d6)).setCell ⟨cb, 10 + b * 44 + a * 11 + 10, none⟩ (.bool d7)) F { Z with vs := fun a' b' => if a' = b ∧ b' = a then .slice p1 st1.length c1 else Z.vs a' b' } := HC3.out.setLine (by assumption) (by assumption) (l := ⟨nx1, st1, hi1, [d0, d1, d2, d3, d4, d5, d6, d7]⟩) HR3.out rfl
    have hxx : (((((((((((w3.setCell ⟨cb, 10 + b * 44 + a * 11, none⟩ (.int .i64 nx1)).setCell ⟨cb, 10 + b * 44 + a * 11 + 1, none⟩ (.slice p1 st1.length c1)).setCell ⟨cb, 10 + b * 44 + a * 11 + 2, none⟩ (.int .i64 hi1)).setCell ⟨cb, 10 + b * 44 + a * 11 + 3, none⟩ (.bool d0)).setCell ⟨cb, 10 + b * 44 + a * 11 + 4, none⟩ (.bool d1)).setCell ⟨cb, 10 + b * 44 + a * 11 + 5, none⟩ (.bool d2)).setCell ⟨cb, 10 + b * 44 + a * 11 + 6, none⟩ (.bool d3)).setCell ⟨cb, 10 + b * 44 + a * 11 + 7, none⟩ (.bool d4)).setCell ⟨cb, 10 + b * 44 + a * 11 + 8, none⟩ (.bool d5)).setCell ⟨cb, 10 + b * 44 + a * 11 + 9, none⟩ (.bool d6)).setCell ⟨cb, 10 + b * 44 + a * 11 + 10, none⟩ (.bool d7)).heap[w1.heap.size]? = some (.cells #[.int .i64 b, .int .i64 a, .int .i64 f.seq, .bool false, .int .i64 f.thread, .int .i64 f.mail.host, .int .i64 f.mail.thread, .slice pl f.mail.label.length cl, .slice pg f.mail.grants.length cg, .string ⟨f.mail.text.toArray⟩, .slice pc f.certs.length cc] 111 (0, 0)) := QI hST.2 HC3.out HX3.out (by decide) (by decide) (by decide) (by decide) (by decide) (by decide)
    have HST := hid hST
    have HXX := hid hxx
    clear hST hxx
    have t2b := Qa HXX.out 2
    refine wpAnyH_ready (rs := [11]) (by as_aux_lemma => kernel_rfl) (by simp) ?_
    refine (AllReadyH.cons rfl (fun K' hK => ?_) AllReadyH.nil)
    go_simp
    refine hK.out _ _ t2b (fun _ => ?_)
    clear hK K'
    refine takeF 12 5 ?v39 rfl (Or.inl ⟨by rfl, ?hy39⟩) ?rest39
    case hy39 => intro wz hSw; (try dsimp only at hSw); go_simp; try with_reducible rfl
    simp only [Act.put, List.setIfInBounds_toArray, List.set_cons_zero, List.set_cons_succ]
    refine wpAnyH_done (by as_aux_lemma => kernel_rfl) ?_ _
    generalize (((((((((((w3.setCell ⟨cb, 10 + b * 44 + a * 11, none⟩ (.int .i64 nx1)).setCell ⟨cb, 10 + b * 44 + a * 11 + 1, none⟩ (.slice p1 st1.length c1)).setCell ⟨cb, 10 + b * 44 + a * 11 + 2, none⟩ (.int .i64 hi1)).setCell ⟨cb, 10 + b * 44 + a * 11 + 3, none⟩ (.bool d0)).setCell ⟨cb, 10 + b * 44 + a * 11 + 4, none⟩ (.bool d1)).setCell ⟨cb, 10 + b * 44 + a * 11 + 5, none⟩ (.bool d2)).setCell ⟨cb, 10 + b * 44 + a * 11 + 6, none⟩ (.bool d3)).setCell ⟨cb, 10 + b * 44 + a * 11 + 7, none⟩ (.bool d4)).setCell ⟨cb, 10 + b * 44 + a * 11 + 8, none⟩ (.bool d5)).setCell ⟨cb, 10 + b * 44 + a * 11 + 9, none⟩ (.bool d6)).setCell ⟨cb, 10 + b * 44 + a * 11 + 10, none⟩ (.bool d7)) = w4 at *
    generalize { Z with vs := fun a' b' => if a' = b ∧ b' = a then .slice p1 st1.length c1 else Z.vs a' b' } = Z4 at *
    obtain ⟨tl, te, hTK⟩ : ∃ tl te, takeLn (C.lines b a) f.seq = (tl, te) := ⟨_, _, rfl⟩
    have HTL : Hid (takeLn (lineC C f.fr f.to) f.seq = (⟨nx1, st1, hi1, [d0, d1, d2, d3, d4, d5, d6, d7]⟩, te)) := hid (by rw [HAB.out.1, HAB.out.2]; have e := HEL.out; rw [hTK] at e; simp only at e; rw [← e]; exact hTK)
    rw [hTK]
    simp only
    clear k0 k1 k2 k3 k4 k5 k6 k7 k8 k9 k10 kf m0 m1 m2 m3 m4 m5 m6 m7 m8 m9 m10 mf g0 g1 g2 g3 g4 g5 g6 g7 g8 g9 g10 hlt3 HR3 HX3 HC3 HLN hln t2 t2b hTK HEL
    obtain ⟨y0, y1, y2, y3, y4, y5, y6, y7, y8, y9, y10⟩ := cells11 HXX.out
    have HAK : Hid (FrmAt w4 (.agg #[.int .i64 a, .int .i64 b, .int .i64 f.seq, .bool true, .int .i64 0, .int .i64 0, .int .i64 0, .slice none 0 0, .slice none 0 0, .string ⟨#[]⟩, .slice none 0 0]) (⟨a, b, f.seq, true, 0, zeroMal, []⟩ : Frm)) := hid ⟨.slice none 0 0, .slice none 0 0, .slice none 0 0, rfl, LabAt.nil _ _ _ (fun _ => rfl), IntsAt.nil _ _ _ (fun _ => rfl), CrtsAt.nil _ _ _ (fun _ => rfl)⟩
    have HG4 : Hid (GoodC (setLi C b a ⟨nx1, st1, hi1, [d0, d1, d2, d3, d4, d5, d6, d7]⟩)) := hid (Qaj HG.out _ _ _)
    have hput := QdW cb F Z4 (setLi C b a ⟨nx1, st1, hi1, [d0, d1, d2, d3, d4, d5, d6, d7]⟩) _ (⟨a, b, f.seq, true, 0, zeroMal, []⟩ : Frm) w4 HST.out.1 HG4.out.net HAK.out
    have HS24 := hid (HS2.out.trans ((CStep.below hw3).trans HST.out.2))
    have HSI4 : Hid (Since w.heap.size w1 w4) := hid ((QU (Qc HB12.out hw3)).trans (HST.out.2.since (HC2.out.below hw3) HC.out.fin) (Qc HB12.out hw3).size)
    have HSZ4 : Hid (w1.heap.size ≤ w4.heap.size) := hid (Nat.le_trans (Qc HB12.out hw3).size HST.out.2.kept.size)
    by_cases h0 : te = 0
    · subst h0
      have HE : Hid (comeC C s = acceptC (putC (setLi C b a ⟨nx1, st1, hi1, [d0, d1, d2, d3, d4, d5, d6, d7]⟩) (⟨a, b, f.seq, true, 0, zeroMal, []⟩ : Frm)) f) := hid (by rw [QlY HDS.out HACK.out HTL.out, HAB.out.1, HAB.out.2])
      have HG5 := hid (Qb7 HG4.out (⟨a, b, f.seq, true, 0, zeroMal, []⟩ : Frm))
      generalize setLi C b a ⟨nx1, st1, hi1, [d0, d1, d2, d3, d4, d5, d6, d7]⟩ = C4 at *
      go_wp2_with (first | (go_at_call 101; refine hput.mono ?_; rintro e w5 ⟨rfl, G5, Z5, hC5, hS5⟩; have HC5 := hid hC5; have HS5 := hid hS5; have HX5 := hid (QI hS5 HST.out.1 HXX.out (by decide) (by decide) (by decide) (by decide) (by decide) (by decide)); obtain ⟨z0, z1, z2, z3, z4, z5, z6, z7, z8, z9, z10⟩ := cells11 HX5.out; clear hC5 hS5 hput) | fail)
      refine (Qhd cb G5 Z5 _ _ f w5 HC5.out HG5.out (fun w'' hk => HFR.out w'' (QhF HSI4.out HSZ4.out (HS5.out.keptF HST.out.1) HS5.out.more HC.out.fin hk)) HH2.out).mono ?_
      rintro e w6 ⟨rfl, G6, Z6, hC6, hS6⟩
      have HC6 := hid hC6
      have HS6 := hid hS6
      clear hC6 hS6
      go_wp2
      rw [HE.out]
      exact bodyPost_end (results_none rfl _ _ _) rfl ⟨rfl, _, _, HC6.out, HS24.out.trans (HS5.out.trans HS6.out)⟩
    · by_cases h10 : te = 10
      · subst h10
        have HE : Hid (comeC C s = putC (setLi C b a ⟨nx1, st1, hi1, [d0, d1, d2, d3, d4, d5, d6, d7]⟩) (⟨a, b, f.seq, true, 0, zeroMal, []⟩ : Frm)) := hid (by rw [QgS HDS.out HACK.out HTL.out, HAB.out.1, HAB.out.2])
        go_wp2_with (first | (go_at_call 101; refine hput.mono ?_; rintro e w5 ⟨rfl, G5, Z5, hC5, hS5⟩; have HC5 := hid hC5; have HS5 := hid hS5; clear hC5 hS5 hput) | fail)
        rw [HE.out]
        exact bodyPost_end (results_none rfl _ _ _) rfl ⟨rfl, _, _, HC5.out, HS24.out.trans HS5.out⟩
      · have HE : Hid (comeC C s = setLi C b a ⟨nx1, st1, hi1, [d0, d1, d2, d3, d4, d5, d6, d7]⟩) := hid (by rw [Qkq HDS.out HACK.out HTL.out h0 h10, HAB.out.1, HAB.out.2])
        have he0 : (te == 0) = false := by simpa using h0
        have he1 : (te == 10) = false := by simpa using h10
        clear h0 h10
        go_wp2
        rw [HE.out]
        exact bodyPost_end (results_none rfl _ _ _) rfl ⟨rfl, _, _, HST.out.1, HS24.out⟩
theorem Qf1 (l : List (List UInt8)) (j : Nat) (hj : j < l.length) : (strs l)[j]? = some (.string ⟨(l.getD j []).toArray⟩) := by
 unfold strs strV
 rw [List.getElem?_map, List.getElem?_eq_getElem hj, List.getD_eq_getElem?_getD, List.getElem?_eq_getElem hj]
 rfl
theorem Qf2 (l : List (List UInt8)) (i : Nat) : (strs l).take i ++ (strs l).drop (i + 1) = strs (l.take i ++ l.drop (i + 1)) := by
 unfold strs
 rw [List.map_append, List.map_take, List.map_drop]
theorem QjP {C : Clu} {k n : Int} (h : ¬ (0 ≤ n ∧ n < (C.net.length : Int))) : moveC C k n = (C, code 4) := by
 unfold moveC
 rw [if_neg h]
theorem Qll {C : Clu} {k : Int} {i : Nat} (h : i < C.net.length) : moveC C k i = ((if k = 4 then (if k = 3 then C else { C with net := C.net.take i ++ C.net.drop (i + 1) }) else comeC (if k = 3 then C else { C with net := C.net.take i ++ C.net.drop (i + 1) }) (C.net.getD i [])), ⟨0, ((C.net.getD i []).length : Int), []⟩) := by
 unfold moveC
 rw [if_pos (by omega)]
 simp only [Int.toNat_natCast]
set_option maxRecDepth 100000 in
set_option maxHeartbeats 3200000 in
theorem Qku (cb : Nat) (k n : Int) (F : List Nat) (Z : CluV) (C : Clu) (w : World) (hc : CluAt w cb F Z C) (hg : GoodC C) (hk : k = 2 ∨ k = 3 ∨ k = 4) :
 Calls Tryz.prog 28 #[.pointer (some ⟨cb, 0, none⟩), .int .i64 k, .int .i64 n] w fun e w' => e = .returned (.agg #[.int .i64 (moveC C k n).2.code, .int .i64 (moveC C k n).2.n, .string ⟨(moveC C k n).2.text.toArray⟩]) ∧ ∃ G Z', CluAt w' cb G Z' (moveC C k n).1 ∧ CStep cb w F Z w' G Z' := by
 obtain ⟨pn, cn, hvn⟩ := QaM hc.net
 have k186 := hc.cnet.1
 rw [hvn] at k186
 have hlt := hc.lt
 have HC0 := hid (hc.reserve (.cells #[.int .i64 0, .int .i64 0, .string ⟨#[]⟩] 31))
 have HS0 := hid (CStep.reserve cb w F Z (.cells #[.int .i64 0, .int .i64 0, .string ⟨#[]⟩] 31))
 have HM0 : Hid (w.heap.size ∈ F ++ [w.heap.size]) := hid (by simp)
 have HC := hid hc
 have HG := hid hg
 have HVN := hid hvn
 clear hc hg hvn
 by_cases h1 : 0 ≤ n ∧ n < (C.net.length : Int)
 rotate_left
 · simp only [QjP h1]
   by_cases h2 : n < 0
   · clear h1
     go_enter Tryz.func28, Tryz.ntmps28
     go_wp2_with (go_at_call 26; refine (Q2 4 _).mono ?_; rintro e w1 ⟨rfl, hw1⟩; have HB1 := hid hw1; obtain ⟨b0, b1, b2, b3, b4, b5⟩ := cells3 (Qe (Q6 w) hw1); clear hw1)
     obtain ⟨e1, e2, e3⟩ := QF 4 0 [] (Qe (Q6 w) HB1.out) HM0.out (Nat.le_refl _) (HC0.out.below HB1.out) (HS0.out.trans (CStep.below HB1.out))
     exact bodyPost_ret (results_cell_row rfl _ _ w.heap.size 31 _ (0, 0) _ rfl e1 Tryz.underlying31 rfl (by kernel_rfl)) rfl ⟨rfl, _, _, e2, e3⟩
   · have h3 : (C.net.length : Int) ≤ n := by omega
     clear h1
     go_enter Tryz.func28, Tryz.ntmps28
     go_wp2_with (go_at_call 26; refine (Q2 4 _).mono ?_; rintro e w1 ⟨rfl, hw1⟩; have HB1 := hid hw1; obtain ⟨b0, b1, b2, b3, b4, b5⟩ := cells3 (Qe (Q6 w) hw1); clear hw1)
     obtain ⟨e1, e2, e3⟩ := QF 4 0 [] (Qe (Q6 w) HB1.out) HM0.out (Nat.le_refl _) (HC0.out.below HB1.out) (HS0.out.trans (CStep.below HB1.out))
     exact bodyPost_ret (results_cell_row rfl _ _ w.heap.size 31 _ (0, 0) _ rfl e1 Tryz.underlying31 rfl (by kernel_rfl)) rfl ⟨rfl, _, _, e2, e3⟩
 · obtain ⟨i, rfl⟩ : ∃ i : Nat, n = i := ⟨n.toNat, by omega⟩
   have hi : i < C.net.length := by omega
   simp only [Qll hi]
   have HN := hid HC.out.net
   rw [HVN.out] at HN
   obtain ⟨g, hpn⟩ : ∃ g, pn = some ⟨g, 0, none⟩ := by
    rcases HN.out.2 with ⟨h, h0⟩ | ⟨g, cap, cur, h, _⟩
    · omega
    · injection h with h _ _; exact ⟨g, h⟩
   subst hpn
   have xi : w.cell? ⟨g, i, none⟩ = some (.string ⟨(C.net.getD i []).toArray⟩) := by
    have := World.ownsRow.cells HN.out (g := g) rfl i _ (Qf1 C.net i hi)
    rwa [WideShapes.add_plain, Nat.zero_add] at this
   have hgl := Qf xi
   obtain ⟨m, hm⟩ : ∃ m, C.net.length = m + 1 := ⟨C.net.length - 1, by omega⟩
   have hm60 : m ≤ 1000 := by have := HG.out.net; omega
   have I0 : (0 : Int) ≤ i := by omega
   have I1 : (i : Int) < (C.net.length : Int) := by omega
   have I2 : ¬ ((i : Int) < 0) := by omega
   have I3 : ¬ ((C.net.length : Int) ≤ i) := by omega
   generalize C.net.getD i [] = s at *
   have hwi : IntKind.i64.wrap ((i : Int) + 1) = (i : Int) + 1 := Go.wrap_small _ (by omega) (by omega)
   have HLN : Hid ((C.net.take i ++ C.net.drop (i + 1)).length = m) := hid (by rw [List.length_append, List.length_take, List.length_drop]; omega)
   rcases hk with rfl | rfl | rfl
   · simp only [if_neg (show ¬ ((2 : Int) = 4) by decide), if_neg (show ¬ ((2 : Int) = 3) by decide)]
     have hdel := Qdv g m cn i (strs C.net) (w.alloc (.cells #[.int .i64 0, .int .i64 0, .string ⟨#[]⟩] 31)) (by rw [← hm]; exact Qk HN.out (Qd w _)) hm60 (by omega) (QdO C.net)
     rw [← hm, Qf2] at hdel
     rw [← HLN.out] at hdel
     have HCD : Hid (GoodC { C with net := C.net.take i ++ C.net.drop (i + 1) }) := hid ⟨HG.out.ks, HG.out.now, HG.out.acts, by show (C.net.take i ++ C.net.drop (i + 1)).length ≤ 60; rw [HLN.out]; have := HG.out.net; omega⟩
     clear HLN hm
     generalize C.net.take i ++ C.net.drop (i + 1) = net' at *
     obtain ⟨A0, hA0, hB0⟩ := HC0.out.box
     have HA0 := hid hA0
     have HB0 := hid hB0.net
     have hgc : cb ≠ g := fun e => Qy (Qk HN.out (Qd w (.cells #[.int .i64 0, .int .i64 0, .string ⟨#[]⟩] 31))) hA0 (by decide) (by rw [e]; rfl)
     clear hA0 hB0
     go_enter Tryz.func28, Tryz.ntmps28
     go_wp2_with (first
      | (go_at_call 56; refine hdel.mono ?_; rintro e w1 ⟨rfl, hown, hgr⟩; have hA1 := Qn HA0.out hgc hgr; have d186 := (Qa hA1 186).trans HB0.out; rw [HVN.out] at d186; have q186 := Qb hA1 186; have hSN := HC0.out.setNet (by rw [HVN.out]; exact hgr) hown (by rw [HVN.out]; exact fun k hk => .inl hk); have HSN := hid hSN; have HX1 := hid (QI hSN.2 HC0.out (Q6 w) (by decide) (by decide) (by decide) (by decide) (by decide) (by decide)); clear hSN hA1 hdel)
      | (go_at_call 57; refine (Qfl cb _ _ _ s _ HSN.out.1 HCD.out).mono ?_; rintro e w2 ⟨rfl, G2, Z2, hC2, hS2⟩; have HX2 := hid (QI hS2 HSN.out.1 HX1.out (by decide) (by decide) (by decide) (by decide) (by decide) (by decide)); have HC2 := hid hC2; have HS2 := hid hS2; obtain ⟨b0, b1, b2, b3, b4, b5⟩ := cells3 HX2.out; clear hC2 hS2))
     obtain ⟨e1, e2, e3⟩ := QF 0 s.length [] HX2.out (HS2.out.more.1 _ (HSN.out.2.more.1 _ HM0.out)) (Nat.le_refl _) HC2.out (HS0.out.trans (HSN.out.2.trans HS2.out))
     exact bodyPost_ret (results_cell_row rfl _ _ w.heap.size 31 _ (0, 0) _ rfl e1 Tryz.underlying31 rfl (by kernel_rfl)) rfl ⟨rfl, _, _, e2, e3⟩
   · simp only [if_neg (show ¬ ((3 : Int) = 4) by decide), if_pos]
     go_enter Tryz.func28, Tryz.ntmps28
     go_wp2_with (first
      | (go_at_call 57; refine (Qfl cb _ _ _ s _ HC0.out HG.out).mono ?_; rintro e w2 ⟨rfl, G2, Z2, hC2, hS2⟩; have HX2 := hid (QI hS2 HC0.out (Q6 w) (by decide) (by decide) (by decide) (by decide) (by decide) (by decide)); have HC2 := hid hC2; have HS2 := hid hS2; obtain ⟨b0, b1, b2, b3, b4, b5⟩ := cells3 HX2.out; clear hC2 hS2)
      | fail)
     obtain ⟨e1, e2, e3⟩ := QF 0 s.length [] HX2.out (HS2.out.more.1 _ HM0.out) (Nat.le_refl _) HC2.out (HS0.out.trans HS2.out)
     exact bodyPost_ret (results_cell_row rfl _ _ w.heap.size 31 _ (0, 0) _ rfl e1 Tryz.underlying31 rfl (by kernel_rfl)) rfl ⟨rfl, _, _, e2, e3⟩
   · simp only [if_neg (show ¬ ((4 : Int) = 3) by decide), if_pos]
     have hdel := Qdv g m cn i (strs C.net) (w.alloc (.cells #[.int .i64 0, .int .i64 0, .string ⟨#[]⟩] 31)) (by rw [← hm]; exact Qk HN.out (Qd w _)) hm60 (by omega) (QdO C.net)
     rw [← hm, Qf2] at hdel
     rw [← HLN.out] at hdel
     have HCD : Hid (GoodC { C with net := C.net.take i ++ C.net.drop (i + 1) }) := hid ⟨HG.out.ks, HG.out.now, HG.out.acts, by show (C.net.take i ++ C.net.drop (i + 1)).length ≤ 60; rw [HLN.out]; have := HG.out.net; omega⟩
     clear HLN hm
     generalize C.net.take i ++ C.net.drop (i + 1) = net' at *
     obtain ⟨A0, hA0, hB0⟩ := HC0.out.box
     have HA0 := hid hA0
     have HB0 := hid hB0.net
     have hgc : cb ≠ g := fun e => Qy (Qk HN.out (Qd w (.cells #[.int .i64 0, .int .i64 0, .string ⟨#[]⟩] 31))) hA0 (by decide) (by rw [e]; rfl)
     clear hA0 hB0
     go_enter Tryz.func28, Tryz.ntmps28
     go_wp2_with (first
      | (go_at_call 56; refine hdel.mono ?_; rintro e w1 ⟨rfl, hown, hgr⟩; have hA1 := Qn HA0.out hgc hgr; have d186 := (Qa hA1 186).trans HB0.out; rw [HVN.out] at d186; have q186 := Qb hA1 186; have hSN := HC0.out.setNet (by rw [HVN.out]; exact hgr) hown (by rw [HVN.out]; exact fun k hk => .inl hk); have HSN := hid hSN; have HX1 := hid (QI hSN.2 HC0.out (Q6 w) (by decide) (by decide) (by decide) (by decide) (by decide) (by decide)); obtain ⟨b0, b1, b2, b3, b4, b5⟩ := cells3 HX1.out; clear hSN hA1 hdel)
      | fail)
     obtain ⟨e1, e2, e3⟩ := QF 0 s.length [] HX1.out (HSN.out.2.more.1 _ HM0.out) (Nat.le_refl _) HSN.out.1 (HS0.out.trans HSN.out.2)
     exact bodyPost_ret (results_cell_row rfl _ _ w.heap.size 31 _ (0, 0) _ rfl e1 Tryz.underlying31 rfl (by kernel_rfl)) rfl ⟨rfl, _, _, e2, e3⟩
def acV (a : Ac) (vl vg : Value) : Value := .agg #[.int .i64 a.kind, .int .i64 a.h, .int .i64 a.t, .int .i64 a.n, .int .i64 a.call.kind, .int .i64 a.call.h, .int .i64 a.call.t, .int .i64 a.call.n, .int .i64 a.call.c, vl, vg, .string ⟨a.call.text.toArray⟩]
def AcAt (w : World) (v : Value) (a : Ac) : Prop := ∃ vl vg, v = acV a vl vg ∧ LabAt w vl a.call.label ∧ IntsAt w vg a.call.grants
theorem AcAt.below {w wr : World} {v : Value} {a : Ac} (h : AcAt w v a) (hb : Below w.heap.size w wr) : AcAt wr v a := by
 obtain ⟨vl, vg, e, h1, h2⟩ := h
 exact ⟨vl, vg, e, h1.below hb, h2.below hb⟩
def AcRo (w : World) (F : List Nat) (v : Value) (a : Ac) : Prop := ∃ vl vg, v = acV a vl vg ∧ RoLab w F vl a.call.label ∧ RoInts w F vg a.call.grants
theorem AcRo.at {w : World} {F : List Nat} {v : Value} {a : Ac} (h : AcRo w F v a) : AcAt w v a := by
 obtain ⟨vl, vg, e, h1, h2⟩ := h
 exact ⟨vl, vg, e, h1.1, h2.1⟩
theorem CluAt.setActs1 {w : World} {cb : Nat} {F : List Nat} {Z : CluV} {C : Clu} (h : CluAt w cb F Z C) : CluAt (w.setCell ⟨cb, 1, none⟩ (.int .i64 ((C.acts : Int) + 1))) cb F Z { C with acts := C.acts + 1 } ∧ CStep cb w F Z (w.setCell ⟨cb, 1, none⟩ (.int .i64 ((C.acts : Int) + 1))) F Z := by
 have h1 := h.setActs (C.acts + 1)
 rw [show (((C.acts + 1 : Nat)) : Int) = (C.acts : Int) + 1 by omega] at h1
 exact h1
theorem CluAt.cacts {w : World} {cb : Nat} {F : List Nat} {Z : CluV} {C : Clu} (h : CluAt w cb F Z C) : w.cell? ⟨cb, 1, none⟩ = some (.int .i64 C.acts) ∧ w.frozen? ⟨cb, 1, none⟩ = false := by
 obtain ⟨A, hA, hB⟩ := h.box
 exact ⟨(Qa hA 1).trans hB.acts, Qb hA _⟩
theorem QlU {C : Clu} {a : Ac} (h : C.acts < 300) (k : a.kind = 1) : doC C a = callC { C with acts := C.acts + 1 } a.h a.t a.call := by
 unfold doC
 rw [if_neg (by omega), if_pos k]
theorem QlR {C : Clu} {a : Ac} (h : C.acts < 300) (k : a.kind = 2 ∨ a.kind = 3 ∨ a.kind = 4) : doC C a = moveC { C with acts := C.acts + 1 } a.kind a.n := by
 unfold doC
 rw [if_neg (by omega), if_neg (by omega), if_pos k]
theorem QlQ {C : Clu} {a : Ac} (h : C.acts < 300) (k : a.kind = 5) : doC C a = tickC { C with acts := C.acts + 1 } a.n := by
 unfold doC
 rw [if_neg (by omega), if_neg (by omega), if_neg (by omega), if_pos k]
theorem QlS {C : Clu} {a : Ac} (h : C.acts < 300) (k1 : a.kind ≠ 1) (k2 : ¬ (a.kind = 2 ∨ a.kind = 3 ∨ a.kind = 4)) (k5 : a.kind ≠ 5) : doC C a = ({ C with acts := C.acts + 1 }, code 3) := by
 unfold doC
 rw [if_neg (by omega), if_neg k1, if_neg k2, if_neg k5]
set_option maxRecDepth 100000 in
set_option maxHeartbeats 6400000 in
theorem Qbx (cb : Nat) (F : List Nat) (Z : CluV) (C : Clu) (va : Value) (a : Ac) (w : World) (hc : CluAt w cb F Z C) (hg : GoodC C) (hv : AcRo w F va a) :
 Calls Tryz.prog 11 #[.pointer (some ⟨cb, 0, none⟩), va] w fun e w' => e = .returned (.agg #[.int .i64 (doC C a).2.code, .int .i64 (doC C a).2.n, .string ⟨(doC C a).2.text.toArray⟩]) ∧ ∃ G Z', CluAt w' cb G Z' (doC C a).1 ∧ CStep cb w F Z w' G Z' := by
 have HV := hid hv
 obtain ⟨vl, vg, rfl, ⟨⟨pl, cl, rfl, _⟩, _⟩, ⟨⟨pg, cg, rfl, _⟩, _⟩⟩ := hv
 unfold acV at HV ⊢
 have hlt := hc.lt
 obtain ⟨k1, f1⟩ := hc.cacts
 have hact := hg.acts
 have hneq : cb ≠ w.heap.size := by omega
 by_cases h300 : 300 ≤ C.acts
 · have HP := hid (QlT C a h300)
   have h3 : (300 : Int) ≤ (C.acts : Int) := by omega
   have hbb := Qd w (.cells #[.int .i64 a.kind, .int .i64 a.h, .int .i64 a.t, .int .i64 a.n, .int .i64 a.call.kind, .int .i64 a.call.h, .int .i64 a.call.t, .int .i64 a.call.n, .int .i64 a.call.c, .slice pl a.call.label.length cl, .slice pg a.call.grants.length cg, .string ⟨a.call.text.toArray⟩] 39)
   have HC1 := hid ((hc.below hbb).reserve (.cells #[.int .i64 0, .int .i64 0, .string ⟨#[]⟩] 31))
   have HS1 := hid ((CStep.below (cb := cb) (F := F) (Z := Z) hbb).trans (CStep.reserve cb _ F Z (.cells #[.int .i64 0, .int .i64 0, .string ⟨#[]⟩] 31)))
   rw [QM] at HC1 HS1
   have HXR := hid (heap_alloc2_new w (.cells #[.int .i64 a.kind, .int .i64 a.h, .int .i64 a.t, .int .i64 a.n, .int .i64 a.call.kind, .int .i64 a.call.h, .int .i64 a.call.t, .int .i64 a.call.n, .int .i64 a.call.c, .slice pl a.call.label.length cl, .slice pg a.call.grants.length cg, .string ⟨a.call.text.toArray⟩] 39) (.cells #[.int .i64 0, .int .i64 0, .string ⟨#[]⟩] 31))
   have HM0 : Hid (w.heap.size + 1 ∈ F ++ [w.heap.size + 1]) := hid (by simp)
   clear hc hg hbb h300
   go_enter Tryz.func11, Tryz.ntmps11
   go_wp2_with (go_at_call 26; refine (Q2 _ _).mono ?_; rintro e w9 ⟨rfl, hw9⟩; have HB9 := hid hw9; have HX9 := hid (Qe HXR.out hw9); obtain ⟨b0, b1, b2, b3, b4, b5⟩ := cells3 HX9.out; clear hw9)
   obtain ⟨e1, e2, e3⟩ := QF 5 0 [] HX9.out HM0.out (Nat.le_succ _) (HC1.out.below HB9.out) (HS1.out.trans (CStep.below HB9.out))
   rw [HP.out]
   exact bodyPost_ret (results_cell_row rfl _ _ (w.heap.size + 1) 31 _ (0, 0) _ rfl e1 Tryz.underlying31 rfl (by kernel_rfl)) rfl ⟨rfl, _, _, e2, e3⟩
 · have h300' : C.acts < 300 := by omega
   have h3 : ¬ ((300 : Int) ≤ (C.acts : Int)) := by omega
   have hwr : IntKind.i64.wrap ((C.acts : Int) + 1) = (C.acts : Int) + 1 := Go.wrap_small _ (by omega) (by omega)
   have hSA := hc.setActs1
   have hbb := Qd (w.setCell ⟨cb, 1, none⟩ (.int .i64 ((C.acts : Int) + 1))) (.cells #[.int .i64 a.kind, .int .i64 a.h, .int .i64 a.t, .int .i64 a.n, .int .i64 a.call.kind, .int .i64 a.call.h, .int .i64 a.call.t, .int .i64 a.call.n, .int .i64 a.call.c, .slice pl a.call.label.length cl, .slice pg a.call.grants.length cg, .string ⟨a.call.text.toArray⟩] 39)
   have hSZ : (w.setCell ⟨cb, 1, none⟩ (.int .i64 ((C.acts : Int) + 1))).heap.size = w.heap.size := World.size_setCell _ _ _
   have HC1 := hid ((hSA.1.below hbb).reserve (.cells #[.int .i64 0, .int .i64 0, .string ⟨#[]⟩] 31))
   have HS1 := hid (hSA.2.trans ((CStep.below (cb := cb) (F := F) (Z := Z) hbb).trans (CStep.reserve cb _ F Z (.cells #[.int .i64 0, .int .i64 0, .string ⟨#[]⟩] 31))))
   rw [QM, hSZ] at HC1 HS1
   have HXR := hid (heap_alloc2_new (w.setCell ⟨cb, 1, none⟩ (.int .i64 ((C.acts : Int) + 1))) (.cells #[.int .i64 a.kind, .int .i64 a.h, .int .i64 a.t, .int .i64 a.n, .int .i64 a.call.kind, .int .i64 a.call.h, .int .i64 a.call.t, .int .i64 a.call.n, .int .i64 a.call.c, .slice pl a.call.label.length cl, .slice pg a.call.grants.length cg, .string ⟨a.call.text.toArray⟩] 39) (.cells #[.int .i64 0, .int .i64 0, .string ⟨#[]⟩] 31))
   rw [hSZ] at HXR
   have HKP : Hid (KeptF F w (((w.setCell ⟨cb, 1, none⟩ (.int .i64 ((C.acts : Int) + 1))).alloc (.cells #[.int .i64 a.kind, .int .i64 a.h, .int .i64 a.t, .int .i64 a.n, .int .i64 a.call.kind, .int .i64 a.call.h, .int .i64 a.call.t, .int .i64 a.call.n, .int .i64 a.call.c, .slice pl a.call.label.length cl, .slice pg a.call.grants.length cg, .string ⟨a.call.text.toArray⟩] 39)).alloc (.cells #[.int .i64 0, .int .i64 0, .string ⟨#[]⟩] 31))) := hid (HS1.out.keptF hc)
   have HVA : Hid (LabAt (((w.setCell ⟨cb, 1, none⟩ (.int .i64 ((C.acts : Int) + 1))).alloc (.cells #[.int .i64 a.kind, .int .i64 a.h, .int .i64 a.t, .int .i64 a.n, .int .i64 a.call.kind, .int .i64 a.call.h, .int .i64 a.call.t, .int .i64 a.call.n, .int .i64 a.call.c, .slice pl a.call.label.length cl, .slice pg a.call.grants.length cg, .string ⟨a.call.text.toArray⟩] 39)).alloc (.cells #[.int .i64 0, .int .i64 0, .string ⟨#[]⟩] 31)) (.slice pl a.call.label.length cl) a.call.label ∧ IntsAt (((w.setCell ⟨cb, 1, none⟩ (.int .i64 ((C.acts : Int) + 1))).alloc (.cells #[.int .i64 a.kind, .int .i64 a.h, .int .i64 a.t, .int .i64 a.n, .int .i64 a.call.kind, .int .i64 a.call.h, .int .i64 a.call.t, .int .i64 a.call.n, .int .i64 a.call.c, .slice pl a.call.label.length cl, .slice pg a.call.grants.length cg, .string ⟨a.call.text.toArray⟩] 39)).alloc (.cells #[.int .i64 0, .int .i64 0, .string ⟨#[]⟩] 31)) (.slice pg a.call.grants.length cg) a.call.grants) := hid (by
    obtain ⟨vl', vg', e, h1, h2⟩ := HV.out
    unfold acV at e
    injection e with e
    simp only [Array.mk.injEq, List.cons.injEq, true_and, and_true] at e
    obtain ⟨rfl, rfl⟩ := e
    exact ⟨(h1.keep HKP.out (More.refl _ _)).1, (h2.keep HKP.out (More.refl _ _)).1⟩)
   have HM0 : Hid (w.heap.size + 1 ∈ F ++ [w.heap.size + 1]) := hid (by simp)
   have HLE : Hid (w.heap.size ≤ w.heap.size + 1) := hid (Nat.le_succ _)
   have HG1 : Hid (GoodC { C with acts := C.acts + 1 }) := hid ⟨hg.ks, hg.now, by show C.acts + 1 ≤ 300; omega, hg.net⟩
   clear hc hg hbb hSA h300 HV
   by_cases q1 : a.kind = 1
   · have HP := hid (QlU (a := a) h300' q1)
     have e1' : (a.kind == 1) = true := by simpa using q1
     have hcall := Qky cb a.h a.t _ Z { C with acts := C.acts + 1 } _ a.call (((w.setCell ⟨cb, 1, none⟩ (.int .i64 ((C.acts : Int) + 1))).alloc (.cells #[.int .i64 a.kind, .int .i64 a.h, .int .i64 a.t, .int .i64 a.n, .int .i64 a.call.kind, .int .i64 a.call.h, .int .i64 a.call.t, .int .i64 a.call.n, .int .i64 a.call.c, .slice pl a.call.label.length cl, .slice pg a.call.grants.length cg, .string ⟨a.call.text.toArray⟩] 39)).alloc (.cells #[.int .i64 0, .int .i64 0, .string ⟨#[]⟩] 31)) HC1.out HG1.out ⟨_, _, rfl, HVA.out.1, HVA.out.2⟩
     unfold calV at hcall
     generalize callC { C with acts := C.acts + 1 } a.h a.t a.call = SC at *
     clear q1
     go_enter Tryz.func11, Tryz.ntmps11
     go_wp2_with (go_at_call 27; refine hcall.mono ?_; rintro e w5 ⟨rfl, G5, Z5, hC5, hS5⟩; have HC5 := hid hC5; have HS5 := hid hS5; have HX5 := hid (QI hS5 HC1.out HXR.out (by decide) (by decide) (by decide) (by decide) (by decide) (by decide)); obtain ⟨b0, b1, b2, b3, b4, b5⟩ := cells3 HX5.out; clear hC5 hS5 hcall)
     obtain ⟨e1, e2, e3⟩ := QF SC.2.code SC.2.n SC.2.text HX5.out (HS5.out.more.1 _ HM0.out) HLE.out HC5.out (HS1.out.trans HS5.out)
     rw [HP.out]
     exact bodyPost_ret (results_cell_row rfl _ _ (w.heap.size + 1) 31 _ (0, 0) _ rfl e1 Tryz.underlying31 rfl (by kernel_rfl)) rfl ⟨rfl, _, _, e2, e3⟩
   · have e1' : (a.kind == 1) = false := by simpa using q1
     by_cases q2 : a.kind = 2 ∨ a.kind = 3 ∨ a.kind = 4
     · have HP := hid (QlR (a := a) h300' q2)
       have hmv := Qku cb a.kind a.n _ Z { C with acts := C.acts + 1 } (((w.setCell ⟨cb, 1, none⟩ (.int .i64 ((C.acts : Int) + 1))).alloc (.cells #[.int .i64 a.kind, .int .i64 a.h, .int .i64 a.t, .int .i64 a.n, .int .i64 a.call.kind, .int .i64 a.call.h, .int .i64 a.call.t, .int .i64 a.call.n, .int .i64 a.call.c, .slice pl a.call.label.length cl, .slice pg a.call.grants.length cg, .string ⟨a.call.text.toArray⟩] 39)).alloc (.cells #[.int .i64 0, .int .i64 0, .string ⟨#[]⟩] 31)) HC1.out HG1.out q2
       generalize moveC { C with acts := C.acts + 1 } a.kind a.n = SC at *
       rcases q2 with q2 | q2 | q2
       · have e2' : (a.kind == 2) = true := by simpa using q2
         clear q1 q2
         go_enter Tryz.func11, Tryz.ntmps11
         go_wp2_with (go_at_call 28; refine hmv.mono ?_; rintro e w5 ⟨rfl, G5, Z5, hC5, hS5⟩; have HC5 := hid hC5; have HS5 := hid hS5; have HX5 := hid (QI hS5 HC1.out HXR.out (by decide) (by decide) (by decide) (by decide) (by decide) (by decide)); obtain ⟨b0, b1, b2, b3, b4, b5⟩ := cells3 HX5.out; clear hC5 hS5 hmv)
         obtain ⟨e1, e2, e3⟩ := QF SC.2.code SC.2.n SC.2.text HX5.out (HS5.out.more.1 _ HM0.out) HLE.out HC5.out (HS1.out.trans HS5.out)
         rw [HP.out]
         exact bodyPost_ret (results_cell_row rfl _ _ (w.heap.size + 1) 31 _ (0, 0) _ rfl e1 Tryz.underlying31 rfl (by kernel_rfl)) rfl ⟨rfl, _, _, e2, e3⟩
       · have e2' : (a.kind == 2) = false := by simp [q2]
         have e3' : (a.kind == 3) = true := by simpa using q2
         clear q1 q2
         go_enter Tryz.func11, Tryz.ntmps11
         go_wp2_with (go_at_call 28; refine hmv.mono ?_; rintro e w5 ⟨rfl, G5, Z5, hC5, hS5⟩; have HC5 := hid hC5; have HS5 := hid hS5; have HX5 := hid (QI hS5 HC1.out HXR.out (by decide) (by decide) (by decide) (by decide) (by decide) (by decide)); obtain ⟨b0, b1, b2, b3, b4, b5⟩ := cells3 HX5.out; clear hC5 hS5 hmv)
         obtain ⟨e1, e2, e3⟩ := QF SC.2.code SC.2.n SC.2.text HX5.out (HS5.out.more.1 _ HM0.out) HLE.out HC5.out (HS1.out.trans HS5.out)
         rw [HP.out]
         exact bodyPost_ret (results_cell_row rfl _ _ (w.heap.size + 1) 31 _ (0, 0) _ rfl e1 Tryz.underlying31 rfl (by kernel_rfl)) rfl ⟨rfl, _, _, e2, e3⟩
       · have e2' : (a.kind == 2) = false := by simp [q2]
         have e3' : (a.kind == 3) = false := by simp [q2]
         have e4' : (a.kind == 4) = true := by simpa using q2
         clear q1 q2
         go_enter Tryz.func11, Tryz.ntmps11
         go_wp2_with (go_at_call 28; refine hmv.mono ?_; rintro e w5 ⟨rfl, G5, Z5, hC5, hS5⟩; have HC5 := hid hC5; have HS5 := hid hS5; have HX5 := hid (QI hS5 HC1.out HXR.out (by decide) (by decide) (by decide) (by decide) (by decide) (by decide)); obtain ⟨b0, b1, b2, b3, b4, b5⟩ := cells3 HX5.out; clear hC5 hS5 hmv)
         obtain ⟨e1, e2, e3⟩ := QF SC.2.code SC.2.n SC.2.text HX5.out (HS5.out.more.1 _ HM0.out) HLE.out HC5.out (HS1.out.trans HS5.out)
         rw [HP.out]
         exact bodyPost_ret (results_cell_row rfl _ _ (w.heap.size + 1) 31 _ (0, 0) _ rfl e1 Tryz.underlying31 rfl (by kernel_rfl)) rfl ⟨rfl, _, _, e2, e3⟩
     · have e2' : (a.kind == 2) = false := by simp; omega
       have e3' : (a.kind == 3) = false := by simp; omega
       have e4' : (a.kind == 4) = false := by simp; omega
       by_cases q5 : a.kind = 5
       · have HP := hid (QlQ (a := a) h300' q5)
         have e5' : (a.kind == 5) = true := by simpa using q5
         have htk := Qkm cb a.n _ Z { C with acts := C.acts + 1 } (((w.setCell ⟨cb, 1, none⟩ (.int .i64 ((C.acts : Int) + 1))).alloc (.cells #[.int .i64 a.kind, .int .i64 a.h, .int .i64 a.t, .int .i64 a.n, .int .i64 a.call.kind, .int .i64 a.call.h, .int .i64 a.call.t, .int .i64 a.call.n, .int .i64 a.call.c, .slice pl a.call.label.length cl, .slice pg a.call.grants.length cg, .string ⟨a.call.text.toArray⟩] 39)).alloc (.cells #[.int .i64 0, .int .i64 0, .string ⟨#[]⟩] 31)) HC1.out HG1.out
         generalize tickC { C with acts := C.acts + 1 } a.n = SC at *
         clear q1 q2 q5
         go_enter Tryz.func11, Tryz.ntmps11
         go_wp2_with (go_at_call 29; refine htk.mono ?_; rintro e w5 ⟨rfl, G5, Z5, hC5, hS5⟩; have HC5 := hid hC5; have HS5 := hid hS5; have HX5 := hid (QI hS5 HC1.out HXR.out (by decide) (by decide) (by decide) (by decide) (by decide) (by decide)); obtain ⟨b0, b1, b2, b3, b4, b5⟩ := cells3 HX5.out; clear hC5 hS5 htk)
         obtain ⟨e1, e2, e3⟩ := QF SC.2.code SC.2.n SC.2.text HX5.out (HS5.out.more.1 _ HM0.out) HLE.out HC5.out (HS1.out.trans HS5.out)
         rw [HP.out]
         exact bodyPost_ret (results_cell_row rfl _ _ (w.heap.size + 1) 31 _ (0, 0) _ rfl e1 Tryz.underlying31 rfl (by kernel_rfl)) rfl ⟨rfl, _, _, e2, e3⟩
       · have HP := hid (QlS (a := a) h300' q1 q2 q5)
         have e5' : (a.kind == 5) = false := by simpa using q5
         clear q1 q2 q5
         go_enter Tryz.func11, Tryz.ntmps11
         go_wp2_with (go_at_call 26; refine (Q2 _ _).mono ?_; rintro e w9 ⟨rfl, hw9⟩; have HB9 := hid hw9; have HX9 := hid (Qe HXR.out hw9); obtain ⟨b0, b1, b2, b3, b4, b5⟩ := cells3 HX9.out; clear hw9)
         obtain ⟨e1, e2, e3⟩ := QF 3 0 [] HX9.out HM0.out (Nat.le_succ _) (HC1.out.below HB9.out) (HS1.out.trans (CStep.below HB9.out))
         rw [HP.out]
         exact bodyPost_ret (results_cell_row rfl _ _ (w.heap.size + 1) 31 _ (0, 0) _ rfl e1 Tryz.underlying31 rfl (by kernel_rfl)) rfl ⟨rfl, _, _, e2, e3⟩
end Go.Proofs.YtpdijobakfpnbaaGreat
