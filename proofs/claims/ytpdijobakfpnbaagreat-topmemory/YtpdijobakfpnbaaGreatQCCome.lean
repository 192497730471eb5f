/- cluster.come: a frame that comes. -/
import Derived.Test.YtpdijobakfpnbaaGreatQCAccept
import Derived.Test.YtpdijobakfpnbaaGreatQCPut
import Derived.Test.YtpdijobakfpnbaaGreatQWDec
import Derived.Test.YtpdijobakfpnbaaGreatQLAns
import Derived.Test.YtpdijobakfpnbaaGreatQKTake
namespace Go.Proofs.YtpdijobakfpnbaaGreat
open Go.RowKit Go.Proofs.Parclose
theorem Qi4 {C : Clu} {s : List UInt8} {f : Frm} {e : Int} (h : decL s = (f, e)) (he : e ≠ 0) : comeC C s = C := by
 unfold comeC
 rw [h]
 exact if_neg he
theorem Qi5 {C : Clu} {s : List UInt8} {f : Frm} (h : decL s = (f, 0)) (hk : f.ack = true) : comeC C s = setLi C f.to f.fr (ansLn (lineC C f.to f.fr) f.seq).1 := by
 unfold comeC
 rw [h]
 simp only [if_pos, hk]
theorem Qkg {C : Clu} {s : List UInt8} {f : Frm} {l : Lne} (h : decL s = (f, 0)) (hk : f.ack = false) (ht : takeLn (lineC C f.fr f.to) f.seq = (l, 0)) : comeC C s = acceptC (putC (setLi C f.fr f.to l) ⟨f.to, f.fr, f.seq, true, 0, zeroMal, []⟩) f := by
 unfold comeC
 rw [h]
 simp [hk, ht]
theorem QfT {C : Clu} {s : List UInt8} {f : Frm} {l : Lne} (h : decL s = (f, 0)) (hk : f.ack = false) (ht : takeLn (lineC C f.fr f.to) f.seq = (l, 10)) : comeC C s = putC (setLi C f.fr f.to l) ⟨f.to, f.fr, f.seq, true, 0, zeroMal, []⟩ := by
 unfold comeC
 rw [h]
 simp [hk, ht]
theorem Qi3 {C : Clu} {s : List UInt8} {f : Frm} {l : Lne} {e : Int} (h : decL s = (f, 0)) (hk : f.ack = false) (ht : takeLn (lineC C f.fr f.to) f.seq = (l, e)) (h0 : e ≠ 0) (h10 : e ≠ 10) : comeC C s = setLi C f.fr f.to l := by
 unfold comeC
 rw [h]
 simp [hk, ht, h0, h10]
theorem QgB {B : Nat} {w1 w4 w5 w6 : World} {F G : List Nat} (h14 : Since B w1 w4) (hz : w1.heap.size ≤ w4.heap.size) (h45 : KeptF F w4 w5) (hm : More w4 F G) (hF : ∀ k ∈ F, k < B) (h : KeptF G w5 w6) : Since B w1 w6 := fun k hk hs => by
 have hz5 := h45.size
 rw [h.block k (by omega) (fun e => by
  rcases hm.2 k e with q | q
  · have := hF k q; omega
  · omega), h45.block k (by omega) (fun e => by have := hF k e; omega), h14 k hk hs]
set_option linter.unusedSimpArgs false in
set_option maxRecDepth 100000 in
set_option maxHeartbeats 6400000 in
theorem Qet (cb : Nat) (F : List Nat) (Z : CluV) (C : Clu) (s : List UInt8) (w : World) (hc : CluAt w cb F Z C) (hg : GoodC C) :
 Calls Tryz.prog 57 #[.pointer (some ⟨cb, 0, none⟩), .string ⟨s.toArray⟩] w fun e w' => e = .returned (.tuple #[]) ∧ ∃ G Z', CluAt w' cb G Z' (comeC C s) ∧ CStep cb w F Z w' G Z' := by
 have hdec := Qhq s w
 have HDF : Hid ((decL s).2 = 0 → frameE (decL s).1 = 0) := hid Qes
 obtain ⟨f, de, hDS⟩ : ∃ f de, decL s = (f, de) := ⟨_, _, rfl⟩
 have HDS := hid hDS
 rw [hDS] at hdec HDF
 simp only at hdec HDF
 clear hDS
 have HC := hid hc
 have HG := hid hg
 have hlt := hc.lt
 clear hc hg
 by_cases h0 : de = 0
 rotate_left
 · have HP : Hid (comeC C s = C) := hid (Qi4 HDS.out h0)
   have hne : (de != 0) = true := by simpa using h0
   clear HDF h0
   go_enter Tryz.func57, Tryz.ntmps57
   go_wp2_with (go_at_call 98; refine hdec.mono ?_; rintro e w1 ⟨vf, rfl, hfr, hw1⟩; obtain ⟨vl, vg, vc, rfl, ⟨pl, cl, rfl, _⟩, ⟨pg, cg, rfl, _⟩, ⟨pc, cc, rfl, _⟩⟩ := hfr w1 (Since.refl _ _); unfold frmV; clear hfr)
   rw [HP.out]
   exact bodyPost_ret (results_none rfl _ _ _) rfl ⟨rfl, _, _, (HC.out.below hw1).below (Qc _ _), CStep.below (Qd hw1 (Qc _ _))⟩
 · subst h0
   have hfe := HDF.out rfl
   obtain ⟨hh1, hh2, hh3⟩ := QcQ hfe
   have HH2 := hid hh2
   obtain ⟨b, hb, hb4⟩ : ∃ b : Nat, f.fr = b ∧ b < 4 := by
    have : 0 ≤ f.fr ∧ f.fr < 4 := of_decide_eq_true hh1
    exact ⟨f.fr.toNat, by omega, by omega⟩
   obtain ⟨a, ha, ha4⟩ : ∃ a : Nat, f.to = a ∧ a < 4 := by
    have : 0 ≤ f.to ∧ f.to < 4 := of_decide_eq_true hh2
    exact ⟨f.to.toNat, by omega, by omega⟩
   clear HDF hfe hh1 hh2 hh3
   have ia0 : ¬ ((a : Int) < 0) := by omega
   have ia1 : ¬ ((4 : Int) ≤ a) := by omega
   have ia2 : (a : Int) < 4 := by omega
   have ia3 : (0 : Int) ≤ a := by omega
   have ib0 : ¬ ((b : Int) < 0) := by omega
   have ib1 : ¬ ((4 : Int) ≤ b) := by omega
   have ib2 : (b : Int) < 4 := by omega
   have ib3 : (0 : Int) ≤ b := by omega
   have HAB : Hid (f.to = (a : Int) ∧ f.fr = (b : Int)) := hid ⟨ha, hb⟩
   go_enter Tryz.func57, Tryz.ntmps57
   go_upto_region 0 with fail
   go_wp2_with fail
   refine hdec.mono ?_
   rintro e w1 ⟨vf, rfl, hfr, hw1⟩
   obtain ⟨vl, vg, vc, rfl, ⟨pl, cl, rfl, _⟩, ⟨pg, cg, rfl, _⟩, ⟨pc, cc, rfl, _⟩⟩ := id (hfr w1 (Since.refl _ _))
   unfold frmV at hfr ⊢
   have HFR := hid hfr
   clear hfr hdec
   rw [ha, hb] at HFR ⊢
   clear ha hb
   have HC1 := hid (HC.out.below hw1)
   generalize hack : f.ack = ak at HFR ⊢
   have HACK := hid hack
   clear hack
   cases ak with
   | true =>
    have HX2 := hid (heap_alloc_new w1 (.cells #[.int .i64 b, .int .i64 a, .int .i64 f.seq, .bool true, .int .i64 f.thread, .int .i64 f.mail.host, .int .i64 f.mail.thread, .slice pl f.mail.label.length cl, .slice pg f.mail.grants.length cg, .string ⟨f.mail.text.toArray⟩, .slice pc f.certs.length cc] 111))
    have HC2 := hid (HC1.out.below (Qc w1 (.cells #[.int .i64 b, .int .i64 a, .int .i64 f.seq, .bool true, .int .i64 f.thread, .int .i64 f.mail.host, .int .i64 f.mail.thread, .slice pl f.mail.label.length cl, .slice pg f.mail.grants.length cg, .string ⟨f.mail.text.toArray⟩, .slice pc f.certs.length cc] 111)))
    have HS2 := hid (CStep.below (cb := cb) (F := F) (Z := Z) (Qd hw1 (Qc w1 (.cells #[.int .i64 b, .int .i64 a, .int .i64 f.seq, .bool true, .int .i64 f.thread, .int .i64 f.mail.host, .int .i64 f.mail.thread, .slice pl f.mail.label.length cl, .slice pg f.mail.grants.length cg, .string ⟨f.mail.text.toArray⟩, .slice pc f.certs.length cc] 111))))
    obtain ⟨e0, e1, e2, e3, e4, e5, e6, e7, e8, e9, e10⟩ := cells11 HX2.out
    have HB12 := hid (Qc w1 (.cells #[.int .i64 b, .int .i64 a, .int .i64 f.seq, .bool true, .int .i64 f.thread, .int .i64 f.mail.host, .int .i64 f.mail.thread, .slice pl f.mail.label.length cl, .slice pg f.mail.grants.length cg, .string ⟨f.mail.text.toArray⟩, .slice pc f.certs.length cc] 111))
    have hlt2 := HC2.out.lt
    have hbl := Qu HX2.out
    have HLN := hid (HC2.out.line (a := a) (b := b) (by assumption) (by assumption))
    obtain ⟨⟨k0, k1, k2, k3, k4, k5, k6, k7, k8, k9, k10⟩, kf⟩ := HC2.out.lcells (a := a) (b := b) (by assumption) (by assumption) rfl rfl rfl
    obtain ⟨pv, cv, hvs⟩ := (HC2.out.snt a b (by assumption) (by assumption)).at.slice
    rw [hvs] at k1
    unfold lneC at HLN
    rw [hvs] at HLN
    go_upto_region 3 with fail
    generalize w1.alloc (.cells #[.int .i64 b, .int .i64 a, .int .i64 f.seq, .bool true, .int .i64 f.thread, .int .i64 f.mail.host, .int .i64 f.mail.thread, .slice pl f.mail.label.length cl, .slice pg f.mail.grants.length cg, .string ⟨f.mail.text.toArray⟩, .slice pc f.certs.length cc] 111) = w2 at *
    refine wp_region_held_drew (S := (fun w' => w'.cell? ⟨w1.heap.size, 0, none⟩ = some (.int .i64 b) ∧ w'.cell? ⟨w1.heap.size, 1, none⟩ = some (.int .i64 a))) (by as_aux_lemma => kernel_rfl) ⟨e0, e1⟩ (fun _hHeld => ?_)
    refine takeF 0 17 ?v1 rfl (Or.inl ⟨by rfl, ?hy1⟩) ?rest1
    case hy1 => intro wz hSw; (try dsimp only at hSw); go_simp; try with_reducible rfl
    simp only [Act.put, List.setIfInBounds_toArray, List.set_cons_zero, List.set_cons_succ]
    refine takeF 1 18 ?v2 rfl (Or.inl ⟨by rfl, ?hy2⟩) ?rest2
    case hy2 => intro wz hSw; (try dsimp only at hSw); go_simp; try with_reducible rfl
    simp only [Act.put, List.setIfInBounds_toArray, List.set_cons_zero, List.set_cons_succ]
    refine takeF 2 19 ?v3 rfl (Or.inl ⟨by rfl, ?hy3⟩) ?rest3
    case hy3 => intro wz hSw; (try dsimp only at hSw); go_simp; try with_reducible rfl
    simp only [Act.put, List.setIfInBounds_toArray, List.set_cons_zero, List.set_cons_succ]
    refine takeF 3 20 ?v4 rfl (Or.inl ⟨by rfl, ?hy4⟩) ?rest4
    case hy4 => intro wz hSw; (try dsimp only at hSw); go_simp; try with_reducible rfl
    simp only [Act.put, List.setIfInBounds_toArray, List.set_cons_zero, List.set_cons_succ]
    refine takeF 4 21 ?v5 rfl (Or.inl ⟨by rfl, ?hy5⟩) ?rest5
    case hy5 => intro wz hSw; (try dsimp only at hSw); go_simp; try with_reducible rfl
    simp only [Act.put, List.setIfInBounds_toArray, List.set_cons_zero, List.set_cons_succ]
    refine takeF 5 22 ?v6 rfl (Or.inl ⟨by rfl, ?hy6⟩) ?rest6
    case hy6 => intro wz hSw; (try dsimp only at hSw); go_simp; try with_reducible rfl
    simp only [Act.put, List.setIfInBounds_toArray, List.set_cons_zero, List.set_cons_succ]
    refine takeF 6 23 ?v7 rfl (Or.inl ⟨by rfl, ?hy7⟩) ?rest7
    case hy7 => intro wz hSw; (try dsimp only at hSw); go_simp; try with_reducible rfl
    simp only [Act.put, List.setIfInBounds_toArray, List.set_cons_zero, List.set_cons_succ]
    refine takeF 7 24 ?v8 rfl (Or.inl ⟨by rfl, ?hy8⟩) ?rest8
    case hy8 => intro wz hSw; (try dsimp only at hSw); go_simp; try with_reducible rfl
    simp only [Act.put, List.setIfInBounds_toArray, List.set_cons_zero, List.set_cons_succ]
    refine takeF 8 25 ?v9 rfl (Or.inl ⟨by rfl, ?hy9⟩) ?rest9
    case hy9 => intro wz hSw; (try dsimp only at hSw); go_simp; try with_reducible rfl
    simp only [Act.put, List.setIfInBounds_toArray, List.set_cons_zero, List.set_cons_succ]
    refine takeF 9 6 ?v10 rfl (Or.inl ⟨by rfl, ?hy10⟩) ?rest10
    case hy10 => intro wz hSw; (try dsimp only at hSw); go_simp; try with_reducible rfl
    simp only [Act.put, List.setIfInBounds_toArray, List.set_cons_zero, List.set_cons_succ]
    refine wpAnyH_done (by as_aux_lemma => kernel_rfl) ?_ _
    go_upto_region 4 with fail
    have hln := fun wx (hb : Below w2.heap.size w2 wx) => QjV _ (C.lines a b) f.seq wx (HLN.out.below hb)
    refine wp_region_held_drew (S := (fun w' => w'.cell? ⟨w1.heap.size, 2, none⟩ = some (.int .i64 f.seq))) (by as_aux_lemma => kernel_rfl) e2 (fun _hHeld => ?_)
    refine takeF 0 27 ?v11 rfl (Or.inl ⟨by rfl, ?hy11⟩) ?rest11
    case hy11 => intro wz hSw; (try dsimp only at hSw); go_simp; try with_reducible rfl
    simp only [Act.put, List.setIfInBounds_toArray, List.set_cons_zero, List.set_cons_succ]
    refine takeF 1 28 ?v12 rfl (Or.inl ⟨by rfl, ?hy12⟩) ?rest12
    case hy12 => intro wz hSw; (try dsimp only at hSw); go_simp; try with_reducible rfl
    simp only [Act.put, List.setIfInBounds_toArray, List.set_cons_zero, List.set_cons_succ]
    refine takeF 2 29 ?v13 rfl (Or.inl ⟨by rfl, ?hy13⟩) ?rest13
    case hy13 => intro wz hSw; (try dsimp only at hSw); go_simp; try with_reducible rfl
    simp only [Act.put, List.setIfInBounds_toArray, List.set_cons_zero, List.set_cons_succ]
    refine takeF 4 31 ?v14 rfl (Or.inl ⟨by rfl, ?hy14⟩) ?rest14
    case hy14 => intro wz hSw; (try dsimp only at hSw); go_simp; try with_reducible rfl
    simp only [Act.put, List.setIfInBounds_toArray, List.set_cons_zero, List.set_cons_succ]
    refine takeF 5 32 ?v15 rfl (Or.inl ⟨by rfl, ?hy15⟩) ?rest15
    case hy15 => intro wz hSw; (try dsimp only at hSw); go_simp; try with_reducible rfl
    simp only [Act.put, List.setIfInBounds_toArray, List.set_cons_zero, List.set_cons_succ]
    refine wpAnyH_ready (rs := [3]) (by as_aux_lemma => kernel_rfl) (by simp) ?_
    refine (AllReadyH.cons rfl (fun K' hK => ?_) AllReadyH.nil)
    go_simp
    refine hK.out _ _ e2 (fun _ => ?_)
    clear hK K'
    refine wpAnyH_ready (rs := [6]) (by as_aux_lemma => kernel_rfl) (by simp) ?_
    refine (AllReadyH.cons rfl (fun K' hK => ?_) AllReadyH.nil)
    go_simp
    go_wp2_with (go_at_call 99; refine (hln _ (Below.refl _ _).drew.drew).mono ?_; rintro e w3 ⟨v3, rfl, hl3, hwd⟩)
    have hw3 : Below w2.heap.size w2 w3 := ⟨hwd.os, hwd.tape, hwd.output, hwd.size, hwd.block⟩
    clear hwd
    have HC3 := hid (HC2.out.below hw3)
    obtain ⟨nx1, st1, hi1, d0, d1, d2, d3, d4, d5, d6, d7, p1, c1, el, ev, hr3⟩ := LneNew.spelled (F := F) hl3 HC2.out.fin
    subst ev
    have HR3 := hid hr3
    have HEL := hid el
    clear hl3 hr3 el
    obtain ⟨⟨m0, m1, m2, m3, m4, m5, m6, m7, m8, m9, m10⟩, mf⟩ := HC3.out.lcells (a := a) (b := b) (by assumption) (by assumption) rfl rfl rfl
    rw [hvs] at m1
    have HX3 := hid (Qe HX2.out hw3)
    have t2 := Qa HX3.out 2
    have g0 := mf (10 + a * 44 + b * 11)
    have g1 := mf (10 + a * 44 + b * 11 + 1)
    have g2 := mf (10 + a * 44 + b * 11 + 2)
    have g3 := mf (10 + a * 44 + b * 11 + 3)
    have g4 := mf (10 + a * 44 + b * 11 + 4)
    have g5 := mf (10 + a * 44 + b * 11 + 5)
    have g6 := mf (10 + a * 44 + b * 11 + 6)
    have g7 := mf (10 + a * 44 + b * 11 + 7)
    have g8 := mf (10 + a * 44 + b * 11 + 8)
    have g9 := mf (10 + a * 44 + b * 11 + 9)
    have g10 := mf (10 + a * 44 + b * 11 + 10)
    have hlt3 : cb < w3.heap.size := HC3.out.lt
    refine hK.out _ _ t2 (fun _ => ?_)
    clear hK K'
    refine takeF 7 26 ?v16 rfl (Or.inl ⟨by rfl, ?hy16⟩) ?rest16
    case hy16 => intro wz hSw; (try dsimp only at hSw); go_simp; try with_reducible rfl
    simp only [Act.put, List.setIfInBounds_toArray, List.set_cons_zero, List.set_cons_succ]
    refine takeF 8 34 ?v17 rfl (Or.inl ⟨by rfl, ?hy17⟩) ?rest17
    case hy17 => intro wz hSw; (try dsimp only at hSw); go_simp; try with_reducible rfl
    simp only [Act.put, List.setIfInBounds_toArray, List.set_cons_zero, List.set_cons_succ]
    refine takeF 9 35 ?v18 rfl (Or.inl ⟨by rfl, ?hy18⟩) ?rest18
    case hy18 => intro wz hSw; (try dsimp only at hSw); go_simp; try with_reducible rfl
    simp only [Act.put, List.setIfInBounds_toArray, List.set_cons_zero, List.set_cons_succ]
    refine takeF 10 36 ?v19 rfl (Or.inl ⟨by rfl, ?hy19⟩) ?rest19
    case hy19 => intro wz hSw; (try dsimp only at hSw); go_simp; try with_reducible rfl
    simp only [Act.put, List.setIfInBounds_toArray, List.set_cons_zero, List.set_cons_succ]
    have hST : CluAt (((((((((((w3.setCell ⟨cb, 10 + a * 44 + b * 11, none⟩ (.int .i64 nx1)).setCell ⟨cb, 10 + a * 44 + b * 11 + 1, none⟩ (.slice p1 st1.length c1)).setCell ⟨cb, 10 + a * 44 + b * 11 + 2, none⟩ (.int .i64 hi1)).setCell ⟨cb, 10 + a * 44 + b * 11 + 3, none⟩ (.bool d0)).setCell ⟨cb, 10 + a * 44 + b * 11 + 4, none⟩ (.bool d1)).setCell ⟨cb, 10 + a * 44 + b * 11 + 5, none⟩ (.bool d2)).setCell ⟨cb, 10 + a * 44 + b * 11 + 6, none⟩ (.bool d3)).setCell ⟨cb, 10 + a * 44 + b * 11 + 7, none⟩ (.bool d4)).setCell ⟨cb, 10 + a * 44 + b * 11 + 8, none⟩ (.bool d5)).setCell ⟨cb, 10 + a * 44 + b * 11 + 9, none⟩ (.bool d6)).setCell ⟨cb, 10 + a * 44 + b * 11 + 10, none⟩ (.bool d7)) cb F { Z with vs := fun a' b' => if a' = a ∧ b' = b then .slice p1 st1.length c1 else Z.vs a' b' } (setLi C a b ⟨nx1, st1, hi1, [d0, d1, d2, d3, d4, d5, d6, d7]⟩) ∧ CStep cb w3 F Z (((((((((((w3.setCell ⟨cb, 10 + a * 44 + b * 11, none⟩ (.int .i64 nx1)).setCell ⟨cb, 10 + a * 44 + b * 11 + 1, none⟩ (.slice p1 st1.length c1)).setCell ⟨cb, 10 + a * 44 + b * 11 + 2, none⟩ (.int .i64 hi1)).setCell ⟨cb, 10 + a * 44 + b * 11 + 3, none⟩ (.bool d0)).setCell ⟨cb, 10 + a * 44 + b * 11 + 4, none⟩ (.bool d1)).setCell ⟨cb, 10 + a * 44 + b * 11 + 5, none⟩ (.bool d2)).setCell ⟨cb, 10 + a * 44 + b * 11 + 6, none⟩ (.bool d3)).setCell ⟨cb, 10 + a * 44 + b * 11 + 7, none⟩ (.bool d4)).setCell ⟨cb, 10 + a * 44 + b * 11 + 8, none⟩ (.bool d5)).setCell ⟨cb, 10 + a * 44 + b * 11 + 9, none⟩ (.bool d6)).setCell ⟨cb, 10 + a * 44 + b * 11 + 10, none⟩ (.bool d7)) F { Z with vs := fun a' b' => if a' = a ∧ b' = b then .slice p1 st1.length c1 else Z.vs a' b' } := HC3.out.setLine (by assumption) (by assumption) (l := ⟨nx1, st1, hi1, [d0, d1, d2, d3, d4, d5, d6, d7]⟩) HR3.out rfl
    have hxx : (((((((((((w3.setCell ⟨cb, 10 + a * 44 + b * 11, none⟩ (.int .i64 nx1)).setCell ⟨cb, 10 + a * 44 + b * 11 + 1, none⟩ (.slice p1 st1.length c1)).setCell ⟨cb, 10 + a * 44 + b * 11 + 2, none⟩ (.int .i64 hi1)).setCell ⟨cb, 10 + a * 44 + b * 11 + 3, none⟩ (.bool d0)).setCell ⟨cb, 10 + a * 44 + b * 11 + 4, none⟩ (.bool d1)).setCell ⟨cb, 10 + a * 44 + b * 11 + 5, none⟩ (.bool d2)).setCell ⟨cb, 10 + a * 44 + b * 11 + 6, none⟩ (.bool d3)).setCell ⟨cb, 10 + a * 44 + b * 11 + 7, none⟩ (.bool d4)).setCell ⟨cb, 10 + a * 44 + b * 11 + 8, none⟩ (.bool d5)).setCell ⟨cb, 10 + a * 44 + b * 11 + 9, none⟩ (.bool d6)).setCell ⟨cb, 10 + a * 44 + b * 11 + 10, none⟩ (.bool d7)).heap[w1.heap.size]? = some (.cells #[.int .i64 b, .int .i64 a, .int .i64 f.seq, .bool true, .int .i64 f.thread, .int .i64 f.mail.host, .int .i64 f.mail.thread, .slice pl f.mail.label.length cl, .slice pg f.mail.grants.length cg, .string ⟨f.mail.text.toArray⟩, .slice pc f.certs.length cc] 111 (0, 0)) := QC hST.2 HC3.out HX3.out (by decide) (by decide) (by decide) (by decide) (by decide) (by decide)
    have HST := hid hST
    have HXX := hid hxx
    clear hST hxx
    have t2b := Qa HXX.out 2
    refine wpAnyH_ready (rs := [11]) (by as_aux_lemma => kernel_rfl) (by simp) ?_
    refine (AllReadyH.cons rfl (fun K' hK => ?_) AllReadyH.nil)
    go_simp
    refine hK.out _ _ t2b (fun _ => ?_)
    clear hK K'
    refine wpAnyH_done (by as_aux_lemma => kernel_rfl) ?_ _
    generalize (((((((((((w3.setCell ⟨cb, 10 + a * 44 + b * 11, none⟩ (.int .i64 nx1)).setCell ⟨cb, 10 + a * 44 + b * 11 + 1, none⟩ (.slice p1 st1.length c1)).setCell ⟨cb, 10 + a * 44 + b * 11 + 2, none⟩ (.int .i64 hi1)).setCell ⟨cb, 10 + a * 44 + b * 11 + 3, none⟩ (.bool d0)).setCell ⟨cb, 10 + a * 44 + b * 11 + 4, none⟩ (.bool d1)).setCell ⟨cb, 10 + a * 44 + b * 11 + 5, none⟩ (.bool d2)).setCell ⟨cb, 10 + a * 44 + b * 11 + 6, none⟩ (.bool d3)).setCell ⟨cb, 10 + a * 44 + b * 11 + 7, none⟩ (.bool d4)).setCell ⟨cb, 10 + a * 44 + b * 11 + 8, none⟩ (.bool d5)).setCell ⟨cb, 10 + a * 44 + b * 11 + 9, none⟩ (.bool d6)).setCell ⟨cb, 10 + a * 44 + b * 11 + 10, none⟩ (.bool d7)) = w4 at *
    generalize { Z with vs := fun a' b' => if a' = a ∧ b' = b then .slice p1 st1.length c1 else Z.vs a' b' } = Z4 at *
    have HE : Hid (comeC C s = setLi C a b ⟨nx1, st1, hi1, [d0, d1, d2, d3, d4, d5, d6, d7]⟩) := hid (by rw [Qi5 HDS.out HACK.out, HAB.out.1, HAB.out.2, ← HEL.out]; rfl)
    clear k0 k1 k2 k3 k4 k5 k6 k7 k8 k9 k10 kf m0 m1 m2 m3 m4 m5 m6 m7 m8 m9 m10 mf g0 g1 g2 g3 g4 g5 g6 g7 g8 g9 g10 hlt3 HR3 HX3 HC3 HLN hln t2 t2b
    go_wp2
    rw [HE.out]
    exact bodyPost_ret (results_none rfl _ _ _) rfl ⟨rfl, _, _, HST.out.1, HS2.out.trans ((CStep.below hw3).trans HST.out.2)⟩
   | false =>
    have HX2 := hid (heap_alloc_new w1 (.cells #[.int .i64 b, .int .i64 a, .int .i64 f.seq, .bool false, .int .i64 f.thread, .int .i64 f.mail.host, .int .i64 f.mail.thread, .slice pl f.mail.label.length cl, .slice pg f.mail.grants.length cg, .string ⟨f.mail.text.toArray⟩, .slice pc f.certs.length cc] 111))
    have HC2 := hid (HC1.out.below (Qc w1 (.cells #[.int .i64 b, .int .i64 a, .int .i64 f.seq, .bool false, .int .i64 f.thread, .int .i64 f.mail.host, .int .i64 f.mail.thread, .slice pl f.mail.label.length cl, .slice pg f.mail.grants.length cg, .string ⟨f.mail.text.toArray⟩, .slice pc f.certs.length cc] 111)))
    have HS2 := hid (CStep.below (cb := cb) (F := F) (Z := Z) (Qd hw1 (Qc w1 (.cells #[.int .i64 b, .int .i64 a, .int .i64 f.seq, .bool false, .int .i64 f.thread, .int .i64 f.mail.host, .int .i64 f.mail.thread, .slice pl f.mail.label.length cl, .slice pg f.mail.grants.length cg, .string ⟨f.mail.text.toArray⟩, .slice pc f.certs.length cc] 111))))
    obtain ⟨e0, e1, e2, e3, e4, e5, e6, e7, e8, e9, e10⟩ := cells11 HX2.out
    have HB12 := hid (Qc w1 (.cells #[.int .i64 b, .int .i64 a, .int .i64 f.seq, .bool false, .int .i64 f.thread, .int .i64 f.mail.host, .int .i64 f.mail.thread, .slice pl f.mail.label.length cl, .slice pg f.mail.grants.length cg, .string ⟨f.mail.text.toArray⟩, .slice pc f.certs.length cc] 111))
    have hlt2 := HC2.out.lt
    have hbl := Qu HX2.out
    have HLN := hid (HC2.out.line (a := b) (b := a) (by assumption) (by assumption))
    obtain ⟨⟨k0, k1, k2, k3, k4, k5, k6, k7, k8, k9, k10⟩, kf⟩ := HC2.out.lcells (a := b) (b := a) (by assumption) (by assumption) rfl rfl rfl
    obtain ⟨pv, cv, hvs⟩ := (HC2.out.snt b a (by assumption) (by assumption)).at.slice
    rw [hvs] at k1
    unfold lneC at HLN
    rw [hvs] at HLN
    go_upto_region 5 with fail
    generalize w1.alloc (.cells #[.int .i64 b, .int .i64 a, .int .i64 f.seq, .bool false, .int .i64 f.thread, .int .i64 f.mail.host, .int .i64 f.mail.thread, .slice pl f.mail.label.length cl, .slice pg f.mail.grants.length cg, .string ⟨f.mail.text.toArray⟩, .slice pc f.certs.length cc] 111) = w2 at *
    refine wp_region_held_drew (S := (fun w' => w'.cell? ⟨w1.heap.size, 0, none⟩ = some (.int .i64 b) ∧ w'.cell? ⟨w1.heap.size, 1, none⟩ = some (.int .i64 a))) (by as_aux_lemma => kernel_rfl) ⟨e0, e1⟩ (fun _hHeld => ?_)
    refine takeF 0 37 ?v20 rfl (Or.inl ⟨by rfl, ?hy20⟩) ?rest20
    case hy20 => intro wz hSw; (try dsimp only at hSw); go_simp; try with_reducible rfl
    simp only [Act.put, List.setIfInBounds_toArray, List.set_cons_zero, List.set_cons_succ]
    refine takeF 1 38 ?v21 rfl (Or.inl ⟨by rfl, ?hy21⟩) ?rest21
    case hy21 => intro wz hSw; (try dsimp only at hSw); go_simp; try with_reducible rfl
    simp only [Act.put, List.setIfInBounds_toArray, List.set_cons_zero, List.set_cons_succ]
    refine takeF 2 39 ?v22 rfl (Or.inl ⟨by rfl, ?hy22⟩) ?rest22
    case hy22 => intro wz hSw; (try dsimp only at hSw); go_simp; try with_reducible rfl
    simp only [Act.put, List.setIfInBounds_toArray, List.set_cons_zero, List.set_cons_succ]
    refine takeF 3 40 ?v23 rfl (Or.inl ⟨by rfl, ?hy23⟩) ?rest23
    case hy23 => intro wz hSw; (try dsimp only at hSw); go_simp; try with_reducible rfl
    simp only [Act.put, List.setIfInBounds_toArray, List.set_cons_zero, List.set_cons_succ]
    refine takeF 4 41 ?v24 rfl (Or.inl ⟨by rfl, ?hy24⟩) ?rest24
    case hy24 => intro wz hSw; (try dsimp only at hSw); go_simp; try with_reducible rfl
    simp only [Act.put, List.setIfInBounds_toArray, List.set_cons_zero, List.set_cons_succ]
    refine takeF 5 42 ?v25 rfl (Or.inl ⟨by rfl, ?hy25⟩) ?rest25
    case hy25 => intro wz hSw; (try dsimp only at hSw); go_simp; try with_reducible rfl
    simp only [Act.put, List.setIfInBounds_toArray, List.set_cons_zero, List.set_cons_succ]
    refine takeF 6 43 ?v26 rfl (Or.inl ⟨by rfl, ?hy26⟩) ?rest26
    case hy26 => intro wz hSw; (try dsimp only at hSw); go_simp; try with_reducible rfl
    simp only [Act.put, List.setIfInBounds_toArray, List.set_cons_zero, List.set_cons_succ]
    refine takeF 7 44 ?v27 rfl (Or.inl ⟨by rfl, ?hy27⟩) ?rest27
    case hy27 => intro wz hSw; (try dsimp only at hSw); go_simp; try with_reducible rfl
    simp only [Act.put, List.setIfInBounds_toArray, List.set_cons_zero, List.set_cons_succ]
    refine takeF 8 45 ?v28 rfl (Or.inl ⟨by rfl, ?hy28⟩) ?rest28
    case hy28 => intro wz hSw; (try dsimp only at hSw); go_simp; try with_reducible rfl
    simp only [Act.put, List.setIfInBounds_toArray, List.set_cons_zero, List.set_cons_succ]
    refine takeF 9 7 ?v29 rfl (Or.inl ⟨by rfl, ?hy29⟩) ?rest29
    case hy29 => intro wz hSw; (try dsimp only at hSw); go_simp; try with_reducible rfl
    simp only [Act.put, List.setIfInBounds_toArray, List.set_cons_zero, List.set_cons_succ]
    refine wpAnyH_done (by as_aux_lemma => kernel_rfl) ?_ _
    go_upto_region 6 with fail
    have hln := fun wx (hb : Below w2.heap.size w2 wx) => QiA _ (C.lines b a) f.seq wx (HLN.out.below hb)
    refine wp_region_held_drew (S := (fun w' => w'.cell? ⟨w1.heap.size, 2, none⟩ = some (.int .i64 f.seq))) (by as_aux_lemma => kernel_rfl) e2 (fun _hHeld => ?_)
    refine takeF 0 47 ?v30 rfl (Or.inl ⟨by rfl, ?hy30⟩) ?rest30
    case hy30 => intro wz hSw; (try dsimp only at hSw); go_simp; try with_reducible rfl
    simp only [Act.put, List.setIfInBounds_toArray, List.set_cons_zero, List.set_cons_succ]
    refine takeF 1 48 ?v31 rfl (Or.inl ⟨by rfl, ?hy31⟩) ?rest31
    case hy31 => intro wz hSw; (try dsimp only at hSw); go_simp; try with_reducible rfl
    simp only [Act.put, List.setIfInBounds_toArray, List.set_cons_zero, List.set_cons_succ]
    refine takeF 2 49 ?v32 rfl (Or.inl ⟨by rfl, ?hy32⟩) ?rest32
    case hy32 => intro wz hSw; (try dsimp only at hSw); go_simp; try with_reducible rfl
    simp only [Act.put, List.setIfInBounds_toArray, List.set_cons_zero, List.set_cons_succ]
    refine takeF 4 51 ?v33 rfl (Or.inl ⟨by rfl, ?hy33⟩) ?rest33
    case hy33 => intro wz hSw; (try dsimp only at hSw); go_simp; try with_reducible rfl
    simp only [Act.put, List.setIfInBounds_toArray, List.set_cons_zero, List.set_cons_succ]
    refine takeF 5 52 ?v34 rfl (Or.inl ⟨by rfl, ?hy34⟩) ?rest34
    case hy34 => intro wz hSw; (try dsimp only at hSw); go_simp; try with_reducible rfl
    simp only [Act.put, List.setIfInBounds_toArray, List.set_cons_zero, List.set_cons_succ]
    refine wpAnyH_ready (rs := [3]) (by as_aux_lemma => kernel_rfl) (by simp) ?_
    refine (AllReadyH.cons rfl (fun K' hK => ?_) AllReadyH.nil)
    go_simp
    refine hK.out _ _ e2 (fun _ => ?_)
    clear hK K'
    refine wpAnyH_ready (rs := [6]) (by as_aux_lemma => kernel_rfl) (by simp) ?_
    refine (AllReadyH.cons rfl (fun K' hK => ?_) AllReadyH.nil)
    go_simp
    go_wp2_with (go_at_call 100; refine (hln _ (Below.refl _ _).drew.drew).mono ?_; rintro e w3 ⟨v3, rfl, hl3, hwd⟩)
    have hw3 : Below w2.heap.size w2 w3 := ⟨hwd.os, hwd.tape, hwd.output, hwd.size, hwd.block⟩
    clear hwd
    have HC3 := hid (HC2.out.below hw3)
    obtain ⟨nx1, st1, hi1, d0, d1, d2, d3, d4, d5, d6, d7, p1, c1, el, ev, hr3⟩ := LneNew.spelled (F := F) hl3 HC2.out.fin
    subst ev
    have HR3 := hid hr3
    have HEL := hid el
    clear hl3 hr3 el
    obtain ⟨⟨m0, m1, m2, m3, m4, m5, m6, m7, m8, m9, m10⟩, mf⟩ := HC3.out.lcells (a := b) (b := a) (by assumption) (by assumption) rfl rfl rfl
    rw [hvs] at m1
    have HX3 := hid (Qe HX2.out hw3)
    have t2 := Qa HX3.out 2
    have g0 := mf (10 + b * 44 + a * 11)
    have g1 := mf (10 + b * 44 + a * 11 + 1)
    have g2 := mf (10 + b * 44 + a * 11 + 2)
    have g3 := mf (10 + b * 44 + a * 11 + 3)
    have g4 := mf (10 + b * 44 + a * 11 + 4)
    have g5 := mf (10 + b * 44 + a * 11 + 5)
    have g6 := mf (10 + b * 44 + a * 11 + 6)
    have g7 := mf (10 + b * 44 + a * 11 + 7)
    have g8 := mf (10 + b * 44 + a * 11 + 8)
    have g9 := mf (10 + b * 44 + a * 11 + 9)
    have g10 := mf (10 + b * 44 + a * 11 + 10)
    have hlt3 : cb < w3.heap.size := HC3.out.lt
    refine hK.out _ _ t2 (fun _ => ?_)
    clear hK K'
    refine takeF 7 46 ?v35 rfl (Or.inl ⟨by rfl, ?hy35⟩) ?rest35
    case hy35 => intro wz hSw; (try dsimp only at hSw); go_simp; try with_reducible rfl
    simp only [Act.put, List.setIfInBounds_toArray, List.set_cons_zero, List.set_cons_succ]
    refine takeF 8 54 ?v36 rfl (Or.inl ⟨by rfl, ?hy36⟩) ?rest36
    case hy36 => intro wz hSw; (try dsimp only at hSw); go_simp; try with_reducible rfl
    simp only [Act.put, List.setIfInBounds_toArray, List.set_cons_zero, List.set_cons_succ]
    refine takeF 9 55 ?v37 rfl (Or.inl ⟨by rfl, ?hy37⟩) ?rest37
    case hy37 => intro wz hSw; (try dsimp only at hSw); go_simp; try with_reducible rfl
    simp only [Act.put, List.setIfInBounds_toArray, List.set_cons_zero, List.set_cons_succ]
    refine takeF 10 56 ?v38 rfl (Or.inl ⟨by rfl, ?hy38⟩) ?rest38
    case hy38 => intro wz hSw; (try dsimp only at hSw); go_simp; try with_reducible rfl
    simp only [Act.put, List.setIfInBounds_toArray, List.set_cons_zero, List.set_cons_succ]
    have hST : CluAt (((((((((((w3.setCell ⟨cb, 10 + b * 44 + a * 11, none⟩ (.int .i64 nx1)).setCell ⟨cb, 10 + b * 44 + a * 11 + 1, none⟩ (.slice p1 st1.length c1)).setCell ⟨cb, 10 + b * 44 + a * 11 + 2, none⟩ (.int .i64 hi1)).setCell ⟨cb, 10 + b * 44 + a * 11 + 3, none⟩ (.bool d0)).setCell ⟨cb, 10 + b * 44 + a * 11 + 4, none⟩ (.bool d1)).setCell ⟨cb, 10 + b * 44 + a * 11 + 5, none⟩ (.bool d2)).setCell ⟨cb, 10 + b * 44 + a * 11 + 6, none⟩ (.bool d3)).setCell ⟨cb, 10 + b * 44 + a * 11 + 7, none⟩ (.bool d4)).setCell ⟨cb, 10 + b * 44 + a * 11 + 8, none⟩ (.bool d5)).setCell ⟨cb, 10 + b * 44 + a * 11 + 9, none⟩ (.bool d6)).setCell ⟨cb, 10 + b * 44 + a * 11 + 10, none⟩ (.bool d7)) cb F { Z with vs := fun a' b' => if a' = b ∧ b' = a then .slice p1 st1.length c1 else Z.vs a' b' } (setLi C b a ⟨nx1, st1, hi1, [d0, d1, d2, d3, d4, d5, d6, d7]⟩) ∧ CStep cb w3 F Z (((((((((((w3.setCell ⟨cb, 10 + b * 44 + a * 11, none⟩ (.int .i64 nx1)).setCell ⟨cb, 10 + b * 44 + a * 11 + 1, none⟩ (.slice p1 st1.length c1)).setCell ⟨cb, 10 + b * 44 + a * 11 + 2, none⟩ (.int .i64 hi1)).setCell ⟨cb, 10 + b * 44 + a * 11 + 3, none⟩ (.bool d0)).setCell ⟨cb, 10 + b * 44 + a * 11 + 4, none⟩ (.bool d1)).setCell ⟨cb, 10 + b * 44 + a * 11 + 5, none⟩ (.bool d2)).setCell ⟨cb, 10 + b * 44 + a * 11 + 6, none⟩ (.bool d3)).setCell ⟨cb, 10 + b * 44 + a * 11 + 7, none⟩ (.bool d4)).setCell ⟨cb, 10 + b * 44 + a * 11 + 8, none⟩ (.bool d5)).setCell ⟨cb, 10 + b * 44 + a * 11 + 9, none⟩ (.bool d6)).setCell ⟨cb, 10 + b * 44 + a * 11 + 10, none⟩ (.bool d7)) F { Z with vs := fun a' b' => if a' = b ∧ b' = a then .slice p1 st1.length c1 else Z.vs a' b' } := HC3.out.setLine (by assumption) (by assumption) (l := ⟨nx1, st1, hi1, [d0, d1, d2, d3, d4, d5, d6, d7]⟩) HR3.out rfl
    have hxx : (((((((((((w3.setCell ⟨cb, 10 + b * 44 + a * 11, none⟩ (.int .i64 nx1)).setCell ⟨cb, 10 + b * 44 + a * 11 + 1, none⟩ (.slice p1 st1.length c1)).setCell ⟨cb, 10 + b * 44 + a * 11 + 2, none⟩ (.int .i64 hi1)).setCell ⟨cb, 10 + b * 44 + a * 11 + 3, none⟩ (.bool d0)).setCell ⟨cb, 10 + b * 44 + a * 11 + 4, none⟩ (.bool d1)).setCell ⟨cb, 10 + b * 44 + a * 11 + 5, none⟩ (.bool d2)).setCell ⟨cb, 10 + b * 44 + a * 11 + 6, none⟩ (.bool d3)).setCell ⟨cb, 10 + b * 44 + a * 11 + 7, none⟩ (.bool d4)).setCell ⟨cb, 10 + b * 44 + a * 11 + 8, none⟩ (.bool d5)).setCell ⟨cb, 10 + b * 44 + a * 11 + 9, none⟩ (.bool d6)).setCell ⟨cb, 10 + b * 44 + a * 11 + 10, none⟩ (.bool d7)).heap[w1.heap.size]? = some (.cells #[.int .i64 b, .int .i64 a, .int .i64 f.seq, .bool false, .int .i64 f.thread, .int .i64 f.mail.host, .int .i64 f.mail.thread, .slice pl f.mail.label.length cl, .slice pg f.mail.grants.length cg, .string ⟨f.mail.text.toArray⟩, .slice pc f.certs.length cc] 111 (0, 0)) := QC hST.2 HC3.out HX3.out (by decide) (by decide) (by decide) (by decide) (by decide) (by decide)
    have HST := hid hST
    have HXX := hid hxx
    clear hST hxx
    have t2b := Qa HXX.out 2
    refine wpAnyH_ready (rs := [11]) (by as_aux_lemma => kernel_rfl) (by simp) ?_
    refine (AllReadyH.cons rfl (fun K' hK => ?_) AllReadyH.nil)
    go_simp
    refine hK.out _ _ t2b (fun _ => ?_)
    clear hK K'
    refine takeF 12 5 ?v39 rfl (Or.inl ⟨by rfl, ?hy39⟩) ?rest39
    case hy39 => intro wz hSw; (try dsimp only at hSw); go_simp; try with_reducible rfl
    simp only [Act.put, List.setIfInBounds_toArray, List.set_cons_zero, List.set_cons_succ]
    refine wpAnyH_done (by as_aux_lemma => kernel_rfl) ?_ _
    generalize (((((((((((w3.setCell ⟨cb, 10 + b * 44 + a * 11, none⟩ (.int .i64 nx1)).setCell ⟨cb, 10 + b * 44 + a * 11 + 1, none⟩ (.slice p1 st1.length c1)).setCell ⟨cb, 10 + b * 44 + a * 11 + 2, none⟩ (.int .i64 hi1)).setCell ⟨cb, 10 + b * 44 + a * 11 + 3, none⟩ (.bool d0)).setCell ⟨cb, 10 + b * 44 + a * 11 + 4, none⟩ (.bool d1)).setCell ⟨cb, 10 + b * 44 + a * 11 + 5, none⟩ (.bool d2)).setCell ⟨cb, 10 + b * 44 + a * 11 + 6, none⟩ (.bool d3)).setCell ⟨cb, 10 + b * 44 + a * 11 + 7, none⟩ (.bool d4)).setCell ⟨cb, 10 + b * 44 + a * 11 + 8, none⟩ (.bool d5)).setCell ⟨cb, 10 + b * 44 + a * 11 + 9, none⟩ (.bool d6)).setCell ⟨cb, 10 + b * 44 + a * 11 + 10, none⟩ (.bool d7)) = w4 at *
    generalize { Z with vs := fun a' b' => if a' = b ∧ b' = a then .slice p1 st1.length c1 else Z.vs a' b' } = Z4 at *
    obtain ⟨tl, te, hTK⟩ : ∃ tl te, takeLn (C.lines b a) f.seq = (tl, te) := ⟨_, _, rfl⟩
    have HTL : Hid (takeLn (lineC C f.fr f.to) f.seq = (⟨nx1, st1, hi1, [d0, d1, d2, d3, d4, d5, d6, d7]⟩, te)) := hid (by rw [HAB.out.1, HAB.out.2]; have e := HEL.out; rw [hTK] at e; simp only at e; rw [← e]; exact hTK)
    rw [hTK]
    simp only
    clear k0 k1 k2 k3 k4 k5 k6 k7 k8 k9 k10 kf m0 m1 m2 m3 m4 m5 m6 m7 m8 m9 m10 mf g0 g1 g2 g3 g4 g5 g6 g7 g8 g9 g10 hlt3 HR3 HX3 HC3 HLN hln t2 t2b hTK HEL
    obtain ⟨y0, y1, y2, y3, y4, y5, y6, y7, y8, y9, y10⟩ := cells11 HXX.out
    have HAK : Hid (FrmAt w4 (.agg #[.int .i64 a, .int .i64 b, .int .i64 f.seq, .bool true, .int .i64 0, .int .i64 0, .int .i64 0, .slice none 0 0, .slice none 0 0, .string ⟨#[]⟩, .slice none 0 0]) (⟨a, b, f.seq, true, 0, zeroMal, []⟩ : Frm)) := hid ⟨.slice none 0 0, .slice none 0 0, .slice none 0 0, rfl, LabAt.nil _ _ _ (fun _ => rfl), IntsAt.nil _ _ _ (fun _ => rfl), CrtsAt.nil _ _ _ (fun _ => rfl)⟩
    have HG4 : Hid (GoodC (setLi C b a ⟨nx1, st1, hi1, [d0, d1, d2, d3, d4, d5, d6, d7]⟩)) := hid (Qae HG.out _ _ _)
    have hput := Qdj cb F Z4 (setLi C b a ⟨nx1, st1, hi1, [d0, d1, d2, d3, d4, d5, d6, d7]⟩) _ (⟨a, b, f.seq, true, 0, zeroMal, []⟩ : Frm) w4 HST.out.1 HG4.out.net HAK.out
    have HS24 := hid (HS2.out.trans ((CStep.below hw3).trans HST.out.2))
    have HSI4 : Hid (Since w.heap.size w1 w4) := hid ((QS (Qd HB12.out hw3)).trans (HST.out.2.since (HC2.out.below hw3) HC.out.fin) (Qd HB12.out hw3).size)
    have HSZ4 : Hid (w1.heap.size ≤ w4.heap.size) := hid (Nat.le_trans (Qd HB12.out hw3).size HST.out.2.kept.size)
    by_cases h0 : te = 0
    · subst h0
      have HE : Hid (comeC C s = acceptC (putC (setLi C b a ⟨nx1, st1, hi1, [d0, d1, d2, d3, d4, d5, d6, d7]⟩) (⟨a, b, f.seq, true, 0, zeroMal, []⟩ : Frm)) f) := hid (by rw [Qkg HDS.out HACK.out HTL.out, HAB.out.1, HAB.out.2])
      have HG5 := hid (QbK HG4.out (⟨a, b, f.seq, true, 0, zeroMal, []⟩ : Frm))
      generalize setLi C b a ⟨nx1, st1, hi1, [d0, d1, d2, d3, d4, d5, d6, d7]⟩ = C4 at *
      go_wp2_with (first | (go_at_call 101; refine hput.mono ?_; rintro e w5 ⟨rfl, G5, Z5, hC5, hS5⟩; have HC5 := hid hC5; have HS5 := hid hS5; have HX5 := hid (QC hS5 HST.out.1 HXX.out (by decide) (by decide) (by decide) (by decide) (by decide) (by decide)); obtain ⟨z0, z1, z2, z3, z4, z5, z6, z7, z8, z9, z10⟩ := cells11 HX5.out; clear hC5 hS5 hput) | fail)
      refine (Qgb cb G5 Z5 _ _ f w5 HC5.out HG5.out (fun w'' hk => HFR.out w'' (QgB HSI4.out HSZ4.out (HS5.out.keptF HST.out.1) HS5.out.more HC.out.fin hk)) HH2.out).mono ?_
      rintro e w6 ⟨rfl, G6, Z6, hC6, hS6⟩
      have HC6 := hid hC6
      have HS6 := hid hS6
      clear hC6 hS6
      go_wp2
      rw [HE.out]
      exact bodyPost_end (results_none rfl _ _ _) rfl ⟨rfl, _, _, HC6.out, HS24.out.trans (HS5.out.trans HS6.out)⟩
    · by_cases h10 : te = 10
      · subst h10
        have HE : Hid (comeC C s = putC (setLi C b a ⟨nx1, st1, hi1, [d0, d1, d2, d3, d4, d5, d6, d7]⟩) (⟨a, b, f.seq, true, 0, zeroMal, []⟩ : Frm)) := hid (by rw [QfT HDS.out HACK.out HTL.out, HAB.out.1, HAB.out.2])
        go_wp2_with (first | (go_at_call 101; refine hput.mono ?_; rintro e w5 ⟨rfl, G5, Z5, hC5, hS5⟩; have HC5 := hid hC5; have HS5 := hid hS5; clear hC5 hS5 hput) | fail)
        rw [HE.out]
        exact bodyPost_end (results_none rfl _ _ _) rfl ⟨rfl, _, _, HC5.out, HS24.out.trans HS5.out⟩
      · have HE : Hid (comeC C s = setLi C b a ⟨nx1, st1, hi1, [d0, d1, d2, d3, d4, d5, d6, d7]⟩) := hid (by rw [Qi3 HDS.out HACK.out HTL.out h0 h10, HAB.out.1, HAB.out.2])
        have he0 : (te == 0) = false := by simpa using h0
        have he1 : (te == 10) = false := by simpa using h10
        clear h0 h10
        go_wp2
        rw [HE.out]
        exact bodyPost_end (results_none rfl _ _ _) rfl ⟨rfl, _, _, HST.out.1, HS24.out⟩
end Go.Proofs.YtpdijobakfpnbaaGreat
