/- cluster.come: a frame that comes. -/
import Derived.Test.YtlbdaklmlknmbaaGreatYCAccept
import Derived.Test.YtlbdaklmlknmbaaGreatYCPut
import Derived.Test.YtlbdaklmlknmbaaGreatYWDec
import Derived.Test.YtlbdaklmlknmbaaGreatYLAns
import Derived.Test.YtlbdaklmlknmbaaGreatYTakeD
import Derived.Test.YtlbdaklmlknmbaaGreatYCMem
import Derived.Test.YtlbdaklmlknmbaaGreatYHeap0
import Derived.Test.YtlbdaklmlknmbaaGreatYCAway
import Derived.Test.YtlbdaklmlknmbaaGreatYCAgain
import Derived.Test.YtlbdaklmlknmbaaGreatYTConcat
import Derived.Test.YtlbdaklmlknmbaaGreatYPlain
import Derived.Test.YtlbdaklmlknmbaaGreatYKTake
import Derived.Test.YtlbdaklmlknmbaaGreatYNamed
import Derived.Laws.IdiomStrings
import Derived.Test.YtlbdaklmlknmbaaGreatYWMem
import Derived.Test.YtlbdaklmlknmbaaGreatYMem
namespace Go.Proofs.YtlbdaklmlknmbaaGreat
open Go.RowKit Go.Proofs.Parclose
theorem Qjr {C : Clu} {s : List UInt8} {f : Frm} {e : Int} (h : decL s = (f, e)) (he : e ≠ 0) : comeC C s = C := by
 unfold comeC
 rw [h]
 exact if_neg he
theorem Qjs {C : Clu} {s : List UInt8} {f : Frm} (h : decL s = (f, 0)) (hk : f.ack = true) : comeC C s = setLi C f.to f.fr (ansLn (lineC C f.to f.fr) f.seq).1 := by
 unfold comeC
 rw [h]
 simp only [if_pos, hk]
theorem QkN {C : Clu} {s : List UInt8} {f : Frm} {l : Lne} (h : decL s = (f, 0)) (hk : f.ack = false) (ht : takeLn (lineC C f.fr f.to) f.seq = (l, 0)) : comeC C s = acceptC (putC (setLi C f.fr f.to l) ⟨f.to, f.fr, f.seq, true, 0, zeroMal, []⟩) f := by
 unfold comeC
 rw [h]
 simp [hk, ht]
theorem Qge {C : Clu} {s : List UInt8} {f : Frm} {l : Lne} (h : decL s = (f, 0)) (hk : f.ack = false) (ht : takeLn (lineC C f.fr f.to) f.seq = (l, 10)) : comeC C s = putC (setLi C f.fr f.to l) ⟨f.to, f.fr, f.seq, true, 0, zeroMal, []⟩ := by
 unfold comeC
 rw [h]
 simp [hk, ht]
theorem Qjq {C : Clu} {s : List UInt8} {f : Frm} {l : Lne} {e : Int} (h : decL s = (f, 0)) (hk : f.ack = false) (ht : takeLn (lineC C f.fr f.to) f.seq = (l, e)) (h0 : e ≠ 0) (h10 : e ≠ 10) : comeC C s = setLi C f.fr f.to l := by
 unfold comeC
 rw [h]
 simp [hk, ht, h0, h10]
theorem QgY {B : Nat} {w1 w4 w5 w6 : World} {F G : List Nat} (h14 : Since B w1 w4) (hz : w1.heap.size ≤ w4.heap.size) (h45 : KeptF F w4 w5) (hm : More w4 F G) (hF : ∀ k ∈ F, k < B) (h : KeptF G w5 w6) : Since B w1 w6 := fun k hk hs => by
 have hz5 := h45.size
 rw [h.block k (by omega) (fun e => by
  rcases hm.2 k e with q | q
  · have := hF k q; omega
  · omega), h45.block k (by omega) (fun e => by have := hF k e; omega), h14 k hk hs]
set_option linter.unusedSimpArgs false in
set_option maxRecDepth 100000 in
set_option maxHeartbeats 6400000 in
theorem QeO (cb : Nat) (F : List Nat) (Z : CluV) (C : Clu) (s : List UInt8) (w : World) (hc : CluAt w cb F Z C) (hg : GoodC C) :
 Calls Tryz.prog 52 #[.pointer (some ⟨cb, 0, none⟩), .string ⟨s.toArray⟩] w fun e w' => e = .returned (.tuple #[]) ∧ ∃ G Z', CluAt w' cb G Z' (comeC C s) ∧ CStep cb w F Z w' G Z' := by
 have hdec := QhK s w
 have HDF : Hid ((decL s).2 = 0 → frameE (decL s).1 = 0) := hid QeN
 obtain ⟨f, de, hDS⟩ : ∃ f de, decL s = (f, de) := ⟨_, _, rfl⟩
 have HDS := hid hDS
 rw [hDS] at hdec HDF
 simp only at hdec HDF
 clear hDS
 have HC := hid hc
 have HG := hid hg
 have hlt := hc.lt
 clear hc hg
 by_cases h0 : de = 0
 rotate_left
 · have HP : Hid (comeC C s = C) := hid (Qjr HDS.out h0)
   have hne : (de != 0) = true := by simpa using h0
   clear HDF h0
   go_enter Tryz.func52, Tryz.ntmps52
   go_wp2_with (go_at_call 78; refine hdec.mono ?_; rintro e w1 ⟨vf, rfl, hfr, hw1⟩; obtain ⟨vl, vg, vc, rfl, ⟨pl, cl, rfl, _⟩, ⟨pg, cg, rfl, _⟩, ⟨pc, cc, rfl, _⟩⟩ := hfr w1 (Since.refl _ _); unfold frmV; clear hfr)
   rw [HP.out]
   exact bodyPost_ret (results_none rfl _ _ _) rfl ⟨rfl, _, _, (HC.out.below hw1).below (Qd _ _), CStep.below (Qc hw1 (Qd _ _))⟩
 · subst h0
   have hfe := HDF.out rfl
   obtain ⟨hh1, hh2, hh3⟩ := Qc3 hfe
   have HH2 := hid hh2
   obtain ⟨b, hb, hb4⟩ : ∃ b : Nat, f.fr = b ∧ b < 4 := by
    have : 0 ≤ f.fr ∧ f.fr < 4 := of_decide_eq_true hh1
    exact ⟨f.fr.toNat, by omega, by omega⟩
   obtain ⟨a, ha, ha4⟩ : ∃ a : Nat, f.to = a ∧ a < 4 := by
    have : 0 ≤ f.to ∧ f.to < 4 := of_decide_eq_true hh2
    exact ⟨f.to.toNat, by omega, by omega⟩
   clear HDF hfe hh1 hh2 hh3
   have ia0 : ¬ ((a : Int) < 0) := by omega
   have ia1 : ¬ ((4 : Int) ≤ a) := by omega
   have ia2 : (a : Int) < 4 := by omega
   have ia3 : (0 : Int) ≤ a := by omega
   have ib0 : ¬ ((b : Int) < 0) := by omega
   have ib1 : ¬ ((4 : Int) ≤ b) := by omega
   have ib2 : (b : Int) < 4 := by omega
   have ib3 : (0 : Int) ≤ b := by omega
   have HAB : Hid (f.to = (a : Int) ∧ f.fr = (b : Int)) := hid ⟨ha, hb⟩
   go_enter Tryz.func52, Tryz.ntmps52
   go_upto_region 0 with fail
   go_wp2_with fail
   refine hdec.mono ?_
   rintro e w1 ⟨vf, rfl, hfr, hw1⟩
   obtain ⟨vl, vg, vc, rfl, ⟨pl, cl, rfl, _⟩, ⟨pg, cg, rfl, _⟩, ⟨pc, cc, rfl, _⟩⟩ := id (hfr w1 (Since.refl _ _))
   unfold frmV at hfr ⊢
   have HFR := hid hfr
   clear hfr hdec
   rw [ha, hb] at HFR ⊢
   clear ha hb
   have HC1 := hid (HC.out.below hw1)
   generalize hack : f.ack = ak at HFR ⊢
   have HACK := hid hack
   clear hack
   cases ak with
   | true =>
    have HX2 := hid (heap_alloc_new w1 (.cells #[.int .i64 b, .int .i64 a, .int .i64 f.seq, .bool true, .int .i64 f.thread, .int .i64 f.mail.host, .int .i64 f.mail.thread, .slice pl f.mail.label.length cl, .slice pg f.mail.grants.length cg, .string ⟨f.mail.text.toArray⟩, .slice pc f.certs.length cc] 131))
    have HC2 := hid (HC1.out.below (Qd w1 (.cells #[.int .i64 b, .int .i64 a, .int .i64 f.seq, .bool true, .int .i64 f.thread, .int .i64 f.mail.host, .int .i64 f.mail.thread, .slice pl f.mail.label.length cl, .slice pg f.mail.grants.length cg, .string ⟨f.mail.text.toArray⟩, .slice pc f.certs.length cc] 131)))
    have HS2 := hid (CStep.below (cb := cb) (F := F) (Z := Z) (Qc hw1 (Qd w1 (.cells #[.int .i64 b, .int .i64 a, .int .i64 f.seq, .bool true, .int .i64 f.thread, .int .i64 f.mail.host, .int .i64 f.mail.thread, .slice pl f.mail.label.length cl, .slice pg f.mail.grants.length cg, .string ⟨f.mail.text.toArray⟩, .slice pc f.certs.length cc] 131))))
    obtain ⟨e0, e1, e2, e3, e4, e5, e6, e7, e8, e9, e10⟩ := cells11 HX2.out
    have HB12 := hid (Qd w1 (.cells #[.int .i64 b, .int .i64 a, .int .i64 f.seq, .bool true, .int .i64 f.thread, .int .i64 f.mail.host, .int .i64 f.mail.thread, .slice pl f.mail.label.length cl, .slice pg f.mail.grants.length cg, .string ⟨f.mail.text.toArray⟩, .slice pc f.certs.length cc] 131))
    have hlt2 := HC2.out.lt
    have hbl := Qy HX2.out
    have HLN := hid (HC2.out.line (a := a) (b := b) (by assumption) (by assumption))
    obtain ⟨⟨k0, k1, k2, k3, k4, k5, k6, k7, k8, k9, k10⟩, kf⟩ := HC2.out.lcells (a := a) (b := b) (by assumption) (by assumption) rfl rfl rfl
    obtain ⟨pv, cv, hvs⟩ := (HC2.out.snt a b (by assumption) (by assumption)).at.slice
    rw [hvs] at k1
    unfold lneC at HLN
    rw [hvs] at HLN
    go_upto_region 3 with fail
    generalize w1.alloc (.cells #[.int .i64 b, .int .i64 a, .int .i64 f.seq, .bool true, .int .i64 f.thread, .int .i64 f.mail.host, .int .i64 f.mail.thread, .slice pl f.mail.label.length cl, .slice pg f.mail.grants.length cg, .string ⟨f.mail.text.toArray⟩, .slice pc f.certs.length cc] 131) = w2 at *
    refine wp_region_held_drew (S := (fun w' => w'.cell? ⟨w1.heap.size, 0, none⟩ = some (.int .i64 b) ∧ w'.cell? ⟨w1.heap.size, 1, none⟩ = some (.int .i64 a))) (by as_aux_lemma => kernel_rfl) ⟨e0, e1⟩ (fun _hHeld => ?_)
    refine takeF 0 17 ?v1 rfl (Or.inl ⟨by rfl, ?hy1⟩) ?rest1
    case hy1 => intro wz hSw; (try dsimp only at hSw); go_simp; try with_reducible rfl
    simp only [Act.put, List.setIfInBounds_toArray, List.set_cons_zero, List.set_cons_succ]
    refine takeF 1 18 ?v2 rfl (Or.inl ⟨by rfl, ?hy2⟩) ?rest2
    case hy2 => intro wz hSw; (try dsimp only at hSw); go_simp; try with_reducible rfl
    simp only [Act.put, List.setIfInBounds_toArray, List.set_cons_zero, List.set_cons_succ]
    refine takeF 2 19 ?v3 rfl (Or.inl ⟨by rfl, ?hy3⟩) ?rest3
    case hy3 => intro wz hSw; (try dsimp only at hSw); go_simp; try with_reducible rfl
    simp only [Act.put, List.setIfInBounds_toArray, List.set_cons_zero, List.set_cons_succ]
    refine takeF 3 20 ?v4 rfl (Or.inl ⟨by rfl, ?hy4⟩) ?rest4
    case hy4 => intro wz hSw; (try dsimp only at hSw); go_simp; try with_reducible rfl
    simp only [Act.put, List.setIfInBounds_toArray, List.set_cons_zero, List.set_cons_succ]
    refine takeF 4 21 ?v5 rfl (Or.inl ⟨by rfl, ?hy5⟩) ?rest5
    case hy5 => intro wz hSw; (try dsimp only at hSw); go_simp; try with_reducible rfl
    simp only [Act.put, List.setIfInBounds_toArray, List.set_cons_zero, List.set_cons_succ]
    refine takeF 5 22 ?v6 rfl (Or.inl ⟨by rfl, ?hy6⟩) ?rest6
    case hy6 => intro wz hSw; (try dsimp only at hSw); go_simp; try with_reducible rfl
    simp only [Act.put, List.setIfInBounds_toArray, List.set_cons_zero, List.set_cons_succ]
    refine takeF 6 23 ?v7 rfl (Or.inl ⟨by rfl, ?hy7⟩) ?rest7
    case hy7 => intro wz hSw; (try dsimp only at hSw); go_simp; try with_reducible rfl
    simp only [Act.put, List.setIfInBounds_toArray, List.set_cons_zero, List.set_cons_succ]
    refine takeF 7 24 ?v8 rfl (Or.inl ⟨by rfl, ?hy8⟩) ?rest8
    case hy8 => intro wz hSw; (try dsimp only at hSw); go_simp; try with_reducible rfl
    simp only [Act.put, List.setIfInBounds_toArray, List.set_cons_zero, List.set_cons_succ]
    refine takeF 8 25 ?v9 rfl (Or.inl ⟨by rfl, ?hy9⟩) ?rest9
    case hy9 => intro wz hSw; (try dsimp only at hSw); go_simp; try with_reducible rfl
    simp only [Act.put, List.setIfInBounds_toArray, List.set_cons_zero, List.set_cons_succ]
    refine takeF 9 6 ?v10 rfl (Or.inl ⟨by rfl, ?hy10⟩) ?rest10
    case hy10 => intro wz hSw; (try dsimp only at hSw); go_simp; try with_reducible rfl
    simp only [Act.put, List.setIfInBounds_toArray, List.set_cons_zero, List.set_cons_succ]
    refine wpAnyH_done (by as_aux_lemma => kernel_rfl) ?_ _
    go_upto_region 4 with fail
    have hln := fun wx (hb : Below w2.heap.size w2 wx) => Qks _ (C.lines a b) f.seq wx (HLN.out.below hb)
    refine wp_region_held_drew (S := (fun w' => w'.cell? ⟨w1.heap.size, 2, none⟩ = some (.int .i64 f.seq))) (by as_aux_lemma => kernel_rfl) e2 (fun _hHeld => ?_)
    refine takeF 0 27 ?v11 rfl (Or.inl ⟨by rfl, ?hy11⟩) ?rest11
    case hy11 => intro wz hSw; (try dsimp only at hSw); go_simp; try with_reducible rfl
    simp only [Act.put, List.setIfInBounds_toArray, List.set_cons_zero, List.set_cons_succ]
    refine takeF 1 28 ?v12 rfl (Or.inl ⟨by rfl, ?hy12⟩) ?rest12
    case hy12 => intro wz hSw; (try dsimp only at hSw); go_simp; try with_reducible rfl
    simp only [Act.put, List.setIfInBounds_toArray, List.set_cons_zero, List.set_cons_succ]
    refine takeF 2 29 ?v13 rfl (Or.inl ⟨by rfl, ?hy13⟩) ?rest13
    case hy13 => intro wz hSw; (try dsimp only at hSw); go_simp; try with_reducible rfl
    simp only [Act.put, List.setIfInBounds_toArray, List.set_cons_zero, List.set_cons_succ]
    refine takeF 4 31 ?v14 rfl (Or.inl ⟨by rfl, ?hy14⟩) ?rest14
    case hy14 => intro wz hSw; (try dsimp only at hSw); go_simp; try with_reducible rfl
    simp only [Act.put, List.setIfInBounds_toArray, List.set_cons_zero, List.set_cons_succ]
    refine takeF 5 32 ?v15 rfl (Or.inl ⟨by rfl, ?hy15⟩) ?rest15
    case hy15 => intro wz hSw; (try dsimp only at hSw); go_simp; try with_reducible rfl
    simp only [Act.put, List.setIfInBounds_toArray, List.set_cons_zero, List.set_cons_succ]
    refine wpAnyH_ready (rs := [3]) (by as_aux_lemma => kernel_rfl) (by simp) ?_
    refine (AllReadyH.cons rfl (fun K' hK => ?_) AllReadyH.nil)
    go_simp
    refine hK.out _ _ e2 (fun _ => ?_)
    clear hK K'
    refine wpAnyH_ready (rs := [6]) (by as_aux_lemma => kernel_rfl) (by simp) ?_
    refine (AllReadyH.cons rfl (fun K' hK => ?_) AllReadyH.nil)
    go_simp
    go_wp2_with (go_at_call 79; refine (hln _ (Below.refl _ _).drew.drew).mono ?_; rintro e w3 ⟨v3, rfl, hl3, hwd⟩)
    have hw3 : Below w2.heap.size w2 w3 := ⟨hwd.os, hwd.tape, hwd.output, hwd.size, hwd.block⟩
    clear hwd
    have HC3 := hid (HC2.out.below hw3)
    obtain ⟨nx1, st1, hi1, d0, d1, d2, d3, d4, d5, d6, d7, p1, c1, el, ev, hr3⟩ := LneNew.spelled (F := F) hl3 HC2.out.fin
    subst ev
    have HR3 := hid hr3
    have HEL := hid el
    clear hl3 hr3 el
    obtain ⟨⟨m0, m1, m2, m3, m4, m5, m6, m7, m8, m9, m10⟩, mf⟩ := HC3.out.lcells (a := a) (b := b) (by assumption) (by assumption) rfl rfl rfl
    rw [hvs] at m1
    have HX3 := hid (Qe HX2.out hw3)
    have t2 := Qa HX3.out 2
    have g0 := mf (10 + a * 44 + b * 11)
    have g1 := mf (10 + a * 44 + b * 11 + 1)
    have g2 := mf (10 + a * 44 + b * 11 + 2)
    have g3 := mf (10 + a * 44 + b * 11 + 3)
    have g4 := mf (10 + a * 44 + b * 11 + 4)
    have g5 := mf (10 + a * 44 + b * 11 + 5)
    have g6 := mf (10 + a * 44 + b * 11 + 6)
    have g7 := mf (10 + a * 44 + b * 11 + 7)
    have g8 := mf (10 + a * 44 + b * 11 + 8)
    have g9 := mf (10 + a * 44 + b * 11 + 9)
    have g10 := mf (10 + a * 44 + b * 11 + 10)
    have hlt3 : cb < w3.heap.size := HC3.out.lt
    refine hK.out _ _ t2 (fun _ => ?_)
    clear hK K'
    refine takeF 7 26 ?v16 rfl (Or.inl ⟨by rfl, ?hy16⟩) ?rest16
    case hy16 => intro wz hSw; (try dsimp only at hSw); go_simp; try with_reducible rfl
    simp only [Act.put, List.setIfInBounds_toArray, List.set_cons_zero, List.set_cons_succ]
    refine takeF 8 34 ?v17 rfl (Or.inl ⟨by rfl, ?hy17⟩) ?rest17
    case hy17 => intro wz hSw; (try dsimp only at hSw); go_simp; try with_reducible rfl
    simp only [Act.put, List.setIfInBounds_toArray, List.set_cons_zero, List.set_cons_succ]
    refine takeF 9 35 ?v18 rfl (Or.inl ⟨by rfl, ?hy18⟩) ?rest18
    case hy18 => intro wz hSw; (try dsimp only at hSw); go_simp; try with_reducible rfl
    simp only [Act.put, List.setIfInBounds_toArray, List.set_cons_zero, List.set_cons_succ]
    refine takeF 10 36 ?v19 rfl (Or.inl ⟨by rfl, ?hy19⟩) ?rest19
    case hy19 => intro wz hSw; (try dsimp only at hSw); go_simp; try with_reducible rfl
    simp only [Act.put, List.setIfInBounds_toArray, List.set_cons_zero, List.set_cons_succ]
    have hST : CluAt (((((((((((w3.setCell ⟨cb, 10 + a * 44 + b * 11, none⟩ (.int .i64 nx1)).setCell ⟨cb, 10 + a * 44 + b * 11 + 1, none⟩ (.slice p1 st1.length c1)).setCell ⟨cb, 10 + a * 44 + b * 11 + 2, none⟩ (.int .i64 hi1)).setCell ⟨cb, 10 + a * 44 + b * 11 + 3, none⟩ (.bool d0)).setCell ⟨cb, 10 + a * 44 + b * 11 + 4, none⟩ (.bool d1)).setCell ⟨cb, 10 + a * 44 + b * 11 + 5, none⟩ (.bool d2)).setCell ⟨cb, 10 + a * 44 + b * 11 + 6, none⟩ (.bool d3)).setCell ⟨cb, 10 + a * 44 + b * 11 + 7, none⟩ (.bool d4)).setCell ⟨cb, 10 + a * 44 + b * 11 + 8, none⟩ (.bool d5)).setCell ⟨cb, 10 + a * 44 + b * 11 + 9, none⟩ (.bool d6)).setCell ⟨cb, 10 + a * 44 + b * 11 + 10, none⟩ (.bool d7)) cb F { Z with vs := fun a' b' => if a' = a ∧ b' = b then .slice p1 st1.length c1 else Z.vs a' b' } (setLi C a b ⟨nx1, st1, hi1, [d0, d1, d2, d3, d4, d5, d6, d7]⟩) ∧ CStep cb w3 F Z (((((((((((w3.setCell ⟨cb, 10 + a * 44 + b * 11, none⟩ (.int .i64 nx1)).setCell ⟨cb, 10 + a * 44 + b * 11 + 1, none⟩ (.slice p1 st1.length c1)).setCell ⟨cb, 10 + a * 44 + b * 11 + 2, none⟩ (.int .i64 hi1)).setCell ⟨cb, 10 + a * 44 + b * 11 + 3, none⟩ (.bool d0)).setCell ⟨cb, 10 + a * 44 + b * 11 + 4, none⟩ (.bool d1)).setCell ⟨cb, 10 + a * 44 + b * 11 + 5, none⟩ (.bool d2)).setCell ⟨cb, 10 + a * 44 + b * 11 + 6, none⟩ (.bool d3)).setCell ⟨cb, 10 + a * 44 + b * 11 + 7, none⟩ (.bool d4)).setCell ⟨cb, 10 + a * 44 + b * 11 + 8, none⟩ (.bool d5)).setCell ⟨cb, 10 + a * 44 + b * 11 + 9, none⟩ (.bool d6)).setCell ⟨cb, 10 + a * 44 + b * 11 + 10, none⟩ (.bool d7)) F { Z with vs := fun a' b' => if a' = a ∧ b' = b then .slice p1 st1.length c1 else Z.vs a' b' } := HC3.out.setLine (by assumption) (by assumption) (l := ⟨nx1, st1, hi1, [d0, d1, d2, d3, d4, d5, d6, d7]⟩) HR3.out rfl
    have hxx : (((((((((((w3.setCell ⟨cb, 10 + a * 44 + b * 11, none⟩ (.int .i64 nx1)).setCell ⟨cb, 10 + a * 44 + b * 11 + 1, none⟩ (.slice p1 st1.length c1)).setCell ⟨cb, 10 + a * 44 + b * 11 + 2, none⟩ (.int .i64 hi1)).setCell ⟨cb, 10 + a * 44 + b * 11 + 3, none⟩ (.bool d0)).setCell ⟨cb, 10 + a * 44 + b * 11 + 4, none⟩ (.bool d1)).setCell ⟨cb, 10 + a * 44 + b * 11 + 5, none⟩ (.bool d2)).setCell ⟨cb, 10 + a * 44 + b * 11 + 6, none⟩ (.bool d3)).setCell ⟨cb, 10 + a * 44 + b * 11 + 7, none⟩ (.bool d4)).setCell ⟨cb, 10 + a * 44 + b * 11 + 8, none⟩ (.bool d5)).setCell ⟨cb, 10 + a * 44 + b * 11 + 9, none⟩ (.bool d6)).setCell ⟨cb, 10 + a * 44 + b * 11 + 10, none⟩ (.bool d7)).heap[w1.heap.size]? = some (.cells #[.int .i64 b, .int .i64 a, .int .i64 f.seq, .bool true, .int .i64 f.thread, .int .i64 f.mail.host, .int .i64 f.mail.thread, .slice pl f.mail.label.length cl, .slice pg f.mail.grants.length cg, .string ⟨f.mail.text.toArray⟩, .slice pc f.certs.length cc] 131 (0, 0)) := QE hST.2 HC3.out HX3.out (by decide) (by decide) (by decide) (by decide) (by decide) (by decide)
    have HST := hid hST
    have HXX := hid hxx
    clear hST hxx
    have t2b := Qa HXX.out 2
    refine wpAnyH_ready (rs := [11]) (by as_aux_lemma => kernel_rfl) (by simp) ?_
    refine (AllReadyH.cons rfl (fun K' hK => ?_) AllReadyH.nil)
    go_simp
    refine hK.out _ _ t2b (fun _ => ?_)
    clear hK K'
    refine wpAnyH_done (by as_aux_lemma => kernel_rfl) ?_ _
    generalize (((((((((((w3.setCell ⟨cb, 10 + a * 44 + b * 11, none⟩ (.int .i64 nx1)).setCell ⟨cb, 10 + a * 44 + b * 11 + 1, none⟩ (.slice p1 st1.length c1)).setCell ⟨cb, 10 + a * 44 + b * 11 + 2, none⟩ (.int .i64 hi1)).setCell ⟨cb, 10 + a * 44 + b * 11 + 3, none⟩ (.bool d0)).setCell ⟨cb, 10 + a * 44 + b * 11 + 4, none⟩ (.bool d1)).setCell ⟨cb, 10 + a * 44 + b * 11 + 5, none⟩ (.bool d2)).setCell ⟨cb, 10 + a * 44 + b * 11 + 6, none⟩ (.bool d3)).setCell ⟨cb, 10 + a * 44 + b * 11 + 7, none⟩ (.bool d4)).setCell ⟨cb, 10 + a * 44 + b * 11 + 8, none⟩ (.bool d5)).setCell ⟨cb, 10 + a * 44 + b * 11 + 9, none⟩ (.bool d6)).setCell ⟨cb, 10 + a * 44 + b * 11 + 10, none⟩ (.bool d7)) = w4 at *
    generalize { Z with vs := fun a' b' => if a' = a ∧ b' = b then .slice p1 st1.length c1 else Z.vs a' b' } = Z4 at *
    have HE : Hid (comeC C s = setLi C a b ⟨nx1, st1, hi1, [d0, d1, d2, d3, d4, d5, d6, d7]⟩) := hid (by rw [Qjs HDS.out HACK.out, HAB.out.1, HAB.out.2, ← HEL.out]; rfl)
    clear k0 k1 k2 k3 k4 k5 k6 k7 k8 k9 k10 kf m0 m1 m2 m3 m4 m5 m6 m7 m8 m9 m10 mf g0 g1 g2 g3 g4 g5 g6 g7 g8 g9 g10 hlt3 HR3 HX3 HC3 HLN hln t2 t2b
    go_wp2
    rw [HE.out]
    exact bodyPost_ret (results_none rfl _ _ _) rfl ⟨rfl, _, _, HST.out.1, HS2.out.trans ((CStep.below hw3).trans HST.out.2)⟩
   | false =>
    have HX2 := hid (heap_alloc_new w1 (.cells #[.int .i64 b, .int .i64 a, .int .i64 f.seq, .bool false, .int .i64 f.thread, .int .i64 f.mail.host, .int .i64 f.mail.thread, .slice pl f.mail.label.length cl, .slice pg f.mail.grants.length cg, .string ⟨f.mail.text.toArray⟩, .slice pc f.certs.length cc] 131))
    have HC2 := hid (HC1.out.below (Qd w1 (.cells #[.int .i64 b, .int .i64 a, .int .i64 f.seq, .bool false, .int .i64 f.thread, .int .i64 f.mail.host, .int .i64 f.mail.thread, .slice pl f.mail.label.length cl, .slice pg f.mail.grants.length cg, .string ⟨f.mail.text.toArray⟩, .slice pc f.certs.length cc] 131)))
    have HS2 := hid (CStep.below (cb := cb) (F := F) (Z := Z) (Qc hw1 (Qd w1 (.cells #[.int .i64 b, .int .i64 a, .int .i64 f.seq, .bool false, .int .i64 f.thread, .int .i64 f.mail.host, .int .i64 f.mail.thread, .slice pl f.mail.label.length cl, .slice pg f.mail.grants.length cg, .string ⟨f.mail.text.toArray⟩, .slice pc f.certs.length cc] 131))))
    obtain ⟨e0, e1, e2, e3, e4, e5, e6, e7, e8, e9, e10⟩ := cells11 HX2.out
    have HB12 := hid (Qd w1 (.cells #[.int .i64 b, .int .i64 a, .int .i64 f.seq, .bool false, .int .i64 f.thread, .int .i64 f.mail.host, .int .i64 f.mail.thread, .slice pl f.mail.label.length cl, .slice pg f.mail.grants.length cg, .string ⟨f.mail.text.toArray⟩, .slice pc f.certs.length cc] 131))
    have hlt2 := HC2.out.lt
    have hbl := Qy HX2.out
    have HLN := hid (HC2.out.line (a := b) (b := a) (by assumption) (by assumption))
    obtain ⟨⟨k0, k1, k2, k3, k4, k5, k6, k7, k8, k9, k10⟩, kf⟩ := HC2.out.lcells (a := b) (b := a) (by assumption) (by assumption) rfl rfl rfl
    obtain ⟨pv, cv, hvs⟩ := (HC2.out.snt b a (by assumption) (by assumption)).at.slice
    rw [hvs] at k1
    unfold lneC at HLN
    rw [hvs] at HLN
    go_upto_region 5 with fail
    generalize w1.alloc (.cells #[.int .i64 b, .int .i64 a, .int .i64 f.seq, .bool false, .int .i64 f.thread, .int .i64 f.mail.host, .int .i64 f.mail.thread, .slice pl f.mail.label.length cl, .slice pg f.mail.grants.length cg, .string ⟨f.mail.text.toArray⟩, .slice pc f.certs.length cc] 131) = w2 at *
    refine wp_region_held_drew (S := (fun w' => w'.cell? ⟨w1.heap.size, 0, none⟩ = some (.int .i64 b) ∧ w'.cell? ⟨w1.heap.size, 1, none⟩ = some (.int .i64 a))) (by as_aux_lemma => kernel_rfl) ⟨e0, e1⟩ (fun _hHeld => ?_)
    refine takeF 0 37 ?v20 rfl (Or.inl ⟨by rfl, ?hy20⟩) ?rest20
    case hy20 => intro wz hSw; (try dsimp only at hSw); go_simp; try with_reducible rfl
    simp only [Act.put, List.setIfInBounds_toArray, List.set_cons_zero, List.set_cons_succ]
    refine takeF 1 38 ?v21 rfl (Or.inl ⟨by rfl, ?hy21⟩) ?rest21
    case hy21 => intro wz hSw; (try dsimp only at hSw); go_simp; try with_reducible rfl
    simp only [Act.put, List.setIfInBounds_toArray, List.set_cons_zero, List.set_cons_succ]
    refine takeF 2 39 ?v22 rfl (Or.inl ⟨by rfl, ?hy22⟩) ?rest22
    case hy22 => intro wz hSw; (try dsimp only at hSw); go_simp; try with_reducible rfl
    simp only [Act.put, List.setIfInBounds_toArray, List.set_cons_zero, List.set_cons_succ]
    refine takeF 3 40 ?v23 rfl (Or.inl ⟨by rfl, ?hy23⟩) ?rest23
    case hy23 => intro wz hSw; (try dsimp only at hSw); go_simp; try with_reducible rfl
    simp only [Act.put, List.setIfInBounds_toArray, List.set_cons_zero, List.set_cons_succ]
    refine takeF 4 41 ?v24 rfl (Or.inl ⟨by rfl, ?hy24⟩) ?rest24
    case hy24 => intro wz hSw; (try dsimp only at hSw); go_simp; try with_reducible rfl
    simp only [Act.put, List.setIfInBounds_toArray, List.set_cons_zero, List.set_cons_succ]
    refine takeF 5 42 ?v25 rfl (Or.inl ⟨by rfl, ?hy25⟩) ?rest25
    case hy25 => intro wz hSw; (try dsimp only at hSw); go_simp; try with_reducible rfl
    simp only [Act.put, List.setIfInBounds_toArray, List.set_cons_zero, List.set_cons_succ]
    refine takeF 6 43 ?v26 rfl (Or.inl ⟨by rfl, ?hy26⟩) ?rest26
    case hy26 => intro wz hSw; (try dsimp only at hSw); go_simp; try with_reducible rfl
    simp only [Act.put, List.setIfInBounds_toArray, List.set_cons_zero, List.set_cons_succ]
    refine takeF 7 44 ?v27 rfl (Or.inl ⟨by rfl, ?hy27⟩) ?rest27
    case hy27 => intro wz hSw; (try dsimp only at hSw); go_simp; try with_reducible rfl
    simp only [Act.put, List.setIfInBounds_toArray, List.set_cons_zero, List.set_cons_succ]
    refine takeF 8 45 ?v28 rfl (Or.inl ⟨by rfl, ?hy28⟩) ?rest28
    case hy28 => intro wz hSw; (try dsimp only at hSw); go_simp; try with_reducible rfl
    simp only [Act.put, List.setIfInBounds_toArray, List.set_cons_zero, List.set_cons_succ]
    refine takeF 9 7 ?v29 rfl (Or.inl ⟨by rfl, ?hy29⟩) ?rest29
    case hy29 => intro wz hSw; (try dsimp only at hSw); go_simp; try with_reducible rfl
    simp only [Act.put, List.setIfInBounds_toArray, List.set_cons_zero, List.set_cons_succ]
    refine wpAnyH_done (by as_aux_lemma => kernel_rfl) ?_ _
    go_upto_region 6 with fail
    have hln := fun wx (hb : Below w2.heap.size w2 wx) => QiW _ (C.lines b a) f.seq wx (HLN.out.below hb)
    refine wp_region_held_drew (S := (fun w' => w'.cell? ⟨w1.heap.size, 2, none⟩ = some (.int .i64 f.seq))) (by as_aux_lemma => kernel_rfl) e2 (fun _hHeld => ?_)
    refine takeF 0 47 ?v30 rfl (Or.inl ⟨by rfl, ?hy30⟩) ?rest30
    case hy30 => intro wz hSw; (try dsimp only at hSw); go_simp; try with_reducible rfl
    simp only [Act.put, List.setIfInBounds_toArray, List.set_cons_zero, List.set_cons_succ]
    refine takeF 1 48 ?v31 rfl (Or.inl ⟨by rfl, ?hy31⟩) ?rest31
    case hy31 => intro wz hSw; (try dsimp only at hSw); go_simp; try with_reducible rfl
    simp only [Act.put, List.setIfInBounds_toArray, List.set_cons_zero, List.set_cons_succ]
    refine takeF 2 49 ?v32 rfl (Or.inl ⟨by rfl, ?hy32⟩) ?rest32
    case hy32 => intro wz hSw; (try dsimp only at hSw); go_simp; try with_reducible rfl
    simp only [Act.put, List.setIfInBounds_toArray, List.set_cons_zero, List.set_cons_succ]
    refine takeF 4 51 ?v33 rfl (Or.inl ⟨by rfl, ?hy33⟩) ?rest33
    case hy33 => intro wz hSw; (try dsimp only at hSw); go_simp; try with_reducible rfl
    simp only [Act.put, List.setIfInBounds_toArray, List.set_cons_zero, List.set_cons_succ]
    refine takeF 5 52 ?v34 rfl (Or.inl ⟨by rfl, ?hy34⟩) ?rest34
    case hy34 => intro wz hSw; (try dsimp only at hSw); go_simp; try with_reducible rfl
    simp only [Act.put, List.setIfInBounds_toArray, List.set_cons_zero, List.set_cons_succ]
    refine wpAnyH_ready (rs := [3]) (by as_aux_lemma => kernel_rfl) (by simp) ?_
    refine (AllReadyH.cons rfl (fun K' hK => ?_) AllReadyH.nil)
    go_simp
    refine hK.out _ _ e2 (fun _ => ?_)
    clear hK K'
    refine wpAnyH_ready (rs := [6]) (by as_aux_lemma => kernel_rfl) (by simp) ?_
    refine (AllReadyH.cons rfl (fun K' hK => ?_) AllReadyH.nil)
    go_simp
    go_wp2_with (go_at_call 80; refine (hln _ (Below.refl _ _).drew.drew).mono ?_; rintro e w3 ⟨v3, rfl, hl3, hwd⟩)
    have hw3 : Below w2.heap.size w2 w3 := ⟨hwd.os, hwd.tape, hwd.output, hwd.size, hwd.block⟩
    clear hwd
    have HC3 := hid (HC2.out.below hw3)
    obtain ⟨nx1, st1, hi1, d0, d1, d2, d3, d4, d5, d6, d7, p1, c1, el, ev, hr3⟩ := LneNew.spelled (F := F) hl3 HC2.out.fin
    subst ev
    have HR3 := hid hr3
    have HEL := hid el
    clear hl3 hr3 el
    obtain ⟨⟨m0, m1, m2, m3, m4, m5, m6, m7, m8, m9, m10⟩, mf⟩ := HC3.out.lcells (a := b) (b := a) (by assumption) (by assumption) rfl rfl rfl
    rw [hvs] at m1
    have HX3 := hid (Qe HX2.out hw3)
    have t2 := Qa HX3.out 2
    have g0 := mf (10 + b * 44 + a * 11)
    have g1 := mf (10 + b * 44 + a * 11 + 1)
    have g2 := mf (10 + b * 44 + a * 11 + 2)
    have g3 := mf (10 + b * 44 + a * 11 + 3)
    have g4 := mf (10 + b * 44 + a * 11 + 4)
    have g5 := mf (10 + b * 44 + a * 11 + 5)
    have g6 := mf (10 + b * 44 + a * 11 + 6)
    have g7 := mf (10 + b * 44 + a * 11 + 7)
    have g8 := mf (10 + b * 44 + a * 11 + 8)
    have g9 := mf (10 + b * 44 + a * 11 + 9)
    have g10 := mf (10 + b * 44 + a * 11 + 10)
    have hlt3 : cb < w3.heap.size := HC3.out.lt
    refine hK.out _ _ t2 (fun _ => ?_)
    clear hK K'
    refine takeF 7 46 ?v35 rfl (Or.inl ⟨by rfl, ?hy35⟩) ?rest35
    case hy35 => intro wz hSw; (try dsimp only at hSw); go_simp; try with_reducible rfl
    simp only [Act.put, List.setIfInBounds_toArray, List.set_cons_zero, List.set_cons_succ]
    refine takeF 8 54 ?v36 rfl (Or.inl ⟨by rfl, ?hy36⟩) ?rest36
    case hy36 => intro wz hSw; (try dsimp only at hSw); go_simp; try with_reducible rfl
    simp only [Act.put, List.setIfInBounds_toArray, List.set_cons_zero, List.set_cons_succ]
    refine takeF 9 55 ?v37 rfl (Or.inl ⟨by rfl, ?hy37⟩) ?rest37
    case hy37 => intro wz hSw; (try dsimp only at hSw); go_simp; try with_reducible rfl
    simp only [Act.put, List.setIfInBounds_toArray, List.set_cons_zero, List.set_cons_succ]
    refine takeF 10 56 ?v38 rfl (Or.inl ⟨by rfl, ?hy38⟩) ?rest38
    case hy38 => intro wz hSw; (try dsimp only at hSw); go_simp; try with_reducible rfl
    simp only [Act.put, List.setIfInBounds_toArray, List.set_cons_zero, List.set_cons_succ]
    have hST : CluAt (((((((((((w3.setCell ⟨cb, 10 + b * 44 + a * 11, none⟩ (.int .i64 nx1)).setCell ⟨cb, 10 + b * 44 + a * 11 + 1, none⟩ (.slice p1 st1.length c1)).setCell ⟨cb, 10 + b * 44 + a * 11 + 2, none⟩ (.int .i64 hi1)).setCell ⟨cb, 10 + b * 44 + a * 11 + 3, none⟩ (.bool d0)).setCell ⟨cb, 10 + b * 44 + a * 11 + 4, none⟩ (.bool d1)).setCell ⟨cb, 10 + b * 44 + a * 11 + 5, none⟩ (.bool d2)).setCell ⟨cb, 10 + b * 44 + a * 11 + 6, none⟩ (.bool d3)).setCell ⟨cb, 10 + b * 44 + a * 11 + 7, none⟩ (.bool d4)).setCell ⟨cb, 10 + b * 44 + a * 11 + 8, none⟩ (.bool d5)).setCell ⟨cb, 10 + b * 44 + a * 11 + 9, none⟩ (.bool d6)).setCell ⟨cb, 10 + b * 44 + a * 11 + 10, none⟩ (.bool d7)) cb F { Z with vs := fun a' b' => if a' = b ∧ b' = a then .slice p1 st1.length c1 else Z.vs a' b' } (setLi C b a ⟨nx1, st1, hi1, [d0, d1, d2, d3, d4, d5, d6, d7]⟩) ∧ CStep cb w3 F Z (((((((((((w3.setCell ⟨cb, 10 + b * 44 + a * 11, none⟩ (.int .i64 nx1)).setCell ⟨cb, 10 + b * 44 + a * 11 + 1, none⟩ (.slice p1 st1.length c1)).setCell ⟨cb, 10 + b * 44 + a * 11 + 2, none⟩ (.int .i64 hi1)).setCell ⟨cb, 10 + b * 44 + a * 11 + 3, none⟩ (.bool d0)).setCell ⟨cb, 10 + b * 44 + a * 11 + 4, none⟩ (.bool d1)).setCell ⟨cb, 10 + b * 44 + a * 11 + 5, none⟩ (.bool d2)).setCell ⟨cb, 10 + b * 44 + a * 11 + 6, none⟩ (.bool d3)).setCell ⟨cb, 10 + b * 44 + a * 11 + 7, none⟩ (.bool d4)).setCell ⟨cb, 10 + b * 44 + a * 11 + 8, none⟩ (.bool d5)).setCell ⟨cb, 10 + b * 44 + a * 11 + 9, none⟩ (.bool d6)).setCell ⟨cb, 10 + b * 44 + a * 11 + 10, none⟩ (.bool d7)) F { Z with vs := fun a' b' => if a' = b ∧ b' = a then .slice p1 st1.length c1 else Z.vs a' b' } := HC3.out.setLine (by assumption) (by assumption) (l := ⟨nx1, st1, hi1, [d0, d1, d2, d3, d4, d5, d6, d7]⟩) HR3.out rfl
    have hxx : (((((((((((w3.setCell ⟨cb, 10 + b * 44 + a * 11, none⟩ (.int .i64 nx1)).setCell ⟨cb, 10 + b * 44 + a * 11 + 1, none⟩ (.slice p1 st1.length c1)).setCell ⟨cb, 10 + b * 44 + a * 11 + 2, none⟩ (.int .i64 hi1)).setCell ⟨cb, 10 + b * 44 + a * 11 + 3, none⟩ (.bool d0)).setCell ⟨cb, 10 + b * 44 + a * 11 + 4, none⟩ (.bool d1)).setCell ⟨cb, 10 + b * 44 + a * 11 + 5, none⟩ (.bool d2)).setCell ⟨cb, 10 + b * 44 + a * 11 + 6, none⟩ (.bool d3)).setCell ⟨cb, 10 + b * 44 + a * 11 + 7, none⟩ (.bool d4)).setCell ⟨cb, 10 + b * 44 + a * 11 + 8, none⟩ (.bool d5)).setCell ⟨cb, 10 + b * 44 + a * 11 + 9, none⟩ (.bool d6)).setCell ⟨cb, 10 + b * 44 + a * 11 + 10, none⟩ (.bool d7)).heap[w1.heap.size]? = some (.cells #[.int .i64 b, .int .i64 a, .int .i64 f.seq, .bool false, .int .i64 f.thread, .int .i64 f.mail.host, .int .i64 f.mail.thread, .slice pl f.mail.label.length cl, .slice pg f.mail.grants.length cg, .string ⟨f.mail.text.toArray⟩, .slice pc f.certs.length cc] 131 (0, 0)) := QE hST.2 HC3.out HX3.out (by decide) (by decide) (by decide) (by decide) (by decide) (by decide)
    have HST := hid hST
    have HXX := hid hxx
    clear hST hxx
    have t2b := Qa HXX.out 2
    refine wpAnyH_ready (rs := [11]) (by as_aux_lemma => kernel_rfl) (by simp) ?_
    refine (AllReadyH.cons rfl (fun K' hK => ?_) AllReadyH.nil)
    go_simp
    refine hK.out _ _ t2b (fun _ => ?_)
    clear hK K'
    refine takeF 12 5 ?v39 rfl (Or.inl ⟨by rfl, ?hy39⟩) ?rest39
    case hy39 => intro wz hSw; (try dsimp only at hSw); go_simp; try with_reducible rfl
    simp only [Act.put, List.setIfInBounds_toArray, List.set_cons_zero, List.set_cons_succ]
    refine wpAnyH_done (by as_aux_lemma => kernel_rfl) ?_ _
    generalize (((((((((((w3.setCell ⟨cb, 10 + b * 44 + a * 11, none⟩ (.int .i64 nx1)).setCell ⟨cb, 10 + b * 44 + a * 11 + 1, none⟩ (.slice p1 st1.length c1)).setCell ⟨cb, 10 + b * 44 + a * 11 + 2, none⟩ (.int .i64 hi1)).setCell ⟨cb, 10 + b * 44 + a * 11 + 3, none⟩ (.bool d0)).setCell ⟨cb, 10 + b * 44 + a * 11 + 4, none⟩ (.bool d1)).setCell ⟨cb, 10 + b * 44 + a * 11 + 5, none⟩ (.bool d2)).setCell ⟨cb, 10 + b * 44 + a * 11 + 6, none⟩ (.bool d3)).setCell ⟨cb, 10 + b * 44 + a * 11 + 7, none⟩ (.bool d4)).setCell ⟨cb, 10 + b * 44 + a * 11 + 8, none⟩ (.bool d5)).setCell ⟨cb, 10 + b * 44 + a * 11 + 9, none⟩ (.bool d6)).setCell ⟨cb, 10 + b * 44 + a * 11 + 10, none⟩ (.bool d7)) = w4 at *
    generalize { Z with vs := fun a' b' => if a' = b ∧ b' = a then .slice p1 st1.length c1 else Z.vs a' b' } = Z4 at *
    obtain ⟨tl, te, hTK⟩ : ∃ tl te, takeLn (C.lines b a) f.seq = (tl, te) := ⟨_, _, rfl⟩
    have HTL : Hid (takeLn (lineC C f.fr f.to) f.seq = (⟨nx1, st1, hi1, [d0, d1, d2, d3, d4, d5, d6, d7]⟩, te)) := hid (by rw [HAB.out.1, HAB.out.2]; have e := HEL.out; rw [hTK] at e; simp only at e; rw [← e]; exact hTK)
    rw [hTK]
    simp only
    clear k0 k1 k2 k3 k4 k5 k6 k7 k8 k9 k10 kf m0 m1 m2 m3 m4 m5 m6 m7 m8 m9 m10 mf g0 g1 g2 g3 g4 g5 g6 g7 g8 g9 g10 hlt3 HR3 HX3 HC3 HLN hln t2 t2b hTK HEL
    obtain ⟨y0, y1, y2, y3, y4, y5, y6, y7, y8, y9, y10⟩ := cells11 HXX.out
    have HAK : Hid (FrmAt w4 (.agg #[.int .i64 a, .int .i64 b, .int .i64 f.seq, .bool true, .int .i64 0, .int .i64 0, .int .i64 0, .slice none 0 0, .slice none 0 0, .string ⟨#[]⟩, .slice none 0 0]) (⟨a, b, f.seq, true, 0, zeroMal, []⟩ : Frm)) := hid ⟨.slice none 0 0, .slice none 0 0, .slice none 0 0, rfl, LabAt.nil _ _ _ (fun _ => rfl), IntsAt.nil _ _ _ (fun _ => rfl), CrtsAt.nil _ _ _ (fun _ => rfl)⟩
    have HG4 : Hid (GoodC (setLi C b a ⟨nx1, st1, hi1, [d0, d1, d2, d3, d4, d5, d6, d7]⟩)) := hid (Qaj HG.out _ _ _)
    have hput := Qdv cb F Z4 (setLi C b a ⟨nx1, st1, hi1, [d0, d1, d2, d3, d4, d5, d6, d7]⟩) _ (⟨a, b, f.seq, true, 0, zeroMal, []⟩ : Frm) w4 HST.out.1 HG4.out.net HAK.out
    have HS24 := hid (HS2.out.trans ((CStep.below hw3).trans HST.out.2))
    have HSI4 : Hid (Since w.heap.size w1 w4) := hid ((QW (Qc HB12.out hw3)).trans (HST.out.2.since (HC2.out.below hw3) HC.out.fin) (Qc HB12.out hw3).size)
    have HSZ4 : Hid (w1.heap.size ≤ w4.heap.size) := hid (Nat.le_trans (Qc HB12.out hw3).size HST.out.2.kept.size)
    by_cases h0 : te = 0
    · subst h0
      have HE : Hid (comeC C s = acceptC (putC (setLi C b a ⟨nx1, st1, hi1, [d0, d1, d2, d3, d4, d5, d6, d7]⟩) (⟨a, b, f.seq, true, 0, zeroMal, []⟩ : Frm)) f) := hid (by rw [QkN HDS.out HACK.out HTL.out, HAB.out.1, HAB.out.2])
      have HG5 := hid (QbS HG4.out (⟨a, b, f.seq, true, 0, zeroMal, []⟩ : Frm))
      generalize setLi C b a ⟨nx1, st1, hi1, [d0, d1, d2, d3, d4, d5, d6, d7]⟩ = C4 at *
      go_wp2_with (first | (go_at_call 81; refine hput.mono ?_; rintro e w5 ⟨rfl, G5, Z5, hC5, hS5⟩; have HC5 := hid hC5; have HS5 := hid hS5; have HX5 := hid (QE hS5 HST.out.1 HXX.out (by decide) (by decide) (by decide) (by decide) (by decide) (by decide)); obtain ⟨z0, z1, z2, z3, z4, z5, z6, z7, z8, z9, z10⟩ := cells11 HX5.out; clear hC5 hS5 hput) | fail)
      refine (Qgx cb G5 Z5 _ _ f w5 HC5.out HG5.out (fun w'' hk => HFR.out w'' (QgY HSI4.out HSZ4.out (HS5.out.keptF HST.out.1) HS5.out.more HC.out.fin hk)) HH2.out).mono ?_
      rintro e w6 ⟨rfl, G6, Z6, hC6, hS6⟩
      have HC6 := hid hC6
      have HS6 := hid hS6
      clear hC6 hS6
      go_wp2
      rw [HE.out]
      exact bodyPost_end (results_none rfl _ _ _) rfl ⟨rfl, _, _, HC6.out, HS24.out.trans (HS5.out.trans HS6.out)⟩
    · by_cases h10 : te = 10
      · subst h10
        have HE : Hid (comeC C s = putC (setLi C b a ⟨nx1, st1, hi1, [d0, d1, d2, d3, d4, d5, d6, d7]⟩) (⟨a, b, f.seq, true, 0, zeroMal, []⟩ : Frm)) := hid (by rw [Qge HDS.out HACK.out HTL.out, HAB.out.1, HAB.out.2])
        go_wp2_with (first | (go_at_call 81; refine hput.mono ?_; rintro e w5 ⟨rfl, G5, Z5, hC5, hS5⟩; have HC5 := hid hC5; have HS5 := hid hS5; clear hC5 hS5 hput) | fail)
        rw [HE.out]
        exact bodyPost_end (results_none rfl _ _ _) rfl ⟨rfl, _, _, HC5.out, HS24.out.trans HS5.out⟩
      · have HE : Hid (comeC C s = setLi C b a ⟨nx1, st1, hi1, [d0, d1, d2, d3, d4, d5, d6, d7]⟩) := hid (by rw [Qjq HDS.out HACK.out HTL.out h0 h10, HAB.out.1, HAB.out.2])
        have he0 : (te == 0) = false := by simpa using h0
        have he1 : (te == 10) = false := by simpa using h10
        clear h0 h10
        go_wp2
        rw [HE.out]
        exact bodyPost_end (results_none rfl _ _ _) rfl ⟨rfl, _, _, HST.out.1, HS24.out⟩
theorem QjZ (l : List (List UInt8)) (j : Nat) (hj : j < l.length) : (strs l)[j]? = some (.string ⟨(l.getD j []).toArray⟩) := by
 unfold strs strV
 rw [List.getElem?_map, List.getElem?_eq_getElem hj, List.getD_eq_getElem?_getD, List.getElem?_eq_getElem hj]
 rfl
theorem Qfp (l : List (List UInt8)) (i : Nat) : (strs l).take i ++ (strs l).drop (i + 1) = strs (l.take i ++ l.drop (i + 1)) := by
 unfold strs
 rw [List.map_append, List.map_take, List.map_drop]
theorem QiT {C : Clu} {k n : Int} (h : ¬ (0 ≤ n ∧ n < (C.net.length : Int))) : moveC C k n = (C, code 4) := by
 unfold moveC
 rw [if_neg h]
theorem Qkc {C : Clu} {k : Int} {i : Nat} (h : i < C.net.length) : moveC C k i = ((if k = 4 then (if k = 3 then C else { C with net := C.net.take i ++ C.net.drop (i + 1) }) else comeC (if k = 3 then C else { C with net := C.net.take i ++ C.net.drop (i + 1) }) (C.net.getD i [])), ⟨0, ((C.net.getD i []).length : Int), []⟩) := by
 unfold moveC
 rw [if_pos (by omega)]
 simp only [Int.toNat_natCast]
set_option maxRecDepth 100000 in
set_option maxHeartbeats 3200000 in
theorem Qjt (cb : Nat) (k n : Int) (F : List Nat) (Z : CluV) (C : Clu) (w : World) (hc : CluAt w cb F Z C) (hg : GoodC C) (hk : k = 2 ∨ k = 3 ∨ k = 4) :
 Calls Tryz.prog 36 #[.pointer (some ⟨cb, 0, none⟩), .int .i64 k, .int .i64 n] w fun e w' => e = .returned (.agg #[.int .i64 (moveC C k n).2.code, .int .i64 (moveC C k n).2.n, .string ⟨(moveC C k n).2.text.toArray⟩]) ∧ ∃ G Z', CluAt w' cb G Z' (moveC C k n).1 ∧ CStep cb w F Z w' G Z' := by
 obtain ⟨pn, cn, hvn⟩ := QaJ hc.net
 have k186 := hc.cnet.1
 rw [hvn] at k186
 have hlt := hc.lt
 have HC0 := hid (hc.reserve (.cells #[.int .i64 0, .int .i64 0, .string ⟨#[]⟩] 43))
 have HS0 := hid (CStep.reserve cb w F Z (.cells #[.int .i64 0, .int .i64 0, .string ⟨#[]⟩] 43))
 have HM0 : Hid (w.heap.size ∈ F ++ [w.heap.size]) := hid (by simp)
 have HC := hid hc
 have HG := hid hg
 have HVN := hid hvn
 clear hc hg hvn
 by_cases h1 : 0 ≤ n ∧ n < (C.net.length : Int)
 rotate_left
 · simp only [QiT h1]
   by_cases h2 : n < 0
   · clear h1
     go_enter Tryz.func36, Tryz.ntmps36
     go_wp2_with (go_at_call 34; refine (Q3 4 _).mono ?_; rintro e w1 ⟨rfl, hw1⟩; have HB1 := hid hw1; obtain ⟨b0, b1, b2, b3, b4, b5⟩ := cells3 (Qe (Q8 w) hw1); clear hw1)
     obtain ⟨e1, e2, e3⟩ := QG 4 0 [] (Qe (Q8 w) HB1.out) HM0.out (Nat.le_refl _) (HC0.out.below HB1.out) (HS0.out.trans (CStep.below HB1.out))
     exact bodyPost_ret (results_cell_row rfl _ _ w.heap.size 43 _ (0, 0) _ rfl e1 Tryz.underlying43 rfl (by kernel_rfl)) rfl ⟨rfl, _, _, e2, e3⟩
   · have h3 : (C.net.length : Int) ≤ n := by omega
     clear h1
     go_enter Tryz.func36, Tryz.ntmps36
     go_wp2_with (go_at_call 34; refine (Q3 4 _).mono ?_; rintro e w1 ⟨rfl, hw1⟩; have HB1 := hid hw1; obtain ⟨b0, b1, b2, b3, b4, b5⟩ := cells3 (Qe (Q8 w) hw1); clear hw1)
     obtain ⟨e1, e2, e3⟩ := QG 4 0 [] (Qe (Q8 w) HB1.out) HM0.out (Nat.le_refl _) (HC0.out.below HB1.out) (HS0.out.trans (CStep.below HB1.out))
     exact bodyPost_ret (results_cell_row rfl _ _ w.heap.size 43 _ (0, 0) _ rfl e1 Tryz.underlying43 rfl (by kernel_rfl)) rfl ⟨rfl, _, _, e2, e3⟩
 · obtain ⟨i, rfl⟩ : ∃ i : Nat, n = i := ⟨n.toNat, by omega⟩
   have hi : i < C.net.length := by omega
   simp only [Qkc hi]
   have HN := hid HC.out.net
   rw [HVN.out] at HN
   obtain ⟨g, hpn⟩ : ∃ g, pn = some ⟨g, 0, none⟩ := by
    rcases HN.out.2 with ⟨h, h0⟩ | ⟨g, cap, cur, h, _⟩
    · omega
    · injection h with h _ _; exact ⟨g, h⟩
   subst hpn
   have xi : w.cell? ⟨g, i, none⟩ = some (.string ⟨(C.net.getD i []).toArray⟩) := by
    have := World.ownsRow.cells HN.out (g := g) rfl i _ (QjZ C.net i hi)
    rwa [WideShapes.add_plain, Nat.zero_add] at this
   have hgl := Qf xi
   obtain ⟨m, hm⟩ : ∃ m, C.net.length = m + 1 := ⟨C.net.length - 1, by omega⟩
   have hm60 : m ≤ 1000 := by have := HG.out.net; omega
   have I0 : (0 : Int) ≤ i := by omega
   have I1 : (i : Int) < (C.net.length : Int) := by omega
   have I2 : ¬ ((i : Int) < 0) := by omega
   have I3 : ¬ ((C.net.length : Int) ≤ i) := by omega
   generalize C.net.getD i [] = s at *
   have hwi : IntKind.i64.wrap ((i : Int) + 1) = (i : Int) + 1 := Go.wrap_small _ (by omega) (by omega)
   have HLN : Hid ((C.net.take i ++ C.net.drop (i + 1)).length = m) := hid (by rw [List.length_append, List.length_take, List.length_drop]; omega)
   rcases hk with rfl | rfl | rfl
   · simp only [if_neg (show ¬ ((2 : Int) = 4) by decide), if_neg (show ¬ ((2 : Int) = 3) by decide)]
     have hdel := Qc5 g m cn i (strs C.net) (w.alloc (.cells #[.int .i64 0, .int .i64 0, .string ⟨#[]⟩] 43)) (by rw [← hm]; exact Ql HN.out (Qd w _)) hm60 (by omega) (Qdo C.net)
     rw [← hm, Qfp] at hdel
     rw [← HLN.out] at hdel
     have HCD : Hid (GoodC { C with net := C.net.take i ++ C.net.drop (i + 1) }) := hid ⟨HG.out.ks, HG.out.now, HG.out.acts, by show (C.net.take i ++ C.net.drop (i + 1)).length ≤ 60; rw [HLN.out]; have := HG.out.net; omega⟩
     clear HLN hm
     generalize C.net.take i ++ C.net.drop (i + 1) = net' at *
     obtain ⟨A0, hA0, hB0⟩ := HC0.out.box
     have HA0 := hid hA0
     have HB0 := hid hB0.net
     have hgc : cb ≠ g := fun e => QA (Ql HN.out (Qd w (.cells #[.int .i64 0, .int .i64 0, .string ⟨#[]⟩] 43))) hA0 (by decide) (by rw [e]; rfl)
     clear hA0 hB0
     go_enter Tryz.func36, Tryz.ntmps36
     go_wp2_with (first
      | (go_at_call 51; refine hdel.mono ?_; rintro e w1 ⟨rfl, hown, hgr⟩; have hA1 := Qj HA0.out hgc hgr; have d186 := (Qa hA1 186).trans HB0.out; rw [HVN.out] at d186; have q186 := Qb hA1 186; have hSN := HC0.out.setNet (by rw [HVN.out]; exact hgr) hown (by rw [HVN.out]; exact fun k hk => .inl hk); have HSN := hid hSN; have HX1 := hid (QE hSN.2 HC0.out (Q8 w) (by decide) (by decide) (by decide) (by decide) (by decide) (by decide)); clear hSN hA1 hdel)
      | (go_at_call 52; refine (QeO cb _ _ _ s _ HSN.out.1 HCD.out).mono ?_; rintro e w2 ⟨rfl, G2, Z2, hC2, hS2⟩; have HX2 := hid (QE hS2 HSN.out.1 HX1.out (by decide) (by decide) (by decide) (by decide) (by decide) (by decide)); have HC2 := hid hC2; have HS2 := hid hS2; obtain ⟨b0, b1, b2, b3, b4, b5⟩ := cells3 HX2.out; clear hC2 hS2))
     obtain ⟨e1, e2, e3⟩ := QG 0 s.length [] HX2.out (HS2.out.more.1 _ (HSN.out.2.more.1 _ HM0.out)) (Nat.le_refl _) HC2.out (HS0.out.trans (HSN.out.2.trans HS2.out))
     exact bodyPost_ret (results_cell_row rfl _ _ w.heap.size 43 _ (0, 0) _ rfl e1 Tryz.underlying43 rfl (by kernel_rfl)) rfl ⟨rfl, _, _, e2, e3⟩
   · simp only [if_neg (show ¬ ((3 : Int) = 4) by decide), if_pos]
     go_enter Tryz.func36, Tryz.ntmps36
     go_wp2_with (first
      | (go_at_call 52; refine (QeO cb _ _ _ s _ HC0.out HG.out).mono ?_; rintro e w2 ⟨rfl, G2, Z2, hC2, hS2⟩; have HX2 := hid (QE hS2 HC0.out (Q8 w) (by decide) (by decide) (by decide) (by decide) (by decide) (by decide)); have HC2 := hid hC2; have HS2 := hid hS2; obtain ⟨b0, b1, b2, b3, b4, b5⟩ := cells3 HX2.out; clear hC2 hS2)
      | fail)
     obtain ⟨e1, e2, e3⟩ := QG 0 s.length [] HX2.out (HS2.out.more.1 _ HM0.out) (Nat.le_refl _) HC2.out (HS0.out.trans HS2.out)
     exact bodyPost_ret (results_cell_row rfl _ _ w.heap.size 43 _ (0, 0) _ rfl e1 Tryz.underlying43 rfl (by kernel_rfl)) rfl ⟨rfl, _, _, e2, e3⟩
   · simp only [if_neg (show ¬ ((4 : Int) = 3) by decide), if_pos]
     have hdel := Qc5 g m cn i (strs C.net) (w.alloc (.cells #[.int .i64 0, .int .i64 0, .string ⟨#[]⟩] 43)) (by rw [← hm]; exact Ql HN.out (Qd w _)) hm60 (by omega) (Qdo C.net)
     rw [← hm, Qfp] at hdel
     rw [← HLN.out] at hdel
     have HCD : Hid (GoodC { C with net := C.net.take i ++ C.net.drop (i + 1) }) := hid ⟨HG.out.ks, HG.out.now, HG.out.acts, by show (C.net.take i ++ C.net.drop (i + 1)).length ≤ 60; rw [HLN.out]; have := HG.out.net; omega⟩
     clear HLN hm
     generalize C.net.take i ++ C.net.drop (i + 1) = net' at *
     obtain ⟨A0, hA0, hB0⟩ := HC0.out.box
     have HA0 := hid hA0
     have HB0 := hid hB0.net
     have hgc : cb ≠ g := fun e => QA (Ql HN.out (Qd w (.cells #[.int .i64 0, .int .i64 0, .string ⟨#[]⟩] 43))) hA0 (by decide) (by rw [e]; rfl)
     clear hA0 hB0
     go_enter Tryz.func36, Tryz.ntmps36
     go_wp2_with (first
      | (go_at_call 51; refine hdel.mono ?_; rintro e w1 ⟨rfl, hown, hgr⟩; have hA1 := Qj HA0.out hgc hgr; have d186 := (Qa hA1 186).trans HB0.out; rw [HVN.out] at d186; have q186 := Qb hA1 186; have hSN := HC0.out.setNet (by rw [HVN.out]; exact hgr) hown (by rw [HVN.out]; exact fun k hk => .inl hk); have HSN := hid hSN; have HX1 := hid (QE hSN.2 HC0.out (Q8 w) (by decide) (by decide) (by decide) (by decide) (by decide) (by decide)); obtain ⟨b0, b1, b2, b3, b4, b5⟩ := cells3 HX1.out; clear hSN hA1 hdel)
      | fail)
     obtain ⟨e1, e2, e3⟩ := QG 0 s.length [] HX1.out (HSN.out.2.more.1 _ HM0.out) (Nat.le_refl _) HSN.out.1 (HS0.out.trans HSN.out.2)
     exact bodyPost_ret (results_cell_row rfl _ _ w.heap.size 43 _ (0, 0) _ rfl e1 Tryz.underlying43 rfl (by kernel_rfl)) rfl ⟨rfl, _, _, e2, e3⟩
def acV (a : Ac) (vl vg : Value) : Value := .agg #[.int .i64 a.kind, .int .i64 a.h, .int .i64 a.t, .int .i64 a.n, .int .i64 a.call.kind, .int .i64 a.call.h, .int .i64 a.call.t, .int .i64 a.call.n, .int .i64 a.call.c, vl, vg, .string ⟨a.call.text.toArray⟩]
def AcAt (w : World) (v : Value) (a : Ac) : Prop := ∃ vl vg, v = acV a vl vg ∧ LabAt w vl a.call.label ∧ IntsAt w vg a.call.grants
theorem AcAt.below {w wr : World} {v : Value} {a : Ac} (h : AcAt w v a) (hb : Below w.heap.size w wr) : AcAt wr v a := by
 obtain ⟨vl, vg, e, h1, h2⟩ := h
 exact ⟨vl, vg, e, h1.below hb, h2.below hb⟩
def AcRo (w : World) (F : List Nat) (v : Value) (a : Ac) : Prop := ∃ vl vg, v = acV a vl vg ∧ RoLab w F vl a.call.label ∧ RoInts w F vg a.call.grants
theorem AcRo.at {w : World} {F : List Nat} {v : Value} {a : Ac} (h : AcRo w F v a) : AcAt w v a := by
 obtain ⟨vl, vg, e, h1, h2⟩ := h
 exact ⟨vl, vg, e, h1.1, h2.1⟩
theorem CluAt.setActs1 {w : World} {cb : Nat} {F : List Nat} {Z : CluV} {C : Clu} (h : CluAt w cb F Z C) : CluAt (w.setCell ⟨cb, 1, none⟩ (.int .i64 ((C.acts : Int) + 1))) cb F Z { C with acts := C.acts + 1 } ∧ CStep cb w F Z (w.setCell ⟨cb, 1, none⟩ (.int .i64 ((C.acts : Int) + 1))) F Z := by
 have h1 := h.setActs (C.acts + 1)
 rw [show (((C.acts + 1 : Nat)) : Int) = (C.acts : Int) + 1 by omega] at h1
 exact h1
theorem CluAt.cacts {w : World} {cb : Nat} {F : List Nat} {Z : CluV} {C : Clu} (h : CluAt w cb F Z C) : w.cell? ⟨cb, 1, none⟩ = some (.int .i64 C.acts) ∧ w.frozen? ⟨cb, 1, none⟩ = false := by
 obtain ⟨A, hA, hB⟩ := h.box
 exact ⟨(Qa hA 1).trans hB.acts, Qb hA _⟩
theorem QkK {C : Clu} {a : Ac} (h : C.acts < 300) (k : a.kind = 1) : doC C a = callC { C with acts := C.acts + 1 } a.h a.t a.call := by
 unfold doC
 rw [if_neg (by omega), if_pos k]
theorem QkH {C : Clu} {a : Ac} (h : C.acts < 300) (k : a.kind = 2 ∨ a.kind = 3 ∨ a.kind = 4) : doC C a = moveC { C with acts := C.acts + 1 } a.kind a.n := by
 unfold doC
 rw [if_neg (by omega), if_neg (by omega), if_pos k]
theorem QkG {C : Clu} {a : Ac} (h : C.acts < 300) (k : a.kind = 5) : doC C a = tickC { C with acts := C.acts + 1 } a.n := by
 unfold doC
 rw [if_neg (by omega), if_neg (by omega), if_neg (by omega), if_pos k]
theorem QkI {C : Clu} {a : Ac} (h : C.acts < 300) (k1 : a.kind ≠ 1) (k2 : ¬ (a.kind = 2 ∨ a.kind = 3 ∨ a.kind = 4)) (k5 : a.kind ≠ 5) : doC C a = ({ C with acts := C.acts + 1 }, code 3) := by
 unfold doC
 rw [if_neg (by omega), if_neg k1, if_neg k2, if_neg k5]
set_option maxRecDepth 100000 in
set_option maxHeartbeats 6400000 in
theorem Qdm (cb : Nat) (F : List Nat) (Z : CluV) (C : Clu) (va : Value) (a : Ac) (w : World) (hc : CluAt w cb F Z C) (hg : GoodC C) (hv : AcRo w F va a) :
 Calls Tryz.prog 15 #[.pointer (some ⟨cb, 0, none⟩), va] w fun e w' => e = .returned (.agg #[.int .i64 (doC C a).2.code, .int .i64 (doC C a).2.n, .string ⟨(doC C a).2.text.toArray⟩]) ∧ ∃ G Z', CluAt w' cb G Z' (doC C a).1 ∧ CStep cb w F Z w' G Z' := by
 have HV := hid hv
 obtain ⟨vl, vg, rfl, ⟨⟨pl, cl, rfl, _⟩, _⟩, ⟨⟨pg, cg, rfl, _⟩, _⟩⟩ := hv
 unfold acV at HV ⊢
 have hlt := hc.lt
 obtain ⟨k1, f1⟩ := hc.cacts
 have hact := hg.acts
 have hneq : cb ≠ w.heap.size := by omega
 by_cases h300 : 300 ≤ C.acts
 · have HP := hid (QkJ C a h300)
   have h3 : (300 : Int) ≤ (C.acts : Int) := by omega
   have hbb := Qd w (.cells #[.int .i64 a.kind, .int .i64 a.h, .int .i64 a.t, .int .i64 a.n, .int .i64 a.call.kind, .int .i64 a.call.h, .int .i64 a.call.t, .int .i64 a.call.n, .int .i64 a.call.c, .slice pl a.call.label.length cl, .slice pg a.call.grants.length cg, .string ⟨a.call.text.toArray⟩] 32)
   have HC1 := hid ((hc.below hbb).reserve (.cells #[.int .i64 0, .int .i64 0, .string ⟨#[]⟩] 43))
   have HS1 := hid ((CStep.below (cb := cb) (F := F) (Z := Z) hbb).trans (CStep.reserve cb _ F Z (.cells #[.int .i64 0, .int .i64 0, .string ⟨#[]⟩] 43)))
   rw [QP] at HC1 HS1
   have HXR := hid (heap_alloc2_new w (.cells #[.int .i64 a.kind, .int .i64 a.h, .int .i64 a.t, .int .i64 a.n, .int .i64 a.call.kind, .int .i64 a.call.h, .int .i64 a.call.t, .int .i64 a.call.n, .int .i64 a.call.c, .slice pl a.call.label.length cl, .slice pg a.call.grants.length cg, .string ⟨a.call.text.toArray⟩] 32) (.cells #[.int .i64 0, .int .i64 0, .string ⟨#[]⟩] 43))
   have HM0 : Hid (w.heap.size + 1 ∈ F ++ [w.heap.size + 1]) := hid (by simp)
   clear hc hg hbb h300
   go_enter Tryz.func15, Tryz.ntmps15
   go_wp2_with (go_at_call 34; refine (Q3 _ _).mono ?_; rintro e w9 ⟨rfl, hw9⟩; have HB9 := hid hw9; have HX9 := hid (Qe HXR.out hw9); obtain ⟨b0, b1, b2, b3, b4, b5⟩ := cells3 HX9.out; clear hw9)
   obtain ⟨e1, e2, e3⟩ := QG 5 0 [] HX9.out HM0.out (Nat.le_succ _) (HC1.out.below HB9.out) (HS1.out.trans (CStep.below HB9.out))
   rw [HP.out]
   exact bodyPost_ret (results_cell_row rfl _ _ (w.heap.size + 1) 43 _ (0, 0) _ rfl e1 Tryz.underlying43 rfl (by kernel_rfl)) rfl ⟨rfl, _, _, e2, e3⟩
 · have h300' : C.acts < 300 := by omega
   have h3 : ¬ ((300 : Int) ≤ (C.acts : Int)) := by omega
   have hwr : IntKind.i64.wrap ((C.acts : Int) + 1) = (C.acts : Int) + 1 := Go.wrap_small _ (by omega) (by omega)
   have hSA := hc.setActs1
   have hbb := Qd (w.setCell ⟨cb, 1, none⟩ (.int .i64 ((C.acts : Int) + 1))) (.cells #[.int .i64 a.kind, .int .i64 a.h, .int .i64 a.t, .int .i64 a.n, .int .i64 a.call.kind, .int .i64 a.call.h, .int .i64 a.call.t, .int .i64 a.call.n, .int .i64 a.call.c, .slice pl a.call.label.length cl, .slice pg a.call.grants.length cg, .string ⟨a.call.text.toArray⟩] 32)
   have hSZ : (w.setCell ⟨cb, 1, none⟩ (.int .i64 ((C.acts : Int) + 1))).heap.size = w.heap.size := World.size_setCell _ _ _
   have HC1 := hid ((hSA.1.below hbb).reserve (.cells #[.int .i64 0, .int .i64 0, .string ⟨#[]⟩] 43))
   have HS1 := hid (hSA.2.trans ((CStep.below (cb := cb) (F := F) (Z := Z) hbb).trans (CStep.reserve cb _ F Z (.cells #[.int .i64 0, .int .i64 0, .string ⟨#[]⟩] 43))))
   rw [QP, hSZ] at HC1 HS1
   have HXR := hid (heap_alloc2_new (w.setCell ⟨cb, 1, none⟩ (.int .i64 ((C.acts : Int) + 1))) (.cells #[.int .i64 a.kind, .int .i64 a.h, .int .i64 a.t, .int .i64 a.n, .int .i64 a.call.kind, .int .i64 a.call.h, .int .i64 a.call.t, .int .i64 a.call.n, .int .i64 a.call.c, .slice pl a.call.label.length cl, .slice pg a.call.grants.length cg, .string ⟨a.call.text.toArray⟩] 32) (.cells #[.int .i64 0, .int .i64 0, .string ⟨#[]⟩] 43))
   rw [hSZ] at HXR
   have HKP : Hid (KeptF F w (((w.setCell ⟨cb, 1, none⟩ (.int .i64 ((C.acts : Int) + 1))).alloc (.cells #[.int .i64 a.kind, .int .i64 a.h, .int .i64 a.t, .int .i64 a.n, .int .i64 a.call.kind, .int .i64 a.call.h, .int .i64 a.call.t, .int .i64 a.call.n, .int .i64 a.call.c, .slice pl a.call.label.length cl, .slice pg a.call.grants.length cg, .string ⟨a.call.text.toArray⟩] 32)).alloc (.cells #[.int .i64 0, .int .i64 0, .string ⟨#[]⟩] 43))) := hid (HS1.out.keptF hc)
   have HVA : Hid (LabAt (((w.setCell ⟨cb, 1, none⟩ (.int .i64 ((C.acts : Int) + 1))).alloc (.cells #[.int .i64 a.kind, .int .i64 a.h, .int .i64 a.t, .int .i64 a.n, .int .i64 a.call.kind, .int .i64 a.call.h, .int .i64 a.call.t, .int .i64 a.call.n, .int .i64 a.call.c, .slice pl a.call.label.length cl, .slice pg a.call.grants.length cg, .string ⟨a.call.text.toArray⟩] 32)).alloc (.cells #[.int .i64 0, .int .i64 0, .string ⟨#[]⟩] 43)) (.slice pl a.call.label.length cl) a.call.label ∧ IntsAt (((w.setCell ⟨cb, 1, none⟩ (.int .i64 ((C.acts : Int) + 1))).alloc (.cells #[.int .i64 a.kind, .int .i64 a.h, .int .i64 a.t, .int .i64 a.n, .int .i64 a.call.kind, .int .i64 a.call.h, .int .i64 a.call.t, .int .i64 a.call.n, .int .i64 a.call.c, .slice pl a.call.label.length cl, .slice pg a.call.grants.length cg, .string ⟨a.call.text.toArray⟩] 32)).alloc (.cells #[.int .i64 0, .int .i64 0, .string ⟨#[]⟩] 43)) (.slice pg a.call.grants.length cg) a.call.grants) := hid (by
    obtain ⟨vl', vg', e, h1, h2⟩ := HV.out
    unfold acV at e
    injection e with e
    simp only [Array.mk.injEq, List.cons.injEq, true_and, and_true] at e
    obtain ⟨rfl, rfl⟩ := e
    exact ⟨(h1.keep HKP.out (More.refl _ _)).1, (h2.keep HKP.out (More.refl _ _)).1⟩)
   have HM0 : Hid (w.heap.size + 1 ∈ F ++ [w.heap.size + 1]) := hid (by simp)
   have HLE : Hid (w.heap.size ≤ w.heap.size + 1) := hid (Nat.le_succ _)
   have HG1 : Hid (GoodC { C with acts := C.acts + 1 }) := hid ⟨hg.ks, hg.now, by show C.acts + 1 ≤ 300; omega, hg.net⟩
   clear hc hg hbb hSA h300 HV
   by_cases q1 : a.kind = 1
   · have HP := hid (QkK (a := a) h300' q1)
     have e1' : (a.kind == 1) = true := by simpa using q1
     have hcall := Qjx cb a.h a.t _ Z { C with acts := C.acts + 1 } _ a.call (((w.setCell ⟨cb, 1, none⟩ (.int .i64 ((C.acts : Int) + 1))).alloc (.cells #[.int .i64 a.kind, .int .i64 a.h, .int .i64 a.t, .int .i64 a.n, .int .i64 a.call.kind, .int .i64 a.call.h, .int .i64 a.call.t, .int .i64 a.call.n, .int .i64 a.call.c, .slice pl a.call.label.length cl, .slice pg a.call.grants.length cg, .string ⟨a.call.text.toArray⟩] 32)).alloc (.cells #[.int .i64 0, .int .i64 0, .string ⟨#[]⟩] 43)) HC1.out HG1.out ⟨_, _, rfl, HVA.out.1, HVA.out.2⟩
     unfold calV at hcall
     generalize callC { C with acts := C.acts + 1 } a.h a.t a.call = SC at *
     clear q1
     go_enter Tryz.func15, Tryz.ntmps15
     go_wp2_with (go_at_call 35; refine hcall.mono ?_; rintro e w5 ⟨rfl, G5, Z5, hC5, hS5⟩; have HC5 := hid hC5; have HS5 := hid hS5; have HX5 := hid (QE hS5 HC1.out HXR.out (by decide) (by decide) (by decide) (by decide) (by decide) (by decide)); obtain ⟨b0, b1, b2, b3, b4, b5⟩ := cells3 HX5.out; clear hC5 hS5 hcall)
     obtain ⟨e1, e2, e3⟩ := QG SC.2.code SC.2.n SC.2.text HX5.out (HS5.out.more.1 _ HM0.out) HLE.out HC5.out (HS1.out.trans HS5.out)
     rw [HP.out]
     exact bodyPost_ret (results_cell_row rfl _ _ (w.heap.size + 1) 43 _ (0, 0) _ rfl e1 Tryz.underlying43 rfl (by kernel_rfl)) rfl ⟨rfl, _, _, e2, e3⟩
   · have e1' : (a.kind == 1) = false := by simpa using q1
     by_cases q2 : a.kind = 2 ∨ a.kind = 3 ∨ a.kind = 4
     · have HP := hid (QkH (a := a) h300' q2)
       have hmv := Qjt cb a.kind a.n _ Z { C with acts := C.acts + 1 } (((w.setCell ⟨cb, 1, none⟩ (.int .i64 ((C.acts : Int) + 1))).alloc (.cells #[.int .i64 a.kind, .int .i64 a.h, .int .i64 a.t, .int .i64 a.n, .int .i64 a.call.kind, .int .i64 a.call.h, .int .i64 a.call.t, .int .i64 a.call.n, .int .i64 a.call.c, .slice pl a.call.label.length cl, .slice pg a.call.grants.length cg, .string ⟨a.call.text.toArray⟩] 32)).alloc (.cells #[.int .i64 0, .int .i64 0, .string ⟨#[]⟩] 43)) HC1.out HG1.out q2
       generalize moveC { C with acts := C.acts + 1 } a.kind a.n = SC at *
       rcases q2 with q2 | q2 | q2
       · have e2' : (a.kind == 2) = true := by simpa using q2
         clear q1 q2
         go_enter Tryz.func15, Tryz.ntmps15
         go_wp2_with (go_at_call 36; refine hmv.mono ?_; rintro e w5 ⟨rfl, G5, Z5, hC5, hS5⟩; have HC5 := hid hC5; have HS5 := hid hS5; have HX5 := hid (QE hS5 HC1.out HXR.out (by decide) (by decide) (by decide) (by decide) (by decide) (by decide)); obtain ⟨b0, b1, b2, b3, b4, b5⟩ := cells3 HX5.out; clear hC5 hS5 hmv)
         obtain ⟨e1, e2, e3⟩ := QG SC.2.code SC.2.n SC.2.text HX5.out (HS5.out.more.1 _ HM0.out) HLE.out HC5.out (HS1.out.trans HS5.out)
         rw [HP.out]
         exact bodyPost_ret (results_cell_row rfl _ _ (w.heap.size + 1) 43 _ (0, 0) _ rfl e1 Tryz.underlying43 rfl (by kernel_rfl)) rfl ⟨rfl, _, _, e2, e3⟩
       · have e2' : (a.kind == 2) = false := by simp [q2]
         have e3' : (a.kind == 3) = true := by simpa using q2
         clear q1 q2
         go_enter Tryz.func15, Tryz.ntmps15
         go_wp2_with (go_at_call 36; refine hmv.mono ?_; rintro e w5 ⟨rfl, G5, Z5, hC5, hS5⟩; have HC5 := hid hC5; have HS5 := hid hS5; have HX5 := hid (QE hS5 HC1.out HXR.out (by decide) (by decide) (by decide) (by decide) (by decide) (by decide)); obtain ⟨b0, b1, b2, b3, b4, b5⟩ := cells3 HX5.out; clear hC5 hS5 hmv)
         obtain ⟨e1, e2, e3⟩ := QG SC.2.code SC.2.n SC.2.text HX5.out (HS5.out.more.1 _ HM0.out) HLE.out HC5.out (HS1.out.trans HS5.out)
         rw [HP.out]
         exact bodyPost_ret (results_cell_row rfl _ _ (w.heap.size + 1) 43 _ (0, 0) _ rfl e1 Tryz.underlying43 rfl (by kernel_rfl)) rfl ⟨rfl, _, _, e2, e3⟩
       · have e2' : (a.kind == 2) = false := by simp [q2]
         have e3' : (a.kind == 3) = false := by simp [q2]
         have e4' : (a.kind == 4) = true := by simpa using q2
         clear q1 q2
         go_enter Tryz.func15, Tryz.ntmps15
         go_wp2_with (go_at_call 36; refine hmv.mono ?_; rintro e w5 ⟨rfl, G5, Z5, hC5, hS5⟩; have HC5 := hid hC5; have HS5 := hid hS5; have HX5 := hid (QE hS5 HC1.out HXR.out (by decide) (by decide) (by decide) (by decide) (by decide) (by decide)); obtain ⟨b0, b1, b2, b3, b4, b5⟩ := cells3 HX5.out; clear hC5 hS5 hmv)
         obtain ⟨e1, e2, e3⟩ := QG SC.2.code SC.2.n SC.2.text HX5.out (HS5.out.more.1 _ HM0.out) HLE.out HC5.out (HS1.out.trans HS5.out)
         rw [HP.out]
         exact bodyPost_ret (results_cell_row rfl _ _ (w.heap.size + 1) 43 _ (0, 0) _ rfl e1 Tryz.underlying43 rfl (by kernel_rfl)) rfl ⟨rfl, _, _, e2, e3⟩
     · have e2' : (a.kind == 2) = false := by simp; omega
       have e3' : (a.kind == 3) = false := by simp; omega
       have e4' : (a.kind == 4) = false := by simp; omega
       by_cases q5 : a.kind = 5
       · have HP := hid (QkG (a := a) h300' q5)
         have e5' : (a.kind == 5) = true := by simpa using q5
         have htk := Qjm cb a.n _ Z { C with acts := C.acts + 1 } (((w.setCell ⟨cb, 1, none⟩ (.int .i64 ((C.acts : Int) + 1))).alloc (.cells #[.int .i64 a.kind, .int .i64 a.h, .int .i64 a.t, .int .i64 a.n, .int .i64 a.call.kind, .int .i64 a.call.h, .int .i64 a.call.t, .int .i64 a.call.n, .int .i64 a.call.c, .slice pl a.call.label.length cl, .slice pg a.call.grants.length cg, .string ⟨a.call.text.toArray⟩] 32)).alloc (.cells #[.int .i64 0, .int .i64 0, .string ⟨#[]⟩] 43)) HC1.out HG1.out
         generalize tickC { C with acts := C.acts + 1 } a.n = SC at *
         clear q1 q2 q5
         go_enter Tryz.func15, Tryz.ntmps15
         go_wp2_with (go_at_call 37; refine htk.mono ?_; rintro e w5 ⟨rfl, G5, Z5, hC5, hS5⟩; have HC5 := hid hC5; have HS5 := hid hS5; have HX5 := hid (QE hS5 HC1.out HXR.out (by decide) (by decide) (by decide) (by decide) (by decide) (by decide)); obtain ⟨b0, b1, b2, b3, b4, b5⟩ := cells3 HX5.out; clear hC5 hS5 htk)
         obtain ⟨e1, e2, e3⟩ := QG SC.2.code SC.2.n SC.2.text HX5.out (HS5.out.more.1 _ HM0.out) HLE.out HC5.out (HS1.out.trans HS5.out)
         rw [HP.out]
         exact bodyPost_ret (results_cell_row rfl _ _ (w.heap.size + 1) 43 _ (0, 0) _ rfl e1 Tryz.underlying43 rfl (by kernel_rfl)) rfl ⟨rfl, _, _, e2, e3⟩
       · have HP := hid (QkI (a := a) h300' q1 q2 q5)
         have e5' : (a.kind == 5) = false := by simpa using q5
         clear q1 q2 q5
         go_enter Tryz.func15, Tryz.ntmps15
         go_wp2_with (go_at_call 34; refine (Q3 _ _).mono ?_; rintro e w9 ⟨rfl, hw9⟩; have HB9 := hid hw9; have HX9 := hid (Qe HXR.out hw9); obtain ⟨b0, b1, b2, b3, b4, b5⟩ := cells3 HX9.out; clear hw9)
         obtain ⟨e1, e2, e3⟩ := QG 3 0 [] HX9.out HM0.out (Nat.le_succ _) (HC1.out.below HB9.out) (HS1.out.trans (CStep.below HB9.out))
         rw [HP.out]
         exact bodyPost_ret (results_cell_row rfl _ _ (w.heap.size + 1) 43 _ (0, 0) _ rfl e1 Tryz.underlying43 rfl (by kernel_rfl)) rfl ⟨rfl, _, _, e2, e3⟩
structure AcV where
 a : Ac
 vl : Value
 vg : Value
def AcV.cells (x : AcV) : List Value := [.int .i64 x.a.kind, .int .i64 x.a.h, .int .i64 x.a.t, .int .i64 x.a.n, .int .i64 x.a.call.kind, .int .i64 x.a.call.h, .int .i64 x.a.call.t, .int .i64 x.a.call.n, .int .i64 x.a.call.c, x.vl, x.vg, .string ⟨x.a.call.text.toArray⟩]
structure AcV.Ok (w : World) (x : AcV) : Prop where
 lab : LabAt w x.vl x.a.call.label
 nums : IntsAt w x.vg x.a.call.grants
theorem AcV.Ok.below {w wr : World} {x : AcV} (h : x.Ok w) (hb : Below w.heap.size w wr) : x.Ok wr := ⟨h.lab.below hb, h.nums.below hb⟩
def flatA (q : List AcV) : List Value := q.flatMap AcV.cells
theorem Qa1 (x : AcV) (q : List AcV) : flatA (x :: q) = x.cells ++ flatA q := rfl
theorem Qjd (q : List AcV) : (flatA q).length = q.length * 12 := by
 induction q with
 | nil => rfl
 | cons x r ih =>
  rw [Qa1, List.length_append, ih, List.length_cons]
  show 12 + r.length * 12 = _
  omega
theorem QcS : ∀ (q : List AcV) (j : Nat) (hj : j < q.length) (i : Nat) (_ : i < 12), (flatA q)[j * 12 + i]? = (q[j]).cells[i]?
 | x :: r, 0, _, i, hi => by
  rw [Qa1, List.getElem?_append_left (by show _ < 12; omega)]
  simp
 | x :: r, j + 1, hj, i, hi => by
  rw [Qa1, List.getElem?_append_right (by show 12 ≤ _; omega), show (j + 1) * 12 + i - x.cells.length = j * 12 + i by show (j + 1) * 12 + i - 12 = _; omega, QcS r j (by simpa using hj) i hi]
  simp
theorem QhC (q : List AcV) (k : Nat) : flatA (q.take k) = (flatA q).take (k * 12) := by
 induction q generalizing k with
 | nil => simp [flatA]
 | cons x r ih =>
  cases k with
  | zero => simp [flatA]
  | succ k =>
   rw [List.take_succ_cons, Qa1, Qa1, ih, show (k + 1) * 12 = x.cells.length + k * 12 by show _ = 12 + k * 12; omega, List.take_length_add_append]
def AcsAt (w : World) (v : Value) (l : List Ac) : Prop := ∃ q : List AcV, q.map (·.a) = l ∧ (∀ x ∈ q, x.Ok w) ∧ ∃ p cap, v = .slice p q.length cap ∧ (q.length ≤ cap ∧ (p = none → cap = 0)) ∧ (0 < q.length → ∃ b o, p = some ⟨b, o, none⟩ ∧ ∀ j u, (flatA q)[j]? = some u → w.cell? ⟨b, o + j, none⟩ = some u)
theorem AcsAt.below {w wr : World} {v : Value} {l : List Ac} (h : AcsAt w v l) (hb : Below w.heap.size w wr) : AcsAt wr v l := by
 obtain ⟨q, h1, h2, p, cap, h3, h4, h5⟩ := h
 refine ⟨q, h1, fun x hx => (h2 x hx).below hb, p, cap, h3, h4, fun h0 => ?_⟩
 obtain ⟨b, o, h6, h7⟩ := h5 h0
 exact ⟨b, o, h6, fun j u hu => by rw [hb.cell (Qf (h7 j u hu)), h7 j u hu]⟩
theorem AcsAt.slice {w : World} {v : Value} {l : List Ac} (h : AcsAt w v l) : ∃ p cap, v = .slice p l.length cap ∧ l.length ≤ cap ∧ (p = none → cap = 0) := by
 obtain ⟨q, rfl, _, p, cap, rfl, h4, _⟩ := h
 exact ⟨p, cap, by simp, by simpa using h4.1, h4.2⟩
theorem AcsAt.take {w : World} {p : Option Addr} {n cap : Nat} {l : List Ac} (h : AcsAt w (.slice p n cap) l) (k : Nat) (hk : k ≤ l.length) : AcsAt w (.slice p k cap) (l.take k) := by
 obtain ⟨q, rfl, h2, p', cap', e, h4, h5⟩ := h
 injection e with e1 e2 e3
 subst e1 e3
 have hkq : k ≤ q.length := by simpa using hk
 refine ⟨q.take k, by rw [List.map_take], fun x hx => h2 x (List.mem_of_mem_take hx), p, cap, by rw [List.length_take, Nat.min_eq_left hkq], ⟨by rw [List.length_take]; omega, h4.2⟩, fun h0 => ?_⟩
 rw [List.length_take] at h0
 obtain ⟨b, o, h6, h7⟩ := h5 (by omega)
 refine ⟨b, o, h6, fun j u hu => h7 j u ?_⟩
 rw [QhC, List.getElem?_take] at hu
 split at hu
 · exact hu
 · cases hu
theorem AcsAt.get {w : World} {p : Option Addr} {n cap : Nat} {l : List Ac} (h : AcsAt w (.slice p n cap) l) (j : Nat) (hj : j < l.length) :
 ∃ b o pl cl pg cg, p = some ⟨b, o, none⟩ ∧ LabAt w (.slice pl (l[j]).call.label.length cl) (l[j]).call.label ∧ IntsAt w (.slice pg (l[j]).call.grants.length cg) (l[j]).call.grants ∧
  w.cell? ⟨b, o + j * 12, none⟩ = some (.int .i64 (l[j]).kind) ∧ w.cell? ⟨b, o + j * 12 + 1, none⟩ = some (.int .i64 (l[j]).h) ∧ w.cell? ⟨b, o + j * 12 + 2, none⟩ = some (.int .i64 (l[j]).t) ∧ w.cell? ⟨b, o + j * 12 + 3, none⟩ = some (.int .i64 (l[j]).n) ∧ w.cell? ⟨b, o + j * 12 + 4, none⟩ = some (.int .i64 (l[j]).call.kind) ∧ w.cell? ⟨b, o + j * 12 + 5, none⟩ = some (.int .i64 (l[j]).call.h) ∧ w.cell? ⟨b, o + j * 12 + 6, none⟩ = some (.int .i64 (l[j]).call.t) ∧ w.cell? ⟨b, o + j * 12 + 7, none⟩ = some (.int .i64 (l[j]).call.n) ∧ w.cell? ⟨b, o + j * 12 + 8, none⟩ = some (.int .i64 (l[j]).call.c) ∧ w.cell? ⟨b, o + j * 12 + 9, none⟩ = some (.slice pl (l[j]).call.label.length cl) ∧ w.cell? ⟨b, o + j * 12 + 10, none⟩ = some (.slice pg (l[j]).call.grants.length cg) ∧ w.cell? ⟨b, o + j * 12 + 11, none⟩ = some (.string ⟨(l[j]).call.text.toArray⟩) := by
 obtain ⟨q, rfl, hok, p', cap', e, _, h4⟩ := h
 cases e
 have hjq : j < q.length := by simpa using hj
 obtain ⟨b, o, rfl, hc⟩ := h4 (by omega)
 have ho := hok _ (List.getElem_mem hjq)
 have g : ∀ i, i < 12 → ∀ u, (q[j]).cells[i]? = some u → w.cell? ⟨b, o + j * 12 + i, none⟩ = some u := fun i hi u hu => by
  rw [Nat.add_assoc]
  exact hc _ _ (by rw [QcS q j hjq i hi, hu])
 have e : (q.map (·.a))[j] = (q[j]).a := by simp
 rw [e]
 generalize q[j] = x at *
 obtain ⟨f, vl, vg⟩ := x
 obtain ⟨h1, h2⟩ := ho
 simp only at h1 h2 ⊢
 obtain ⟨pl, cl, rfl, _⟩ := id h1
 obtain ⟨pg, cg, rfl, _⟩ := id h2
 exact ⟨b, o, pl, cl, pg, cg, rfl, h1, h2, g 0 (by omega) _ rfl, g 1 (by omega) _ rfl, g 2 (by omega) _ rfl, g 3 (by omega) _ rfl, g 4 (by omega) _ rfl, g 5 (by omega) _ rfl, g 6 (by omega) _ rfl, g 7 (by omega) _ rfl, g 8 (by omega) _ rfl, g 9 (by omega) _ rfl, g 10 (by omega) _ rfl, g 11 (by omega) _ rfl⟩
set_option maxRecDepth 100000 in
set_option maxHeartbeats 400000 in
theorem Qgf (a : Addr) (n cap : Nat) (xs : List Value) (w : World) (hl : xs.length = n * 1) (hn : n ≤ 1000) (hc : ∀ j u, xs[j]? = some u → w.cell? (a.add j) = some u) (h1 : ∀ u ∈ xs, u.oneCell' = true) :
 Calls Tryz.prog 44 #[.slice (some a) n cap] w fun e w' => ∃ v', e = .returned v' ∧ w'.ownsRow w.heap.size 9 1 v' n xs ∧ Below w.heap.size w w' := by
 obtain ⟨i0, hi, hz0, hz1, hz2⟩ := info_parts QcK
 have q : ∀ (wx : World) (p : Option Addr) (n c n' c' : Nat), (binOp .eql 69 (.slice p n c) (.slice none n' c')).run Tryz.prog wx = .ok (.bool p.isNone) wx := fun wx p n c n' c' => Lib.run_eql_slice_nil wx _ _ p n c n' c' Tryz.underlying69
 have HC := hid hc
 clear hc
 go_enter Tryz.func44, Tryz.ntmps44
 go_wp2_with (at_builtin; refine wpList_append_own _ rfl _ _ 69 rfl w.heap.size 9 i0 _ 1 16 Tryz.underlying69 hi hz0 hz1 hz2 rfl (by decide) _ 0 [] rfl (QdR w _ _ _ (Nat.le_refl _)) a n cap xs rfl hl (fun j u hu => by have := HC.out j u hu; rw [(Qd w _).cell (Qf this), this]) h1 (by unfold maxLen; omega) (by omega) (by simp) ?_; intro v6 w6 hown6 hgrow6 hnil6)
 have hb6 : Below w.heap.size w w6 := (Qd w (.cells #[] 9)).grown hgrow6 (by simp) (fun k hk => by cases hk; exact Nat.le_refl _)
 clear hgrow6 hnil6
 rw [Nat.zero_add, List.nil_append] at hown6
 go_ret
 exact ⟨v6, rfl, hown6, hb6⟩
theorem Qgg (n cap : Nat) (w : World) : Calls Tryz.prog 44 #[.slice none n cap] w fun e w' => e = .returned (.slice none 0 0) ∧ w' = w := by
 have q : ∀ (wx : World) (p : Option Addr) (n c n' c' : Nat), (binOp .eql 69 (.slice p n c) (.slice none n' c')).run Tryz.prog wx = .ok (.bool p.isNone) wx := fun wx p n c n' c' => Lib.run_eql_slice_nil wx _ _ p n c n' c' Tryz.underlying69
 go_enter Tryz.func44, Tryz.ntmps44
 go_wp2
 go_ret
 exact ⟨rfl, rfl⟩
theorem QhP (v : Value) (l : List (List UInt8)) (w : World) (hv : w.ownsRow 0 9 1 v l.length (strs l)) (hl : l.length ≤ 1000) :
 Calls Tryz.prog 44 #[v] w fun e w' => ∃ v', e = .returned v' ∧ w'.ownsRow w.heap.size 9 1 v' l.length (strs l) ∧ Below w.heap.size w w' := by
 rcases hv.2 with ⟨e0, h0⟩ | ⟨g, cap, cur, e0, _⟩
 · subst e0
   have hn : l = [] := List.length_eq_zero_iff.1 h0
   subst hn
   refine (Qgg 0 0 w).mono ?_
   rintro e w' ⟨rfl, rfl⟩
   exact ⟨_, rfl, World.ownsRow_nil _ _ _ _, Below.refl _ _⟩
 · subst e0
   exact Qgf ⟨g, 0, none⟩ l.length cap (strs l) w (QjY l) hl (hv.cells (g := g) rfl) (Qdo l)
set_option maxRecDepth 100000 in
theorem QkO (cb : Nat) (F : List Nat) (Z : CluV) (C : Clu) (w : World) (hc : CluAt w cb F Z C) (h60 : C.net.length ≤ 60) :
 Calls Tryz.prog 30 #[.pointer (some ⟨cb, 0, none⟩)] w fun e w' => ∃ p cap, e = .returned (.slice p C.net.length cap) ∧ w'.ownsRow w.heap.size 9 1 (.slice p C.net.length cap) C.net.length (strs C.net) ∧ Below w.heap.size w w' := by
 have k := hc.cnet.1
 obtain ⟨pn, cn, hvn⟩ := QaJ hc.net
 have hcl := QhP Z.vn C.net w hc.net (by omega)
 rw [hvn] at k hcl
 clear hvn
 have hlt := hc.lt
 clear hc
 go_enter Tryz.func30, Tryz.ntmps30
 go_wp2_with (go_at_call 44; refine hcl.mono ?_; rintro e w1 ⟨v1, rfl, hv1, hw1⟩; obtain ⟨p1, c1, e1⟩ := QaJ hv1; subst e1)
 go_ret
 exact ⟨p1, c1, rfl, hv1, hw1⟩
theorem QfD (w : World) (F : List Nat) (k h t n : Int) (ck ch ct cn cc : Int) (x : List UInt8) : AcRo w F (.agg #[.int .i64 k, .int .i64 h, .int .i64 t, .int .i64 n, .int .i64 ck, .int .i64 ch, .int .i64 ct, .int .i64 cn, .int .i64 cc, .slice none 0 0, .slice none 0 0, .string ⟨x.toArray⟩]) ⟨k, h, t, n, ⟨ck, ch, ct, cn, cc, [], [], x⟩⟩ :=
 ⟨_, _, rfl, ⟨LabAt.nil _ _ _ (fun _ => rfl), fun h => absurd h (by simp)⟩, ⟨IntsAt.nil _ _ _ (fun _ => rfl), fun h => absurd h (by simp)⟩⟩
theorem Below.trans' {B : Nat} {a b c : World} (h : Below B a b) (k : Below B b c) : Below B a c := ⟨k.os.trans h.os, k.tape.trans h.tape, k.output.trans h.output, Nat.le_trans h.size k.size, fun i hi => by rw [k.block i hi, h.block i hi]⟩
theorem CStep.low {cb B : Nat} {w w' : World} {F G : List Nat} {Z Z' : CluV} {C : Clu} (h : CStep cb w F Z w' G Z') (hc : CluAt w cb F Z C) (hF : ∀ k ∈ F, B ≤ k) (hB : B ≤ w.heap.size) : Below B w w' ∧ ∀ k ∈ G, B ≤ k := by
 have hk := h.keptF hc
 refine ⟨⟨hk.os, hk.tape, hk.output, hk.size, fun k hk' => hk.block k (by omega) (fun e => by have := hF k e; omega)⟩, fun k hk' => ?_⟩
 rcases h.more.2 k hk' with e | e
 · exact hF k e
 · omega
set_option maxRecDepth 100000 in
set_option maxHeartbeats 3200000 in
theorem QgR (w : World) : Calls Tryz.prog 9 #[] w fun e w' => e = .returned (.bool true) ∧ Below w.heap.size w w' := by
 have HA := hid Qlo
 have HB := hid QjD
 go_enter Tryz.func9, Tryz.ntmps9
 go_wp2_with fail
 refine (Qdw w).mono ?_
 rintro e w1 ⟨rfl, ⟨kp, F, hc1, hF⟩, hw1⟩
 have hdo := Qdm _ F _ freshClu _ aliveA w1 hc1 Qba (QfD w1 F 1 2 0 0 1 0 0 0 0 [])
 have HC1 := hid hc1
 generalize hr1 : doC freshClu aliveA = R1 at *
 obtain ⟨C1, r1⟩ := R1
 simp only at hdo
 have HG1 : Hid (GoodC C1) := hid (by have := Qcl Qba aliveA; rw [hr1] at this; exact this)
 clear hr1
 go_wp2_with fail
 refine hdo.mono ?_
 rintro e w2 ⟨rfl, G2, Z2, hc2, hs2⟩
 obtain ⟨hb2, hF2⟩ := hs2.low hc1 hF hw1.size
 have HW2 := hid (Below.trans' hw1 hb2)
 have hbx := Qd w2 (.cells #[.int .i64 r1.code, .int .i64 r1.n, .string ⟨r1.text.toArray⟩] 43)
 have hdo2 := Qdm _ G2 Z2 C1 _ aliveB (w2.alloc (.cells #[.int .i64 r1.code, .int .i64 r1.n, .string ⟨r1.text.toArray⟩] 43)) (hc2.below hbx) HG1.out (QfD _ G2 1 2 0 0 6 1 3 0 0 [104, 105])
 have HX2 := hid (heap_alloc_new w2 (.cells #[.int .i64 r1.code, .int .i64 r1.n, .string ⟨r1.text.toArray⟩] 43))
 have HC2 := hid (hc2.below hbx)
 have HG2 := hid (Qcl HG1.out aliveB)
 have hr40 : r1.n = 40 := HA.out
 have HBX := hid hbx
 clear hdo hs2 hc1 hc2 HC1 HA hbx
 generalize doC C1 aliveB = R2 at *
 obtain ⟨C2, r2⟩ := R2
 obtain ⟨hr0, hn1⟩ : r2.code = 0 ∧ C2.net.length = 1 := HB.out
 simp only at hdo2
 have HN1 := hid hn1
 have H40 := hid hr40
 have H00 := hid hr0
 clear HB hr40 hr0 hn1
 go_wp2_with fail
 refine hdo2.mono ?_
 rintro e w3 ⟨rfl, G3, Z3, hc3, hs3⟩
 have HX3 := hid (QE hs3 HC2.out HX2.out (by decide) (by decide) (by decide) (by decide) (by decide) (by decide))
 obtain ⟨hb3, hF3⟩ := hs3.low HC2.out hF2 (Nat.le_trans HW2.out.size HBX.out.size)
 have HW3 : Hid (Below w.heap.size w w3) := hid (Below.trans' (Below.trans' HW2.out ⟨HBX.out.os, HBX.out.tape, HBX.out.output, HBX.out.size, fun k hk => HBX.out.block k (Nat.lt_of_lt_of_le hk HW2.out.size)⟩) hb3)
 have hbx3 := Qd w3 (.cells #[.int .i64 r2.code, .int .i64 r2.n, .string ⟨r2.text.toArray⟩] 43)
 have hnet := QkO _ G3 Z3 C2 (w3.alloc (.cells #[.int .i64 r2.code, .int .i64 r2.n, .string ⟨r2.text.toArray⟩] 43)) (hc3.below hbx3) HG2.out.net
 rw [HN1.out] at hnet
 have HX4 := hid (heap_alloc_new w3 (.cells #[.int .i64 r2.code, .int .i64 r2.n, .string ⟨r2.text.toArray⟩] 43))
 have HX5 := hid (QB HX3.out (.cells #[.int .i64 r2.code, .int .i64 r2.n, .string ⟨r2.text.toArray⟩] 43))
 have HBX3 := hid hbx3
 obtain ⟨a0, a1, a2, _⟩ := cells3 HX4.out
 obtain ⟨d0, d1, d2, _⟩ := cells3 HX5.out
 clear hdo2 hs3 hc3 hb3 hbx3
 go_upto_region 6 with fail
 generalize w3.alloc (.cells #[.int .i64 r2.code, .int .i64 r2.n, .string ⟨r2.text.toArray⟩] 43) = w4 at *
 rw [H40.out] at d1
 rw [H00.out] at a0
 go_wp2_with (go_at_call 30; refine hnet.mono ?_; rintro e w5 ⟨pn, cn, rfl, _, hw5⟩)
 go_ret
 exact ⟨rfl, Qc (Qc HW3.out HBX3.out) hw5⟩
def thrC (C : Clu) (h t : Int) : Thr := if hostB h = true then thrOf (C.ks h.toNat) t else zeroThr
set_option maxRecDepth 100000 in
set_option maxHeartbeats 3200000 in
theorem QbI (cb : Nat) (h t : Int) (F : List Nat) (Z : CluV) (C : Clu) (w : World) (hc : CluAt w cb F Z C) (hg : GoodC C) :
 Calls Tryz.prog 11 #[.pointer (some ⟨cb, 0, none⟩), .int .i64 h, .int .i64 t] w fun e w' => ∃ pl cl po co pj cj pm cm, e = .returned (.agg #[.slice pl (thrC C h t).label.length cl, .slice po (thrC C h t).own.length co, .string ⟨(thrC C h t).text.toArray⟩, .slice pj (thrC C h t).objs.length cj, .slice pm (thrC C h t).mails.length cm]) ∧ ThrNew w' w.heap.size (.slice pl (thrC C h t).label.length cl) (.slice po (thrC C h t).own.length co) (.slice pj (thrC C h t).objs.length cj) (.slice pm (thrC C h t).mails.length cm) (thrC C h t) ∧ Below w.heap.size w w' := by
 have hh := fun wx => QbY h wx
 have HX0 := hid (heap_alloc_new w (.cells #[.slice none 0 0, .slice none 0 0, .string ⟨#[]⟩, .slice none 0 0, .slice none 0 0] 36))
 have HBB := hid (Qd w (.cells #[.slice none 0 0, .slice none 0 0, .string ⟨#[]⟩, .slice none 0 0, .slice none 0 0] 36))
 have hlt := hc.lt
 cases e1 : hostB h with
 | false =>
  have HT : Hid (thrC C h t = zeroThr) := hid (by unfold thrC; rw [e1]; rfl)
  rw [HT.out]
  rw [e1] at hh
  clear hc hg
  go_enter Tryz.func11, Tryz.ntmps11
  go_wp2_with (go_at_call 32; refine (hh _).mono ?_; rintro e w1 ⟨rfl, hw⟩; rw [hw]; clear hw)
  exact bodyPost_ret (results_cell_row rfl _ _ w.heap.size 36 _ (0, 0) _ rfl HX0.out Tryz.underlying36 rfl (by kernel_rfl)) rfl ⟨none, 0, none, 0, none, 0, none, 0, rfl, Qfm _ _, HBB.out⟩
 | true =>
  rw [e1] at hh
  obtain ⟨x, hx, x4⟩ : ∃ x : Nat, h = x ∧ x < 4 := by
   have : 0 ≤ h ∧ h < 4 := of_decide_eq_true e1
   exact ⟨h.toNat, by omega, by omega⟩
  have HT : Hid (thrC C h t = thrOf (C.ks x) t) := hid (by unfold thrC; rw [e1, hx]; simp)
  rw [HT.out]
  subst hx
  have k2 := hc.cker x4
  have hth := fun wx (hb : Below w.heap.size w wx) => QdV (Z.kp x) t F (Z.V x) (C.ks x) wx ((hc.ker x x4).below hb) (hg.ks x x4)
  have i0 : ¬ ((x : Int) < 0) := by omega
  have i1 : ¬ ((4 : Int) ≤ x) := by omega
  have i2 : (x : Int) < 4 := by omega
  have i3 : (0 : Int) ≤ x := by omega
  clear hc hg e1 HT
  generalize thrOf (C.ks x) t = th at *
  go_enter Tryz.func11, Tryz.ntmps11
  go_wp2_with (first
   | (go_at_call 32; refine (hh _).mono ?_; rintro e w1 ⟨rfl, hw⟩; rw [hw]; clear hw)
   | (go_at_call 33; refine (hth _ HBB.out).mono ?_; rintro e w2 ⟨p1, q1, p2, q2, p5, q5, p6, q6, rfl, hn, hw2⟩; have HN := hid hn; have HX := hid (Qe HX0.out hw2); have HB := hid (Qc HBB.out hw2); obtain ⟨b0, b1, b2, b3, b4⟩ : w2.cell? ⟨w.heap.size, 0, none⟩ = some (.slice none 0 0) ∧ w2.cell? ⟨w.heap.size, 1, none⟩ = some (.slice none 0 0) ∧ w2.cell? ⟨w.heap.size, 2, none⟩ = some (.string ⟨#[]⟩) ∧ w2.cell? ⟨w.heap.size, 3, none⟩ = some (.slice none 0 0) ∧ w2.cell? ⟨w.heap.size, 4, none⟩ = some (.slice none 0 0) := ⟨Qa HX.out 0, Qa HX.out 1, Qa HX.out 2, Qa HX.out 3, Qa HX.out 4⟩; have f0 := Qb HX.out 0; have f1 := Qb HX.out 1; have f2 := Qb HX.out 2; have f3 := Qb HX.out 3; have f4 := Qb HX.out 4; clear hn hw2))
  have hW := Qck (.slice p1 th.label.length q1) (.slice p2 th.own.length q2) (.string ⟨th.text.toArray⟩) (.slice p5 th.objs.length q5) (.slice p6 th.mails.length q6) HX.out
  have hS := QbR w2 w.heap.size (.slice p1 th.label.length q1) (.slice p2 th.own.length q2) (.string ⟨th.text.toArray⟩) (.slice p5 th.objs.length q5) (.slice p6 th.mails.length q6)
  have hb7 := HB.out.grown hS HB.out.size (fun k hk => by cases hk; exact Nat.le_refl _)
  have hn := (HN.out.base HBB.out.size).keep (R := [w.heap.size]) (fun k hk => .inr ⟨_, _, by simp at hk; subst hk; exact HX.out, by decide, by decide, by decide, by decide⟩) (QN hS fun k e => .inl (by have := Option.some.inj e; simp; omega))
  exact bodyPost_ret (results_cell_row rfl _ _ w.heap.size 36 _ (0, 0) _ rfl hW Tryz.underlying36 rfl (by kernel_rfl)) rfl ⟨_, _, _, _, _, _, _, _, rfl, hn, hb7⟩
theorem QR {w w' : World} {G : List Nat} {v : Value} {l : List (Int × Int)} (h : LabAt w v l) (hG : ∀ k ∈ G, w.heap.size ≤ k) (h' : LabAt w' v l) : RoLab w' G v l := ⟨h', fun h0 k hk hn => by
 obtain ⟨p, cap, rfl, _, _, hc⟩ := h
 obtain ⟨b, o, rfl, hcs⟩ := hc h0
 cases hk
 have h1 : b < w.heap.size := Qf (hcs 0 h0).1
 have h2 : w.heap.size ≤ b := hG _ hn
 omega⟩
theorem QM {w w' : World} {G : List Nat} {v : Value} {l : List Int} (h : IntsAt w v l) (hG : ∀ k ∈ G, w.heap.size ≤ k) (h' : IntsAt w' v l) : RoInts w' G v l := ⟨h', fun h0 k hk hn => by
 obtain ⟨p, cap, rfl, _, _, hc⟩ := h
 obtain ⟨b, o, rfl, hcs⟩ := hc h0
 cases hk
 have h1 : b < w.heap.size := Qf (hcs 0 h0)
 have h2 : w.heap.size ≤ b := hG _ hn
 omega⟩
theorem Qen {C : Clu} (h : GoodC C) (x t : Int) : GoodT (thrC C x t) := by
 unfold thrC
 split
 · rename_i h1
   have h2 : 0 ≤ x ∧ x < 4 := of_decide_eq_true h1
   have hk := h.ks x.toNat (by omega)
   unfold thrOf
   cases ht : getT (C.ks x.toNat) t with
   | none => exact QcD
   | some th =>
    obtain ⟨n, _, hn, e⟩ := Qam ht
    exact hk.ths th (e ▸ List.getElem_mem hn)
 · exact QcD
theorem Qke {m : Mal} (h : mailE m = 0) : m.label.length ≤ 8 ∧ m.grants.length ≤ 8 := by
 unfold mailE at h
 split at h
 · rename_i h1
   simp only [Bool.and_eq_true] at h1
   exact ⟨((QaB _).1 h1.1.2).1, (of_decide_eq_true h1.2).1⟩
 · cases h
theorem CluAt.anyF {w : World} {cb : Nat} {F G : List Nat} {kp : Nat → Nat} (h : CluAt w cb F (zeroZ kp) freshClu) (hF : ∀ k ∈ F, k ∈ G) (hG : ∀ k ∈ G, k < w.heap.size) : CluAt w cb G (zeroZ kp) freshClu := by
 refine ⟨h.box, fun x hx => (h.ker x hx).anyF (hF _ (h.ker x hx).kbF) hG, fun x hx => ?_, fun x y hx hy => ?_, h.seen, h.net, h.kps, h.rows, hF _ h.cbF, fun k hk => hF k (h.netF k hk), hG⟩
 · exact ⟨(h.crt x hx).1, fun e => absurd e (by simp [freshClu])⟩
 · obtain ⟨q, h1, h2, h3, h4⟩ := h.snt x y hx hy
   have hq : q = [] := by
    have : q.map (·.s) = [] := h1
    simpa using this
   subst hq
   exact ⟨[], h1, fun _ h => (by cases h), h3, fun e => absurd e (by simp)⟩
def NBox (w : World) (B : Nat) (ty : TypeId) (n : Nat) (f : Nat → Int) : Prop := ∃ A, w.heap[B]? = some (.cells A ty (0, 0)) ∧ A.size = n ∧ ∀ i, i < n → A[i]? = some (.int .i64 (f i))
theorem NBox.below {w w' : World} {B n : Nat} {ty : TypeId} {f : Nat → Int} (h : NBox w B ty n f) (hb : Below w.heap.size w w') : NBox w' B ty n f := by
 obtain ⟨A, h1, h2, h3⟩ := h
 exact ⟨A, Qe h1 hb, h2, h3⟩
theorem NBox.lt {w : World} {B n : Nat} {ty : TypeId} {f : Nat → Int} (h : NBox w B ty n f) : B < w.heap.size := by
 obtain ⟨A, h1, _⟩ := h
 exact Qy h1
theorem NBox.cell {w : World} {B n : Nat} {ty : TypeId} {f : Nat → Int} (h : NBox w B ty n f) (i : Nat) (hi : i < n) : w.cell? ⟨B, i, none⟩ = some (.int .i64 (f i)) ∧ w.frozen? ⟨B, i, none⟩ = false := by
 obtain ⟨A, h1, h2, h3⟩ := h
 exact ⟨(Qa h1 i).trans (h3 i hi), Qb h1 i⟩
theorem NBox.set {w : World} {B n : Nat} {ty : TypeId} {f : Nat → Int} (h : NBox w B ty n f) (i : Nat) (hi : i < n) (x : Int) : NBox (w.setCell ⟨B, i, none⟩ (.int .i64 x)) B ty n (fun j => if j = i then x else f j) := by
 obtain ⟨A, h1, h2, h3⟩ := h
 refine ⟨_, heap_setCell h1 _, by simpa using h2, fun j hj => ?_⟩
 simp only
 by_cases e : j = i
 · subst e
   rw [if_pos rfl, Array.getElem?_setIfInBounds_self_of_lt (by omega)]
 · rw [if_neg e, Array.getElem?_setIfInBounds_ne (Ne.symm e)]
   exact h3 j hj
theorem NBox.other {w : World} {B B' j n : Nat} {ty : TypeId} {f : Nat → Int} (h : NBox w B ty n f) (hne : B ≠ B') (u : Value) : NBox (w.setCell ⟨B', j, none⟩ u) B ty n f := by
 obtain ⟨A, h1, h2, h3⟩ := h
 exact ⟨A, Qj h1 hne (Qg w B' j u), h2, h3⟩
theorem NBox.congr {w : World} {B n : Nat} {ty : TypeId} {f g : Nat → Int} (h : NBox w B ty n f) (e : ∀ i, i < n → f i = g i) : NBox w B ty n g := by
 obtain ⟨A, h1, h2, h3⟩ := h
 exact ⟨A, h1, h2, fun i hi => by rw [← e i hi]; exact h3 i hi⟩
def FarT (t : TypeId) : Prop := (100 : Nat) ≠ t ∧ (3 : Nat) ≠ t ∧ (48 : Nat) ≠ t ∧ (51 : Nat) ≠ t ∧ (81 : Nat) ≠ t ∧ (9 : Nat) ≠ t
instance (t : TypeId) : Decidable (FarT t) := by unfold FarT; infer_instance
theorem NBox.step {w w' : World} {cb B n : Nat} {F G : List Nat} {Z Z' : CluV} {C : Clu} {ty : TypeId} {f : Nat → Int} (h : NBox w B ty n f) (hs : CStep cb w F Z w' G Z') (hc : CluAt w cb F Z C) (ht : FarT ty) : NBox w' B ty n f := by
 obtain ⟨A, h1, h2, h3⟩ := h
 exact ⟨A, QE hs hc h1 ht.1 ht.2.1 ht.2.2.1 ht.2.2.2.1 ht.2.2.2.2.1 ht.2.2.2.2.2, h2, h3⟩
theorem KeptF.more {F : List Nat} {a b c : World} (h : KeptF F a b) (hb : Below b.heap.size b c) : KeptF F a c := h.trans ((Qz [] hb).sub (fun _ e => by cases e))
theorem KeptF.put {F : List Nat} {a b : World} (h : KeptF F a b) {B j : Nat} (hB : B ∈ F) (u : Value) : KeptF F a (b.setCell ⟨B, j, none⟩ u) :=
 ⟨h.os, h.tape, h.output, by have := h.size; simpa using this, fun k hk hn => by rw [Below.heap_setCell b _ _ k (fun e => hn (by rw [show k = B from e]; exact hB)), h.block k hk hn]⟩
structure Two (w : World) (F : List Nat) (a : Nat) (Za : CluV) (A : Clu) (b : Nat) (Zb : CluV) (B : Clu) : Prop where
 one : CluAt w a F Za A
 two : CluAt w b F Zb B
 apart : ∀ k ∈ cownL a Za, k ∉ cownL b Zb
theorem Two.symm {w : World} {F : List Nat} {a b : Nat} {Za Zb : CluV} {A B : Clu} (h : Two w F a Za A b Zb B) : Two w F b Zb B a Za A := ⟨h.two, h.one, fun k hk e => h.apart k e hk⟩
theorem Two.below {w w' : World} {F : List Nat} {a b : Nat} {Za Zb : CluV} {A B : Clu} (h : Two w F a Za A b Zb B) (hb : Below w.heap.size w w') : Two w' F a Za A b Zb B := ⟨h.one.below hb, h.two.below hb, h.apart⟩
theorem Two.step {w w' : World} {F G : List Nat} {a b : Nat} {Za Za' Zb : CluV} {A A' B : Clu} (h : Two w F a Za A b Zb B) (hs : CStep a w F Za w' G Za') (hc : CluAt w' a G Za' A') : Two w' G a Za' A' b Zb B :=
 ⟨hc, h.two.keep hs.kept (fun k hk => h.one.ownF k hk) hs.more (fun k hk e => h.apart k e hk) hc.fin, fun k hk e => by
  rcases hs.own k hk with g | g
  · exact h.apart k g e
  · have := h.two.fin k (h.two.ownF k e)
    omega⟩
theorem Qk0 {w1 w2 : World} {a b : Nat} {F1 F2 : List Nat} {k1 k2 : Nat → Nat} (h1 : CluAt w1 a F1 (zeroZ k1) freshClu) (h2 : CluAt w2 b F2 (zeroZ k2) freshClu) (hb : Below w1.heap.size w1 w2) (hF : ∀ k ∈ F2, w1.heap.size ≤ k) : Two w2 (F1 ++ F2) a (zeroZ k1) freshClu b (zeroZ k2) freshClu := by
 have g1 := h1.below hb
 have hG : ∀ k ∈ F1 ++ F2, k < w2.heap.size := fun k hk => by
  rcases List.mem_append.1 hk with e | e
  · exact g1.fin k e
  · exact h2.fin k e
 exact ⟨g1.anyF (fun k hk => List.mem_append_left _ hk) hG, h2.anyF (fun k hk => List.mem_append_right _ hk) hG, fun k hk e => by
  have e1 := h1.fin k (h1.ownF k hk)
  have e2 := hF k (h2.ownF k e)
  omega⟩
structure WasD where
 pl : Option Addr
 cl : Nat
 po : Option Addr
 co : Nat
 pj : Option Addr
 cj : Nat
 pm : Option Addr
 cm : Nat
def WasD.vals (d : WasD) (th : Thr) : List Value := [.slice d.pl th.label.length d.cl, .slice d.po th.own.length d.co, .string ⟨th.text.toArray⟩, .slice d.pj th.objs.length d.cj, .slice d.pm th.mails.length d.cm]
def WasD.New (d : WasD) (w : World) (B : Nat) (th : Thr) : Prop := ThrNew w B (.slice d.pl th.label.length d.cl) (.slice d.po th.own.length d.co) (.slice d.pj th.objs.length d.cj) (.slice d.pm th.mails.length d.cm) th
def Held (w : World) (Bw cb : Nat) (Z : CluV) (d : WasD) (th : Thr) : Prop := ∃ (B : Nat) (wc : World), Bw < B ∧ d.New wc B th ∧ KeptF (List.range B) wc w ∧ ∀ k ∈ cownL cb Z, k < B ∨ wc.heap.size ≤ k
theorem Held.new {w : World} {Bw cb : Nat} {Z : CluV} {d : WasD} {th : Thr} (h : Held w Bw cb Z d th) : d.New w 0 th := by
 obtain ⟨B, wc, _, h1, h2, _⟩ := h
 exact (ThrNew.keep h1 (Qin fun k hk => List.mem_range.1 hk) h2).base (Nat.zero_le _)
theorem Held.below {w w' : World} {Bw cb : Nat} {Z : CluV} {d : WasD} {th : Thr} (h : Held w Bw cb Z d th) (hb : Below w.heap.size w w') : Held w' Bw cb Z d th := by
 obtain ⟨B, wc, h0, h1, h2, h3⟩ := h
 exact ⟨B, wc, h0, h1, h2.more hb, h3⟩
theorem Held.step {w w' : World} {Bw cb : Nat} {F G : List Nat} {Z Z' : CluV} {d : WasD} {th : Thr} (h : Held w Bw cb Z d th) (hs : CStep cb w F Z w' G Z') : Held w' Bw cb Z' d th := by
 obtain ⟨B, wc, h0, h1, h2, h3⟩ := h
 refine ⟨B, wc, h0, h1, ⟨hs.kept.os.trans h2.os, hs.kept.tape.trans h2.tape, hs.kept.output.trans h2.output, Nat.le_trans h2.size hs.kept.size, fun k hk hn => ?_⟩, fun k hk => ?_⟩
 · rw [hs.kept.block k (Nat.lt_of_lt_of_le hk h2.size) (fun e => ?_), h2.block k hk hn]
   rcases h3 k e with g | g
   · exact hn (List.mem_range.2 g)
   · omega
 · rcases hs.own k hk with e | e
   · exact h3 k e
   · exact .inr (Nat.le_trans h2.size e)
theorem Held.put {w w' : World} {Bw cb : Nat} {Z : CluV} {d : WasD} {th : Thr} (h : Held w Bw cb Z d th) (hg : w.grownBy w' (some Bw)) : Held w' Bw cb Z d th := by
 obtain ⟨B, wc, h0, h1, h2, h3⟩ := h
 have hk := QN (F := [Bw]) hg fun k e => .inl (by have := Option.some.inj e; simp; omega)
 refine ⟨B, wc, h0, h1, ⟨hk.os.trans h2.os, hk.tape.trans h2.tape, hk.output.trans h2.output, Nat.le_trans h2.size hk.size, fun k hk1 hn => ?_⟩, h3⟩
 rw [hk.block k (Nat.lt_of_lt_of_le hk1 h2.size) (fun e => hn (List.mem_range.2 (by simp at e; omega))), h2.block k hk1 hn]
def WasG (w : World) (Bw cb : Nat) (Z : CluV) (th : Nat → Nat → Thr) : Prop := ∃ (A : Array Value) (D : Nat → Nat → WasD), w.heap[Bw]? = some (.cells A 62 (0, 0)) ∧ A.size = 80 ∧ ∀ h t, h < 4 → t < 4 → (∀ i, i < 5 → A[h * 20 + t * 5 + i]? = ((D h t).vals (th h t))[i]?) ∧ Held w Bw cb Z (D h t) (th h t)
theorem WasG.below {w w' : World} {Bw cb : Nat} {Z : CluV} {th : Nat → Nat → Thr} (h : WasG w Bw cb Z th) (hb : Below w.heap.size w w') : WasG w' Bw cb Z th := by
 obtain ⟨A, D, h1, h2, h3⟩ := h
 exact ⟨A, D, Qe h1 hb, h2, fun x t hx ht => ⟨(h3 x t hx ht).1, (h3 x t hx ht).2.below hb⟩⟩
theorem WasG.step {w w' : World} {cb Bw : Nat} {F G : List Nat} {Z Z' : CluV} {C : Clu} {th : Nat → Nat → Thr} (h : WasG w Bw cb Z th) (hs : CStep cb w F Z w' G Z') (hc : CluAt w cb F Z C) : WasG w' Bw cb Z' th := by
 obtain ⟨A, D, h1, h2, h3⟩ := h
 exact ⟨A, D, QE hs hc h1 (by decide) (by decide) (by decide) (by decide) (by decide) (by decide), h2, fun x t hx ht => ⟨(h3 x t hx ht).1, (h3 x t hx ht).2.step hs⟩⟩
theorem WasG.lt {w : World} {Bw cb : Nat} {Z : CluV} {th : Nat → Nat → Thr} (h : WasG w Bw cb Z th) : Bw < w.heap.size := by
 obtain ⟨A, D, h1, _⟩ := h
 exact Qy h1
theorem WasG.cells {w : World} {Bw cb : Nat} {Z : CluV} {th : Nat → Nat → Thr} (hw : WasG w Bw cb Z th) (j : Nat) (hj : j < 80) : (∃ u, w.cell? ⟨Bw, j, none⟩ = some u) ∧ w.frozen? ⟨Bw, j, none⟩ = false := by
 obtain ⟨A, D, h1, h2, _⟩ := hw
 exact ⟨⟨A[j]'(by omega), (Qa h1 j).trans (Array.getElem?_eq_getElem _)⟩, Qb h1 j⟩
theorem WasG.congr {w : World} {Bw cb : Nat} {Z : CluV} {th th' : Nat → Nat → Thr} (h : WasG w Bw cb Z th) (e : ∀ i j, i < 4 → j < 4 → th i j = th' i j) : WasG w Bw cb Z th' := by
 obtain ⟨A, D, h1, h2, h3⟩ := h
 exact ⟨A, D, h1, h2, fun i j hi hj => by rw [← e i j hi hj]; exact h3 i j hi hj⟩
def JG (Bw : Nat) (w : World) (F : List Nat) (cb : Nat) (Z : CluV) (C : Clu) : Prop := Bw ∈ F ∧ WasG w Bw cb Z (fun h t => thrC C h t)
theorem JG.below {Bw cb : Nat} {w w' : World} {F : List Nat} {Z : CluV} {C : Clu} (h : JG Bw w F cb Z C) (hb : Below w.heap.size w w') : JG Bw w' F cb Z C := ⟨h.1, h.2.below hb⟩
theorem JG.step {Bw cb : Nat} {w w' : World} {F G : List Nat} {Z Z' : CluV} {C D : Clu} (h : JG Bw w F cb Z C) (hs : CStep cb w F Z w' G Z') (hc : CluAt w cb F Z D) : JG Bw w' G cb Z' C := ⟨hs.more.1 _ h.1, h.2.step hs hc⟩
def Held2 (n m : Nat) (W : World) (a : Nat) (Za : CluV) (b : Nat) (Zb : CluV) (d : WasD) (th : Thr) : Prop := ∃ (B : Nat) (wc : World), n ≤ B ∧ wc.heap.size ≤ m ∧ d.New wc B th ∧ KeptF (List.range B) wc W ∧ (∀ k ∈ cownL a Za, k < B ∨ wc.heap.size ≤ k) ∧ ∀ k ∈ cownL b Zb, k < B ∨ wc.heap.size ≤ k
theorem Held2.new {n m : Nat} {W : World} {a b : Nat} {Za Zb : CluV} {d : WasD} {th : Thr} (h : Held2 n m W a Za b Zb d th) : d.New W 0 th := by
 obtain ⟨B, wc, _, _, h1, h2, _⟩ := h
 exact (ThrNew.keep h1 (Qin fun k hk => List.mem_range.1 hk) h2).base (Nat.zero_le _)
theorem Held2.symm {n m : Nat} {W : World} {a b : Nat} {Za Zb : CluV} {d : WasD} {th : Thr} (h : Held2 n m W a Za b Zb d th) : Held2 n m W b Zb a Za d th := by
 obtain ⟨B, wc, h0, h1, h2, h3, h4, h5⟩ := h
 exact ⟨B, wc, h0, h1, h2, h3, h5, h4⟩
theorem Held2.below {n m : Nat} {W W' : World} {a b : Nat} {Za Zb : CluV} {d : WasD} {th : Thr} (h : Held2 n m W a Za b Zb d th) (hb : Below W.heap.size W W') : Held2 n m W' a Za b Zb d th := by
 obtain ⟨B, wc, h0, h1, h2, h3, h4, h5⟩ := h
 exact ⟨B, wc, h0, h1, h2, h3.more hb, h4, h5⟩
theorem Held2.step {n m : Nat} {W W' : World} {a b : Nat} {F G : List Nat} {Za Za' Zb : CluV} {d : WasD} {th : Thr} (h : Held2 n m W a Za b Zb d th) (hs : CStep a W F Za W' G Za') : Held2 n m W' a Za' b Zb d th := by
 obtain ⟨B, wc, h0, h1, h2, h3, h4, h5⟩ := h
 refine ⟨B, wc, h0, h1, h2, ⟨hs.kept.os.trans h3.os, hs.kept.tape.trans h3.tape, hs.kept.output.trans h3.output, Nat.le_trans h3.size hs.kept.size, fun k hk hn => ?_⟩, fun k hk => ?_, h5⟩
 · rw [hs.kept.block k (Nat.lt_of_lt_of_le hk h3.size) (fun e => ?_), h3.block k hk hn]
   rcases h4 k e with g | g
   · exact hn (List.mem_range.2 g)
   · omega
 · rcases hs.own k hk with e | e
   · exact h4 k e
   · exact .inr (Nat.le_trans h3.size e)
theorem Held2.put {n m r : Nat} {W W' : World} {a b : Nat} {Za Zb : CluV} {d : WasD} {th : Thr} (h : Held2 n m W a Za b Zb d th) (hg : W.grownBy W' (some r)) (hr : r < n ∨ m ≤ r) : Held2 n m W' a Za b Zb d th := by
 obtain ⟨B, wc, h0, h1, h2, h3, h4, h5⟩ := h
 have hk := QN (F := [r]) hg fun k e => .inl (by have := Option.some.inj e; simp; omega)
 refine ⟨B, wc, h0, h1, h2, ⟨hk.os.trans h3.os, hk.tape.trans h3.tape, hk.output.trans h3.output, Nat.le_trans h3.size hk.size, fun k hk1 hn => ?_⟩, h4, h5⟩
 rw [hk.block k (Nat.lt_of_lt_of_le hk1 h3.size) (fun e => hn (List.mem_range.2 (by simp at e; omega))), h3.block k hk1 hn]
theorem Two.reserve {w : World} {F : List Nat} {a b : Nat} {Za Zb : CluV} {A B : Clu} (h : Two w F a Za A b Zb B) (ob : Obj) : Two (w.alloc ob) (F ++ [w.heap.size]) a Za A b Zb B := ⟨h.one.reserve ob, h.two.reserve ob, h.apart⟩
theorem Two.boxed {w w' : World} {F : List Nat} {a b r : Nat} {Za Zb : CluV} {A B : Clu} {V : Array Value} {t : TypeId} (h : Two w F a Za A b Zb B) (hg : w.grownBy w' (some r)) (hr : r ∈ F) (hA : w.heap[r]? = some (.cells V t (0, 0))) (ht : FarT t) : Two w' F a Za A b Zb B :=
 ⟨h.one.boxed hg hr hA ht.1 ht.2.1 ht.2.2.1 ht.2.2.2.1 ht.2.2.2.2.1 ht.2.2.2.2.2, h.two.boxed hg hr hA ht.1 ht.2.1 ht.2.2.1 ht.2.2.2.1 ht.2.2.2.2.1 ht.2.2.2.2.2, h.apart⟩
structure Sec (w0 : World) (n m bx b_y bt : Nat) (X Y T : Array Value) (d : WasD) (th : Thr) (W : World) (F : List Nat) (a : Nat) (Za : CluV) (A : Clu) (b : Nat) (Zb : CluV) (B : Clu) : Prop where
 two : Two W F a Za A b Zb B
 low : Below w0.heap.size w0 W
 fl : ∀ k ∈ F, w0.heap.size ≤ k
 hx : W.heap[bx]? = some (.cells X 32 (0, 0))
 hy : W.heap[b_y]? = some (.cells Y 32 (0, 0))
 ht : W.heap[bt]? = some (.cells T 36 (0, 0))
 held : Held2 n m W a Za b Zb d th
section
variable {w0 : World} {n m bx b_y bt : Nat} {X Y T : Array Value} {d : WasD} {th : Thr} {W W' : World} {F G : List Nat} {a b : Nat} {Za Za' Zb Zb' : CluV} {A A' B B' : Clu}
theorem Sec.symm (h : Sec w0 n m bx b_y bt X Y T d th W F a Za A b Zb B) : Sec w0 n m bx b_y bt X Y T d th W F b Zb B a Za A := ⟨h.two.symm, h.low, h.fl, h.hx, h.hy, h.ht, h.held.symm⟩
theorem Sec.below (h : Sec w0 n m bx b_y bt X Y T d th W F a Za A b Zb B) (hb : Below W.heap.size W W') : Sec w0 n m bx b_y bt X Y T d th W' F a Za A b Zb B := ⟨h.two.below hb, Below.trans' h.low (hb.mono h.low.size), h.fl, Qe h.hx hb, Qe h.hy hb, Qe h.ht hb, h.held.below hb⟩
theorem Sec.alloc (h : Sec w0 n m bx b_y bt X Y T d th W F a Za A b Zb B) (ob : Obj) : Sec w0 n m bx b_y bt X Y T d th (W.alloc ob) (F ++ [W.heap.size]) a Za A b Zb B := by
 have hb := Qd W ob
 refine ⟨h.two.reserve ob, Below.trans' h.low (hb.mono h.low.size), fun k hk => ?_, Qe h.hx hb, Qe h.hy hb, Qe h.ht hb, h.held.below hb⟩
 rcases List.mem_append.1 hk with e | e
 · exact h.fl k e
 · rw [List.mem_singleton.1 e]; exact h.low.size
theorem Sec.stepA (h : Sec w0 n m bx b_y bt X Y T d th W F a Za A b Zb B) (hs : CStep a W F Za W' G Za') (hc : CluAt W' a G Za' A') : Sec w0 n m bx b_y bt X Y T d th W' G a Za' A' b Zb B := by
 obtain ⟨hb, hG⟩ := hs.low h.two.one h.fl h.low.size
 exact ⟨h.two.step hs hc, Below.trans' h.low hb, hG, QE hs h.two.one h.hx (by decide) (by decide) (by decide) (by decide) (by decide) (by decide), QE hs h.two.one h.hy (by decide) (by decide) (by decide) (by decide) (by decide) (by decide), QE hs h.two.one h.ht (by decide) (by decide) (by decide) (by decide) (by decide) (by decide), h.held.step hs⟩
theorem Sec.stepB (h : Sec w0 n m bx b_y bt X Y T d th W F a Za A b Zb B) (hs : CStep b W F Zb W' G Zb') (hc : CluAt W' b G Zb' B') : Sec w0 n m bx b_y bt X Y T d th W' G a Za A b Zb' B' := (h.symm.stepA hs hc).symm
def RepB (W : World) (F : List Nat) (r : Nat) (V : Array Value) : Prop := W.heap[r]? = some (.cells V 43 (0, 0)) ∧ r ∈ F
theorem RepB.below {r : Nat} {V : Array Value} (h : RepB W F r V) (hb : Below W.heap.size W W') : RepB W' F r V := ⟨Qe h.1 hb, h.2⟩
theorem RepB.alloc {r : Nat} {V : Array Value} (h : RepB W F r V) (ob : Obj) : RepB (W.alloc ob) (F ++ [W.heap.size]) r V := ⟨Qe h.1 (Qd _ _), List.mem_append_left _ h.2⟩
theorem QT (W : World) (F : List Nat) (V : Array Value) : RepB (W.alloc (.cells V 43)) (F ++ [W.heap.size]) W.heap.size V := ⟨heap_alloc_new W _, by simp⟩
theorem RepB.step {r : Nat} {V : Array Value} {C : Clu} (h : RepB W F r V) (hs : CStep a W F Za W' G Za') (hc : CluAt W a F Za C) : RepB W' G r V := ⟨QE hs hc h.1 (by decide) (by decide) (by decide) (by decide) (by decide) (by decide), hs.more.1 _ h.2⟩
theorem Sec.put (h : Sec w0 n m bx b_y bt X Y T d th W F a Za A b Zb B) {r : Nat} {V : Array Value} (hr : RepB W F r V) (hg : W.grownBy W' (some r)) (hm : m ≤ r) : Sec w0 n m bx b_y bt X Y T d th W' F a Za A b Zb B := by
 have h0 := h.fl r hr.2
 refine ⟨h.two.boxed hg hr.2 hr.1 (by decide), h.low.grown hg h.low.size (fun k hk => by have := Option.some.inj hk; omega), h.fl, Qj h.hx (fun e => ?_) hg, Qj h.hy (fun e => ?_) hg, Qj h.ht (fun e => ?_) hg, h.held.put hg (.inr hm)⟩
 · have := h.hx; rw [e, hr.1] at this; cases this
 · have := h.hy; rw [e, hr.1] at this; cases this
 · have := h.ht; rw [e, hr.1] at this; cases this
theorem Sec.putY (h : Sec w0 n m bx b_y bt X Y T d th W F a Za A b Zb B) {Y' : Array Value} (hg : W.grownBy W' (some b_y)) (hy : W'.heap[b_y]? = some (.cells Y' 32 (0, 0))) (hF : b_y ∈ F) (hn : b_y < n) (hne : bx ≠ b_y) : Sec w0 n m bx b_y bt X Y' T d th W' F a Za A b Zb B := by
 have h0 := h.fl b_y hF
 refine ⟨h.two.boxed hg hF h.hy (by decide), h.low.grown hg h.low.size (fun k hk => by have := Option.some.inj hk; omega), h.fl, Qj h.hx hne hg, hy, Qj h.ht (fun e => ?_) hg, h.held.put hg (.inl hn)⟩
 have := h.ht; rw [e, h.hy] at this; cases this
end
theorem Qk2 {c : Int} {A B : Clu} (h : CluR c A B) (x t : Int) : ThrR c (thrC A x t) (thrC B x t) := by
 have hz : ThrR c zeroThr zeroThr := ⟨rfl, rfl, TxR.refl _ _, trivial, trivial⟩
 unfold thrC
 split
 · unfold thrOf
   rcases (h.ks x.toNat).get t with ⟨e1, e2⟩ | ⟨u, v, e1, e2, e3⟩
   · rw [e1, e2]; exact hz
   · rw [e1, e2]; exact e3
 · exact hz
theorem QgK {A : Clu} {x t : Int} {th : Thr} (hx : hostB x = true) (h : getT (kerC A x) t = some th) : thrC A x t = th := by
 unfold thrC thrOf
 rw [if_pos hx]
 unfold kerC at h
 rw [h]
 rfl
def likeA (a : Ac) (x : List UInt8) : Ac := { a with call := { a.call with text := x } }
theorem Qg4 {c : Int} {A B : Clu} (h : CluR c A B) (a : Ac) (x : List UInt8) (hown : ¬ (a.kind = 1 ∧ c ∈ (thrC A a.h a.t).own)) (hl : x.length = a.call.text.length) (hx : ¬ (a.kind = 1 ∧ 1 < atL (thrC A a.h a.t).label c) → x = a.call.text) :
 CluR c (doC A a).1 (doC B (likeA a x)).1 ∧ (doC A a).2.code = (doC B (likeA a x)).2.code ∧ (doC A a).2.n = (doC B (likeA a x)).2.n ∧ (¬ (a.kind = 1 ∧ 1 < atL (thrC A a.h a.t).label c) → (doC A a).2.text = (doC B (likeA a x)).2.text) := by
 have hlow : ¬ (a.kind = 1 ∧ 1 < atL (thrC A a.h a.t).label c) → (a.kind = 1 → IsLow c A a.h a.t) := fun hn k1 hh th hth => by
  rw [QgK hh hth] at hn hown
  exact ⟨by have := fun e => hn ⟨k1, e⟩; omega, fun e => hown ⟨k1, e⟩⟩
 have := QhI (c := c) h (a := a) (b := likeA a x) rfl rfl rfl rfl (fun k1 hh th hth e => hown ⟨k1, by rw [QgK hh hth]; exact e⟩) ⟨rfl, rfl, rfl, rfl, rfl, rfl, rfl, hl.symm, fun hp => by
  by_cases hq : a.kind = 1 ∧ 1 < atL (thrC A a.h a.t).label c
  · by_cases hh : hostB a.h = true
    · cases hg : getT (kerC A a.h) a.t with
      | none =>
       have : thrC A a.h a.t = zeroThr := by unfold thrC thrOf; rw [if_pos hh]; unfold kerC at hg; rw [hg]; rfl
       rw [this] at hq
       exact absurd hq.2 (by unfold zeroThr atL; omega)
      | some th =>
       have := (hp hq.1 hh th hg).1
       rw [QgK hh hg] at hq
       omega
    · have : thrC A a.h a.t = zeroThr := by unfold thrC; rw [if_neg hh]
      rw [this] at hq
      exact absurd hq.2 (by unfold zeroThr atL; omega)
  · exact (hx hq).symm⟩
 exact ⟨this.1, this.2.1, this.2.2.1, fun hn => this.2.2.2 (hlow hn)⟩
def RowB (w : World) (B : Nat) (x : List UInt8) : Prop := ∀ j (h : j < x.length), w.cell? ⟨B, j, none⟩ = some (.int .u8 (x[j].toNat : Int)) ∧ w.frozen? ⟨B, j, none⟩ = false
theorem QjR (a b : Int) : ∃ z : UInt8, bits BinOp.xor IntKind.u8 a b = (z.toNat : Int) := by
 obtain ⟨n, hn⟩ : ∃ n, n = bits BinOp.xor IntKind.u8 a b := ⟨_, rfl⟩
 have h : 0 ≤ n ∧ n < 256 := by
  rw [hn]
  unfold bits
  simp [IntKind.wrap, IntKind.bits, IntKind.signed]
  omega
 refine ⟨UInt8.ofNat n.toNat, ?_⟩
 rw [← hn, UInt8.toNat_ofNat']
 omega
theorem RowB.set {w : World} {B k : Nat} {x : List UInt8} (h : RowB w B x) (hk : k < x.length) (z : UInt8) : RowB (w.setCell ⟨B, k, none⟩ (.int .u8 (z.toNat : Int))) B (x.set k z) := fun j hj => by
 have hj2 : j < x.length := by rw [List.length_set] at hj; exact hj
 refine ⟨?_, ?_⟩
 · by_cases e : j = k
   · subst e
     rw [World.cell?_setCell_same _ _ _ (h j hj2).1, List.getElem_set_self]
   · rw [World.cell?_setCell_other _ _ _ _ (fun q => e (by injection q with _ q2; exact q2.symm)), List.getElem_set_ne (Ne.symm e)]
     exact (h j hj2).1
 · rw [World.frozen?_setCell]
   exact (h j hj2).2
theorem Qj5 (w : World) (s : List UInt8) (cap : Nat) : RowB (w.alloc (.cells (bytesRow ⟨s.toArray⟩ cap) 5 ((bytesRow ⟨s.toArray⟩ cap).size, (bytesRow ⟨s.toArray⟩ cap).size + 1))).drew w.heap.size s := fun j hj => by
 constructor
 · show (w.alloc _).cell? _ = _
   rw [World.cell?_alloc_mark, bytesRow_at _ _ j (by simpa using hj)]
   simp
 · show (w.alloc _).frozen? _ = _
   rw [World.frozen?_alloc_mark]
   have : j < (bytesRow ⟨s.toArray⟩ cap).size := by simp [bytesRow]; omega
   generalize (bytesRow ⟨s.toArray⟩ cap).size = n at *
   simp
   omega
set_option maxRecDepth 100000 in
set_option maxHeartbeats 3200000 in
theorem Qkp (s y : List UInt8) (w : World) (hs : s.length ≤ maxLen) :
 Calls Tryz.prog 14 #[.string ⟨s.toArray⟩, .string ⟨y.toArray⟩] w fun e w' => (∃ x : List UInt8, x.length = s.length ∧ e = .returned (.string ⟨x.toArray⟩)) ∧ Below w.heap.size w w' := by
 have hconv := run_bytes_of_string (P := Tryz.prog) w 9 86 5 ⟨s.toArray⟩ Tryz.underlying9 Tryz.underlying86 Tryz.underlying5
 have HR := hid (Qj5 w s (grownCap w s.length 0 5))
 have HB : Hid (Below w.heap.size w (w.alloc (.cells (bytesRow ⟨s.toArray⟩ (grownCap w s.length 0 5)) 5 ((bytesRow ⟨s.toArray⟩ (grownCap w s.length 0 5)).size, (bytesRow ⟨s.toArray⟩ (grownCap w s.length 0 5)).size + 1))).drew) := hid (Qd w _).drew
 go_enter Tryz.func14, Tryz.ntmps14
 go_upto_region 2 with fail
 clear hconv
 generalize (w.alloc (.cells (bytesRow ⟨s.toArray⟩ (grownCap w s.length 0 5)) 5 ((bytesRow ⟨s.toArray⟩ (grownCap w s.length 0 5)).size, (bytesRow ⟨s.toArray⟩ (grownCap w s.length 0 5)).size + 1))).drew = w1 at *
 generalize grownCap w s.length 0 5 = cap at *
 go_wp2_with fail
 go_loopw [11] (fun i wr => ∃ (k : Nat) (x : List UInt8), k ≤ s.length ∧ i = .int .i64 k ∧ x.length = s.length ∧ RowB wr w.heap.size x ∧ Below w.heap.size w wr) (fun i _ => s.length - (intOf i).toNat)
 case atStart => exact ⟨0, s, Nat.zero_le _, rfl, rfl, HR.out, HB.out⟩
 case round =>
  clear HR HB
  obtain ⟨k, x, hk, rfl, hxl, hrow, hbr⟩ := hrel
  have HR := hid hrow
  have HB := hid hbr
  have HXL := hid hxl
  clear hrow hbr
  unfold maxLen at hs
  by_cases hlt : k < s.length
  · have hI : (k : Int) < (s.length : Int) := by omega
    have k0 : (0 : Int) ≤ k := by omega
    clear hxl
    by_cases hy : y.length = 0
    · have hy2 : y = [] := List.length_eq_zero_iff.1 hy
      subst hy2
      go_wp2
      go_roundw
      case rel => exact ⟨k + 1, x, hlt, by go_num, HXL.out, HR.out, HB.out⟩
      case measure => simp [intOf]; omega
    · have hy0 : (0 : Int) < (y.length : Int) := by omega
      obtain ⟨c0, f0⟩ := HR.out k (by rw [HXL.out]; exact hlt)
      obtain ⟨d, hd, hdl⟩ : ∃ d : Nat, (k : Int).tmod (y.length : Int) = (d : Int) ∧ d < y.length := ⟨k % y.length, by rw [Int.ofNat_tmod], Nat.mod_lt _ (by omega)⟩
      have HD := hid hd
      have d0 : (0 : Int) ≤ d := by omega
      have d1 : (d : Int) < (y.length : Int) := by omega
      clear hd
      go_upto_region 6 with fail
      refine wp_region_held_drew (S := (fun w' => True)) (by as_aux_lemma => kernel_rfl) trivial (fun _hHeld => ?_)
      refine takeF 0 17 ?v1 rfl (Or.inl ⟨by rfl, ?hy1⟩) ?rest1
      case hy1 => intro wz hSw; (try dsimp only at hSw); go_simp; try with_reducible rfl
      simp only [Act.put, List.setIfInBounds_toArray, List.set_cons_zero, List.set_cons_succ]
      refine takeF 1 18 ?v2 rfl (Or.inl ⟨by rfl, ?hy2⟩) ?rest2
      case hy2 => intro wz hSw; (try dsimp only at hSw); go_simp; try with_reducible rfl
      simp only [Act.put, List.setIfInBounds_toArray, List.set_cons_zero, List.set_cons_succ]
      refine takeF 2 19 ?v3 rfl (Or.inl ⟨by rfl, ?hy3⟩) ?rest3
      case hy3 => intro wz hSw; (try dsimp only at hSw); go_simp; try with_reducible rfl
      simp only [Act.put, List.setIfInBounds_toArray, List.set_cons_zero, List.set_cons_succ]
      refine takeF 4 21 ?v4 rfl (Or.inl ⟨by rfl, ?hy4⟩) ?rest4
      case hy4 => intro wz hSw; (try dsimp only at hSw); go_simp; try with_reducible rfl
      simp only [Act.put, List.setIfInBounds_toArray, List.set_cons_zero, List.set_cons_succ]
      refine takeF 5 22 ?v5 rfl (Or.inl ⟨by rfl, ?hy5⟩) ?rest5
      case hy5 => intro wz hSw; (try dsimp only at hSw); go_simp; try with_reducible rfl
      simp only [Act.put, List.setIfInBounds_toArray, List.set_cons_zero, List.set_cons_succ]
      refine takeF 6 23 ?v6 rfl (Or.inl ⟨by rfl, ?hy6⟩) ?rest6
      case hy6 => intro wz hSw; (try dsimp only at hSw); go_simp; try with_reducible rfl
      simp only [Act.put, List.setIfInBounds_toArray, List.set_cons_zero, List.set_cons_succ]
      refine takeF 7 24 ?v7 rfl (Or.inl ⟨by rfl, ?hy7⟩) ?rest7
      case hy7 => intro wz hSw; (try dsimp only at hSw); go_simp; try with_reducible rfl
      simp only [Act.put, List.setIfInBounds_toArray, List.set_cons_zero, List.set_cons_succ]
      refine takeF 8 25 (.int .i64 ((d : Nat) : Int)) rfl (Or.inl ⟨by rfl, ?hy8⟩) ?rest8
      case hy8 => intro wz hSw; (try dsimp only at hSw); go_simp; rw [HD.out]
      simp only [Act.put, List.setIfInBounds_toArray, List.set_cons_zero, List.set_cons_succ]
      refine takeF 9 26 ?v9 rfl (Or.inl ⟨by rfl, ?hy9⟩) ?rest9
      case hy9 => intro wz hSw; (try dsimp only at hSw); go_simp; try with_reducible rfl
      simp only [Act.put, List.setIfInBounds_toArray, List.set_cons_zero, List.set_cons_succ]
      obtain ⟨wd, hwd⟩ : ∃ wd, wd = wr.drew := ⟨_, rfl⟩
      rw [← hwd]
      have hbd : Below wr.heap.size wr wd := by rw [hwd]; exact (Below.refl _ _).drew
      have HRd : Hid (RowB wd w.heap.size x) := hid (by rw [hwd]; exact HR.out)
      clear hwd c0 f0
      obtain ⟨c0, f0⟩ := HRd.out k (by rw [HXL.out]; exact hlt)
      refine wpAnyH_ready (rs := [3]) (by as_aux_lemma => kernel_rfl) (by simp) ?_
      refine (AllReadyH.cons rfl (fun K' hK => ?_) AllReadyH.nil)
      go_simp
      refine hK.out _ _ trivial (fun _ => ?_)
      clear hK K'
      refine takeF 10 27 ?v10 rfl (Or.inl ⟨by rfl, ?hy10⟩) ?rest10
      case hy10 => intro wz hSw; (try dsimp only at hSw); go_simp; try with_reducible rfl
      simp only [Act.put, List.setIfInBounds_toArray, List.set_cons_zero, List.set_cons_succ]
      refine takeF 11 28 ?v11 rfl (Or.inl ⟨by rfl, ?hy11⟩) ?rest11
      case hy11 => intro wz hSw; (try dsimp only at hSw); go_simp; try with_reducible rfl
      simp only [Act.put, List.setIfInBounds_toArray, List.set_cons_zero, List.set_cons_succ]
      refine wpAnyH_ready (rs := [12]) (by as_aux_lemma => kernel_rfl) (by simp) ?_
      refine (AllReadyH.cons rfl (fun K' hK => ?_) AllReadyH.nil)
      go_simp
      generalize hbv : bits BinOp.xor IntKind.u8 _ _ = bv
      obtain ⟨z, hz⟩ : ∃ z : UInt8, bv = (z.toNat : Int) := by rw [← hbv]; exact QjR _ _
      clear hbv
      subst hz
      have HR2 := hid (HRd.out.set (k := k) (by rw [HXL.out]; exact hlt) z)
      have HB2 := hid ((Qc HB.out hbd).grown (Qg wd w.heap.size k (.int .u8 (z.toNat : Int))) (Qc HB.out hbd).size (fun k hk => by have := Option.some.inj hk; omega))
      refine hK.out _ _ trivial (fun _ => ?_)
      clear hK K'
      refine wpAnyH_done (by as_aux_lemma => kernel_rfl) ?_ _
      go_wp2
      go_roundw
      case rel => exact ⟨k + 1, x.set k z, hlt, by go_num, by rw [List.length_set]; exact HXL.out, HR2.out, HB2.out⟩
      case measure => simp [intOf]; omega
  · have hkl : k = s.length := by omega
    subst hkl
    have hback := run_convert_bytes_back (P := Tryz.prog) wr 86 9 5 ⟨w.heap.size, 0, none⟩ cap x Tryz.underlying86 Tryz.underlying5 Tryz.underlying9 (fun j hj => by rw [WideShapes.add_plain, Nat.zero_add]; exact (HR.out j hj).1)
    rw [hxl] at hback
    clear hxl
    go_wp2
    go_ret
    exact ⟨⟨x, HXL.out, rfl⟩, HB.out⟩
def taintB (th : Thr) (c : Int) : Bool := decide (1 < atL th.label c) && !decide (c ∈ th.own)
def lowB (th : Thr) (c : Int) : Bool := decide (atL th.label c ≤ 1) && !decide (c ∈ th.own)
set_option maxRecDepth 100000 in
set_option maxHeartbeats 1600000 in
theorem Qes (th : Thr) (c : Int) (p1 p2 p3 p4 : Option Addr) (q1 q2 q3 q4 : Nat) (w : World) (hl : LabAt w (.slice p1 th.label.length q1) th.label) (ho : IntsAt w (.slice p2 th.own.length q2) th.own) :
 Calls Tryz.prog 13 #[.agg #[.slice p1 th.label.length q1, .slice p2 th.own.length q2, .string ⟨th.text.toArray⟩, .slice p3 th.objs.length q3, .slice p4 th.mails.length q4], .int .i64 c] w fun e w' => e = .returned (.bool (taintB th c)) ∧ Below w.heap.size w w' := by
 have hb := Qd w (.cells #[.slice p1 th.label.length q1, .slice p2 th.own.length q2, .string ⟨th.text.toArray⟩, .slice p3 th.objs.length q3, .slice p4 th.mails.length q4] 36)
 have HX := hid (heap_alloc_new w (.cells #[.slice p1 th.label.length q1, .slice p2 th.own.length q2, .string ⟨th.text.toArray⟩, .slice p3 th.objs.length q3, .slice p4 th.mails.length q4] 36))
 have HL := hid (hl.below hb)
 have HO := hid (ho.below hb)
 have HB := hid hb
 clear hb hl ho
 unfold taintB
 go_enter Tryz.func13, Tryz.ntmps13
 go_upto_region 1 with fail
 generalize w.alloc (.cells #[.slice p1 th.label.length q1, .slice p2 th.own.length q2, .string ⟨th.text.toArray⟩, .slice p3 th.objs.length q3, .slice p4 th.mails.length q4] 36) = w1 at *
 have x0 : w1.cell? ⟨w.heap.size, 0, none⟩ = some (.slice p1 th.label.length q1) := Qa HX.out 0
 have hat := QcC _ th.label c w1 HL.out
 obtain ⟨n, hn0⟩ : ∃ n, n = atL th.label c := ⟨_, rfl⟩
 rw [← hn0] at hat
 have HE := hid hn0
 clear hn0
 by_cases hn : 1 < n
 · have x1 := fun (wx : World) (hb : Below w1.heap.size w1 wx) => Qa (Qe HX.out hb) 1
   have HD := hid (decide_eq_true hn)
   cases hin : decide (c ∈ th.own) with
   | true =>
    have HI := hid hin
    go_wp2_with (first
     | (go_at_call 19; refine hat.mono ?_; rintro e w2 ⟨rfl, hw2⟩; have y1 : w2.cell? ⟨w.heap.size, 1, none⟩ = some (.slice p2 th.own.length q2) := x1 w2 hw2)
     | (go_at_call 12; refine (Qbo _ th.own c w2 (HO.out.below hw2)).mono ?_; rw [hin]; rintro e w3 ⟨rfl, hwe⟩; rw [hwe]; clear hwe))
    go_ret
    exact ⟨by rw [← HE.out, HD.out, HI.out]; rfl, Qc HB.out hw2⟩
   | false =>
    have HI := hid hin
    go_wp2_with (first
     | (go_at_call 19; refine hat.mono ?_; rintro e w2 ⟨rfl, hw2⟩; have y1 : w2.cell? ⟨w.heap.size, 1, none⟩ = some (.slice p2 th.own.length q2) := x1 w2 hw2)
     | (go_at_call 12; refine (Qbo _ th.own c w2 (HO.out.below hw2)).mono ?_; rw [hin]; rintro e w3 ⟨rfl, hwe⟩; rw [hwe]; clear hwe))
    go_ret
    exact ⟨by rw [← HE.out, HD.out, HI.out]; rfl, Qc HB.out hw2⟩
 · have HD := hid (decide_eq_false hn)
   go_wp2_with (go_at_call 19; refine hat.mono ?_; rintro e w2 ⟨rfl, hw2⟩)
   go_ret
   exact ⟨by rw [← HE.out, HD.out]; rfl, Qc HB.out hw2⟩
set_option maxRecDepth 100000 in
set_option maxHeartbeats 1600000 in
theorem Qk9 (th : Thr) (c : Int) (p1 p2 p3 p4 : Option Addr) (q1 q2 q3 q4 : Nat) (w : World) (hl : LabAt w (.slice p1 th.label.length q1) th.label) (ho : IntsAt w (.slice p2 th.own.length q2) th.own) :
 Calls Tryz.prog 18 #[.agg #[.slice p1 th.label.length q1, .slice p2 th.own.length q2, .string ⟨th.text.toArray⟩, .slice p3 th.objs.length q3, .slice p4 th.mails.length q4], .int .i64 c] w fun e w' => e = .returned (.bool (lowB th c)) ∧ Below w.heap.size w w' := by
 have hb := Qd w (.cells #[.slice p1 th.label.length q1, .slice p2 th.own.length q2, .string ⟨th.text.toArray⟩, .slice p3 th.objs.length q3, .slice p4 th.mails.length q4] 36)
 have HX := hid (heap_alloc_new w (.cells #[.slice p1 th.label.length q1, .slice p2 th.own.length q2, .string ⟨th.text.toArray⟩, .slice p3 th.objs.length q3, .slice p4 th.mails.length q4] 36))
 have HL := hid (hl.below hb)
 have HO := hid (ho.below hb)
 have HB := hid hb
 clear hb hl ho
 unfold lowB
 go_enter Tryz.func18, Tryz.ntmps18
 go_upto_region 1 with fail
 generalize w.alloc (.cells #[.slice p1 th.label.length q1, .slice p2 th.own.length q2, .string ⟨th.text.toArray⟩, .slice p3 th.objs.length q3, .slice p4 th.mails.length q4] 36) = w1 at *
 have x0 : w1.cell? ⟨w.heap.size, 0, none⟩ = some (.slice p1 th.label.length q1) := Qa HX.out 0
 have hat := QcC _ th.label c w1 HL.out
 obtain ⟨n, hn0⟩ : ∃ n, n = atL th.label c := ⟨_, rfl⟩
 rw [← hn0] at hat
 have HE := hid hn0
 clear hn0
 by_cases hn : n ≤ 1
 · have x1 := fun (wx : World) (hb : Below w1.heap.size w1 wx) => Qa (Qe HX.out hb) 1
   have HD := hid (decide_eq_true hn)
   cases hin : decide (c ∈ th.own) with
   | true =>
    have HI := hid hin
    go_wp2_with (first
     | (go_at_call 19; refine hat.mono ?_; rintro e w2 ⟨rfl, hw2⟩; have y1 : w2.cell? ⟨w.heap.size, 1, none⟩ = some (.slice p2 th.own.length q2) := x1 w2 hw2)
     | (go_at_call 12; refine (Qbo _ th.own c w2 (HO.out.below hw2)).mono ?_; rw [hin]; rintro e w3 ⟨rfl, hwe⟩; rw [hwe]; clear hwe))
    go_ret
    exact ⟨by rw [← HE.out, HD.out, HI.out]; rfl, Qc HB.out hw2⟩
   | false =>
    have HI := hid hin
    go_wp2_with (first
     | (go_at_call 19; refine hat.mono ?_; rintro e w2 ⟨rfl, hw2⟩; have y1 : w2.cell? ⟨w.heap.size, 1, none⟩ = some (.slice p2 th.own.length q2) := x1 w2 hw2)
     | (go_at_call 12; refine (Qbo _ th.own c w2 (HO.out.below hw2)).mono ?_; rw [hin]; rintro e w3 ⟨rfl, hwe⟩; rw [hwe]; clear hwe))
    go_ret
    exact ⟨by rw [← HE.out, HD.out, HI.out]; rfl, Qc HB.out hw2⟩
 · have HD := hid (decide_eq_false hn)
   go_wp2_with (go_at_call 19; refine hat.mono ?_; rintro e w2 ⟨rfl, hw2⟩)
   go_ret
   exact ⟨by rw [← HE.out, HD.out]; rfl, Qc HB.out hw2⟩
end Go.Proofs.YtlbdaklmlknmbaaGreat
