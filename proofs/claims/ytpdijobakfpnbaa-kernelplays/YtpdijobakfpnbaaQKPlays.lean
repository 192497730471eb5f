/- The statement KernelPlays: the program's kernel and the reference's answer the same, order by order (written by genkplays.py). -/
import Derived.Test.YtpdijobakfpnbaaQKRDelA
import Derived.Test.YtpdijobakfpnbaaQKPCall
import Derived.Test.YtpdijobakfpnbaaQWMem
import Derived.Test.YtpdijobakfpnbaaQKRAny
import Derived.Test.YtpdijobakfpnbaaQKRSame
import Derived.Test.YtpdijobakfpnbaaQKRLetO
import Derived.Test.YtpdijobakfpnbaaQKLetter
import Derived.Test.YtpdijobakfpnbaaQKDelivD
import Derived.Test.YtpdijobakfpnbaaQKKer
import Derived.Test.YtpdijobakfpnbaaQMem
namespace Go.Proofs.Ytpdijobakfpnbaa
open Go.RowKit Go.Proofs.Parclose
theorem QgV (host : Int) (w : World) (h : 0 ≤ host ∧ host < 4) : Calls Try.prog 4 #[.int .i64 host] w fun e w' => ∃ ka, e = .returned (.tuple #[.pointer (some ⟨ka, 0, none⟩), .int .i64 0]) ∧ ka = w.heap.size ∧ KerAt w' ka [ka] [nilV, nilV, nilV, nilV] (freshKer host) ∧ Below w.heap.size w w' :=
 (Qgd host w h).mono fun _ _ ⟨h1, h2, h3⟩ => ⟨_, h1, rfl, h2, h3⟩
set_option linter.unusedSimpArgs false in
set_option maxRecDepth 100000 in
set_option maxHeartbeats 12800000 in
theorem Qcj (host : Int) (vs : Value) (l : List Odr) (w : World) (hl : OdrsAt w vs l) :
 Calls Try.prog 3 #[.int .i64 host, vs] w fun e w' => e = .returned (.bool true) ∧ Below w.heap.size w w' := by
 obtain ⟨ps, cps, rfl, hsc, hsl, hst⟩ := hl
 have HST := hid hst
 clear hst
 by_cases hh : 0 ≤ host ∧ host < 4
 rotate_left
 · by_cases h0 : host < 0
   · skip
     go_enter Try.func3, Try.ntmps3
     go_wp2_with (first
      | (go_at_call 4; refine (Qfw _ _ hh).mono ?_; rintro e w1 ⟨rfl, hw1⟩; have hw2 := hw1.symm; subst hw2)
      | (go_at_call 5; refine (QaV _).mono ?_; rintro e w3 ⟨rfl, hw3⟩))
     go_ret
     exact ⟨rfl, hw3⟩
   · have h4 : 4 ≤ host := by omega
     go_enter Try.func3, Try.ntmps3
     go_wp2_with (first
      | (go_at_call 4; refine (Qfw _ _ hh).mono ?_; rintro e w1 ⟨rfl, hw1⟩; have hw2 := hw1.symm; subst hw2)
      | (go_at_call 5; refine (QaV _).mono ?_; rintro e w3 ⟨rfl, hw3⟩))
     go_ret
     exact ⟨rfl, hw3⟩
 obtain ⟨hh0, hh4⟩ := hh
 have n0 : ¬ host < 0 := by omega
 have n4 : ¬ (4 : Int) ≤ host := by omega
 go_enter Try.func3, Try.ntmps3
 go_wp2_with (go_at_call 4; refine (QgV _ _ ⟨hh0, hh4⟩).mono ?_; rintro e w1 ⟨ka, rfl, hka, hk1, hw1⟩; have HB0 := hid (Qfi hk1 hw1 hka ⟨hh0, hh4⟩); clear hk1 hw1 hka)
 unfold rfresh at HB0
 generalize w1.alloc (.cells #[.int .i64 host, .slice none 0 0, .slice none 0 0, .string ⟨#[]⟩, .slice none 0 0, .slice none 0 0, .slice none 0 0, .slice none 0 0, .string ⟨#[]⟩, .slice none 0 0, .slice none 0 0, .slice none 0 0, .slice none 0 0, .string ⟨#[]⟩, .slice none 0 0, .slice none 0 0, .slice none 0 0, .slice none 0 0, .string ⟨#[]⟩, .slice none 0 0, .slice none 0 0, .int .i64 0] 38) = w2 at *
 generalize w1.heap.size = rb at *
 go_loopw [8] (fun i wr => ∃ (k : Nat) (F : List Nat) (V U : List ThrV) (K : Ker), k ≤ l.length ∧ k ≤ 120 ∧ i = .int .i64 k ∧ Both w wr ka rb F V U K) (fun i _ => 120 - (intOf i).toNat)
 case atStart => exact ⟨0, _, _, _, _, Nat.zero_le _, Nat.zero_le _, rfl, HB0.out⟩
 case round =>
  clear HB0
  obtain ⟨k, F, V, U, K, hk, hk60, rfl, hbs⟩ := hrel
  have HBS := hid hbs
  clear hbs
  by_cases hgo : k < l.length ∧ k < 120
  · obtain ⟨hlt, hlt60⟩ := hgo
    obtain ⟨b, o, rfl, hel⟩ := HST.out (by omega)
    obtain ⟨el, eg, ml, mg, hx⟩ := hel k hlt
    have hx2 := hx.below HBS.out.below
    have g0 := hx2.c0
    have g1 := hx2.c1
    have g2 := hx2.c2
    have g3 := hx2.c3
    have g4 := hx2.c4
    have g5 := hx2.c5
    have g6 := hx2.c6
    have g7 := hx2.c7
    have g8 := hx2.c8
    have g9 := hx2.c9
    have g10 := hx2.c10
    have g11 := hx2.c11
    have g12 := hx2.c12
    have g13 := hx2.c13
    have g14 := hx2.c14
    obtain ⟨pe, ce, rfl, _⟩ := id hx2.lab
    obtain ⟨pf, cf, rfl, _⟩ := id hx2.gra
    obtain ⟨px, cx, rfl, _⟩ := id hx2.mlab
    obtain ⟨pn, cn, rfl, _⟩ := id hx2.mgra
    have HX := hid hx
    have htx := hx.txt
    have HBW := hid HBS.out.below
    generalize l[k] = x at *
    clear hel hx hx2
    have HB1 := hid (HBS.out.more (Qe wr (.cells #[.int .i64 x.kind, .int .i64 x.t, .int .i64 x.call.kind, .int .i64 x.call.h, .int .i64 x.call.t, .int .i64 x.call.n, .int .i64 x.call.c, .slice pe x.call.label.length ce, .slice pf x.call.grants.length cf, .string ⟨x.call.text.toArray⟩, .int .i64 x.mail.host, .int .i64 x.mail.thread, .slice px x.mail.label.length cx, .slice pn x.mail.grants.length cn, .string ⟨x.mail.text.toArray⟩] 44)))
    have HXB := hid (heap_alloc_new wr (.cells #[.int .i64 x.kind, .int .i64 x.t, .int .i64 x.call.kind, .int .i64 x.call.h, .int .i64 x.call.t, .int .i64 x.call.n, .int .i64 x.call.c, .slice pe x.call.label.length ce, .slice pf x.call.grants.length cf, .string ⟨x.call.text.toArray⟩, .int .i64 x.mail.host, .int .i64 x.mail.thread, .slice px x.mail.label.length cx, .slice pn x.mail.grants.length cn, .string ⟨x.mail.text.toArray⟩] 44))
    have HNF : Hid (wr.heap.size ∉ F) := hid (fun e => by have := HBS.out.one.fin _ e; omega)
    have HCAL : Hid (∀ w', Below w.heap.size w w' → CalAt w' (.agg #[.int .i64 x.call.kind, .int .i64 x.call.h, .int .i64 x.call.t, .int .i64 x.call.n, .int .i64 x.call.c, .slice pe x.call.label.length ce, .slice pf x.call.grants.length cf, .string ⟨x.call.text.toArray⟩]) x.call) := hid (fun w' hb => ⟨_, _, rfl, HX.out.lab.below hb, HX.out.gra.below hb⟩)
    have HMAL : Hid (∀ w', Below w.heap.size w w' → MalAt w' (.agg #[.int .i64 x.mail.host, .int .i64 x.mail.thread, .slice px x.mail.label.length cx, .slice pn x.mail.grants.length cn, .string ⟨x.mail.text.toArray⟩]) x.mail) := hid (fun w' hb => ⟨_, _, rfl, HX.out.mlab.below hb, HX.out.mgra.below hb⟩)
    go_upto_region 14 with fail
    clear g0 g1 g2 g3 g4 g5 g6 g7 g8 g9 g10 g11 g12 g13 g14 HBS HBW HX
    generalize wr.alloc (.cells #[.int .i64 x.kind, .int .i64 x.t, .int .i64 x.call.kind, .int .i64 x.call.h, .int .i64 x.call.t, .int .i64 x.call.n, .int .i64 x.call.c, .slice pe x.call.label.length ce, .slice pf x.call.grants.length cf, .string ⟨x.call.text.toArray⟩, .int .i64 x.mail.host, .int .i64 x.mail.thread, .slice px x.mail.label.length cx, .slice pn x.mail.grants.length cn, .string ⟨x.mail.text.toArray⟩] 44) = w0 at *
    generalize wr.heap.size = bx at *
    by_cases e1 : x.kind.tmod 3 = 1
    · skip
      as_aux_lemma =>
       have t1 : (x.kind.tmod 3 == 1) = true := by simp [e1]
       obtain ⟨LM, hLM⟩ : ∃ LM, letterL K x.t x.call = LM := ⟨_, rfl⟩
       have hxl : x.call.text.length < 2305843009213693952 := by omega
       have HLET := hid (fun w' v (hb : Below w0.heap.size w0 w') (hc : CalAt w' v x.call) => Qfo ka x.t F V K v x.call w' (HB1.out.one.below hb) HB1.out.good hxl hc)
       have HRLET := hid (fun w' v (hb : Below w0.heap.size w0 w') (hc : CalAt w' v x.call) => Qd0 rb x.t F U K v x.call w' (HB1.out.two.below hb) HB1.out.good hxl hc)
       rw [hLM] at HLET HRLET
       have HS : Hid (∀ w', Below w0.heap.size w0 w' → w'.cell? ⟨bx, 1, none⟩ = some (.int .i64 x.t) ∧ w'.cell? ⟨bx, 2, none⟩ = some (.int .i64 x.call.kind) ∧ w'.cell? ⟨bx, 3, none⟩ = some (.int .i64 x.call.h) ∧ w'.cell? ⟨bx, 4, none⟩ = some (.int .i64 x.call.t) ∧ w'.cell? ⟨bx, 5, none⟩ = some (.int .i64 x.call.n) ∧ w'.cell? ⟨bx, 6, none⟩ = some (.int .i64 x.call.c) ∧ w'.cell? ⟨bx, 7, none⟩ = some (.slice pe x.call.label.length ce) ∧ w'.cell? ⟨bx, 8, none⟩ = some (.slice pf x.call.grants.length cf) ∧ w'.cell? ⟨bx, 9, none⟩ = some (.string ⟨x.call.text.toArray⟩)) := hid (fun w' hb => by have h := Qc HXB.out hb; exact ⟨Qa h 1, Qa h 2, Qa h 3, Qa h 4, Qa h 5, Qa h 6, Qa h 7, Qa h 8, Qa h 9⟩)
       clear hLM
       go_upto_region 15 with fail
       go_cut [10, 11] from 45 to 120 (fun v10 v11 wx => ∃ (M : Nat) (p2 q2 : Option Addr) (cl2 cg2 : Nat), v10 = .pointer (some ⟨M, 0, none⟩) ∧ v11 = .int .i64 LM.2 ∧ wx.heap[M]? = some (.cells #[.int .i64 LM.1.host, .int .i64 LM.1.thread, .slice p2 LM.1.label.length cl2, .slice q2 LM.1.grants.length cg2, .string ⟨LM.1.text.toArray⟩] 42 (0, 0)) ∧ (∀ w'', Since w0.heap.size wx w'' → MalAt w'' (.agg #[.int .i64 LM.1.host, .int .i64 LM.1.thread, .slice p2 LM.1.label.length cl2, .slice q2 LM.1.grants.length cg2, .string ⟨LM.1.text.toArray⟩]) LM.1) ∧ Below w0.heap.size w0 wx)
       case first =>
        as_aux_lemma =>
         refine wp_region_held_drew (S := (fun w' => w'.cell? ⟨bx, 1, none⟩ = some (.int .i64 x.t) ∧ w'.cell? ⟨bx, 2, none⟩ = some (.int .i64 x.call.kind) ∧ w'.cell? ⟨bx, 3, none⟩ = some (.int .i64 x.call.h) ∧ w'.cell? ⟨bx, 4, none⟩ = some (.int .i64 x.call.t) ∧ w'.cell? ⟨bx, 5, none⟩ = some (.int .i64 x.call.n) ∧ w'.cell? ⟨bx, 6, none⟩ = some (.int .i64 x.call.c) ∧ w'.cell? ⟨bx, 7, none⟩ = some (.slice pe x.call.label.length ce) ∧ w'.cell? ⟨bx, 8, none⟩ = some (.slice pf x.call.grants.length cf) ∧ w'.cell? ⟨bx, 9, none⟩ = some (.string ⟨x.call.text.toArray⟩))) (by as_aux_lemma => kernel_rfl) (HS.out _ (Below.refl _ _).drew) (fun _ => ?_)
         refine takeF 0 79 ?v1 rfl (Or.inl ⟨by rfl, ?hy1⟩) ?rest1
         case hy1 => intro wz hSw; (try dsimp only at hSw); go_simp; try with_reducible rfl
         simp only [Act.put, List.setIfInBounds_toArray, List.set_cons_zero, List.set_cons_succ]
         refine takeF 1 80 ?v2 rfl (Or.inl ⟨by rfl, ?hy2⟩) ?rest2
         case hy2 => intro wz hSw; (try dsimp only at hSw); go_simp; try with_reducible rfl
         simp only [Act.put, List.setIfInBounds_toArray, List.set_cons_zero, List.set_cons_succ]
         refine takeF 2 81 ?v3 rfl (Or.inl ⟨by rfl, ?hy3⟩) ?rest3
         case hy3 => intro wz hSw; (try dsimp only at hSw); go_simp; try with_reducible rfl
         simp only [Act.put, List.setIfInBounds_toArray, List.set_cons_zero, List.set_cons_succ]
         refine takeF 3 82 ?v4 rfl (Or.inl ⟨by rfl, ?hy4⟩) ?rest4
         case hy4 => intro wz hSw; (try dsimp only at hSw); go_simp; try with_reducible rfl
         simp only [Act.put, List.setIfInBounds_toArray, List.set_cons_zero, List.set_cons_succ]
         refine takeF 4 83 ?v5 rfl (Or.inl ⟨by rfl, ?hy5⟩) ?rest5
         case hy5 => intro wz hSw; (try dsimp only at hSw); go_simp; try with_reducible rfl
         simp only [Act.put, List.setIfInBounds_toArray, List.set_cons_zero, List.set_cons_succ]
         refine wpAnyH_ready (rs := [5, 10]) (by as_aux_lemma => kernel_rfl) (by simp) ?_
         refine (AllReadyH.cons rfl (fun K' hK => ?_) (AllReadyH.cons rfl (fun K' hK => ?_) AllReadyH.nil))
         · skip
           go_simp
           go_wp2_with (go_at_call 7; refine (QbQ _ x.call _ (HCAL.out _ (Qd HB1.out.below (by first | exact (Below.refl _ _) | exact ((Below.refl _ _)).drew)))).mono ?_; rintro e w1 ⟨p6, c6, p7, c7, rfl, hcal, hw1⟩; have hb1 : Below w0.heap.size w0 w1 := Qd (by first | exact (Below.refl _ _) | exact ((Below.refl _ _)).drew) hw1; have HC1 := hid hcal; clear hcal)
           refine hK.out _ _ (HS.out _ hb1) (fun _ => ?_)
           clear hK K'
           refine wpAnyH_ready (rs := [6, 10]) (by as_aux_lemma => kernel_rfl) (by simp) ?_
           refine (AllReadyH.cons rfl (fun K' hK => ?_) (AllReadyH.cons rfl (fun K' hK => ?_) AllReadyH.nil))
           · skip
             go_simp
             go_wp2_with (go_at_call 6; refine (HLET.out _ _ hb1 HC1.out).mono ?_; rintro e w2 ⟨vm2, rfl, hM2, hw2⟩; have hv2 : ∃ p2 q2 cl2 cg2, vm2 = .agg #[.int .i64 LM.1.host, .int .i64 LM.1.thread, .slice p2 LM.1.label.length cl2, .slice q2 LM.1.grants.length cg2, .string ⟨LM.1.text.toArray⟩] := (by obtain ⟨vl2, vg2, rfl, hl2, hg2⟩ := hM2 w2 (Since.refl _ _); obtain ⟨p2, cl2, rfl, _⟩ := id hl2; obtain ⟨q2, cg2, rfl, _⟩ := id hg2; exact ⟨p2, q2, cl2, cg2, rfl⟩); obtain ⟨p2, q2, cl2, cg2, hv3⟩ := hv2; subst hv3; have hbB : Below w0.heap.size w0 w2 := Qd hb1 hw2)
             refine hK.out _ _ (HS.out _ hbB) (fun _ => ?_)
             clear hK K'
             refine takeF 7 78 ?v6 rfl (Or.inl ⟨by rfl, ?hy6⟩) ?rest6
             case hy6 => intro wz hSw; (try dsimp only at hSw); go_simp; try with_reducible rfl
             simp only [Act.put, List.setIfInBounds_toArray, List.set_cons_zero, List.set_cons_succ]
             refine takeF 8 86 ?v7 rfl (Or.inl ⟨by rfl, ?hy7⟩) ?rest7
             case hy7 => intro wz hSw; (try dsimp only at hSw); go_simp; try with_reducible rfl
             simp only [Act.put, List.setIfInBounds_toArray, List.set_cons_zero, List.set_cons_succ]
             refine takeF 9 87 ?v8 rfl (Or.inl ⟨by rfl, ?hy8⟩) ?rest8
             case hy8 => intro wz hSw; (try dsimp only at hSw); go_simp; try with_reducible rfl
             simp only [Act.put, List.setIfInBounds_toArray, List.set_cons_zero, List.set_cons_succ]
             refine wpAnyH_ready (rs := [10]) (by as_aux_lemma => kernel_rfl) (by simp) ?_
             refine (AllReadyH.cons rfl (fun K' hK => ?_) AllReadyH.nil)
             go_simp
             refine hK.out _ _ (HS.out _ (Qd hbB (Qe w2 _))) (fun _ => ?_)
             clear hK K'
             refine wpAnyH_ready (rs := [11]) (by as_aux_lemma => kernel_rfl) (by simp) ?_
             refine (AllReadyH.cons rfl (fun K' hK => ?_) AllReadyH.nil)
             go_simp
             refine hK.out _ _ (HS.out _ (Qd hbB (Qe w2 _))) (fun _ => ?_)
             clear hK K'
             refine takeF 12 11 ?v9 rfl (Or.inl ⟨by rfl, ?hy9⟩) ?rest9
             case hy9 => intro wz hSw; (try dsimp only at hSw); go_simp; try with_reducible rfl
             simp only [Act.put, List.setIfInBounds_toArray, List.set_cons_zero, List.set_cons_succ]
             refine wpAnyH_done (by as_aux_lemma => kernel_rfl) ?_ _
             go_wp2_with fail
             go_meet
             exact ⟨w2.heap.size, p2, q2, cl2, cg2, rfl, rfl, heap_alloc_new w2 _, QaA hM2 (Q8 (Qe w2 _)) (by have := hb1.size; omega) (by simp), Qd hbB (Qe w2 _)⟩
           · skip
             go_simp
             refine hK.out _ _ (HS.out _ (Qd hb1 (Qe w1 _))) (fun _ => ?_)
             clear hK K'
             refine wpAnyH_ready (rs := [6]) (by as_aux_lemma => kernel_rfl) (by simp) ?_
             refine (AllReadyH.cons rfl (fun K' hK => ?_) AllReadyH.nil)
             go_simp
             go_wp2_with (go_at_call 6; refine (HLET.out _ _ (Qd hb1 (Qe w1 _)) (HC1.out.below (Qe w1 _))).mono ?_; rintro e w2 ⟨vm2, rfl, hM2, hw2⟩; have hv2 : ∃ p2 q2 cl2 cg2, vm2 = .agg #[.int .i64 LM.1.host, .int .i64 LM.1.thread, .slice p2 LM.1.label.length cl2, .slice q2 LM.1.grants.length cg2, .string ⟨LM.1.text.toArray⟩] := (by obtain ⟨vl2, vg2, rfl, hl2, hg2⟩ := hM2 w2 (Since.refl _ _); obtain ⟨p2, cl2, rfl, _⟩ := id hl2; obtain ⟨q2, cg2, rfl, _⟩ := id hg2; exact ⟨p2, q2, cl2, cg2, rfl⟩); obtain ⟨p2, q2, cl2, cg2, hv3⟩ := hv2; subst hv3; have hbB : Below w0.heap.size w0 w2 := Qd (Qd hb1 (Qe w1 _)) hw2)
             refine hK.out _ _ (HS.out _ hbB) (fun _ => ?_)
             clear hK K'
             refine takeF 7 78 ?v10 rfl (Or.inl ⟨by rfl, ?hy10⟩) ?rest10
             case hy10 => intro wz hSw; (try dsimp only at hSw); go_simp; try with_reducible rfl
             simp only [Act.put, List.setIfInBounds_toArray, List.set_cons_zero, List.set_cons_succ]
             refine takeF 8 86 ?v11 rfl (Or.inl ⟨by rfl, ?hy11⟩) ?rest11
             case hy11 => intro wz hSw; (try dsimp only at hSw); go_simp; try with_reducible rfl
             simp only [Act.put, List.setIfInBounds_toArray, List.set_cons_zero, List.set_cons_succ]
             refine takeF 9 87 ?v12 rfl (Or.inl ⟨by rfl, ?hy12⟩) ?rest12
             case hy12 => intro wz hSw; (try dsimp only at hSw); go_simp; try with_reducible rfl
             simp only [Act.put, List.setIfInBounds_toArray, List.set_cons_zero, List.set_cons_succ]
             have hs1 := hb1.size
             have HM := hid (Qc (heap_alloc_new w1 _) hw2)
             have m0 := Qa HM.out 0
             have mf0 := Qf HM.out 0
             have m1 := Qa HM.out 1
             have mf1 := Qf HM.out 1
             have m2 := Qa HM.out 2
             have mf2 := Qf HM.out 2
             have m3 := Qa HM.out 3
             have mf3 := Qf HM.out 3
             have m4 := Qa HM.out 4
             have mf4 := Qf HM.out 4
             refine wpAnyH_ready (rs := [11]) (by as_aux_lemma => kernel_rfl) (by simp) ?_
             refine (AllReadyH.cons rfl (fun K' hK => ?_) AllReadyH.nil)
             go_simp
             have hgS := (Qh (Qh (Qh (Qh (Qg w2 w1.heap.size 0 (.int .i64 LM.1.host)) (Qg _ w1.heap.size 1 (.int .i64 LM.1.thread))) (Qg _ w1.heap.size 2 (.slice p2 LM.1.label.length cl2))) (Qg _ w1.heap.size 3 (.slice q2 LM.1.grants.length cg2))) (Qg _ w1.heap.size 4 (.string ⟨LM.1.text.toArray⟩)))
             have hbS := hbB.grown hgS hbB.size (fun k e => by have := Option.some.inj e; omega)
             refine hK.out _ _ (HS.out _ hbS) (fun _ => ?_)
             clear hK K'
             refine takeF 12 11 ?v13 rfl (Or.inl ⟨by rfl, ?hy13⟩) ?rest13
             case hy13 => intro wz hSw; (try dsimp only at hSw); go_simp; try with_reducible rfl
             simp only [Act.put, List.setIfInBounds_toArray, List.set_cons_zero, List.set_cons_succ]
             refine wpAnyH_done (by as_aux_lemma => kernel_rfl) ?_ _
             go_wp2_with fail
             go_meet
             exact ⟨w1.heap.size, p2, q2, cl2, cg2, rfl, rfl, (heap_setCell (j := 4) (heap_setCell (j := 3) (heap_setCell (j := 2) (heap_setCell (j := 1) (heap_setCell (j := 0) HM.out (.int .i64 LM.1.host)) (.int .i64 LM.1.thread)) (.slice p2 LM.1.label.length cl2)) (.slice q2 LM.1.grants.length cg2)) (.string ⟨LM.1.text.toArray⟩)), QaA hM2 (Qaj hgS (by simp)) (by simp; omega) hgS.size, hbS⟩
         · skip
           go_simp
           refine hK.out _ _ (HS.out _ (by first | exact (Qe w0 _) | exact (Qe w0 _).drew)) (fun _ => ?_)
           clear hK K'
           refine wpAnyH_ready (rs := [5]) (by as_aux_lemma => kernel_rfl) (by simp) ?_
           refine (AllReadyH.cons rfl (fun K' hK => ?_) AllReadyH.nil)
           go_simp
           go_wp2_with (go_at_call 7; refine (QbQ _ x.call _ (HCAL.out _ (Qd HB1.out.below (by first | exact (Qe w0 _) | exact ((Qe w0 _)).drew)))).mono ?_; rintro e w1 ⟨p6, c6, p7, c7, rfl, hcal, hw1⟩; have hb1 : Below w0.heap.size w0 w1 := Qd (by first | exact (Qe w0 _) | exact ((Qe w0 _)).drew) hw1; have HC1 := hid hcal; have HBXa : w1.heap[w0.heap.size]? = some (.cells #[.int .i64 0, .int .i64 0, .slice none 0 0, .slice none 0 0, .string ⟨#[]⟩] 42 (0, 0)) := Qc (by first | exact heap_alloc_new w0 _ | simpa using heap_alloc_new w0 _) hw1; clear hcal)
           refine hK.out _ _ (HS.out _ hb1) (fun _ => ?_)
           clear hK K'
           refine wpAnyH_ready (rs := [6]) (by as_aux_lemma => kernel_rfl) (by simp) ?_
           refine (AllReadyH.cons rfl (fun K' hK => ?_) AllReadyH.nil)
           go_simp
           go_wp2_with (go_at_call 6; refine (HLET.out _ _ hb1 HC1.out).mono ?_; rintro e w2 ⟨vm2, rfl, hM2, hw2⟩; have hv2 : ∃ p2 q2 cl2 cg2, vm2 = .agg #[.int .i64 LM.1.host, .int .i64 LM.1.thread, .slice p2 LM.1.label.length cl2, .slice q2 LM.1.grants.length cg2, .string ⟨LM.1.text.toArray⟩] := (by obtain ⟨vl2, vg2, rfl, hl2, hg2⟩ := hM2 w2 (Since.refl _ _); obtain ⟨p2, cl2, rfl, _⟩ := id hl2; obtain ⟨q2, cg2, rfl, _⟩ := id hg2; exact ⟨p2, q2, cl2, cg2, rfl⟩); obtain ⟨p2, q2, cl2, cg2, hv3⟩ := hv2; subst hv3; have hbB : Below w0.heap.size w0 w2 := Qd hb1 hw2)
           refine hK.out _ _ (HS.out _ hbB) (fun _ => ?_)
           clear hK K'
           refine takeF 7 78 ?v14 rfl (Or.inl ⟨by rfl, ?hy14⟩) ?rest14
           case hy14 => intro wz hSw; (try dsimp only at hSw); go_simp; try with_reducible rfl
           simp only [Act.put, List.setIfInBounds_toArray, List.set_cons_zero, List.set_cons_succ]
           refine takeF 8 86 ?v15 rfl (Or.inl ⟨by rfl, ?hy15⟩) ?rest15
           case hy15 => intro wz hSw; (try dsimp only at hSw); go_simp; try with_reducible rfl
           simp only [Act.put, List.setIfInBounds_toArray, List.set_cons_zero, List.set_cons_succ]
           refine takeF 9 87 ?v16 rfl (Or.inl ⟨by rfl, ?hy16⟩) ?rest16
           case hy16 => intro wz hSw; (try dsimp only at hSw); go_simp; try with_reducible rfl
           simp only [Act.put, List.setIfInBounds_toArray, List.set_cons_zero, List.set_cons_succ]
           have HM := hid (Qc HBXa hw2)
           have m0 := Qa HM.out 0
           have mf0 := Qf HM.out 0
           have m1 := Qa HM.out 1
           have mf1 := Qf HM.out 1
           have m2 := Qa HM.out 2
           have mf2 := Qf HM.out 2
           have m3 := Qa HM.out 3
           have mf3 := Qf HM.out 3
           have m4 := Qa HM.out 4
           have mf4 := Qf HM.out 4
           refine wpAnyH_ready (rs := [11]) (by as_aux_lemma => kernel_rfl) (by simp) ?_
           refine (AllReadyH.cons rfl (fun K' hK => ?_) AllReadyH.nil)
           go_simp
           have hgS := (Qh (Qh (Qh (Qh (Qg w2 w0.heap.size 0 (.int .i64 LM.1.host)) (Qg _ w0.heap.size 1 (.int .i64 LM.1.thread))) (Qg _ w0.heap.size 2 (.slice p2 LM.1.label.length cl2))) (Qg _ w0.heap.size 3 (.slice q2 LM.1.grants.length cg2))) (Qg _ w0.heap.size 4 (.string ⟨LM.1.text.toArray⟩)))
           have hbS := hbB.grown hgS hbB.size (fun k e => by have := Option.some.inj e; omega)
           refine hK.out _ _ (HS.out _ hbS) (fun _ => ?_)
           clear hK K'
           refine takeF 12 11 ?v17 rfl (Or.inl ⟨by rfl, ?hy17⟩) ?rest17
           case hy17 => intro wz hSw; (try dsimp only at hSw); go_simp; try with_reducible rfl
           simp only [Act.put, List.setIfInBounds_toArray, List.set_cons_zero, List.set_cons_succ]
           refine wpAnyH_done (by as_aux_lemma => kernel_rfl) ?_ _
           go_wp2_with fail
           go_meet
           exact ⟨w0.heap.size, p2, q2, cl2, cg2, rfl, rfl, (heap_setCell (j := 4) (heap_setCell (j := 3) (heap_setCell (j := 2) (heap_setCell (j := 1) (heap_setCell (j := 0) HM.out (.int .i64 LM.1.host)) (.int .i64 LM.1.thread)) (.slice p2 LM.1.label.length cl2)) (.slice q2 LM.1.grants.length cg2)) (.string ⟨LM.1.text.toArray⟩)), QaA hM2 (Qaj hgS (QJ HBXa)) hb1.size hgS.size, hbS⟩
       case rest =>
        obtain ⟨M, p2, q2, cl2, cg2, rfl, rfl, hM, hMA, hbc⟩ := hcut
        obtain ⟨a1, a2, a3, a4, a5, a6, a7, a8, a9⟩ := HS.out _ hbc
        have HM := hid hM
        have HMA := hid hMA
        have HBC := hid hbc
        clear hM hMA hbc
        go_wp2_with (first
         | (go_at_call 8; refine (HRLET.out _ _ HBC.out (HCAL.out _ (Qd HB1.out.below HBC.out))).mono ?_; rintro e w5 ⟨vm5, rfl, hM5, hw5⟩; have hv5 : ∃ p5 q5 cl5 cg5, vm5 = .agg #[.int .i64 LM.1.host, .int .i64 LM.1.thread, .slice p5 LM.1.label.length cl5, .slice q5 LM.1.grants.length cg5, .string ⟨LM.1.text.toArray⟩] := (by obtain ⟨vl2, vg2, rfl, hl2, hg2⟩ := hM5 w5 (Since.refl _ _); obtain ⟨p2, cl2, rfl, _⟩ := id hl2; obtain ⟨q2, cg2, rfl, _⟩ := id hg2; exact ⟨p2, q2, cl2, cg2, rfl⟩); obtain ⟨p5, q5, cl5, cg5, hv6⟩ := hv5; subst hv6; have HM5 := hid (Qc HM.out hw5); have m0 := Qa HM5.out 0; have m1 := Qa HM5.out 1; have m2 := Qa HM5.out 2; have m3 := Qa HM5.out 3; have m4 := Qa HM5.out 4; have hMlt : M < w5.heap.size := QJ HM5.out; have H5 := hid hM5; have HW5 := hid hw5; clear hM5 hw5 a1 a2 a3 a4 a5 a6 a7 a8 a9)
         | (go_at_call 9; refine (QbB _ _ LM.1 _ (HMA.out _ (Q8 (Qd HW5.out (Qe w5 _)))) (H5.out _ (Q8 (Qe w5 _)))).mono ?_; rintro e w6 ⟨rfl, hw6⟩))
        go_roundw
        case rel => exact ⟨k + 1, F, V, U, K, hlt, hlt60, by go_num, HB1.out.more (Qd HBC.out (Qd (Qd HW5.out (Qe w5 _)) hw6))⟩
        case measure => simp [intOf]; omega
    · by_cases e2 : x.kind.tmod 3 = 2
      · skip
        as_aux_lemma =>
         have t1 : (x.kind.tmod 3 == 1) = false := by simp [e1]
         have t2 : (x.kind.tmod 3 == 2) = true := by simp [e2]
         have HSX : Hid (∀ w' : World, w'.heap[bx]? = some (.cells #[.int .i64 x.kind, .int .i64 x.t, .int .i64 x.call.kind, .int .i64 x.call.h, .int .i64 x.call.t, .int .i64 x.call.n, .int .i64 x.call.c, .slice pe x.call.label.length ce, .slice pf x.call.grants.length cf, .string ⟨x.call.text.toArray⟩, .int .i64 x.mail.host, .int .i64 x.mail.thread, .slice px x.mail.label.length cx, .slice pn x.mail.grants.length cn, .string ⟨x.mail.text.toArray⟩] 44 (0, 0)) → w'.cell? ⟨bx, 1, none⟩ = some (.int .i64 x.t) ∧ w'.cell? ⟨bx, 10, none⟩ = some (.int .i64 x.mail.host) ∧ w'.cell? ⟨bx, 11, none⟩ = some (.int .i64 x.mail.thread) ∧ w'.cell? ⟨bx, 12, none⟩ = some (.slice px x.mail.label.length cx) ∧ w'.cell? ⟨bx, 13, none⟩ = some (.slice pn x.mail.grants.length cn) ∧ w'.cell? ⟨bx, 14, none⟩ = some (.string ⟨x.mail.text.toArray⟩)) := hid (fun w' h => ⟨Qa h 1, Qa h 10, Qa h 11, Qa h 12, Qa h 13, Qa h 14⟩)
         have HS : Hid (∀ w', Below w0.heap.size w0 w' → w'.cell? ⟨bx, 1, none⟩ = some (.int .i64 x.t) ∧ w'.cell? ⟨bx, 10, none⟩ = some (.int .i64 x.mail.host) ∧ w'.cell? ⟨bx, 11, none⟩ = some (.int .i64 x.mail.thread) ∧ w'.cell? ⟨bx, 12, none⟩ = some (.slice px x.mail.label.length cx) ∧ w'.cell? ⟨bx, 13, none⟩ = some (.slice pn x.mail.grants.length cn) ∧ w'.cell? ⟨bx, 14, none⟩ = some (.string ⟨x.mail.text.toArray⟩)) := hid (fun w' hb => HSX.out _ (Qc HXB.out hb))
         have HWF : Hid (∀ th ∈ K.ths, WfL th.label) := hid (fun th h => QO ((Qx _).2 (HB1.out.good.ths th h).label))
         go_upto_region 20 with fail
         refine wp_region_held_drew (S := (fun w' => w'.cell? ⟨bx, 1, none⟩ = some (.int .i64 x.t) ∧ w'.cell? ⟨bx, 10, none⟩ = some (.int .i64 x.mail.host) ∧ w'.cell? ⟨bx, 11, none⟩ = some (.int .i64 x.mail.thread) ∧ w'.cell? ⟨bx, 12, none⟩ = some (.slice px x.mail.label.length cx) ∧ w'.cell? ⟨bx, 13, none⟩ = some (.slice pn x.mail.grants.length cn) ∧ w'.cell? ⟨bx, 14, none⟩ = some (.string ⟨x.mail.text.toArray⟩))) (by as_aux_lemma => kernel_rfl) (HS.out _ (Below.refl _ _).drew) (fun _ => ?_)
         refine takeF 0 108 ?v18 rfl (Or.inl ⟨by rfl, ?hy18⟩) ?rest18
         case hy18 => intro wz hSw; (try dsimp only at hSw); go_simp; try with_reducible rfl
         simp only [Act.put, List.setIfInBounds_toArray, List.set_cons_zero, List.set_cons_succ]
         refine takeF 1 109 ?v19 rfl (Or.inl ⟨by rfl, ?hy19⟩) ?rest19
         case hy19 => intro wz hSw; (try dsimp only at hSw); go_simp; try with_reducible rfl
         simp only [Act.put, List.setIfInBounds_toArray, List.set_cons_zero, List.set_cons_succ]
         refine takeF 2 110 ?v20 rfl (Or.inl ⟨by rfl, ?hy20⟩) ?rest20
         case hy20 => intro wz hSw; (try dsimp only at hSw); go_simp; try with_reducible rfl
         simp only [Act.put, List.setIfInBounds_toArray, List.set_cons_zero, List.set_cons_succ]
         refine takeF 3 111 ?v21 rfl (Or.inl ⟨by rfl, ?hy21⟩) ?rest21
         case hy21 => intro wz hSw; (try dsimp only at hSw); go_simp; try with_reducible rfl
         simp only [Act.put, List.setIfInBounds_toArray, List.set_cons_zero, List.set_cons_succ]
         refine takeF 4 112 ?v22 rfl (Or.inl ⟨by rfl, ?hy22⟩) ?rest22
         case hy22 => intro wz hSw; (try dsimp only at hSw); go_simp; try with_reducible rfl
         simp only [Act.put, List.setIfInBounds_toArray, List.set_cons_zero, List.set_cons_succ]
         refine wpAnyH_ready (rs := [5]) (by as_aux_lemma => kernel_rfl) (by simp) ?_
         refine (AllReadyH.cons rfl (fun K' hK => ?_) AllReadyH.nil)
         go_simp
         go_wp2_with (go_at_call 11; refine (Qas _ x.mail _ (HMAL.out _ (Qd HB1.out.below (by first | exact Below.refl _ _ | exact (Below.refl _ _).drew)))).mono ?_; rintro e w1 ⟨vm1, rfl, hM1, hw1d⟩; have hw1 : Below w0.heap.size w0 w1 := (by first | exact hw1d | exact kundrew hw1d); have HM1 := hid (hM1 w1 (Since.refl _ _)); clear hM1 hw1d)
         refine hK.out _ _ (HS.out _ hw1) (fun _ => ?_)
         clear hK K'
         refine wpAnyH_ready (rs := [6]) (by as_aux_lemma => kernel_rfl) (by simp) ?_
         refine (AllReadyH.cons rfl (fun K' hK => ?_) AllReadyH.nil)
         go_simp
         go_wp2_with (go_at_call 10; refine (Qev ka x.t F V K x.mail _ w1 (HB1.out.one.below hw1) HB1.out.good HM1.out).mono ?_; rintro e w2 ⟨rfl, G, V2, hk2, hs2⟩)
         have HBX2 := hid ((hs2.keptF (HB1.out.one.below hw1)).heap (Qc HXB.out hw1) HNF.out)
         have HHALF := hid ((HB1.out.more hw1).half hs2 hk2)
         refine hK.out _ _ (HSX.out _ HBX2.out) (fun _ => ?_)
         clear hK K'
         refine wpAnyH_done (by as_aux_lemma => kernel_rfl) ?_ _
         obtain ⟨a1, a10, a11, a12, a13, a14⟩ := HSX.out _ HBX2.out
         clear hk2 hs2 hw1
         go_wp2_with (go_at_call 12; refine (QdB rb x.t G U K x.mail _ w2 HHALF.out.two HB1.out.good HWF.out (HMAL.out _ HHALF.out.below)).mono ?_; rintro e w3 ⟨rfl, H, U3, hk3, hs3⟩)
         go_roundw
         case rel => exact ⟨k + 1, H, V2, U3, _, hlt, hlt60, by go_num, HHALF.out.whole hs3 hk3 (QcZ HB1.out.good x.t x.mail)⟩
         case measure => simp [intOf]; omega
      · skip
        as_aux_lemma =>
         have t1 : (x.kind.tmod 3 == 1) = false := by simp [e1]
         have t2 : (x.kind.tmod 3 == 2) = false := by simp [e2]
         have HSX : Hid (∀ w' : World, w'.heap[bx]? = some (.cells #[.int .i64 x.kind, .int .i64 x.t, .int .i64 x.call.kind, .int .i64 x.call.h, .int .i64 x.call.t, .int .i64 x.call.n, .int .i64 x.call.c, .slice pe x.call.label.length ce, .slice pf x.call.grants.length cf, .string ⟨x.call.text.toArray⟩, .int .i64 x.mail.host, .int .i64 x.mail.thread, .slice px x.mail.label.length cx, .slice pn x.mail.grants.length cn, .string ⟨x.mail.text.toArray⟩] 44 (0, 0)) → w'.cell? ⟨bx, 1, none⟩ = some (.int .i64 x.t) ∧ w'.cell? ⟨bx, 2, none⟩ = some (.int .i64 x.call.kind) ∧ w'.cell? ⟨bx, 3, none⟩ = some (.int .i64 x.call.h) ∧ w'.cell? ⟨bx, 4, none⟩ = some (.int .i64 x.call.t) ∧ w'.cell? ⟨bx, 5, none⟩ = some (.int .i64 x.call.n) ∧ w'.cell? ⟨bx, 6, none⟩ = some (.int .i64 x.call.c) ∧ w'.cell? ⟨bx, 7, none⟩ = some (.slice pe x.call.label.length ce) ∧ w'.cell? ⟨bx, 8, none⟩ = some (.slice pf x.call.grants.length cf) ∧ w'.cell? ⟨bx, 9, none⟩ = some (.string ⟨x.call.text.toArray⟩)) := hid (fun w' h => ⟨Qa h 1, Qa h 2, Qa h 3, Qa h 4, Qa h 5, Qa h 6, Qa h 7, Qa h 8, Qa h 9⟩)
         have HS : Hid (∀ w', Below w0.heap.size w0 w' → w'.cell? ⟨bx, 1, none⟩ = some (.int .i64 x.t) ∧ w'.cell? ⟨bx, 2, none⟩ = some (.int .i64 x.call.kind) ∧ w'.cell? ⟨bx, 3, none⟩ = some (.int .i64 x.call.h) ∧ w'.cell? ⟨bx, 4, none⟩ = some (.int .i64 x.call.t) ∧ w'.cell? ⟨bx, 5, none⟩ = some (.int .i64 x.call.n) ∧ w'.cell? ⟨bx, 6, none⟩ = some (.int .i64 x.call.c) ∧ w'.cell? ⟨bx, 7, none⟩ = some (.slice pe x.call.label.length ce) ∧ w'.cell? ⟨bx, 8, none⟩ = some (.slice pf x.call.grants.length cf) ∧ w'.cell? ⟨bx, 9, none⟩ = some (.string ⟨x.call.text.toArray⟩)) := hid (fun w' hb => HSX.out _ (Qc HXB.out hb))
         go_upto_region 12 with fail
         refine wp_region_held_drew (S := (fun w' => w'.cell? ⟨bx, 1, none⟩ = some (.int .i64 x.t) ∧ w'.cell? ⟨bx, 2, none⟩ = some (.int .i64 x.call.kind) ∧ w'.cell? ⟨bx, 3, none⟩ = some (.int .i64 x.call.h) ∧ w'.cell? ⟨bx, 4, none⟩ = some (.int .i64 x.call.t) ∧ w'.cell? ⟨bx, 5, none⟩ = some (.int .i64 x.call.n) ∧ w'.cell? ⟨bx, 6, none⟩ = some (.int .i64 x.call.c) ∧ w'.cell? ⟨bx, 7, none⟩ = some (.slice pe x.call.label.length ce) ∧ w'.cell? ⟨bx, 8, none⟩ = some (.slice pf x.call.grants.length cf) ∧ w'.cell? ⟨bx, 9, none⟩ = some (.string ⟨x.call.text.toArray⟩))) (by as_aux_lemma => kernel_rfl) (HS.out _ (Below.refl _ _).drew) (fun _ => ?_)
         refine takeF 0 62 ?v23 rfl (Or.inl ⟨by rfl, ?hy23⟩) ?rest23
         case hy23 => intro wz hSw; (try dsimp only at hSw); go_simp; try with_reducible rfl
         simp only [Act.put, List.setIfInBounds_toArray, List.set_cons_zero, List.set_cons_succ]
         refine takeF 1 63 ?v24 rfl (Or.inl ⟨by rfl, ?hy24⟩) ?rest24
         case hy24 => intro wz hSw; (try dsimp only at hSw); go_simp; try with_reducible rfl
         simp only [Act.put, List.setIfInBounds_toArray, List.set_cons_zero, List.set_cons_succ]
         refine takeF 2 64 ?v25 rfl (Or.inl ⟨by rfl, ?hy25⟩) ?rest25
         case hy25 => intro wz hSw; (try dsimp only at hSw); go_simp; try with_reducible rfl
         simp only [Act.put, List.setIfInBounds_toArray, List.set_cons_zero, List.set_cons_succ]
         refine takeF 3 65 ?v26 rfl (Or.inl ⟨by rfl, ?hy26⟩) ?rest26
         case hy26 => intro wz hSw; (try dsimp only at hSw); go_simp; try with_reducible rfl
         simp only [Act.put, List.setIfInBounds_toArray, List.set_cons_zero, List.set_cons_succ]
         refine takeF 4 66 ?v27 rfl (Or.inl ⟨by rfl, ?hy27⟩) ?rest27
         case hy27 => intro wz hSw; (try dsimp only at hSw); go_simp; try with_reducible rfl
         simp only [Act.put, List.setIfInBounds_toArray, List.set_cons_zero, List.set_cons_succ]
         refine takeF 7 69 ?v28 rfl (Or.inl ⟨by rfl, ?hy28⟩) ?rest28
         case hy28 => intro wz hSw; (try dsimp only at hSw); go_simp; try with_reducible rfl
         simp only [Act.put, List.setIfInBounds_toArray, List.set_cons_zero, List.set_cons_succ]
         refine takeF 8 70 ?v29 rfl (Or.inl ⟨by rfl, ?hy29⟩) ?rest29
         case hy29 => intro wz hSw; (try dsimp only at hSw); go_simp; try with_reducible rfl
         simp only [Act.put, List.setIfInBounds_toArray, List.set_cons_zero, List.set_cons_succ]
         refine takeF 9 71 ?v30 rfl (Or.inl ⟨by rfl, ?hy30⟩) ?rest30
         case hy30 => intro wz hSw; (try dsimp only at hSw); go_simp; try with_reducible rfl
         simp only [Act.put, List.setIfInBounds_toArray, List.set_cons_zero, List.set_cons_succ]
         refine takeF 10 72 ?v31 rfl (Or.inl ⟨by rfl, ?hy31⟩) ?rest31
         case hy31 => intro wz hSw; (try dsimp only at hSw); go_simp; try with_reducible rfl
         simp only [Act.put, List.setIfInBounds_toArray, List.set_cons_zero, List.set_cons_succ]
         refine takeF 11 73 ?v32 rfl (Or.inl ⟨by rfl, ?hy32⟩) ?rest32
         case hy32 => intro wz hSw; (try dsimp only at hSw); go_simp; try with_reducible rfl
         simp only [Act.put, List.setIfInBounds_toArray, List.set_cons_zero, List.set_cons_succ]
         refine wpAnyH_ready (rs := [5]) (by as_aux_lemma => kernel_rfl) (by simp) ?_
         refine (AllReadyH.cons rfl (fun K' hK => ?_) AllReadyH.nil)
         go_simp
         go_wp2_with (go_at_call 7; refine (QbQ _ x.call _ (HCAL.out _ (Qd HB1.out.below (by first | exact (Below.refl _ _) | exact ((Below.refl _ _)).drew)))).mono ?_; rintro e w1 ⟨p6, c6, p7, c7, rfl, hcal, hw1⟩; have hb1 : Below w0.heap.size w0 w1 := Qd (by first | exact (Below.refl _ _) | exact ((Below.refl _ _)).drew) hw1; have HC1 := hid hcal; clear hcal)
         refine hK.out _ _ (HS.out _ hb1) (fun _ => ?_)
         clear hK K'
         refine wpAnyH_ready (rs := [6]) (by as_aux_lemma => kernel_rfl) (by simp) ?_
         refine (AllReadyH.cons rfl (fun K' hK => ?_) AllReadyH.nil)
         go_simp
         go_wp2_with (go_at_call 13; refine (QgJ ka x.t F V K x.call _ w1 (HB1.out.one.below hb1) HB1.out.good HC1.out).mono ?_; rintro e w2 ⟨rfl, G, V2, hk2, hs2⟩)
         have hbx2 := (hs2.keptF (HB1.out.one.below hb1)).heap (Qc HXB.out hb1) HNF.out
         have HNG : Hid (bx ∉ G) := hid (fun e => by rcases hs2.more.2 _ e with g | g; exact HNF.out g; have := QJ (Qc HXB.out hb1); omega)
         have HHALF := hid ((HB1.out.more hb1).half hs2 hk2)
         refine hK.out _ _ (HSX.out _ hbx2) (fun _ => ?_)
         clear hK K'
         refine wpAnyH_ready (rs := [12]) (by as_aux_lemma => kernel_rfl) (by simp) ?_
         refine (AllReadyH.cons rfl (fun K' hK => ?_) AllReadyH.nil)
         go_simp
         go_wp2_with (go_at_call 14; refine (QfM rb x.t G U K x.call _ w2 HHALF.out.two HB1.out.good (HCAL.out _ HHALF.out.below)).mono ?_; rintro e w3 ⟨rfl, H, U3, hk3, hs3⟩)
         have hbx3 := (hs3.keptF HHALF.out.two).heap hbx2 HNG.out
         have HALL := hid (HHALF.out.whole hs3 hk3 (Qfh HB1.out.good x.t x.call))
         refine hK.out _ _ (HSX.out _ hbx3) (fun _ => ?_)
         clear hK K'
         unfold repV
         refine takeF 13 75 ?v33 rfl (Or.inl ⟨by rfl, ?hy33⟩) ?rest33
         case hy33 => intro wz hSw; (try dsimp only at hSw); go_simp; try with_reducible rfl
         simp only [Act.put, List.setIfInBounds_toArray, List.set_cons_zero, List.set_cons_succ]
         refine wpAnyH_done (by as_aux_lemma => kernel_rfl) ?_ _
         go_wp2
         go_roundw
         case rel => exact ⟨k + 1, H, V2, U3, _, hlt, hlt60, by go_num, HALL.out⟩
         case measure => simp [intOf]; omega
  · by_cases hkl : k < l.length
    · have hk1 : (k : Int) < (l.length : Int) := by omega
      have hk2 : ¬ (k : Int) < 120 := by omega
      clear hgo hkl hk hk60
      go_wp2_with fail
      as_aux_lemma =>
       go_loopw [14] (fun i wr => ∃ (n : Nat) (z : Int), n ≤ 6 ∧ z = (n : Int) - 1 ∧ i = .int .i64 z ∧ Both w wr ka rb F V U K) (fun i _ => 6 - (intOf i + 1).toNat)
       case atStart => exact ⟨0, -1, Nat.zero_le _, rfl, rfl, HBS.out⟩
       case round =>
        clear HBS
        obtain ⟨n, z, hn, hzn, rfl, hbs⟩ := hrel
        have HBS := hid hbs
        by_cases h6 : n < 6
        · have hz5 : z < 5 := by omega
          have hz1 : -1 ≤ z := by omega
          have HZN := hid hzn
          clear hzn hn
          by_cases hz : 0 ≤ z ∧ z < 4
          · obtain ⟨u, hu⟩ : ∃ u : Nat, z = u := ⟨z.toNat, by omega⟩
            subst hu
            have hu4 : u < 4 := by omega
            have hui : (u : Int) < 4 := by omega
            have hu0 : ¬ ((u : Int) < 0) := by omega
            have hu00 : (0 : Int) ≤ u := by omega
            have h2 : u < K.ths.length := by rw [hbs.two.lenK]; exact hu4
            have h1 : u < U.length := by rw [hbs.two.len]; exact hu4
            obtain ⟨C, hC, _, _, _, hcc⟩ := hbs.two.box
            obtain ⟨d0, d1, d2, d3, d4⟩ := hcc u h1 h2
            have hthr := hbs.two.thr u h1 h2
            obtain ⟨pl2, cl2, e0, _⟩ := id hthr.1.1
            obtain ⟨po2, co2, e1, _⟩ := id hthr.2.1.1
            obtain ⟨_, _, hoj, _⟩ := id hthr.2.2.1
            obtain ⟨pj2, cj2, e3⟩ := Qi hoj
            obtain ⟨_, _, hom, _⟩ := id hthr.2.2.2
            obtain ⟨pm2, cm2, e4, _⟩ := Q6 hom
            have eU : U[u] = ⟨.slice pl2 K.ths[u].label.length cl2, .slice po2 K.ths[u].own.length co2, .slice pj2 K.ths[u].objs.length cj2, .slice pm2 K.ths[u].mails.length cm2⟩ := by
             cases hv : U[u]
             rw [hv] at e0 e1 e3 e4
             simp only at e0 e1 e3 e4
             rw [e0, e1, e3, e4]
            rw [eU] at hthr
            rw [e0] at d0
            rw [e1] at d1
            rw [e3] at d3
            rw [e4] at d4
            have x0 : wr.cell? ⟨rb, 1 + u * 5, none⟩ = some (.slice pl2 K.ths[u].label.length cl2) := by rw [Qa hC, d0]
            have x1 : wr.cell? ⟨rb, 1 + u * 5 + 1, none⟩ = some (.slice po2 K.ths[u].own.length co2) := by rw [Qa hC, d1]
            have x2 : wr.cell? ⟨rb, 1 + u * 5 + 2, none⟩ = some (.string ⟨K.ths[u].text.toArray⟩) := by rw [Qa hC, d2]
            have x3 : wr.cell? ⟨rb, 1 + u * 5 + 3, none⟩ = some (.slice pj2 K.ths[u].objs.length cj2) := by rw [Qa hC, d3]
            have x4 : wr.cell? ⟨rb, 1 + u * 5 + 4, none⟩ = some (.slice pm2 K.ths[u].mails.length cm2) := by rw [Qa hC, d4]
            have hrlt : rb < wr.heap.size := Qb x0
            have HB1 := hid (HBS.out.more (Qe wr (.cells #[.slice pl2 K.ths[u].label.length cl2, .slice po2 K.ths[u].own.length co2, .string ⟨K.ths[u].text.toArray⟩, .slice pj2 K.ths[u].objs.length cj2, .slice pm2 K.ths[u].mails.length cm2] 35)))
            have HWB := hid (heap_alloc_new wr (.cells #[.slice pl2 K.ths[u].label.length cl2, .slice po2 K.ths[u].own.length co2, .string ⟨K.ths[u].text.toArray⟩, .slice pj2 K.ths[u].objs.length cj2, .slice pm2 K.ths[u].mails.length cm2] 35))
            have HTHR := hid (fun w' (hb : Below (wr.alloc (.cells #[.slice pl2 K.ths[u].label.length cl2, .slice po2 K.ths[u].own.length co2, .string ⟨K.ths[u].text.toArray⟩, .slice pj2 K.ths[u].objs.length cj2, .slice pm2 K.ths[u].mails.length cm2] 35)).heap.size (wr.alloc (.cells #[.slice pl2 K.ths[u].label.length cl2, .slice po2 K.ths[u].own.length co2, .string ⟨K.ths[u].text.toArray⟩, .slice pj2 K.ths[u].objs.length cj2, .slice pm2 K.ths[u].mails.length cm2] 35)) w') => hthr.keep (R := []) (Qk _ (Qd (Qe wr (.cells #[.slice pl2 K.ths[u].label.length cl2, .slice po2 K.ths[u].own.length co2, .string ⟨K.ths[u].text.toArray⟩, .slice pj2 K.ths[u].objs.length cj2, .slice pm2 K.ths[u].mails.length cm2] 35)) hb)) (fun _ h => by cases h) (More.refl _ _) (fun _ _ h => by cases h))
            clear hbs hC hcc d0 d1 d2 d3 d4 hthr e0 e1 e3 e4 hoj hom eU
            go_upto_region 28 with fail
            generalize wr.alloc (.cells #[.slice pl2 K.ths[u].label.length cl2, .slice po2 K.ths[u].own.length co2, .string ⟨K.ths[u].text.toArray⟩, .slice pj2 K.ths[u].objs.length cj2, .slice pm2 K.ths[u].mails.length cm2] 35) = w0 at *
            have HS : Hid (∀ w', Below w0.heap.size w0 w' → w'.cell? ⟨wr.heap.size, 0, none⟩ = some (.slice pl2 K.ths[u].label.length cl2) ∧ w'.cell? ⟨wr.heap.size, 1, none⟩ = some (.slice po2 K.ths[u].own.length co2) ∧ w'.cell? ⟨wr.heap.size, 2, none⟩ = some (.string ⟨K.ths[u].text.toArray⟩) ∧ w'.cell? ⟨wr.heap.size, 3, none⟩ = some (.slice pj2 K.ths[u].objs.length cj2) ∧ w'.cell? ⟨wr.heap.size, 4, none⟩ = some (.slice pm2 K.ths[u].mails.length cm2)) := hid (fun w' hb => by have h := Qc HWB.out hb; exact ⟨Qa h 0, Qa h 1, Qa h 2, Qa h 3, Qa h 4⟩)
            clear x0 x1 x2 x3 x4
            refine wp_region_held_drew (S := (fun w' => w'.cell? ⟨wr.heap.size, 0, none⟩ = some (.slice pl2 K.ths[u].label.length cl2) ∧ w'.cell? ⟨wr.heap.size, 1, none⟩ = some (.slice po2 K.ths[u].own.length co2) ∧ w'.cell? ⟨wr.heap.size, 2, none⟩ = some (.string ⟨K.ths[u].text.toArray⟩) ∧ w'.cell? ⟨wr.heap.size, 3, none⟩ = some (.slice pj2 K.ths[u].objs.length cj2) ∧ w'.cell? ⟨wr.heap.size, 4, none⟩ = some (.slice pm2 K.ths[u].mails.length cm2))) (by as_aux_lemma => kernel_rfl) (HS.out _ (Below.refl _ _).drew) (fun _ => ?_)
            refine takeF 0 137 ?v34 rfl (Or.inl ⟨by rfl, ?hy34⟩) ?rest34
            case hy34 => intro wz hSw; (try dsimp only at hSw); go_simp; try with_reducible rfl
            simp only [Act.put, List.setIfInBounds_toArray, List.set_cons_zero, List.set_cons_succ]
            refine takeF 1 138 ?v35 rfl (Or.inl ⟨by rfl, ?hy35⟩) ?rest35
            case hy35 => intro wz hSw; (try dsimp only at hSw); go_simp; try with_reducible rfl
            simp only [Act.put, List.setIfInBounds_toArray, List.set_cons_zero, List.set_cons_succ]
            refine takeF 3 140 ?v36 rfl (Or.inl ⟨by rfl, ?hy36⟩) ?rest36
            case hy36 => intro wz hSw; (try dsimp only at hSw); go_simp; try with_reducible rfl
            simp only [Act.put, List.setIfInBounds_toArray, List.set_cons_zero, List.set_cons_succ]
            refine wpAnyH_ready (rs := [2]) (by as_aux_lemma => kernel_rfl) (by simp) ?_
            refine (AllReadyH.cons rfl (fun K' hK => ?_) AllReadyH.nil)
            go_simp
            go_wp2_with (go_at_call 16; refine (Qdl ka u F V K _ (HB1.out.one.below (by first | exact Below.refl _ _ | exact (Below.refl _ _).drew)) HB1.out.good hu4 h2).mono ?_; rintro e w1 ⟨pl1, cl1, po1, co1, pj1, cj1, pm1, cm1, rfl, hnew, hw1d⟩; have hw1 : Below w0.heap.size w0 w1 := (by first | exact hw1d | exact kundrew hw1d); have HNW := hid hnew; clear hw1d hnew)
            refine hK.out _ _ (HS.out _ hw1) (fun _ => ?_)
            clear hK K'
            refine wpAnyH_ready (rs := [4]) (by as_aux_lemma => kernel_rfl) (by simp) ?_
            refine (AllReadyH.cons rfl (fun K' hK => ?_) AllReadyH.nil)
            go_simp
            go_wp2_with (go_at_call 15; refine (Qa9 _ F K.ths[u] _ _ _ _ _ _ _ _ _ _ _ _ _ _ _ _ w1 HNW.out (HTHR.out _ hw1) (HB1.out.good.ths _ (List.getElem_mem h2))).mono ?_; rintro e w2 ⟨rfl, hw2⟩)
            refine hK.out _ _ (HS.out _ (Qd hw1 hw2)) (fun _ => ?_)
            clear hK K'
            refine takeF 5 142 ?v37 rfl (Or.inl ⟨by rfl, ?hy37⟩) ?rest37
            case hy37 => intro wz hSw; (try dsimp only at hSw); go_simp; try with_reducible rfl
            simp only [Act.put, List.setIfInBounds_toArray, List.set_cons_zero, List.set_cons_succ]
            refine wpAnyH_done (by as_aux_lemma => kernel_rfl) ?_ _
            go_wp2
            go_roundw
            case rel => exact ⟨n + 1, (u : Int) + 1, by omega, by have := HZN.out; omega, by go_num, HB1.out.more (Qd hw1 hw2)⟩
            case measure => have := HZN.out; simp [intOf]; omega
          · have hzz : (decide (0 ≤ z) && decide (z < 4)) = false := by simp; omega
            have HB1 := hid (HBS.out.more (Qe wr (.cells #[.slice none 0 0, .slice none 0 0, .string ⟨#[]⟩, .slice none 0 0, .slice none 0 0] 35)))
            have HWB := hid (heap_alloc_new wr (.cells #[.slice none 0 0, .slice none 0 0, .string ⟨#[]⟩, .slice none 0 0, .slice none 0 0] 35))
            clear hbs
            have hor : z < 0 ∨ 4 ≤ z := by omega
            rcases hor with hz0 | hz4
            · skip
              go_upto_region 28 with fail
              generalize wr.alloc (.cells #[.slice none 0 0, .slice none 0 0, .string ⟨#[]⟩, .slice none 0 0, .slice none 0 0] 35) = w0 at *
              have HS : Hid (∀ w', Below w0.heap.size w0 w' → w'.cell? ⟨wr.heap.size, 0, none⟩ = some (.slice none 0 0) ∧ w'.cell? ⟨wr.heap.size, 1, none⟩ = some (.slice none 0 0) ∧ w'.cell? ⟨wr.heap.size, 2, none⟩ = some (.string ⟨#[]⟩) ∧ w'.cell? ⟨wr.heap.size, 3, none⟩ = some (.slice none 0 0) ∧ w'.cell? ⟨wr.heap.size, 4, none⟩ = some (.slice none 0 0)) := hid (fun w' hb => by have h := Qc HWB.out hb; exact ⟨Qa h 0, Qa h 1, Qa h 2, Qa h 3, Qa h 4⟩)
              refine wp_region_held_drew (S := (fun w' => w'.cell? ⟨wr.heap.size, 0, none⟩ = some (.slice none 0 0) ∧ w'.cell? ⟨wr.heap.size, 1, none⟩ = some (.slice none 0 0) ∧ w'.cell? ⟨wr.heap.size, 2, none⟩ = some (.string ⟨#[]⟩) ∧ w'.cell? ⟨wr.heap.size, 3, none⟩ = some (.slice none 0 0) ∧ w'.cell? ⟨wr.heap.size, 4, none⟩ = some (.slice none 0 0))) (by as_aux_lemma => kernel_rfl) (HS.out _ (Below.refl _ _).drew) (fun _ => ?_)
              refine takeF 0 137 ?v38 rfl (Or.inl ⟨by rfl, ?hy38⟩) ?rest38
              case hy38 => intro wz hSw; (try dsimp only at hSw); go_simp; try with_reducible rfl
              simp only [Act.put, List.setIfInBounds_toArray, List.set_cons_zero, List.set_cons_succ]
              refine takeF 1 138 ?v39 rfl (Or.inl ⟨by rfl, ?hy39⟩) ?rest39
              case hy39 => intro wz hSw; (try dsimp only at hSw); go_simp; try with_reducible rfl
              simp only [Act.put, List.setIfInBounds_toArray, List.set_cons_zero, List.set_cons_succ]
              refine takeF 3 140 ?v40 rfl (Or.inl ⟨by rfl, ?hy40⟩) ?rest40
              case hy40 => intro wz hSw; (try dsimp only at hSw); go_simp; try with_reducible rfl
              simp only [Act.put, List.setIfInBounds_toArray, List.set_cons_zero, List.set_cons_succ]
              refine wpAnyH_ready (rs := [2]) (by as_aux_lemma => kernel_rfl) (by simp) ?_
              refine (AllReadyH.cons rfl (fun K' hK => ?_) AllReadyH.nil)
              go_simp
              go_wp2_with (go_at_call 16; refine (QaX ka z _ hz).mono ?_; rintro e w1 ⟨rfl, hw1d⟩; have hw1 : Below w0.heap.size w0 w1 := (by first | exact hw1d | exact kundrew hw1d); clear hw1d)
              refine hK.out _ _ (HS.out _ hw1) (fun _ => ?_)
              clear hK K'
              refine wpAnyH_ready (rs := [4]) (by as_aux_lemma => kernel_rfl) (by simp) ?_
              refine (AllReadyH.cons rfl (fun K' hK => ?_) AllReadyH.nil)
              go_simp
              go_wp2_with (go_at_call 15; refine (Qae w1).mono ?_; rintro e w2 ⟨rfl, hw2⟩)
              refine hK.out _ _ (HS.out _ (Qd hw1 hw2)) (fun _ => ?_)
              clear hK K'
              refine takeF 5 142 ?v41 rfl (Or.inl ⟨by rfl, ?hy41⟩) ?rest41
              case hy41 => intro wz hSw; (try dsimp only at hSw); go_simp; try with_reducible rfl
              simp only [Act.put, List.setIfInBounds_toArray, List.set_cons_zero, List.set_cons_succ]
              refine wpAnyH_done (by as_aux_lemma => kernel_rfl) ?_ _
              go_wp2
              go_roundw
              case rel => exact ⟨n + 1, z + 1, by omega, by have := HZN.out; omega, by go_num, HB1.out.more (Qd hw1 hw2)⟩
              case measure => have := HZN.out; simp [intOf]; omega
            · have hz00 : (0 : Int) ≤ z := by omega
              have hz44 : ¬ z < 4 := by omega
              go_upto_region 28 with fail
              generalize wr.alloc (.cells #[.slice none 0 0, .slice none 0 0, .string ⟨#[]⟩, .slice none 0 0, .slice none 0 0] 35) = w0 at *
              have HS : Hid (∀ w', Below w0.heap.size w0 w' → w'.cell? ⟨wr.heap.size, 0, none⟩ = some (.slice none 0 0) ∧ w'.cell? ⟨wr.heap.size, 1, none⟩ = some (.slice none 0 0) ∧ w'.cell? ⟨wr.heap.size, 2, none⟩ = some (.string ⟨#[]⟩) ∧ w'.cell? ⟨wr.heap.size, 3, none⟩ = some (.slice none 0 0) ∧ w'.cell? ⟨wr.heap.size, 4, none⟩ = some (.slice none 0 0)) := hid (fun w' hb => by have h := Qc HWB.out hb; exact ⟨Qa h 0, Qa h 1, Qa h 2, Qa h 3, Qa h 4⟩)
              refine wp_region_held_drew (S := (fun w' => w'.cell? ⟨wr.heap.size, 0, none⟩ = some (.slice none 0 0) ∧ w'.cell? ⟨wr.heap.size, 1, none⟩ = some (.slice none 0 0) ∧ w'.cell? ⟨wr.heap.size, 2, none⟩ = some (.string ⟨#[]⟩) ∧ w'.cell? ⟨wr.heap.size, 3, none⟩ = some (.slice none 0 0) ∧ w'.cell? ⟨wr.heap.size, 4, none⟩ = some (.slice none 0 0))) (by as_aux_lemma => kernel_rfl) (HS.out _ (Below.refl _ _).drew) (fun _ => ?_)
              refine takeF 0 137 ?v42 rfl (Or.inl ⟨by rfl, ?hy42⟩) ?rest42
              case hy42 => intro wz hSw; (try dsimp only at hSw); go_simp; try with_reducible rfl
              simp only [Act.put, List.setIfInBounds_toArray, List.set_cons_zero, List.set_cons_succ]
              refine takeF 1 138 ?v43 rfl (Or.inl ⟨by rfl, ?hy43⟩) ?rest43
              case hy43 => intro wz hSw; (try dsimp only at hSw); go_simp; try with_reducible rfl
              simp only [Act.put, List.setIfInBounds_toArray, List.set_cons_zero, List.set_cons_succ]
              refine takeF 3 140 ?v44 rfl (Or.inl ⟨by rfl, ?hy44⟩) ?rest44
              case hy44 => intro wz hSw; (try dsimp only at hSw); go_simp; try with_reducible rfl
              simp only [Act.put, List.setIfInBounds_toArray, List.set_cons_zero, List.set_cons_succ]
              refine wpAnyH_ready (rs := [2]) (by as_aux_lemma => kernel_rfl) (by simp) ?_
              refine (AllReadyH.cons rfl (fun K' hK => ?_) AllReadyH.nil)
              go_simp
              go_wp2_with (go_at_call 16; refine (QaX ka z _ hz).mono ?_; rintro e w1 ⟨rfl, hw1d⟩; have hw1 : Below w0.heap.size w0 w1 := (by first | exact hw1d | exact kundrew hw1d); clear hw1d)
              refine hK.out _ _ (HS.out _ hw1) (fun _ => ?_)
              clear hK K'
              refine wpAnyH_ready (rs := [4]) (by as_aux_lemma => kernel_rfl) (by simp) ?_
              refine (AllReadyH.cons rfl (fun K' hK => ?_) AllReadyH.nil)
              go_simp
              go_wp2_with (go_at_call 15; refine (Qae w1).mono ?_; rintro e w2 ⟨rfl, hw2⟩)
              refine hK.out _ _ (HS.out _ (Qd hw1 hw2)) (fun _ => ?_)
              clear hK K'
              refine takeF 5 142 ?v45 rfl (Or.inl ⟨by rfl, ?hy45⟩) ?rest45
              case hy45 => intro wz hSw; (try dsimp only at hSw); go_simp; try with_reducible rfl
              simp only [Act.put, List.setIfInBounds_toArray, List.set_cons_zero, List.set_cons_succ]
              refine wpAnyH_done (by as_aux_lemma => kernel_rfl) ?_ _
              go_wp2
              go_roundw
              case rel => exact ⟨n + 1, z + 1, by omega, by have := HZN.out; omega, by go_num, HB1.out.more (Qd hw1 hw2)⟩
              case measure => have := HZN.out; simp [intOf]; omega
        · have hz5 : ¬ z < 5 := by omega
          clear hbs hzn
          go_wp2_with (go_at_call 5; refine (QaV _).mono ?_; rintro e w3 ⟨rfl, hw3⟩)
          go_ret
          exact ⟨rfl, Qd HBS.out.below hw3⟩
    · have hk1 : ¬ (k : Int) < (l.length : Int) := by omega
      clear hgo hkl hk hk60
      go_wp2_with fail
      as_aux_lemma =>
       go_loopw [14] (fun i wr => ∃ (n : Nat) (z : Int), n ≤ 6 ∧ z = (n : Int) - 1 ∧ i = .int .i64 z ∧ Both w wr ka rb F V U K) (fun i _ => 6 - (intOf i + 1).toNat)
       case atStart => exact ⟨0, -1, Nat.zero_le _, rfl, rfl, HBS.out⟩
       case round =>
        clear HBS
        obtain ⟨n, z, hn, hzn, rfl, hbs⟩ := hrel
        have HBS := hid hbs
        by_cases h6 : n < 6
        · have hz5 : z < 5 := by omega
          have hz1 : -1 ≤ z := by omega
          have HZN := hid hzn
          clear hzn hn
          by_cases hz : 0 ≤ z ∧ z < 4
          · obtain ⟨u, hu⟩ : ∃ u : Nat, z = u := ⟨z.toNat, by omega⟩
            subst hu
            have hu4 : u < 4 := by omega
            have hui : (u : Int) < 4 := by omega
            have hu0 : ¬ ((u : Int) < 0) := by omega
            have hu00 : (0 : Int) ≤ u := by omega
            have h2 : u < K.ths.length := by rw [hbs.two.lenK]; exact hu4
            have h1 : u < U.length := by rw [hbs.two.len]; exact hu4
            obtain ⟨C, hC, _, _, _, hcc⟩ := hbs.two.box
            obtain ⟨d0, d1, d2, d3, d4⟩ := hcc u h1 h2
            have hthr := hbs.two.thr u h1 h2
            obtain ⟨pl2, cl2, e0, _⟩ := id hthr.1.1
            obtain ⟨po2, co2, e1, _⟩ := id hthr.2.1.1
            obtain ⟨_, _, hoj, _⟩ := id hthr.2.2.1
            obtain ⟨pj2, cj2, e3⟩ := Qi hoj
            obtain ⟨_, _, hom, _⟩ := id hthr.2.2.2
            obtain ⟨pm2, cm2, e4, _⟩ := Q6 hom
            have eU : U[u] = ⟨.slice pl2 K.ths[u].label.length cl2, .slice po2 K.ths[u].own.length co2, .slice pj2 K.ths[u].objs.length cj2, .slice pm2 K.ths[u].mails.length cm2⟩ := by
             cases hv : U[u]
             rw [hv] at e0 e1 e3 e4
             simp only at e0 e1 e3 e4
             rw [e0, e1, e3, e4]
            rw [eU] at hthr
            rw [e0] at d0
            rw [e1] at d1
            rw [e3] at d3
            rw [e4] at d4
            have x0 : wr.cell? ⟨rb, 1 + u * 5, none⟩ = some (.slice pl2 K.ths[u].label.length cl2) := by rw [Qa hC, d0]
            have x1 : wr.cell? ⟨rb, 1 + u * 5 + 1, none⟩ = some (.slice po2 K.ths[u].own.length co2) := by rw [Qa hC, d1]
            have x2 : wr.cell? ⟨rb, 1 + u * 5 + 2, none⟩ = some (.string ⟨K.ths[u].text.toArray⟩) := by rw [Qa hC, d2]
            have x3 : wr.cell? ⟨rb, 1 + u * 5 + 3, none⟩ = some (.slice pj2 K.ths[u].objs.length cj2) := by rw [Qa hC, d3]
            have x4 : wr.cell? ⟨rb, 1 + u * 5 + 4, none⟩ = some (.slice pm2 K.ths[u].mails.length cm2) := by rw [Qa hC, d4]
            have hrlt : rb < wr.heap.size := Qb x0
            have HB1 := hid (HBS.out.more (Qe wr (.cells #[.slice pl2 K.ths[u].label.length cl2, .slice po2 K.ths[u].own.length co2, .string ⟨K.ths[u].text.toArray⟩, .slice pj2 K.ths[u].objs.length cj2, .slice pm2 K.ths[u].mails.length cm2] 35)))
            have HWB := hid (heap_alloc_new wr (.cells #[.slice pl2 K.ths[u].label.length cl2, .slice po2 K.ths[u].own.length co2, .string ⟨K.ths[u].text.toArray⟩, .slice pj2 K.ths[u].objs.length cj2, .slice pm2 K.ths[u].mails.length cm2] 35))
            have HTHR := hid (fun w' (hb : Below (wr.alloc (.cells #[.slice pl2 K.ths[u].label.length cl2, .slice po2 K.ths[u].own.length co2, .string ⟨K.ths[u].text.toArray⟩, .slice pj2 K.ths[u].objs.length cj2, .slice pm2 K.ths[u].mails.length cm2] 35)).heap.size (wr.alloc (.cells #[.slice pl2 K.ths[u].label.length cl2, .slice po2 K.ths[u].own.length co2, .string ⟨K.ths[u].text.toArray⟩, .slice pj2 K.ths[u].objs.length cj2, .slice pm2 K.ths[u].mails.length cm2] 35)) w') => hthr.keep (R := []) (Qk _ (Qd (Qe wr (.cells #[.slice pl2 K.ths[u].label.length cl2, .slice po2 K.ths[u].own.length co2, .string ⟨K.ths[u].text.toArray⟩, .slice pj2 K.ths[u].objs.length cj2, .slice pm2 K.ths[u].mails.length cm2] 35)) hb)) (fun _ h => by cases h) (More.refl _ _) (fun _ _ h => by cases h))
            clear hbs hC hcc d0 d1 d2 d3 d4 hthr e0 e1 e3 e4 hoj hom eU
            go_upto_region 28 with fail
            generalize wr.alloc (.cells #[.slice pl2 K.ths[u].label.length cl2, .slice po2 K.ths[u].own.length co2, .string ⟨K.ths[u].text.toArray⟩, .slice pj2 K.ths[u].objs.length cj2, .slice pm2 K.ths[u].mails.length cm2] 35) = w0 at *
            have HS : Hid (∀ w', Below w0.heap.size w0 w' → w'.cell? ⟨wr.heap.size, 0, none⟩ = some (.slice pl2 K.ths[u].label.length cl2) ∧ w'.cell? ⟨wr.heap.size, 1, none⟩ = some (.slice po2 K.ths[u].own.length co2) ∧ w'.cell? ⟨wr.heap.size, 2, none⟩ = some (.string ⟨K.ths[u].text.toArray⟩) ∧ w'.cell? ⟨wr.heap.size, 3, none⟩ = some (.slice pj2 K.ths[u].objs.length cj2) ∧ w'.cell? ⟨wr.heap.size, 4, none⟩ = some (.slice pm2 K.ths[u].mails.length cm2)) := hid (fun w' hb => by have h := Qc HWB.out hb; exact ⟨Qa h 0, Qa h 1, Qa h 2, Qa h 3, Qa h 4⟩)
            clear x0 x1 x2 x3 x4
            refine wp_region_held_drew (S := (fun w' => w'.cell? ⟨wr.heap.size, 0, none⟩ = some (.slice pl2 K.ths[u].label.length cl2) ∧ w'.cell? ⟨wr.heap.size, 1, none⟩ = some (.slice po2 K.ths[u].own.length co2) ∧ w'.cell? ⟨wr.heap.size, 2, none⟩ = some (.string ⟨K.ths[u].text.toArray⟩) ∧ w'.cell? ⟨wr.heap.size, 3, none⟩ = some (.slice pj2 K.ths[u].objs.length cj2) ∧ w'.cell? ⟨wr.heap.size, 4, none⟩ = some (.slice pm2 K.ths[u].mails.length cm2))) (by as_aux_lemma => kernel_rfl) (HS.out _ (Below.refl _ _).drew) (fun _ => ?_)
            refine takeF 0 137 ?v5034 rfl (Or.inl ⟨by rfl, ?hy5034⟩) ?rest5034
            case hy5034 => intro wz hSw; (try dsimp only at hSw); go_simp; try with_reducible rfl
            simp only [Act.put, List.setIfInBounds_toArray, List.set_cons_zero, List.set_cons_succ]
            refine takeF 1 138 ?v5035 rfl (Or.inl ⟨by rfl, ?hy5035⟩) ?rest5035
            case hy5035 => intro wz hSw; (try dsimp only at hSw); go_simp; try with_reducible rfl
            simp only [Act.put, List.setIfInBounds_toArray, List.set_cons_zero, List.set_cons_succ]
            refine takeF 3 140 ?v5036 rfl (Or.inl ⟨by rfl, ?hy5036⟩) ?rest5036
            case hy5036 => intro wz hSw; (try dsimp only at hSw); go_simp; try with_reducible rfl
            simp only [Act.put, List.setIfInBounds_toArray, List.set_cons_zero, List.set_cons_succ]
            refine wpAnyH_ready (rs := [2]) (by as_aux_lemma => kernel_rfl) (by simp) ?_
            refine (AllReadyH.cons rfl (fun K' hK => ?_) AllReadyH.nil)
            go_simp
            go_wp2_with (go_at_call 16; refine (Qdl ka u F V K _ (HB1.out.one.below (by first | exact Below.refl _ _ | exact (Below.refl _ _).drew)) HB1.out.good hu4 h2).mono ?_; rintro e w1 ⟨pl1, cl1, po1, co1, pj1, cj1, pm1, cm1, rfl, hnew, hw1d⟩; have hw1 : Below w0.heap.size w0 w1 := (by first | exact hw1d | exact kundrew hw1d); have HNW := hid hnew; clear hw1d hnew)
            refine hK.out _ _ (HS.out _ hw1) (fun _ => ?_)
            clear hK K'
            refine wpAnyH_ready (rs := [4]) (by as_aux_lemma => kernel_rfl) (by simp) ?_
            refine (AllReadyH.cons rfl (fun K' hK => ?_) AllReadyH.nil)
            go_simp
            go_wp2_with (go_at_call 15; refine (Qa9 _ F K.ths[u] _ _ _ _ _ _ _ _ _ _ _ _ _ _ _ _ w1 HNW.out (HTHR.out _ hw1) (HB1.out.good.ths _ (List.getElem_mem h2))).mono ?_; rintro e w2 ⟨rfl, hw2⟩)
            refine hK.out _ _ (HS.out _ (Qd hw1 hw2)) (fun _ => ?_)
            clear hK K'
            refine takeF 5 142 ?v5037 rfl (Or.inl ⟨by rfl, ?hy5037⟩) ?rest5037
            case hy5037 => intro wz hSw; (try dsimp only at hSw); go_simp; try with_reducible rfl
            simp only [Act.put, List.setIfInBounds_toArray, List.set_cons_zero, List.set_cons_succ]
            refine wpAnyH_done (by as_aux_lemma => kernel_rfl) ?_ _
            go_wp2
            go_roundw
            case rel => exact ⟨n + 1, (u : Int) + 1, by omega, by have := HZN.out; omega, by go_num, HB1.out.more (Qd hw1 hw2)⟩
            case measure => have := HZN.out; simp [intOf]; omega
          · have hzz : (decide (0 ≤ z) && decide (z < 4)) = false := by simp; omega
            have HB1 := hid (HBS.out.more (Qe wr (.cells #[.slice none 0 0, .slice none 0 0, .string ⟨#[]⟩, .slice none 0 0, .slice none 0 0] 35)))
            have HWB := hid (heap_alloc_new wr (.cells #[.slice none 0 0, .slice none 0 0, .string ⟨#[]⟩, .slice none 0 0, .slice none 0 0] 35))
            clear hbs
            have hor : z < 0 ∨ 4 ≤ z := by omega
            rcases hor with hz0 | hz4
            · skip
              go_upto_region 28 with fail
              generalize wr.alloc (.cells #[.slice none 0 0, .slice none 0 0, .string ⟨#[]⟩, .slice none 0 0, .slice none 0 0] 35) = w0 at *
              have HS : Hid (∀ w', Below w0.heap.size w0 w' → w'.cell? ⟨wr.heap.size, 0, none⟩ = some (.slice none 0 0) ∧ w'.cell? ⟨wr.heap.size, 1, none⟩ = some (.slice none 0 0) ∧ w'.cell? ⟨wr.heap.size, 2, none⟩ = some (.string ⟨#[]⟩) ∧ w'.cell? ⟨wr.heap.size, 3, none⟩ = some (.slice none 0 0) ∧ w'.cell? ⟨wr.heap.size, 4, none⟩ = some (.slice none 0 0)) := hid (fun w' hb => by have h := Qc HWB.out hb; exact ⟨Qa h 0, Qa h 1, Qa h 2, Qa h 3, Qa h 4⟩)
              refine wp_region_held_drew (S := (fun w' => w'.cell? ⟨wr.heap.size, 0, none⟩ = some (.slice none 0 0) ∧ w'.cell? ⟨wr.heap.size, 1, none⟩ = some (.slice none 0 0) ∧ w'.cell? ⟨wr.heap.size, 2, none⟩ = some (.string ⟨#[]⟩) ∧ w'.cell? ⟨wr.heap.size, 3, none⟩ = some (.slice none 0 0) ∧ w'.cell? ⟨wr.heap.size, 4, none⟩ = some (.slice none 0 0))) (by as_aux_lemma => kernel_rfl) (HS.out _ (Below.refl _ _).drew) (fun _ => ?_)
              refine takeF 0 137 ?v5038 rfl (Or.inl ⟨by rfl, ?hy5038⟩) ?rest5038
              case hy5038 => intro wz hSw; (try dsimp only at hSw); go_simp; try with_reducible rfl
              simp only [Act.put, List.setIfInBounds_toArray, List.set_cons_zero, List.set_cons_succ]
              refine takeF 1 138 ?v5039 rfl (Or.inl ⟨by rfl, ?hy5039⟩) ?rest5039
              case hy5039 => intro wz hSw; (try dsimp only at hSw); go_simp; try with_reducible rfl
              simp only [Act.put, List.setIfInBounds_toArray, List.set_cons_zero, List.set_cons_succ]
              refine takeF 3 140 ?v5040 rfl (Or.inl ⟨by rfl, ?hy5040⟩) ?rest5040
              case hy5040 => intro wz hSw; (try dsimp only at hSw); go_simp; try with_reducible rfl
              simp only [Act.put, List.setIfInBounds_toArray, List.set_cons_zero, List.set_cons_succ]
              refine wpAnyH_ready (rs := [2]) (by as_aux_lemma => kernel_rfl) (by simp) ?_
              refine (AllReadyH.cons rfl (fun K' hK => ?_) AllReadyH.nil)
              go_simp
              go_wp2_with (go_at_call 16; refine (QaX ka z _ hz).mono ?_; rintro e w1 ⟨rfl, hw1d⟩; have hw1 : Below w0.heap.size w0 w1 := (by first | exact hw1d | exact kundrew hw1d); clear hw1d)
              refine hK.out _ _ (HS.out _ hw1) (fun _ => ?_)
              clear hK K'
              refine wpAnyH_ready (rs := [4]) (by as_aux_lemma => kernel_rfl) (by simp) ?_
              refine (AllReadyH.cons rfl (fun K' hK => ?_) AllReadyH.nil)
              go_simp
              go_wp2_with (go_at_call 15; refine (Qae w1).mono ?_; rintro e w2 ⟨rfl, hw2⟩)
              refine hK.out _ _ (HS.out _ (Qd hw1 hw2)) (fun _ => ?_)
              clear hK K'
              refine takeF 5 142 ?v5041 rfl (Or.inl ⟨by rfl, ?hy5041⟩) ?rest5041
              case hy5041 => intro wz hSw; (try dsimp only at hSw); go_simp; try with_reducible rfl
              simp only [Act.put, List.setIfInBounds_toArray, List.set_cons_zero, List.set_cons_succ]
              refine wpAnyH_done (by as_aux_lemma => kernel_rfl) ?_ _
              go_wp2
              go_roundw
              case rel => exact ⟨n + 1, z + 1, by omega, by have := HZN.out; omega, by go_num, HB1.out.more (Qd hw1 hw2)⟩
              case measure => have := HZN.out; simp [intOf]; omega
            · have hz00 : (0 : Int) ≤ z := by omega
              have hz44 : ¬ z < 4 := by omega
              go_upto_region 28 with fail
              generalize wr.alloc (.cells #[.slice none 0 0, .slice none 0 0, .string ⟨#[]⟩, .slice none 0 0, .slice none 0 0] 35) = w0 at *
              have HS : Hid (∀ w', Below w0.heap.size w0 w' → w'.cell? ⟨wr.heap.size, 0, none⟩ = some (.slice none 0 0) ∧ w'.cell? ⟨wr.heap.size, 1, none⟩ = some (.slice none 0 0) ∧ w'.cell? ⟨wr.heap.size, 2, none⟩ = some (.string ⟨#[]⟩) ∧ w'.cell? ⟨wr.heap.size, 3, none⟩ = some (.slice none 0 0) ∧ w'.cell? ⟨wr.heap.size, 4, none⟩ = some (.slice none 0 0)) := hid (fun w' hb => by have h := Qc HWB.out hb; exact ⟨Qa h 0, Qa h 1, Qa h 2, Qa h 3, Qa h 4⟩)
              refine wp_region_held_drew (S := (fun w' => w'.cell? ⟨wr.heap.size, 0, none⟩ = some (.slice none 0 0) ∧ w'.cell? ⟨wr.heap.size, 1, none⟩ = some (.slice none 0 0) ∧ w'.cell? ⟨wr.heap.size, 2, none⟩ = some (.string ⟨#[]⟩) ∧ w'.cell? ⟨wr.heap.size, 3, none⟩ = some (.slice none 0 0) ∧ w'.cell? ⟨wr.heap.size, 4, none⟩ = some (.slice none 0 0))) (by as_aux_lemma => kernel_rfl) (HS.out _ (Below.refl _ _).drew) (fun _ => ?_)
              refine takeF 0 137 ?v5042 rfl (Or.inl ⟨by rfl, ?hy5042⟩) ?rest5042
              case hy5042 => intro wz hSw; (try dsimp only at hSw); go_simp; try with_reducible rfl
              simp only [Act.put, List.setIfInBounds_toArray, List.set_cons_zero, List.set_cons_succ]
              refine takeF 1 138 ?v5043 rfl (Or.inl ⟨by rfl, ?hy5043⟩) ?rest5043
              case hy5043 => intro wz hSw; (try dsimp only at hSw); go_simp; try with_reducible rfl
              simp only [Act.put, List.setIfInBounds_toArray, List.set_cons_zero, List.set_cons_succ]
              refine takeF 3 140 ?v5044 rfl (Or.inl ⟨by rfl, ?hy5044⟩) ?rest5044
              case hy5044 => intro wz hSw; (try dsimp only at hSw); go_simp; try with_reducible rfl
              simp only [Act.put, List.setIfInBounds_toArray, List.set_cons_zero, List.set_cons_succ]
              refine wpAnyH_ready (rs := [2]) (by as_aux_lemma => kernel_rfl) (by simp) ?_
              refine (AllReadyH.cons rfl (fun K' hK => ?_) AllReadyH.nil)
              go_simp
              go_wp2_with (go_at_call 16; refine (QaX ka z _ hz).mono ?_; rintro e w1 ⟨rfl, hw1d⟩; have hw1 : Below w0.heap.size w0 w1 := (by first | exact hw1d | exact kundrew hw1d); clear hw1d)
              refine hK.out _ _ (HS.out _ hw1) (fun _ => ?_)
              clear hK K'
              refine wpAnyH_ready (rs := [4]) (by as_aux_lemma => kernel_rfl) (by simp) ?_
              refine (AllReadyH.cons rfl (fun K' hK => ?_) AllReadyH.nil)
              go_simp
              go_wp2_with (go_at_call 15; refine (Qae w1).mono ?_; rintro e w2 ⟨rfl, hw2⟩)
              refine hK.out _ _ (HS.out _ (Qd hw1 hw2)) (fun _ => ?_)
              clear hK K'
              refine takeF 5 142 ?v5045 rfl (Or.inl ⟨by rfl, ?hy5045⟩) ?rest5045
              case hy5045 => intro wz hSw; (try dsimp only at hSw); go_simp; try with_reducible rfl
              simp only [Act.put, List.setIfInBounds_toArray, List.set_cons_zero, List.set_cons_succ]
              refine wpAnyH_done (by as_aux_lemma => kernel_rfl) ?_ _
              go_wp2
              go_roundw
              case rel => exact ⟨n + 1, z + 1, by omega, by have := HZN.out; omega, by go_num, HB1.out.more (Qd hw1 hw2)⟩
              case measure => have := HZN.out; simp [intOf]; omega
        · have hz5 : ¬ z < 5 := by omega
          clear hbs hzn
          go_wp2_with (go_at_call 5; refine (QaV _).mono ?_; rintro e w3 ⟨rfl, hw3⟩)
          go_ret
          exact ⟨rfl, Qd HBS.out.below hw3⟩
end Go.Proofs.Ytpdijobakfpnbaa
