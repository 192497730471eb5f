/- The reference's SameThread answers true of a copy of a thread and of the thread itself. -/
import Derived.Test.YtpdijobakfpnbaaQKKer
import Derived.Test.YtpdijobakfpnbaaQKRef0
import Derived.Test.YtpdijobakfpnbaaQKDelivD
import Derived.Test.YtpdijobakfpnbaaQPlain
import Derived.Test.YtpdijobakfpnbaaQMem
namespace Go.Proofs.Ytpdijobakfpnbaa
open Go.RowKit Go.Proofs.Parclose
theorem RMails.cell {w : World} {F : List Nat} {v : Value} {ms : List Mal} (h : RMails w F v ms) (i : Nat) (hi : i < ms.length) : ∃ g a cap ul ug, v = .slice (some ⟨g, a, none⟩) ms.length cap ∧ RoLab w F ul ms[i].label ∧ RoInts w F ug ms[i].grants ∧
 w.cell? ⟨g, a + i * 5, none⟩ = some (.int .i64 ms[i].host) ∧ w.cell? ⟨g, a + i * 5 + 1, none⟩ = some (.int .i64 ms[i].thread) ∧ w.cell? ⟨g, a + i * 5 + 2, none⟩ = some ul ∧ w.cell? ⟨g, a + i * 5 + 3, none⟩ = some ug ∧ w.cell? ⟨g, a + i * 5 + 4, none⟩ = some (.string ⟨ms[i].text.toArray⟩) := by
 obtain ⟨vs, h1, h2, h3⟩ := h
 obtain ⟨p, cap, rfl, _, _, hcell⟩ := Q6 h2
 obtain ⟨g, a, rfl, hc⟩ := hcell (by omega)
 have hv : i < vs.length := by omega
 obtain ⟨m0, m1, m2, m3, m4⟩ := QbV vs ms h1 i hv hi
 exact ⟨g, a, cap, vs[i].1, vs[i].2, rfl, (h3 i hv hi).1, (h3 i hv hi).2, hc _ _ m0, by rw [Nat.add_assoc]; exact hc _ _ m1, by rw [Nat.add_assoc]; exact hc _ _ m2, by rw [Nat.add_assoc]; exact hc _ _ m3, by rw [Nat.add_assoc]; exact hc _ _ m4⟩
theorem Qgs {m : Mal} (h : mailE m = 0) : m.label.length ≤ 8 ∧ m.grants.length ≤ 8 := by
 unfold mailE at h
 split at h
 · rename_i h1
   simp only [Bool.and_eq_true] at h1
   exact ⟨((Qx _).1 h1.1.2).1, (of_decide_eq_true h1.2).1⟩
 · cases h
set_option linter.unusedSimpArgs false in
set_option maxRecDepth 100000 in
set_option maxHeartbeats 12800000 in
theorem Qa9 (B1 : Nat) (F : List Nat) (th : Thr) (pl1 po1 pj1 pm1 pl2 po2 pj2 pm2 : Option Addr) (cl1 co1 cj1 cm1 cl2 co2 cj2 cm2 : Nat) (w : World) (h1 : ThrNew w B1 (.slice pl1 th.label.length cl1) (.slice po1 th.own.length co1) (.slice pj1 th.objs.length cj1) (.slice pm1 th.mails.length cm1) th) (h2 : RThr w F ⟨.slice pl2 th.label.length cl2, .slice po2 th.own.length co2, .slice pj2 th.objs.length cj2, .slice pm2 th.mails.length cm2⟩ th) (hg : GoodT th) :
 Calls Try.prog 15 #[.agg #[.slice pl1 th.label.length cl1, .slice po1 th.own.length co1, .string ⟨th.text.toArray⟩, .slice pj1 th.objs.length cj1, .slice pm1 th.mails.length cm1], .agg #[.slice pl2 th.label.length cl2, .slice po2 th.own.length co2, .string ⟨th.text.toArray⟩, .slice pj2 th.objs.length cj2, .slice pm2 th.mails.length cm2]] w fun e w' => e = .returned (.bool true) ∧ Below w.heap.size w w' := by
 have hb0 : Below w.heap.size w ((w.alloc (.cells #[.slice pl1 th.label.length cl1, .slice po1 th.own.length co1, .string ⟨th.text.toArray⟩, .slice pj1 th.objs.length cj1, .slice pm1 th.mails.length cm1] 35)).alloc (.cells #[.slice pl2 th.label.length cl2, .slice po2 th.own.length co2, .string ⟨th.text.toArray⟩, .slice pj2 th.objs.length cj2, .slice pm2 th.mails.length cm2] 35)) := (Qe w _).alloc (Qe w _).size _
 have HX1 := hid (heap_alloc2_old w (.cells #[.slice pl1 th.label.length cl1, .slice po1 th.own.length co1, .string ⟨th.text.toArray⟩, .slice pj1 th.objs.length cj1, .slice pm1 th.mails.length cm1] 35) (.cells #[.slice pl2 th.label.length cl2, .slice po2 th.own.length co2, .string ⟨th.text.toArray⟩, .slice pj2 th.objs.length cj2, .slice pm2 th.mails.length cm2] 35))
 have HX2 := hid (heap_alloc2_new w (.cells #[.slice pl1 th.label.length cl1, .slice po1 th.own.length co1, .string ⟨th.text.toArray⟩, .slice pj1 th.objs.length cj1, .slice pm1 th.mails.length cm1] 35) (.cells #[.slice pl2 th.label.length cl2, .slice po2 th.own.length co2, .string ⟨th.text.toArray⟩, .slice pj2 th.objs.length cj2, .slice pm2 th.mails.length cm2] 35))
 have HT1 := hid (h1.below hb0)
 have HT2 := hid (h2.keep (R := []) (Qk _ hb0) (fun _ h => by cases h) (More.refl _ _) (fun _ _ h => by cases h))
 have hl8 := hg.label.1
 have hol := hg.own
 have hob := hg.objs
 have hml := hg.mails
 have HGM := hid hg.mail
 have HGO := hid hg.obj
 have hss : sameB th.label th.label = true := (QbN _ _).2 rfl
 have hsl := fun wx (hb : Below ((w.alloc (.cells #[.slice pl1 th.label.length cl1, .slice po1 th.own.length co1, .string ⟨th.text.toArray⟩, .slice pj1 th.objs.length cj1, .slice pm1 th.mails.length cm1] 35)).alloc (.cells #[.slice pl2 th.label.length cl2, .slice po2 th.own.length co2, .string ⟨th.text.toArray⟩, .slice pj2 th.objs.length cj2, .slice pm2 th.mails.length cm2] 35)).heap.size ((w.alloc (.cells #[.slice pl1 th.label.length cl1, .slice po1 th.own.length co1, .string ⟨th.text.toArray⟩, .slice pj1 th.objs.length cj1, .slice pm1 th.mails.length cm1] 35)).alloc (.cells #[.slice pl2 th.label.length cl2, .slice po2 th.own.length co2, .string ⟨th.text.toArray⟩, .slice pj2 th.objs.length cj2, .slice pm2 th.mails.length cm2] 35)) wx) => QbO _ _ th.label th.label wx ((QY HT1.out.lab (by omega)).below hb) (HT2.out.1.1.below hb)
 rw [hss] at hsl
 have hsn := fun wx (hb : Below ((w.alloc (.cells #[.slice pl1 th.label.length cl1, .slice po1 th.own.length co1, .string ⟨th.text.toArray⟩, .slice pj1 th.objs.length cj1, .slice pm1 th.mails.length cm1] 35)).alloc (.cells #[.slice pl2 th.label.length cl2, .slice po2 th.own.length co2, .string ⟨th.text.toArray⟩, .slice pj2 th.objs.length cj2, .slice pm2 th.mails.length cm2] 35)).heap.size ((w.alloc (.cells #[.slice pl1 th.label.length cl1, .slice po1 th.own.length co1, .string ⟨th.text.toArray⟩, .slice pj1 th.objs.length cj1, .slice pm1 th.mails.length cm1] 35)).alloc (.cells #[.slice pl2 th.label.length cl2, .slice po2 th.own.length co2, .string ⟨th.text.toArray⟩, .slice pj2 th.objs.length cj2, .slice pm2 th.mails.length cm2] 35)) wx) => Qa1 _ _ th.own wx ((QX HT1.out.own (by omega)).below hb) (HT2.out.2.1.1.below hb)
 have HB0 := hid hb0
 clear h1 h2 hg hss hb0
 go_enter Try.func15, Try.ntmps15
 go_upto_region 1 with fail
 generalize ((w.alloc (.cells #[.slice pl1 th.label.length cl1, .slice po1 th.own.length co1, .string ⟨th.text.toArray⟩, .slice pj1 th.objs.length cj1, .slice pm1 th.mails.length cm1] 35)).alloc (.cells #[.slice pl2 th.label.length cl2, .slice po2 th.own.length co2, .string ⟨th.text.toArray⟩, .slice pj2 th.objs.length cj2, .slice pm2 th.mails.length cm2] 35)) = w0 at *
 have HSB : Hid (∀ w', Below w0.heap.size w0 w' → w'.cell? ⟨w.heap.size, 0, none⟩ = some (.slice pl1 th.label.length cl1) ∧ w'.cell? ⟨w.heap.size, 1, none⟩ = some (.slice po1 th.own.length co1) ∧ w'.cell? ⟨w.heap.size, 2, none⟩ = some (.string ⟨th.text.toArray⟩) ∧ w'.cell? ⟨w.heap.size, 3, none⟩ = some (.slice pj1 th.objs.length cj1) ∧ w'.cell? ⟨w.heap.size, 4, none⟩ = some (.slice pm1 th.mails.length cm1) ∧ w'.cell? ⟨w.heap.size + 1, 0, none⟩ = some (.slice pl2 th.label.length cl2) ∧ w'.cell? ⟨w.heap.size + 1, 1, none⟩ = some (.slice po2 th.own.length co2) ∧ w'.cell? ⟨w.heap.size + 1, 2, none⟩ = some (.string ⟨th.text.toArray⟩) ∧ w'.cell? ⟨w.heap.size + 1, 3, none⟩ = some (.slice pj2 th.objs.length cj2) ∧ w'.cell? ⟨w.heap.size + 1, 4, none⟩ = some (.slice pm2 th.mails.length cm2)) := hid (fun w' hw => ⟨Qa (Qc HX1.out hw) 0, Qa (Qc HX1.out hw) 1, Qa (Qc HX1.out hw) 2, Qa (Qc HX1.out hw) 3, Qa (Qc HX1.out hw) 4, Qa (Qc HX2.out hw) 0, Qa (Qc HX2.out hw) 1, Qa (Qc HX2.out hw) 2, Qa (Qc HX2.out hw) 3, Qa (Qc HX2.out hw) 4⟩)
 obtain ⟨a0, a1, a2, a3, a4, b0, b1, b2, b3, b4⟩ := HSB.out _ (Below.refl _ _)
 go_upto_region 3 with (first
  | (go_at_call 28; refine (hsl _ (Below.refl _ _)).mono ?_; rintro e w1 ⟨rfl, hw1⟩; clear a0 a1 a2 a3 a4 b0 b1 b2 b3 b4; obtain ⟨a0, a1, a2, a3, a4, b0, b1, b2, b3, b4⟩ := HSB.out _ hw1)
  | (go_at_call 29; refine (hsn _ hw1).mono ?_; rintro e w2 ⟨rfl, hw2d⟩; have hw2 := Qd hw1 hw2d; clear hw2d a0 a1 a2 a3 a4 b0 b1 b2 b3 b4; obtain ⟨a0, a1, a2, a3, a4, b0, b1, b2, b3, b4⟩ := HSB.out _ hw2))
 have HB2 := hid hw2
 clear hsl hsn hw1 hw2
 go_wp2_with fail
 go_loopw [49] (fun i wr => ∃ k : Nat, k ≤ th.objs.length ∧ i = .int .i64 k ∧ Below w0.heap.size w0 wr) (fun i _ => th.objs.length - (intOf i).toNat)
 case atStart => exact ⟨0, Nat.zero_le _, rfl, HB2.out⟩
 case round =>
  clear a0 a1 a2 a3 a4 b0 b1 b2 b3 b4 HB2
  obtain ⟨i, hi, rfl, hbr⟩ := hrel
  by_cases hlt : i < th.objs.length
  · have hI : (i : Int) < (th.objs.length : Int) := by omega
    have I0 : (0 : Int) ≤ i := by omega
    obtain ⟨ga, la, ka, e1, c0, c1, o1⟩ := (HT1.out.objs.keep (Qfx (R := []) (fun k hk => by cases hk)) (Qk _ hbr)).get i hlt
    obtain ⟨gb, cb, ub, e2, d0, d1, _, o2⟩ := (HT2.out.2.2.1.keep (R := []) (Qk _ hbr) (fun _ h => by cases h) (More.refl _ _) (fun _ _ h => by cases h)).cell i hlt
    have ep2 : pj2 = some ⟨gb, 0, none⟩ := by cases e2; rfl
    clear e2
    obtain ⟨lb, kb, rfl, _⟩ := id o2.1
    have hgo := (HGO.out _ (List.getElem_mem hlt)).2.1
    subst e1 ep2
    generalize th.objs[i] = x at *
    have hss : sameB x.label x.label = true := (QbN _ _).2 rfl
    have hsame := fun wx (hb : Below wr.heap.size wr wx) => QbO _ _ x.label x.label wx ((QY o1 (by omega)).below hb) (o2.1.below hb)
    rw [hss] at hsame
    have HS6 : Hid (∀ w', Below wr.heap.size wr w' → w'.cell? ⟨w.heap.size, 0, none⟩ = some (.slice pl1 th.label.length cl1) ∧ w'.cell? ⟨w.heap.size, 1, none⟩ = some (.slice po1 th.own.length co1) ∧ w'.cell? ⟨w.heap.size, 2, none⟩ = some (.string ⟨th.text.toArray⟩) ∧ w'.cell? ⟨w.heap.size, 3, none⟩ = some (.slice (some ⟨ga, 0, none⟩) th.objs.length cj1) ∧ w'.cell? ⟨w.heap.size, 4, none⟩ = some (.slice pm1 th.mails.length cm1) ∧ w'.cell? ⟨w.heap.size + 1, 0, none⟩ = some (.slice pl2 th.label.length cl2) ∧ w'.cell? ⟨w.heap.size + 1, 1, none⟩ = some (.slice po2 th.own.length co2) ∧ w'.cell? ⟨w.heap.size + 1, 2, none⟩ = some (.string ⟨th.text.toArray⟩) ∧ w'.cell? ⟨w.heap.size + 1, 3, none⟩ = some (.slice (some ⟨gb, 0, none⟩) th.objs.length cj2) ∧ w'.cell? ⟨w.heap.size + 1, 4, none⟩ = some (.slice pm2 th.mails.length cm2) ∧ w'.cell? ⟨ga, i * 2, none⟩ = some (.slice la x.label.length ka) ∧ w'.cell? ⟨ga, i * 2 + 1, none⟩ = some (.string ⟨x.text.toArray⟩) ∧ w'.cell? ⟨gb, i * 2, none⟩ = some (.slice lb x.label.length kb) ∧ w'.cell? ⟨gb, i * 2 + 1, none⟩ = some (.string ⟨x.text.toArray⟩)) := hid (fun w' hw => by
     obtain ⟨q0, q1, q2, q3, q4, r0, r1, r2, r3, r4⟩ := HSB.out _ (Qd hbr hw)
     exact ⟨q0, q1, q2, q3, q4, r0, r1, r2, r3, r4, (hw.cell (Qb c0)).trans c0, (hw.cell (Qb c1)).trans c1, (hw.cell (Qb d0)).trans d0, (hw.cell (Qb d1)).trans d1⟩)
    clear o1 o2 c0 c1 d0 d1 hss
    have htt : (x.text.toArray == x.text.toArray) = true := by simp
    go_upto_region 6 with fail
    refine wp_region_held_drew (S := (fun w' => w'.cell? ⟨w.heap.size, 0, none⟩ = some (.slice pl1 th.label.length cl1) ∧ w'.cell? ⟨w.heap.size, 1, none⟩ = some (.slice po1 th.own.length co1) ∧ w'.cell? ⟨w.heap.size, 2, none⟩ = some (.string ⟨th.text.toArray⟩) ∧ w'.cell? ⟨w.heap.size, 3, none⟩ = some (.slice (some ⟨ga, 0, none⟩) th.objs.length cj1) ∧ w'.cell? ⟨w.heap.size, 4, none⟩ = some (.slice pm1 th.mails.length cm1) ∧ w'.cell? ⟨w.heap.size + 1, 0, none⟩ = some (.slice pl2 th.label.length cl2) ∧ w'.cell? ⟨w.heap.size + 1, 1, none⟩ = some (.slice po2 th.own.length co2) ∧ w'.cell? ⟨w.heap.size + 1, 2, none⟩ = some (.string ⟨th.text.toArray⟩) ∧ w'.cell? ⟨w.heap.size + 1, 3, none⟩ = some (.slice (some ⟨gb, 0, none⟩) th.objs.length cj2) ∧ w'.cell? ⟨w.heap.size + 1, 4, none⟩ = some (.slice pm2 th.mails.length cm2) ∧ w'.cell? ⟨ga, i * 2, none⟩ = some (.slice la x.label.length ka) ∧ w'.cell? ⟨ga, i * 2 + 1, none⟩ = some (.string ⟨x.text.toArray⟩) ∧ w'.cell? ⟨gb, i * 2, none⟩ = some (.slice lb x.label.length kb) ∧ w'.cell? ⟨gb, i * 2 + 1, none⟩ = some (.string ⟨x.text.toArray⟩))) (by as_aux_lemma => kernel_rfl) (HS6.out _ (Below.refl _ _).drew) (fun _hHeld => ?_)
    refine takeF 0 52 ?v1 rfl (Or.inl ⟨by rfl, ?hy1⟩) ?rest1
    case hy1 => intro wz hSw; (try dsimp only at hSw); go_simp; try with_reducible rfl
    simp only [Act.put, List.setIfInBounds_toArray, List.set_cons_zero, List.set_cons_succ]
    refine takeF 1 53 ?v2 rfl (Or.inl ⟨by rfl, ?hy2⟩) ?rest2
    case hy2 => intro wz hSw; (try dsimp only at hSw); go_simp; try with_reducible rfl
    simp only [Act.put, List.setIfInBounds_toArray, List.set_cons_zero, List.set_cons_succ]
    refine takeF 2 54 ?v3 rfl (Or.inl ⟨by rfl, ?hy3⟩) ?rest3
    case hy3 => intro wz hSw; (try dsimp only at hSw); go_simp; try with_reducible rfl
    simp only [Act.put, List.setIfInBounds_toArray, List.set_cons_zero, List.set_cons_succ]
    refine takeF 3 55 ?v4 rfl (Or.inl ⟨by rfl, ?hy4⟩) ?rest4
    case hy4 => intro wz hSw; (try dsimp only at hSw); go_simp; try with_reducible rfl
    simp only [Act.put, List.setIfInBounds_toArray, List.set_cons_zero, List.set_cons_succ]
    refine takeF 4 56 ?v5 rfl (Or.inl ⟨by rfl, ?hy5⟩) ?rest5
    case hy5 => intro wz hSw; (try dsimp only at hSw); go_simp; try with_reducible rfl
    simp only [Act.put, List.setIfInBounds_toArray, List.set_cons_zero, List.set_cons_succ]
    refine takeF 5 57 ?v6 rfl (Or.inl ⟨by rfl, ?hy6⟩) ?rest6
    case hy6 => intro wz hSw; (try dsimp only at hSw); go_simp; try with_reducible rfl
    simp only [Act.put, List.setIfInBounds_toArray, List.set_cons_zero, List.set_cons_succ]
    refine takeF 6 58 ?v7 rfl (Or.inl ⟨by rfl, ?hy7⟩) ?rest7
    case hy7 => intro wz hSw; (try dsimp only at hSw); go_simp; try with_reducible rfl
    simp only [Act.put, List.setIfInBounds_toArray, List.set_cons_zero, List.set_cons_succ]
    refine takeF 7 59 ?v8 rfl (Or.inl ⟨by rfl, ?hy8⟩) ?rest8
    case hy8 => intro wz hSw; (try dsimp only at hSw); go_simp; try with_reducible rfl
    simp only [Act.put, List.setIfInBounds_toArray, List.set_cons_zero, List.set_cons_succ]
    refine takeF 8 60 ?v9 rfl (Or.inl ⟨by rfl, ?hy9⟩) ?rest9
    case hy9 => intro wz hSw; (try dsimp only at hSw); go_simp; try with_reducible rfl
    simp only [Act.put, List.setIfInBounds_toArray, List.set_cons_zero, List.set_cons_succ]
    refine takeF 9 61 ?v10 rfl (Or.inl ⟨by rfl, ?hy10⟩) ?rest10
    case hy10 => intro wz hSw; (try dsimp only at hSw); go_simp; try with_reducible rfl
    simp only [Act.put, List.setIfInBounds_toArray, List.set_cons_zero, List.set_cons_succ]
    refine takeF 10 62 ?v11 rfl (Or.inl ⟨by rfl, ?hy11⟩) ?rest11
    case hy11 => intro wz hSw; (try dsimp only at hSw); go_simp; try with_reducible rfl
    simp only [Act.put, List.setIfInBounds_toArray, List.set_cons_zero, List.set_cons_succ]
    refine takeF 11 63 ?v12 rfl (Or.inl ⟨by rfl, ?hy12⟩) ?rest12
    case hy12 => intro wz hSw; (try dsimp only at hSw); go_simp; try with_reducible rfl
    simp only [Act.put, List.setIfInBounds_toArray, List.set_cons_zero, List.set_cons_succ]
    refine takeF 12 64 ?v13 rfl (Or.inl ⟨by rfl, ?hy13⟩) ?rest13
    case hy13 => intro wz hSw; (try dsimp only at hSw); go_simp; try with_reducible rfl
    simp only [Act.put, List.setIfInBounds_toArray, List.set_cons_zero, List.set_cons_succ]
    refine takeF 13 65 ?v14 rfl (Or.inl ⟨by rfl, ?hy14⟩) ?rest14
    case hy14 => intro wz hSw; (try dsimp only at hSw); go_simp; try with_reducible rfl
    simp only [Act.put, List.setIfInBounds_toArray, List.set_cons_zero, List.set_cons_succ]
    refine takeF 14 66 ?v15 rfl (Or.inl ⟨by rfl, ?hy15⟩) ?rest15
    case hy15 => intro wz hSw; (try dsimp only at hSw); go_simp; try with_reducible rfl
    simp only [Act.put, List.setIfInBounds_toArray, List.set_cons_zero, List.set_cons_succ]
    refine takeF 15 67 ?v16 rfl (Or.inl ⟨by rfl, ?hy16⟩) ?rest16
    case hy16 => intro wz hSw; (try dsimp only at hSw); go_simp; try with_reducible rfl
    simp only [Act.put, List.setIfInBounds_toArray, List.set_cons_zero, List.set_cons_succ]
    refine takeF 16 68 ?v17 rfl (Or.inl ⟨by rfl, ?hy17⟩) ?rest17
    case hy17 => intro wz hSw; (try dsimp only at hSw); go_simp; try with_reducible rfl
    simp only [Act.put, List.setIfInBounds_toArray, List.set_cons_zero, List.set_cons_succ]
    refine takeF 17 69 ?v18 rfl (Or.inl ⟨by rfl, ?hy18⟩) ?rest18
    case hy18 => intro wz hSw; (try dsimp only at hSw); go_simp; try with_reducible rfl
    simp only [Act.put, List.setIfInBounds_toArray, List.set_cons_zero, List.set_cons_succ]
    refine takeF 18 70 ?v19 rfl (Or.inl ⟨by rfl, ?hy19⟩) ?rest19
    case hy19 => intro wz hSw; (try dsimp only at hSw); go_simp; try with_reducible rfl
    simp only [Act.put, List.setIfInBounds_toArray, List.set_cons_zero, List.set_cons_succ]
    refine takeF 19 71 ?v20 rfl (Or.inl ⟨by rfl, ?hy20⟩) ?rest20
    case hy20 => intro wz hSw; (try dsimp only at hSw); go_simp; try with_reducible rfl
    simp only [Act.put, List.setIfInBounds_toArray, List.set_cons_zero, List.set_cons_succ]
    refine takeF 20 72 ?v21 rfl (Or.inl ⟨by rfl, ?hy21⟩) ?rest21
    case hy21 => intro wz hSw; (try dsimp only at hSw); go_simp; try with_reducible rfl
    simp only [Act.put, List.setIfInBounds_toArray, List.set_cons_zero, List.set_cons_succ]
    refine takeF 21 73 ?v22 rfl (Or.inl ⟨by rfl, ?hy22⟩) ?rest22
    case hy22 => intro wz hSw; (try dsimp only at hSw); go_simp; try with_reducible rfl
    simp only [Act.put, List.setIfInBounds_toArray, List.set_cons_zero, List.set_cons_succ]
    refine takeF 22 74 ?v23 rfl (Or.inl ⟨by rfl, ?hy23⟩) ?rest23
    case hy23 => intro wz hSw; (try dsimp only at hSw); go_simp; try with_reducible rfl
    simp only [Act.put, List.setIfInBounds_toArray, List.set_cons_zero, List.set_cons_succ]
    refine takeF 23 75 ?v24 rfl (Or.inl ⟨by rfl, ?hy24⟩) ?rest24
    case hy24 => intro wz hSw; (try dsimp only at hSw); go_simp; try with_reducible rfl
    simp only [Act.put, List.setIfInBounds_toArray, List.set_cons_zero, List.set_cons_succ]
    refine takeF 24 76 ?v25 rfl (Or.inl ⟨by rfl, ?hy25⟩) ?rest25
    case hy25 => intro wz hSw; (try dsimp only at hSw); go_simp; try with_reducible rfl
    simp only [Act.put, List.setIfInBounds_toArray, List.set_cons_zero, List.set_cons_succ]
    refine takeF 25 77 ?v26 rfl (Or.inl ⟨by rfl, ?hy26⟩) ?rest26
    case hy26 => intro wz hSw; (try dsimp only at hSw); go_simp; try with_reducible rfl
    simp only [Act.put, List.setIfInBounds_toArray, List.set_cons_zero, List.set_cons_succ]
    refine wpAnyH_ready (rs := [26]) (by as_aux_lemma => kernel_rfl) (by simp) ?_
    refine (AllReadyH.cons rfl (fun K' hK => ?_) AllReadyH.nil)
    go_simp
    go_wp2_with (go_at_call 28; refine (hsame _ (Below.refl _ _).drew).mono ?_; rintro e w5 ⟨rfl, hwd⟩)
    have hw5 : Below wr.heap.size wr w5 := ⟨hwd.os, hwd.tape, hwd.output, hwd.size, hwd.block⟩
    clear hwd
    refine hK.out _ _ (HS6.out _ hw5) (fun _ => ?_)
    clear hK K'
    refine takeF 27 79 ?v27 rfl (Or.inl ⟨by rfl, ?hy27⟩) ?rest27
    case hy27 => intro wz hSw; (try dsimp only at hSw); go_simp; try with_reducible rfl
    simp only [Act.put, List.setIfInBounds_toArray, List.set_cons_zero, List.set_cons_succ]
    refine takeF 28 80 ?v28 rfl (Or.inl ⟨by rfl, ?hy28⟩) ?rest28
    case hy28 => intro wz hSw; (try dsimp only at hSw); go_simp; try with_reducible rfl
    simp only [Act.put, List.setIfInBounds_toArray, List.set_cons_zero, List.set_cons_succ]
    refine wpAnyH_done (by as_aux_lemma => kernel_rfl) ?_ _
    go_wp2
    go_roundw
    case rel => exact ⟨i + 1, hlt, by go_num, Qd hbr hw5⟩
    case measure => simp [intOf]; omega
  · have hik : i = th.objs.length := by omega
    subst hik
    obtain ⟨a0, a1, a2, a3, a4, b0, b1, b2, b3, b4⟩ := HSB.out _ hbr
    have HBR := hid hbr
    clear hbr
    go_wp2_with fail
    go_loopw [85] (fun i wr => ∃ k : Nat, k ≤ th.mails.length ∧ i = .int .i64 k ∧ Below w0.heap.size w0 wr) (fun i _ => th.mails.length - (intOf i).toNat)
    case atStart => exact ⟨0, Nat.zero_le _, rfl, HBR.out⟩
    case round =>
     clear a0 a1 a2 a3 a4 b0 b1 b2 b3 b4 HBR
     obtain ⟨i, hi2, rfl, hbr⟩ := hrel
     by_cases hlt : i < th.mails.length
     · have hI : (i : Int) < (th.mails.length : Int) := by omega
       have I0 : (0 : Int) ≤ i := by omega
       obtain ⟨ga, la, ka, na, ma, e1, c0, c1, c2, c3, c4, o1, o1'⟩ := (HT1.out.mails.keep (Qfx (R := []) (fun k hk => by cases hk)) (Qk _ hbr)).get i hlt
       obtain ⟨gb, ab, cb, ub, ub', e2, o2, o2', d0, d1, d2, d3, d4⟩ := (HT2.out.2.2.2.keep (R := []) (Qk _ hbr) (fun _ h => by cases h) (More.refl _ _) (fun _ _ h => by cases h)).cell i hlt
       have ep2 : pm2 = some ⟨gb, ab, none⟩ := by cases e2; rfl
       clear e2
       obtain ⟨lb, kb, rfl, _⟩ := id o2.1
       obtain ⟨nb, mb, rfl, _⟩ := id o2'.1
       have hgm := Qgs (HGM.out _ (List.getElem_mem hlt))
       subst e1 ep2
       generalize th.mails[i] = x at *
       have hsame := fun wx (hb : Below wr.heap.size wr wx) => QbB _ _ x wx ⟨_, _, rfl, (QY o1 (by omega)).below hb, (QX o1' (by omega)).below hb⟩ ⟨_, _, rfl, o2.1.below hb, o2'.1.below hb⟩
       unfold malV at hsame
       have HS12 : Hid (∀ w', Below wr.heap.size wr w' → w'.cell? ⟨w.heap.size, 0, none⟩ = some (.slice pl1 th.label.length cl1) ∧ w'.cell? ⟨w.heap.size, 1, none⟩ = some (.slice po1 th.own.length co1) ∧ w'.cell? ⟨w.heap.size, 2, none⟩ = some (.string ⟨th.text.toArray⟩) ∧ w'.cell? ⟨w.heap.size, 3, none⟩ = some (.slice pj1 th.objs.length cj1) ∧ w'.cell? ⟨w.heap.size, 4, none⟩ = some (.slice (some ⟨ga, 0, none⟩) th.mails.length cm1) ∧ w'.cell? ⟨w.heap.size + 1, 0, none⟩ = some (.slice pl2 th.label.length cl2) ∧ w'.cell? ⟨w.heap.size + 1, 1, none⟩ = some (.slice po2 th.own.length co2) ∧ w'.cell? ⟨w.heap.size + 1, 2, none⟩ = some (.string ⟨th.text.toArray⟩) ∧ w'.cell? ⟨w.heap.size + 1, 3, none⟩ = some (.slice pj2 th.objs.length cj2) ∧ w'.cell? ⟨w.heap.size + 1, 4, none⟩ = some (.slice (some ⟨gb, ab, none⟩) th.mails.length cm2) ∧ w'.cell? ⟨ga, i * 5, none⟩ = some (.int .i64 x.host) ∧ w'.cell? ⟨ga, i * 5 + 1, none⟩ = some (.int .i64 x.thread) ∧ w'.cell? ⟨ga, i * 5 + 2, none⟩ = some (.slice la x.label.length ka) ∧ w'.cell? ⟨ga, i * 5 + 3, none⟩ = some (.slice na x.grants.length ma) ∧ w'.cell? ⟨ga, i * 5 + 4, none⟩ = some (.string ⟨x.text.toArray⟩) ∧ w'.cell? ⟨gb, ab + i * 5, none⟩ = some (.int .i64 x.host) ∧ w'.cell? ⟨gb, ab + i * 5 + 1, none⟩ = some (.int .i64 x.thread) ∧ w'.cell? ⟨gb, ab + i * 5 + 2, none⟩ = some (.slice lb x.label.length kb) ∧ w'.cell? ⟨gb, ab + i * 5 + 3, none⟩ = some (.slice nb x.grants.length mb) ∧ w'.cell? ⟨gb, ab + i * 5 + 4, none⟩ = some (.string ⟨x.text.toArray⟩)) := hid (fun w' hw => by
        obtain ⟨q0, q1, q2, q3, q4, r0, r1, r2, r3, r4⟩ := HSB.out _ (Qd hbr hw)
        exact ⟨q0, q1, q2, q3, q4, r0, r1, r2, r3, r4, (hw.cell (Qb c0)).trans c0, (hw.cell (Qb c1)).trans c1, (hw.cell (Qb c2)).trans c2, (hw.cell (Qb c3)).trans c3, (hw.cell (Qb c4)).trans c4, (hw.cell (Qb d0)).trans d0, (hw.cell (Qb d1)).trans d1, (hw.cell (Qb d2)).trans d2, (hw.cell (Qb d3)).trans d3, (hw.cell (Qb d4)).trans d4⟩)
       clear o1 o2 o1' o2' c0 c1 c2 c3 c4 d0 d1 d2 d3 d4 hgm
       go_upto_region 12 with fail
       refine wp_region_held_drew (S := (fun w' => w'.cell? ⟨w.heap.size, 0, none⟩ = some (.slice pl1 th.label.length cl1) ∧ w'.cell? ⟨w.heap.size, 1, none⟩ = some (.slice po1 th.own.length co1) ∧ w'.cell? ⟨w.heap.size, 2, none⟩ = some (.string ⟨th.text.toArray⟩) ∧ w'.cell? ⟨w.heap.size, 3, none⟩ = some (.slice pj1 th.objs.length cj1) ∧ w'.cell? ⟨w.heap.size, 4, none⟩ = some (.slice (some ⟨ga, 0, none⟩) th.mails.length cm1) ∧ w'.cell? ⟨w.heap.size + 1, 0, none⟩ = some (.slice pl2 th.label.length cl2) ∧ w'.cell? ⟨w.heap.size + 1, 1, none⟩ = some (.slice po2 th.own.length co2) ∧ w'.cell? ⟨w.heap.size + 1, 2, none⟩ = some (.string ⟨th.text.toArray⟩) ∧ w'.cell? ⟨w.heap.size + 1, 3, none⟩ = some (.slice pj2 th.objs.length cj2) ∧ w'.cell? ⟨w.heap.size + 1, 4, none⟩ = some (.slice (some ⟨gb, ab, none⟩) th.mails.length cm2) ∧ w'.cell? ⟨ga, i * 5, none⟩ = some (.int .i64 x.host) ∧ w'.cell? ⟨ga, i * 5 + 1, none⟩ = some (.int .i64 x.thread) ∧ w'.cell? ⟨ga, i * 5 + 2, none⟩ = some (.slice la x.label.length ka) ∧ w'.cell? ⟨ga, i * 5 + 3, none⟩ = some (.slice na x.grants.length ma) ∧ w'.cell? ⟨ga, i * 5 + 4, none⟩ = some (.string ⟨x.text.toArray⟩) ∧ w'.cell? ⟨gb, ab + i * 5, none⟩ = some (.int .i64 x.host) ∧ w'.cell? ⟨gb, ab + i * 5 + 1, none⟩ = some (.int .i64 x.thread) ∧ w'.cell? ⟨gb, ab + i * 5 + 2, none⟩ = some (.slice lb x.label.length kb) ∧ w'.cell? ⟨gb, ab + i * 5 + 3, none⟩ = some (.slice nb x.grants.length mb) ∧ w'.cell? ⟨gb, ab + i * 5 + 4, none⟩ = some (.string ⟨x.text.toArray⟩))) (by as_aux_lemma => kernel_rfl) (HS12.out _ (Below.refl _ _).drew) (fun _hHeld => ?_)
       refine takeF 0 88 ?v29 rfl (Or.inl ⟨by rfl, ?hy29⟩) ?rest29
       case hy29 => intro wz hSw; (try dsimp only at hSw); go_simp; try with_reducible rfl
       simp only [Act.put, List.setIfInBounds_toArray, List.set_cons_zero, List.set_cons_succ]
       refine takeF 1 89 ?v30 rfl (Or.inl ⟨by rfl, ?hy30⟩) ?rest30
       case hy30 => intro wz hSw; (try dsimp only at hSw); go_simp; try with_reducible rfl
       simp only [Act.put, List.setIfInBounds_toArray, List.set_cons_zero, List.set_cons_succ]
       refine takeF 2 90 ?v31 rfl (Or.inl ⟨by rfl, ?hy31⟩) ?rest31
       case hy31 => intro wz hSw; (try dsimp only at hSw); go_simp; try with_reducible rfl
       simp only [Act.put, List.setIfInBounds_toArray, List.set_cons_zero, List.set_cons_succ]
       refine takeF 3 91 ?v32 rfl (Or.inl ⟨by rfl, ?hy32⟩) ?rest32
       case hy32 => intro wz hSw; (try dsimp only at hSw); go_simp; try with_reducible rfl
       simp only [Act.put, List.setIfInBounds_toArray, List.set_cons_zero, List.set_cons_succ]
       refine takeF 4 92 ?v33 rfl (Or.inl ⟨by rfl, ?hy33⟩) ?rest33
       case hy33 => intro wz hSw; (try dsimp only at hSw); go_simp; try with_reducible rfl
       simp only [Act.put, List.setIfInBounds_toArray, List.set_cons_zero, List.set_cons_succ]
       refine takeF 5 93 ?v34 rfl (Or.inl ⟨by rfl, ?hy34⟩) ?rest34
       case hy34 => intro wz hSw; (try dsimp only at hSw); go_simp; try with_reducible rfl
       simp only [Act.put, List.setIfInBounds_toArray, List.set_cons_zero, List.set_cons_succ]
       refine takeF 6 94 ?v35 rfl (Or.inl ⟨by rfl, ?hy35⟩) ?rest35
       case hy35 => intro wz hSw; (try dsimp only at hSw); go_simp; try with_reducible rfl
       simp only [Act.put, List.setIfInBounds_toArray, List.set_cons_zero, List.set_cons_succ]
       refine takeF 7 95 ?v36 rfl (Or.inl ⟨by rfl, ?hy36⟩) ?rest36
       case hy36 => intro wz hSw; (try dsimp only at hSw); go_simp; try with_reducible rfl
       simp only [Act.put, List.setIfInBounds_toArray, List.set_cons_zero, List.set_cons_succ]
       refine takeF 8 96 ?v37 rfl (Or.inl ⟨by rfl, ?hy37⟩) ?rest37
       case hy37 => intro wz hSw; (try dsimp only at hSw); go_simp; try with_reducible rfl
       simp only [Act.put, List.setIfInBounds_toArray, List.set_cons_zero, List.set_cons_succ]
       refine takeF 9 97 ?v38 rfl (Or.inl ⟨by rfl, ?hy38⟩) ?rest38
       case hy38 => intro wz hSw; (try dsimp only at hSw); go_simp; try with_reducible rfl
       simp only [Act.put, List.setIfInBounds_toArray, List.set_cons_zero, List.set_cons_succ]
       refine wpAnyH_ready (rs := [10]) (by as_aux_lemma => kernel_rfl) (by simp) ?_
       refine (AllReadyH.cons rfl (fun K' hK => ?_) AllReadyH.nil)
       go_simp
       go_wp2_with (go_at_call 9; refine (hsame _ (Below.refl _ _).drew).mono ?_; rintro e w5 ⟨rfl, hwd⟩)
       have hw5 : Below wr.heap.size wr w5 := ⟨hwd.os, hwd.tape, hwd.output, hwd.size, hwd.block⟩
       clear hwd
       refine hK.out _ _ (HS12.out _ hw5) (fun _ => ?_)
       clear hK K'
       refine takeF 11 99 ?v39 rfl (Or.inl ⟨by rfl, ?hy39⟩) ?rest39
       case hy39 => intro wz hSw; (try dsimp only at hSw); go_simp; try with_reducible rfl
       simp only [Act.put, List.setIfInBounds_toArray, List.set_cons_zero, List.set_cons_succ]
       refine wpAnyH_done (by as_aux_lemma => kernel_rfl) ?_ _
       go_wp2
       go_roundw
       case rel => exact ⟨i + 1, hlt, by go_num, Qd hbr hw5⟩
       case measure => simp [intOf]; omega
     · have hik : i = th.mails.length := by omega
       subst hik
       go_wp2
       go_ret
       exact ⟨rfl, Qd HB0.out hbr⟩
end Go.Proofs.Ytpdijobakfpnbaa
