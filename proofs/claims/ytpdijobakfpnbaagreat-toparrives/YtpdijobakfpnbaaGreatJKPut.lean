/- kernel.put writes into an object, and tells nobody; kernel.get reads one. -/
import Derived.Test.YtpdijobakfpnbaaGreatJKAns
import Derived.Test.YtpdijobakfpnbaaGreatJPlain
namespace Go.Proofs.YtpdijobakfpnbaaGreat
open Go.RowKit Go.Proofs.Parclose
theorem cells8' {w : World} {b : Nat} {t : TypeId} {y0 y1 y2 y3 y4 y5 y6 y7 : Value} (h : w.heap[b]? = some (.cells #[y0, y1, y2, y3, y4, y5, y6, y7] t (0, 0))) : w.cell? ⟨b, 0, none⟩ = some y0 ∧ w.cell? ⟨b, 1, none⟩ = some y1 ∧ w.cell? ⟨b, 2, none⟩ = some y2 ∧ w.cell? ⟨b, 3, none⟩ = some y3 ∧ w.cell? ⟨b, 4, none⟩ = some y4 ∧ w.cell? ⟨b, 5, none⟩ = some y5 ∧ w.cell? ⟨b, 6, none⟩ = some y6 ∧ w.cell? ⟨b, 7, none⟩ = some y7 :=
 ⟨Qa h 0, Qa h 1, Qa h 2, Qa h 3, Qa h 4, Qa h 5, Qa h 6, Qa h 7⟩
set_option maxRecDepth 100000 in
set_option maxHeartbeats 3200000 in
theorem Qle (kb t : Nat) (F : List Nat) (V : List ThrV) (K : Ker) (c : Cal) (vc : Value) (w : World) (h : KerAt w kb F V K) (hc : CalAt w vc c) (hno : objAt K c.t c.n = none) :
 Calls Tryz.prog 93 #[.pointer (some ⟨kb, 0, none⟩), .pointer (some ⟨kb, 2 + t * 5, none⟩), vc] w fun e w' => e = .returned (repV (code 0)) ∧ ∃ G, KerAt w' kb G V K ∧ KStep kb w F V w' G V := by
 obtain ⟨vl, vg, rfl, ⟨pl, cl, rfl, _⟩, ⟨pg, cg, rfl, _⟩⟩ := hc
 unfold calV
 have HA := hid ((h.reserve (.cells #[.int .i64 c.kind, .int .i64 c.h, .int .i64 c.t, .int .i64 c.n, .int .i64 c.c, .slice pl c.label.length cl, .slice pg c.grants.length cg, .string ⟨c.text.toArray⟩] 37)).reserve (.cells #[.int .i64 0, .int .i64 0, .string ⟨#[]⟩] 31))
 have HS := hid ((KStep.reserve kb w F V (.cells #[.int .i64 c.kind, .int .i64 c.h, .int .i64 c.t, .int .i64 c.n, .int .i64 c.c, .slice pl c.label.length cl, .slice pg c.grants.length cg, .string ⟨c.text.toArray⟩] 37)).trans (KStep.reserve kb _ _ V (.cells #[.int .i64 0, .int .i64 0, .string ⟨#[]⟩] 31)))
 have hob := Qdp kb _ V K c.t c.n _ HA.out hno
 have HBX := hid (heap_alloc2_new w (.cells #[.int .i64 c.kind, .int .i64 c.h, .int .i64 c.t, .int .i64 c.n, .int .i64 c.c, .slice pl c.label.length cl, .slice pg c.grants.length cg, .string ⟨c.text.toArray⟩] 37) (.cells #[.int .i64 0, .int .i64 0, .string ⟨#[]⟩] 31))
 clear h hno
 go_enter Tryz.func93, Tryz.ntmps93
 go_wp2_with (go_at_call 134; refine hob.mono ?_; rintro e w1 ⟨rfl, rfl⟩)
 go_quiet (fail)
 go_wp2_with (go_at_call 90; refine (QL _ _).mono ?_; rintro e w2 ⟨rfl, hw2⟩; have HB2 := hid (Qc (Qt _ _) hw2); have hb2 := Qe HBX.out HB2.out; obtain ⟨c0, c1, c2, f0, f1, f2⟩ := cells3 hb2; have HX2 := hid hb2; clear hb2 hw2)
 have hg := QD w2 (w.heap.size + 1) (.int .i64 0) (.int .i64 0) (.string ⟨#[]⟩)
 exact bodyPost_ret (results_cell_row rfl _ _ (w.heap.size + 1) 31 _ (0, 0) _ rfl (QO (.int .i64 0) (.int .i64 0) (.string ⟨#[]⟩) HX2.out) Tryz.underlying31 rfl (by kernel_rfl)) rfl ⟨rfl, _, (HA.out.below HB2.out).boxed hg (by simp) HX2.out (by decide) (by decide) (by decide) (by decide), (HS.out.trans (KStep.below HB2.out)).boxed hg (by omega)⟩
set_option maxRecDepth 100000 in
set_option maxHeartbeats 3200000 in
theorem Qmh (kb t u i : Nat) (F : List Nat) (V : List ThrV) (K : Ker) (c : Cal) (vc : Value) (w : World) (h : KerAt w kb F V K) (h1 : t < V.length) (h2 : t < K.ths.length) (u1 : u < V.length) (u2 : u < K.ths.length) (hl : K.ths[t].own.length ≤ 1000) (hi : i < K.ths[u].objs.length) (hct : c.t = u) (hcn : c.n = i) (hx : c.text.length ≤ 1000) (hc : CalAt w vc c) (hf : flowsL K.ths[t].label K.ths[u].objs[i].label K.ths[t].own = false) :
 Calls Tryz.prog 93 #[.pointer (some ⟨kb, 0, none⟩), .pointer (some ⟨kb, 2 + t * 5, none⟩), vc] w fun e w' => e = .returned (repV (code 0)) ∧ ∃ G, KerAt w' kb G V K ∧ KStep kb w F V w' G V := by
 obtain ⟨vl, vg, rfl, ⟨pl, cl, rfl, _⟩, ⟨pg, cg, rfl, _⟩⟩ := hc
 unfold calV
 obtain ⟨ck, ch, ct, cn, cc, clb, cgr, cx⟩ := c
 simp only at hct hcn hx ⊢
 subst hct
 subst hcn
 have HA := hid ((h.reserve (.cells #[.int .i64 ck, .int .i64 ch, .int .i64 u, .int .i64 i, .int .i64 cc, .slice pl clb.length cl, .slice pg cgr.length cg, .string ⟨cx.toArray⟩] 37)).reserve (.cells #[.int .i64 0, .int .i64 0, .string ⟨#[]⟩] 31))
 have HS := hid ((KStep.reserve kb w F V (.cells #[.int .i64 ck, .int .i64 ch, .int .i64 u, .int .i64 i, .int .i64 cc, .slice pl clb.length cl, .slice pg cgr.length cg, .string ⟨cx.toArray⟩] 37)).trans (KStep.reserve kb _ _ V (.cells #[.int .i64 0, .int .i64 0, .string ⟨#[]⟩] 31)))
 have HBX := hid (heap_alloc2_new w (.cells #[.int .i64 ck, .int .i64 ch, .int .i64 u, .int .i64 i, .int .i64 cc, .slice pl clb.length cl, .slice pg cgr.length cg, .string ⟨cx.toArray⟩] 37) (.cells #[.int .i64 0, .int .i64 0, .string ⟨#[]⟩] 31))
 have HCX := hid (heap_alloc2_old w (.cells #[.int .i64 ck, .int .i64 ch, .int .i64 u, .int .i64 i, .int .i64 cc, .slice pl clb.length cl, .slice pg cgr.length cg, .string ⟨cx.toArray⟩] 37) (.cells #[.int .i64 0, .int .i64 0, .string ⟨#[]⟩] 31))
 have h4u : u < 4 := by rw [← h.len]; exact u1
 have hTu := HA.out.tat u u1 u2
 obtain ⟨g, cap, uo, hvj, o1, o2, of, hro⟩ := hTu.thr.2.2.1.cell i hi
 have hob := Qba kb u i g cap K.ths[u].objs.length _ V[u] K.ths[u] _ hTu h4u hi hvj
 have hTt := HA.out.tat t h1 h2
 obtain ⟨t0, t1, t2, _, _⟩ := hTt.cells
 obtain ⟨ptl, ctl, hvl, _⟩ := id hTt.thr.1.1
 obtain ⟨po, co, hvo⟩ := ownV hTt.thr.2.1
 obtain ⟨puo, cuo, huo, _⟩ := id hro.1
 have HVJ := hid hvj
 have hfl := fun wx (hb : Below (((w.alloc (.cells #[.int .i64 ck, .int .i64 ch, .int .i64 u, .int .i64 i, .int .i64 cc, .slice pl clb.length cl, .slice pg cgr.length cg, .string ⟨cx.toArray⟩] 37)).alloc (.cells #[.int .i64 0, .int .i64 0, .string ⟨#[]⟩] 31))).heap.size ((w.alloc (.cells #[.int .i64 ck, .int .i64 ch, .int .i64 u, .int .i64 i, .int .i64 cc, .slice pl clb.length cl, .slice pg cgr.length cg, .string ⟨cx.toArray⟩] 37)).alloc (.cells #[.int .i64 0, .int .i64 0, .string ⟨#[]⟩] 31)) wx) => Q4 _ _ _ _ _ _ wx (hTt.thr.1.1.below hb) (hro.1.below hb) ((Qag hTt.thr.2.1 hl).below hb)
 rw [hf] at hfl
 rw [hvl] at t0
 rw [hvo] at t1
 rw [huo] at o1
 rw [hvl, hvo, huo] at hfl
 clear h hTu hTt hvj hro of o2 t2
 generalize hW : ((w.alloc (.cells #[.int .i64 ck, .int .i64 ch, .int .i64 u, .int .i64 i, .int .i64 cc, .slice pl clb.length cl, .slice pg cgr.length cg, .string ⟨cx.toArray⟩] 37)).alloc (.cells #[.int .i64 0, .int .i64 0, .string ⟨#[]⟩] 31)) = W at HA HS HBX HCX hfl t0 t1 o1 hob
 have HW := hid hW
 have HIN : Hid (w.heap.size + 1 ∈ F ++ [w.heap.size] ++ [(w.alloc (.cells #[.int .i64 ck, .int .i64 ch, .int .i64 u, .int .i64 i, .int .i64 cc, .slice pl clb.length cl, .slice pg cgr.length cg, .string ⟨cx.toArray⟩] 37)).heap.size]) := hid (by simp)
 clear hW
 go_enter Tryz.func93, Tryz.ntmps93
 go_wp2_with fail
 rw [HW.out]
 refine hob.mono ?_
 rintro e w1 ⟨rfl, rfl⟩
 clear hob
 go_wp2_with fail
 go_region_held3 (fun w' => w'.cell? ⟨kb, 2 + t * 5, none⟩ = some (.slice ptl K.ths[t].label.length ctl) ∧ w'.cell? ⟨kb, 2 + t * 5 + 1, none⟩ = some (.slice po K.ths[t].own.length co) ∧ w'.cell? ⟨g, i * 2, none⟩ = some (.slice puo K.ths[u].objs[i].label.length cuo)) (go_keep)
  (first | (go_at_call 14; refine (hfl _ (Below.refl _ _).drew).mono ?_; rintro e w5 ⟨rfl, hw5d⟩; have hw5 := kundrew hw5d; have HB5 := hid hw5; have r0 := hw5.cell (Qf t0); rw [t0] at r0; have r1 := hw5.cell (Qf t1); rw [t1] at r1; have r2 := hw5.cell (Qf o1); rw [o1] at r2; clear hw5d hw5))
 all_goals
  go_wp2_with (go_at_call 90; refine (QL _ _).mono ?_; rintro e w2 ⟨rfl, hw2⟩; have HB2 := hid (Qc HB5.out hw2); have hb2 := Qe HBX.out HB2.out; obtain ⟨c0, c1, c2, f0, f1, f2⟩ := cells3 hb2; have HX2 := hid hb2; clear hb2 hw2)
  have hg := QD w2 (w.heap.size + 1) (.int .i64 0) (.int .i64 0) (.string ⟨#[]⟩)
  exact bodyPost_ret (results_cell_row rfl _ _ (w.heap.size + 1) 31 _ (0, 0) _ rfl (QO (.int .i64 0) (.int .i64 0) (.string ⟨#[]⟩) HX2.out) Tryz.underlying31 rfl (by kernel_rfl)) rfl ⟨rfl, _, (HA.out.below HB2.out).boxed hg HIN.out HX2.out (by decide) (by decide) (by decide) (by decide), (HS.out.trans (KStep.below HB2.out)).boxed hg (by omega)⟩
set_option maxRecDepth 100000 in
set_option maxHeartbeats 3200000 in
theorem Qmg (kb t u i : Nat) (F : List Nat) (V : List ThrV) (K : Ker) (c : Cal) (vc : Value) (w : World) (h : KerAt w kb F V K) (h1 : t < V.length) (h2 : t < K.ths.length) (u1 : u < V.length) (u2 : u < K.ths.length) (hl : K.ths[t].own.length ≤ 1000) (hi : i < K.ths[u].objs.length) (hct : c.t = u) (hcn : c.n = i) (hx : c.text.length ≤ 1000) (hc : CalAt w vc c) (hf : flowsL K.ths[t].label K.ths[u].objs[i].label K.ths[t].own = true) (hxt : K.ths[t].text.length ≤ 1000) :
 Calls Tryz.prog 93 #[.pointer (some ⟨kb, 0, none⟩), .pointer (some ⟨kb, 2 + t * 5, none⟩), vc] w fun e w' => e = .returned (repV (code 0)) ∧ ∃ G, KerAt w' kb G V { K with ths := K.ths.set u (putO K.ths[u] i (lastL (K.ths[t].text ++ c.text))) } ∧ KStep kb w F V w' G V := by
 obtain ⟨vl, vg, rfl, ⟨pl, cl, rfl, _⟩, ⟨pg, cg, rfl, _⟩⟩ := hc
 unfold calV
 obtain ⟨ck, ch, ct, cn, cc, clb, cgr, cx⟩ := c
 simp only at hct hcn hx ⊢
 subst hct
 subst hcn
 have HA := hid ((h.reserve (.cells #[.int .i64 ck, .int .i64 ch, .int .i64 u, .int .i64 i, .int .i64 cc, .slice pl clb.length cl, .slice pg cgr.length cg, .string ⟨cx.toArray⟩] 37)).reserve (.cells #[.int .i64 0, .int .i64 0, .string ⟨#[]⟩] 31))
 have HS := hid ((KStep.reserve kb w F V (.cells #[.int .i64 ck, .int .i64 ch, .int .i64 u, .int .i64 i, .int .i64 cc, .slice pl clb.length cl, .slice pg cgr.length cg, .string ⟨cx.toArray⟩] 37)).trans (KStep.reserve kb _ _ V (.cells #[.int .i64 0, .int .i64 0, .string ⟨#[]⟩] 31)))
 have HBX := hid (heap_alloc2_new w (.cells #[.int .i64 ck, .int .i64 ch, .int .i64 u, .int .i64 i, .int .i64 cc, .slice pl clb.length cl, .slice pg cgr.length cg, .string ⟨cx.toArray⟩] 37) (.cells #[.int .i64 0, .int .i64 0, .string ⟨#[]⟩] 31))
 have HCX := hid (heap_alloc2_old w (.cells #[.int .i64 ck, .int .i64 ch, .int .i64 u, .int .i64 i, .int .i64 cc, .slice pl clb.length cl, .slice pg cgr.length cg, .string ⟨cx.toArray⟩] 37) (.cells #[.int .i64 0, .int .i64 0, .string ⟨#[]⟩] 31))
 have h4u : u < 4 := by rw [← h.len]; exact u1
 have hTu := HA.out.tat u u1 u2
 obtain ⟨g, cap, uo, hvj, o1, o2, of, hro⟩ := hTu.thr.2.2.1.cell i hi
 have hob := Qba kb u i g cap K.ths[u].objs.length _ V[u] K.ths[u] _ hTu h4u hi hvj
 have hTt := HA.out.tat t h1 h2
 obtain ⟨t0, t1, t2, _, _⟩ := hTt.cells
 obtain ⟨ptl, ctl, hvl, _⟩ := id hTt.thr.1.1
 obtain ⟨po, co, hvo⟩ := ownV hTt.thr.2.1
 obtain ⟨puo, cuo, huo, _⟩ := id hro.1
 have HVJ := hid hvj
 have hfl := fun wx (hb : Below (((w.alloc (.cells #[.int .i64 ck, .int .i64 ch, .int .i64 u, .int .i64 i, .int .i64 cc, .slice pl clb.length cl, .slice pg cgr.length cg, .string ⟨cx.toArray⟩] 37)).alloc (.cells #[.int .i64 0, .int .i64 0, .string ⟨#[]⟩] 31))).heap.size ((w.alloc (.cells #[.int .i64 ck, .int .i64 ch, .int .i64 u, .int .i64 i, .int .i64 cc, .slice pl clb.length cl, .slice pg cgr.length cg, .string ⟨cx.toArray⟩] 37)).alloc (.cells #[.int .i64 0, .int .i64 0, .string ⟨#[]⟩] 31)) wx) => Q4 _ _ _ _ _ _ wx (hTt.thr.1.1.below hb) (hro.1.below hb) ((Qag hTt.thr.2.1 hl).below hb)
 rw [hf] at hfl
 rw [hvl] at t0
 rw [hvo] at t1
 rw [huo] at o1
 rw [hvl, hvo, huo] at hfl
 clear h hTu hTt hvj hro
 generalize hW : ((w.alloc (.cells #[.int .i64 ck, .int .i64 ch, .int .i64 u, .int .i64 i, .int .i64 cc, .slice pl clb.length cl, .slice pg cgr.length cg, .string ⟨cx.toArray⟩] 37)).alloc (.cells #[.int .i64 0, .int .i64 0, .string ⟨#[]⟩] 31)) = W at HA HS HBX HCX hfl t0 t1 o1 hob t2 o2 of
 have HW := hid hW
 have HIN : Hid (w.heap.size + 1 ∈ F ++ [w.heap.size] ++ [(w.alloc (.cells #[.int .i64 ck, .int .i64 ch, .int .i64 u, .int .i64 i, .int .i64 cc, .slice pl clb.length cl, .slice pg cgr.length cg, .string ⟨cx.toArray⟩] 37)).heap.size]) := hid (by simp)
 clear hW
 go_enter Tryz.func93, Tryz.ntmps93
 go_wp2_with fail
 rw [HW.out]
 refine hob.mono ?_
 rintro e w1 ⟨rfl, rfl⟩
 clear hob
 go_wp2_with fail
 have hstr : ∀ a b : List UInt8, (⟨a.toArray⟩ : ByteArray) ++ ⟨b.toArray⟩ = ⟨(a ++ b).toArray⟩ := fun a b => ByteArray.mk_append_mk a b
 have hsum : K.ths[t].text.length + cx.length < 4611686018427387904 := by omega
 have hsum2 : ¬ (9223372036854775807 < K.ths[t].text.length + cx.length) := by omega
 have hsum3 : K.ths[t].text.length + cx.length ≤ 9223372036854775807 := by omega
 have hg1 : kb ≠ g := fun e => (HA.out.tat u u1 u2).kb_rows (mem_rows.2 (.inr (.inl (by rw [HVJ.out, e]; rfl))))
 have hg2 : g ≠ kb := fun e => hg1 e.symm
 have hg3 : w.heap.size ≠ g := fun e => by
  obtain ⟨_, _, j2, _⟩ := (HA.out.tat u u1 u2).thr.2.2.1
  exact Qy j2 HCX.out (by decide) (by rw [HVJ.out, e]; rfl)
 have hg4 : g ≠ w.heap.size := fun e => hg3 e.symm
 have x7 := (cells8' HCX.out).2.2.2.2.2.2.2
 go_region_held3 (fun w' => w'.cell? ⟨kb, 2 + t * 5, none⟩ = some (.slice ptl K.ths[t].label.length ctl) ∧ w'.cell? ⟨kb, 2 + t * 5 + 1, none⟩ = some (.slice po K.ths[t].own.length co) ∧ w'.cell? ⟨g, i * 2, none⟩ = some (.slice puo K.ths[u].objs[i].label.length cuo)) (go_keep)
  (first | (go_at_call 14; refine (hfl _ (Below.refl _ _).drew).mono ?_; rintro e w5 ⟨rfl, hw5d⟩; have hw5 := kundrew hw5d; have HB5 := hid hw5; have r0 := hw5.cell (Qf t0); rw [t0] at r0; have r1 := hw5.cell (Qf t1); rw [t1] at r1; have r2 := hw5.cell (Qf o1); rw [o1] at r2; have y2 := hw5.cell (Qf t2); rw [t2] at y2; have y7 := hw5.cell (Qf x7); rw [x7] at y7; have z2 := hw5.cell (Qf o2); rw [o2] at z2; clear hw5d hw5))
 all_goals
  clear r0 r1 r2 t0 t1 t2 o1 o2 x7 hfl
  go_wp2_with fail
  go_region_held3 (fun w' => w'.cell? ⟨kb, 2 + t * 5 + 2, none⟩ = some (.string ⟨K.ths[t].text.toArray⟩) ∧ w'.cell? ⟨w.heap.size, 7, none⟩ = some (.string ⟨cx.toArray⟩)) (go_keep)
   (first | (go_at_call 97; refine (Qbj (K.ths[t].text ++ cx) _ (by rw [List.length_append]; omega)).mono ?_; rintro e w6 ⟨rfl, hw6d⟩; have hw6 := kundrew hw6d; have HB6 := hid (Qc HB5.out hw6); have q2 := hw6.cell (Qf y2); rw [y2] at q2; have q7 := hw6.cell (Qf y7); rw [y7] at q7; have hK6 := HA.out.below HB6.out; have hT6 := hK6.tat u u1 u2; have s2 := hw6.cell (Qf z2); rw [z2] at s2; obtain ⟨g', cap', uo', hvj', _, _, sf, _⟩ := hT6.thr.2.2.1.cell i hi; have hgg : g' = g := (by have e := hvj'.symm.trans HVJ.out; cases e; rfl); subst hgg; have HT6 := hid hT6; have HK6 := hid hK6; clear hw6d hw6 hT6 hK6))
  all_goals
   have hput := HT6.out.put hvj' hi (lastL (K.ths[t].text ++ cx))
   have hK7 := HK6.out.step u1 u2 hput.1 hput.2
   have hx7 := QaY hput.2 HT6.out (Qe HBX.out HB6.out) (by decide) (by decide) (by decide) (by decide)
   have hS7 := (HS.out.trans (KStep.below HB6.out)).trans (KStep.of u1 hput.2)
   rw [List.set_getElem_self] at hK7 hS7
   have HK7 := hid hK7
   have HS7 := hid hS7
   have HX7 := hid hx7
   clear hput hK7 hx7 hS7
   generalize w6.setCell ⟨g', i * 2 + 1, none⟩ (.string ⟨(lastL (K.ths[t].text ++ cx)).toArray⟩) = w7 at *
   go_wp2_with (go_at_call 90; refine (QL _ _).mono ?_; rintro e w2 ⟨rfl, hw2⟩; have HB2 := hid hw2; have hb2 := Qe HX7.out HB2.out; obtain ⟨c0, c1, c2, f0, f1, f2⟩ := cells3 hb2; have HX2 := hid hb2; clear hb2 hw2)
   have hg := QD w2 (w.heap.size + 1) (.int .i64 0) (.int .i64 0) (.string ⟨#[]⟩)
   exact bodyPost_ret (results_cell_row rfl _ _ (w.heap.size + 1) 31 _ (0, 0) _ rfl (QO (.int .i64 0) (.int .i64 0) (.string ⟨#[]⟩) HX2.out) Tryz.underlying31 rfl (by kernel_rfl)) rfl ⟨rfl, _, (HK7.out.below HB2.out).boxed hg HIN.out HX2.out (by decide) (by decide) (by decide) (by decide), (HS7.out.trans (KStep.below HB2.out)).boxed hg (by omega)⟩
theorem QhX {w : World} {kb t u i g cap : Nat} {F : List Nat} {V : List ThrV} {K : Ker} {x : List UInt8} {ht : t < K.ths.length} (h : KerAt w kb F V { K with ths := K.ths.set t { K.ths[t] with text := x } }) (u1 : u < V.length) (u2 : u < K.ths.length) (hi : i < K.ths[u].objs.length) (hv : V[u].vj = .slice (some ⟨g, 0, none⟩) K.ths[u].objs.length cap) : w.cell? ⟨g, i * 2 + 1, none⟩ = some (.string ⟨K.ths[u].objs[i].text.toArray⟩) := by
 have hT := (h.tat u u1 (by simpa using u2)).thr.2.2.1
 have e : ((K.ths.set t { K.ths[t] with text := x })[u]'(by simpa using u2)).objs = K.ths[u].objs := by
  rw [List.getElem_set]
  split
  · rename_i e
    subst e
    rfl
  · rfl
 rw [e] at hT
 obtain ⟨g', cap', uo, hv', _, c2, _⟩ := hT.cell i hi
 have e2 := hv.symm.trans hv'
 cases e2
 exact c2
set_option maxRecDepth 100000 in
set_option maxHeartbeats 3200000 in
theorem QlH (kb t : Nat) (F : List Nat) (V : List ThrV) (K : Ker) (c : Cal) (vc : Value) (w : World) (h : KerAt w kb F V K) (hc : CalAt w vc c) (hno : objAt K c.t c.n = none) :
 Calls Tryz.prog 94 #[.pointer (some ⟨kb, 0, none⟩), .pointer (some ⟨kb, 2 + t * 5, none⟩), vc] w fun e w' => e = .returned (repV (code 4)) ∧ ∃ G, KerAt w' kb G V K ∧ KStep kb w F V w' G V := by
 obtain ⟨vl, vg, rfl, ⟨pl, cl, rfl, _⟩, ⟨pg, cg, rfl, _⟩⟩ := hc
 unfold calV
 have HA := hid ((h.reserve (.cells #[.int .i64 c.kind, .int .i64 c.h, .int .i64 c.t, .int .i64 c.n, .int .i64 c.c, .slice pl c.label.length cl, .slice pg c.grants.length cg, .string ⟨c.text.toArray⟩] 37)).reserve (.cells #[.int .i64 0, .int .i64 0, .string ⟨#[]⟩] 31))
 have HS := hid ((KStep.reserve kb w F V (.cells #[.int .i64 c.kind, .int .i64 c.h, .int .i64 c.t, .int .i64 c.n, .int .i64 c.c, .slice pl c.label.length cl, .slice pg c.grants.length cg, .string ⟨c.text.toArray⟩] 37)).trans (KStep.reserve kb _ _ V (.cells #[.int .i64 0, .int .i64 0, .string ⟨#[]⟩] 31)))
 have hob := Qdp kb _ V K c.t c.n _ HA.out hno
 have HBX := hid (heap_alloc2_new w (.cells #[.int .i64 c.kind, .int .i64 c.h, .int .i64 c.t, .int .i64 c.n, .int .i64 c.c, .slice pl c.label.length cl, .slice pg c.grants.length cg, .string ⟨c.text.toArray⟩] 37) (.cells #[.int .i64 0, .int .i64 0, .string ⟨#[]⟩] 31))
 clear h hno
 go_enter Tryz.func94, Tryz.ntmps94
 go_wp2_with (go_at_call 134; refine hob.mono ?_; rintro e w1 ⟨rfl, rfl⟩)
 go_quiet (fail)
 go_wp2_with (go_at_call 90; refine (QL _ _).mono ?_; rintro e w2 ⟨rfl, hw2⟩; have HB2 := hid (Qc (Qt _ _) hw2); have hb2 := Qe HBX.out HB2.out; obtain ⟨c0, c1, c2, f0, f1, f2⟩ := cells3 hb2; have HX2 := hid hb2; clear hb2 hw2)
 have hg := QD w2 (w.heap.size + 1) (.int .i64 4) (.int .i64 0) (.string ⟨#[]⟩)
 exact bodyPost_ret (results_cell_row rfl _ _ (w.heap.size + 1) 31 _ (0, 0) _ rfl (QO (.int .i64 4) (.int .i64 0) (.string ⟨#[]⟩) HX2.out) Tryz.underlying31 rfl (by kernel_rfl)) rfl ⟨rfl, _, (HA.out.below HB2.out).boxed hg (by simp) HX2.out (by decide) (by decide) (by decide) (by decide), (HS.out.trans (KStep.below HB2.out)).boxed hg (by omega)⟩
set_option maxRecDepth 100000 in
set_option maxHeartbeats 3200000 in
theorem Qmn (kb t u i : Nat) (F : List Nat) (V : List ThrV) (K : Ker) (c : Cal) (vc : Value) (w : World) (h : KerAt w kb F V K) (h1 : t < V.length) (h2 : t < K.ths.length) (u1 : u < V.length) (u2 : u < K.ths.length) (hl : K.ths[t].own.length ≤ 1000) (hi : i < K.ths[u].objs.length) (hct : c.t = u) (hcn : c.n = i) (hx : c.text.length ≤ 1000) (hc : CalAt w vc c) (hf : flowsL K.ths[u].objs[i].label K.ths[t].label K.ths[t].own = false) :
 Calls Tryz.prog 94 #[.pointer (some ⟨kb, 0, none⟩), .pointer (some ⟨kb, 2 + t * 5, none⟩), vc] w fun e w' => e = .returned (repV (code 4)) ∧ ∃ G, KerAt w' kb G V K ∧ KStep kb w F V w' G V := by
 obtain ⟨vl, vg, rfl, ⟨pl, cl, rfl, _⟩, ⟨pg, cg, rfl, _⟩⟩ := hc
 unfold calV
 obtain ⟨ck, ch, ct, cn, cc, clb, cgr, cx⟩ := c
 simp only at hct hcn hx ⊢
 subst hct
 subst hcn
 have HA := hid ((h.reserve (.cells #[.int .i64 ck, .int .i64 ch, .int .i64 u, .int .i64 i, .int .i64 cc, .slice pl clb.length cl, .slice pg cgr.length cg, .string ⟨cx.toArray⟩] 37)).reserve (.cells #[.int .i64 0, .int .i64 0, .string ⟨#[]⟩] 31))
 have HS := hid ((KStep.reserve kb w F V (.cells #[.int .i64 ck, .int .i64 ch, .int .i64 u, .int .i64 i, .int .i64 cc, .slice pl clb.length cl, .slice pg cgr.length cg, .string ⟨cx.toArray⟩] 37)).trans (KStep.reserve kb _ _ V (.cells #[.int .i64 0, .int .i64 0, .string ⟨#[]⟩] 31)))
 have HBX := hid (heap_alloc2_new w (.cells #[.int .i64 ck, .int .i64 ch, .int .i64 u, .int .i64 i, .int .i64 cc, .slice pl clb.length cl, .slice pg cgr.length cg, .string ⟨cx.toArray⟩] 37) (.cells #[.int .i64 0, .int .i64 0, .string ⟨#[]⟩] 31))
 have HCX := hid (heap_alloc2_old w (.cells #[.int .i64 ck, .int .i64 ch, .int .i64 u, .int .i64 i, .int .i64 cc, .slice pl clb.length cl, .slice pg cgr.length cg, .string ⟨cx.toArray⟩] 37) (.cells #[.int .i64 0, .int .i64 0, .string ⟨#[]⟩] 31))
 have h4u : u < 4 := by rw [← h.len]; exact u1
 have hTu := HA.out.tat u u1 u2
 obtain ⟨g, cap, uo, hvj, o1, o2, of, hro⟩ := hTu.thr.2.2.1.cell i hi
 have hob := Qba kb u i g cap K.ths[u].objs.length _ V[u] K.ths[u] _ hTu h4u hi hvj
 have hTt := HA.out.tat t h1 h2
 obtain ⟨t0, t1, t2, _, _⟩ := hTt.cells
 obtain ⟨ptl, ctl, hvl, _⟩ := id hTt.thr.1.1
 obtain ⟨po, co, hvo⟩ := ownV hTt.thr.2.1
 obtain ⟨puo, cuo, huo, _⟩ := id hro.1
 have HVJ := hid hvj
 have hfl := fun wx (hb : Below (((w.alloc (.cells #[.int .i64 ck, .int .i64 ch, .int .i64 u, .int .i64 i, .int .i64 cc, .slice pl clb.length cl, .slice pg cgr.length cg, .string ⟨cx.toArray⟩] 37)).alloc (.cells #[.int .i64 0, .int .i64 0, .string ⟨#[]⟩] 31))).heap.size ((w.alloc (.cells #[.int .i64 ck, .int .i64 ch, .int .i64 u, .int .i64 i, .int .i64 cc, .slice pl clb.length cl, .slice pg cgr.length cg, .string ⟨cx.toArray⟩] 37)).alloc (.cells #[.int .i64 0, .int .i64 0, .string ⟨#[]⟩] 31)) wx) => Q4 _ _ _ _ _ _ wx (hro.1.below hb) (hTt.thr.1.1.below hb) ((Qag hTt.thr.2.1 hl).below hb)
 rw [hf] at hfl
 rw [hvl] at t0
 rw [hvo] at t1
 rw [huo] at o1
 rw [hvl, hvo, huo] at hfl
 clear h hTu hTt hvj hro of o2 t2
 generalize hW : ((w.alloc (.cells #[.int .i64 ck, .int .i64 ch, .int .i64 u, .int .i64 i, .int .i64 cc, .slice pl clb.length cl, .slice pg cgr.length cg, .string ⟨cx.toArray⟩] 37)).alloc (.cells #[.int .i64 0, .int .i64 0, .string ⟨#[]⟩] 31)) = W at HA HS HBX HCX hfl t0 t1 o1 hob
 have HW := hid hW
 have HIN : Hid (w.heap.size + 1 ∈ F ++ [w.heap.size] ++ [(w.alloc (.cells #[.int .i64 ck, .int .i64 ch, .int .i64 u, .int .i64 i, .int .i64 cc, .slice pl clb.length cl, .slice pg cgr.length cg, .string ⟨cx.toArray⟩] 37)).heap.size]) := hid (by simp)
 clear hW
 go_enter Tryz.func94, Tryz.ntmps94
 go_wp2_with fail
 rw [HW.out]
 refine hob.mono ?_
 rintro e w1 ⟨rfl, rfl⟩
 clear hob
 go_wp2_with fail
 go_region_held3 (fun w' => w'.cell? ⟨kb, 2 + t * 5, none⟩ = some (.slice ptl K.ths[t].label.length ctl) ∧ w'.cell? ⟨kb, 2 + t * 5 + 1, none⟩ = some (.slice po K.ths[t].own.length co) ∧ w'.cell? ⟨g, i * 2, none⟩ = some (.slice puo K.ths[u].objs[i].label.length cuo)) (go_keep)
  (first | (go_at_call 14; refine (hfl _ (Below.refl _ _).drew).mono ?_; rintro e w5 ⟨rfl, hw5d⟩; have hw5 := kundrew hw5d; have HB5 := hid hw5; have r0 := hw5.cell (Qf t0); rw [t0] at r0; have r1 := hw5.cell (Qf t1); rw [t1] at r1; have r2 := hw5.cell (Qf o1); rw [o1] at r2; clear hw5d hw5))
 all_goals
  go_wp2_with (go_at_call 90; refine (QL _ _).mono ?_; rintro e w2 ⟨rfl, hw2⟩; have HB2 := hid (Qc HB5.out hw2); have hb2 := Qe HBX.out HB2.out; obtain ⟨c0, c1, c2, f0, f1, f2⟩ := cells3 hb2; have HX2 := hid hb2; clear hb2 hw2)
  have hg := QD w2 (w.heap.size + 1) (.int .i64 4) (.int .i64 0) (.string ⟨#[]⟩)
  exact bodyPost_ret (results_cell_row rfl _ _ (w.heap.size + 1) 31 _ (0, 0) _ rfl (QO (.int .i64 4) (.int .i64 0) (.string ⟨#[]⟩) HX2.out) Tryz.underlying31 rfl (by kernel_rfl)) rfl ⟨rfl, _, (HA.out.below HB2.out).boxed hg HIN.out HX2.out (by decide) (by decide) (by decide) (by decide), (HS.out.trans (KStep.below HB2.out)).boxed hg (by omega)⟩
set_option maxRecDepth 100000 in
set_option maxHeartbeats 3200000 in
theorem Qmm (kb t u i : Nat) (F : List Nat) (V : List ThrV) (K : Ker) (c : Cal) (vc : Value) (w : World) (h : KerAt w kb F V K) (h1 : t < V.length) (h2 : t < K.ths.length) (u1 : u < V.length) (u2 : u < K.ths.length) (hl : K.ths[t].own.length ≤ 1000) (hi : i < K.ths[u].objs.length) (hct : c.t = u) (hcn : c.n = i) (hx : c.text.length ≤ 1000) (hc : CalAt w vc c) (hf : flowsL K.ths[u].objs[i].label K.ths[t].label K.ths[t].own = true) (hxt : K.ths[t].text.length ≤ 1000) (hxo : K.ths[u].objs[i].text.length ≤ 1000) :
 Calls Tryz.prog 94 #[.pointer (some ⟨kb, 0, none⟩), .pointer (some ⟨kb, 2 + t * 5, none⟩), vc] w fun e w' => e = .returned (repV ⟨0, (K.ths[u].objs[i].text.length : Int), []⟩) ∧ ∃ G, KerAt w' kb G V { K with ths := K.ths.set t { K.ths[t] with text := lastL (K.ths[t].text ++ K.ths[u].objs[i].text) } } ∧ KStep kb w F V w' G V := by
 obtain ⟨vl, vg, rfl, ⟨pl, cl, rfl, _⟩, ⟨pg, cg, rfl, _⟩⟩ := hc
 unfold calV
 obtain ⟨ck, ch, ct, cn, cc, clb, cgr, cx⟩ := c
 simp only at hct hcn hx ⊢
 subst hct
 subst hcn
 have HA := hid ((h.reserve (.cells #[.int .i64 ck, .int .i64 ch, .int .i64 u, .int .i64 i, .int .i64 cc, .slice pl clb.length cl, .slice pg cgr.length cg, .string ⟨cx.toArray⟩] 37)).reserve (.cells #[.int .i64 0, .int .i64 0, .string ⟨#[]⟩] 31))
 have HS := hid ((KStep.reserve kb w F V (.cells #[.int .i64 ck, .int .i64 ch, .int .i64 u, .int .i64 i, .int .i64 cc, .slice pl clb.length cl, .slice pg cgr.length cg, .string ⟨cx.toArray⟩] 37)).trans (KStep.reserve kb _ _ V (.cells #[.int .i64 0, .int .i64 0, .string ⟨#[]⟩] 31)))
 have HBX := hid (heap_alloc2_new w (.cells #[.int .i64 ck, .int .i64 ch, .int .i64 u, .int .i64 i, .int .i64 cc, .slice pl clb.length cl, .slice pg cgr.length cg, .string ⟨cx.toArray⟩] 37) (.cells #[.int .i64 0, .int .i64 0, .string ⟨#[]⟩] 31))
 have HCX := hid (heap_alloc2_old w (.cells #[.int .i64 ck, .int .i64 ch, .int .i64 u, .int .i64 i, .int .i64 cc, .slice pl clb.length cl, .slice pg cgr.length cg, .string ⟨cx.toArray⟩] 37) (.cells #[.int .i64 0, .int .i64 0, .string ⟨#[]⟩] 31))
 have h4u : u < 4 := by rw [← h.len]; exact u1
 have hTu := HA.out.tat u u1 u2
 obtain ⟨g, cap, uo, hvj, o1, o2, of, hro⟩ := hTu.thr.2.2.1.cell i hi
 have hob := Qba kb u i g cap K.ths[u].objs.length _ V[u] K.ths[u] _ hTu h4u hi hvj
 have hTt := HA.out.tat t h1 h2
 obtain ⟨t0, t1, t2, _, _⟩ := hTt.cells
 obtain ⟨ptl, ctl, hvl, _⟩ := id hTt.thr.1.1
 obtain ⟨po, co, hvo⟩ := ownV hTt.thr.2.1
 obtain ⟨puo, cuo, huo, _⟩ := id hro.1
 have HVJ := hid hvj
 have hfl := fun wx (hb : Below (((w.alloc (.cells #[.int .i64 ck, .int .i64 ch, .int .i64 u, .int .i64 i, .int .i64 cc, .slice pl clb.length cl, .slice pg cgr.length cg, .string ⟨cx.toArray⟩] 37)).alloc (.cells #[.int .i64 0, .int .i64 0, .string ⟨#[]⟩] 31))).heap.size ((w.alloc (.cells #[.int .i64 ck, .int .i64 ch, .int .i64 u, .int .i64 i, .int .i64 cc, .slice pl clb.length cl, .slice pg cgr.length cg, .string ⟨cx.toArray⟩] 37)).alloc (.cells #[.int .i64 0, .int .i64 0, .string ⟨#[]⟩] 31)) wx) => Q4 _ _ _ _ _ _ wx (hro.1.below hb) (hTt.thr.1.1.below hb) ((Qag hTt.thr.2.1 hl).below hb)
 rw [hf] at hfl
 rw [hvl] at t0
 rw [hvo] at t1
 rw [huo] at o1
 rw [hvl, hvo, huo] at hfl
 clear h hTu hTt hvj hro of t2
 generalize hW : ((w.alloc (.cells #[.int .i64 ck, .int .i64 ch, .int .i64 u, .int .i64 i, .int .i64 cc, .slice pl clb.length cl, .slice pg cgr.length cg, .string ⟨cx.toArray⟩] 37)).alloc (.cells #[.int .i64 0, .int .i64 0, .string ⟨#[]⟩] 31)) = W at HA HS HBX HCX hfl t0 t1 o1 hob o2
 have HW := hid hW
 have HIN : Hid (w.heap.size + 1 ∈ F ++ [w.heap.size] ++ [(w.alloc (.cells #[.int .i64 ck, .int .i64 ch, .int .i64 u, .int .i64 i, .int .i64 cc, .slice pl clb.length cl, .slice pg cgr.length cg, .string ⟨cx.toArray⟩] 37)).heap.size]) := hid (by simp)
 clear hW
 go_enter Tryz.func94, Tryz.ntmps94
 go_wp2_with fail
 rw [HW.out]
 refine hob.mono ?_
 rintro e w1 ⟨rfl, rfl⟩
 clear hob
 go_wp2_with fail
 go_region_held3 (fun w' => w'.cell? ⟨kb, 2 + t * 5, none⟩ = some (.slice ptl K.ths[t].label.length ctl) ∧ w'.cell? ⟨kb, 2 + t * 5 + 1, none⟩ = some (.slice po K.ths[t].own.length co) ∧ w'.cell? ⟨g, i * 2, none⟩ = some (.slice puo K.ths[u].objs[i].label.length cuo)) (go_keep)
  (first | (go_at_call 14; refine (hfl _ (Below.refl _ _).drew).mono ?_; rintro e w5 ⟨rfl, hw5d⟩; have hw5 := kundrew hw5d; have HB5 := hid hw5; have r0 := hw5.cell (Qf t0); rw [t0] at r0; have r1 := hw5.cell (Qf t1); rw [t1] at r1; have r2 := hw5.cell (Qf o1); rw [o1] at r2; have z2 := hw5.cell (Qf o2); rw [o2] at z2; clear hw5d hw5))
 all_goals
  clear r0 r1 r2 t0 t1 o1 o2 hfl
  have hln := Qfb kb (2 + t * 5) _ V[t] K.ths[t] K.ths[u].objs[i].text w5 ((HA.out.below HB5.out).tat t h1 h2) (by omega)
  have HLN := hid hln
  clear hln
  go_wp2_with (go_at_call 135; refine HLN.out.mono ?_; rintro e w6 ⟨rfl, hT6, hS6⟩; have hK5 := HA.out.below HB5.out; have hK6 := hK5.step h1 h2 hT6 hS6; rw [List.set_getElem_self] at hK6; have hx6 := QaY hS6 (hK5.tat t h1 h2) (Qe HBX.out HB5.out) (by decide) (by decide) (by decide) (by decide); have hst := (HS.out.trans (KStep.below HB5.out)).trans (KStep.of h1 hS6); rw [List.set_getElem_self] at hst; have hzz := QhX hK6 u1 u2 hi HVJ.out; obtain ⟨c0, c1, c2, f0, f1, f2⟩ := cells3 hx6; have HK6 := hid hK6; have HX6 := hid hx6; have HST := hid hst; clear hK5 hK6 hx6 hst hT6 hS6)
  have hg := QD w6 (w.heap.size + 1) (.int .i64 0) (.int .i64 K.ths[u].objs[i].text.length) (.string ⟨#[]⟩)
  exact bodyPost_ret (results_cell_row rfl _ _ (w.heap.size + 1) 31 _ (0, 0) _ rfl (QO (.int .i64 0) (.int .i64 K.ths[u].objs[i].text.length) (.string ⟨#[]⟩) HX6.out) Tryz.underlying31 rfl (by kernel_rfl)) rfl ⟨rfl, _, HK6.out.boxed hg HIN.out HX6.out (by decide) (by decide) (by decide) (by decide), HST.out.boxed hg (by omega)⟩
set_option maxRecDepth 100000 in
set_option maxHeartbeats 3200000 in
theorem Qfy (kb o : Nat) (F : List Nat) (v : ThrV) (th : Thr) (m : Mal) (vl vg : Value) (w : World) (h : TAt w kb o F v th) (hs : th.own.Pairwise (· < ·)) (hl : th.own.length ≤ 8) (hg : RoInts w F vg m.grants) (hvl : ∃ p n c, vl = .slice p n c) (hx : th.text.length + m.text.length < 4611686018427387904) :
 Calls Tryz.prog 138 #[.pointer (some ⟨kb, o, none⟩), malV m vl vg] w fun e w' => e = .returned (.tuple #[]) ∧ ∃ G v', TAt w' kb o G v' (readL th m) ∧ TStep kb o w F v w' G v' := by
 obtain ⟨pl, nl, cl, rfl⟩ := hvl
 obtain ⟨pg, cg, rfl, _⟩ := id hg.1
 unfold malV
 have hln := fun wx (hb : Below w.heap.size w wx) => Qfb kb o F v th m.text wx (h.below hb) hx
 have hB : w.heap.size ∉ kb :: rowsOf v := fun e => by
  rcases List.mem_cons.1 e with e | e
  · have := h.fin kb h.kbF; omega
  · have := h.fin _ (h.rows _ e); omega
 have HG := hid hg
 have HT := hid h
 have HLN := hid hln
 have HB := hid hB
 have HR : Hid (readL th m = { th with text := lastL (th.text ++ m.text), own := grantL m.grants th.own }) := hid rfl
 clear h hg hln hB
 go_enter Tryz.func138, Tryz.ntmps138
 go_wp2_with fail
 refine (HLN.out _ (Qd _ _)).mono ?_
 rintro e w1 ⟨rfl, hT1, hS1⟩
 have hbx := hS1.kept.heap (heap_alloc_new w _) HB.out
 have c3 := Qa hbx 3
 have hS01 := (TStep.below (kb := kb) (o := o) (F := F) (v := v) (Qd w (.cells #[.int .i64 m.host, .int .i64 m.thread, .slice pl nl cl, .slice pg m.grants.length cg, .string ⟨m.text.toArray⟩] 50))).trans hS1
 have HT1 := hid hT1
 have HS01 := hid hS01
 have HG1 : Hid (RoInts w1 F (.slice pg m.grants.length cg) m.grants) := hid (HG.out.keep (hS01.kept.sub fun k e => .inl (by rcases List.mem_cons.1 e with rfl | e; exact HT.out.kbF; exact HT.out.rows k e)) (More.refl _ _))
 clear hT1 hS1 hS01 hbx HLN HB
 go_wp2
 go_loopw [13] (fun i wr => ∃ (k : Nat) (G : List Nat) (v' : ThrV) (ow : List Int), k ≤ m.grants.length ∧ i = .int .i64 k ∧ grantL m.grants th.own = grantL (m.grants.drop k) ow ∧ ow.Pairwise (· < ·) ∧ ow.length ≤ 8 ∧ TAt wr kb o G v' { th with text := lastL (th.text ++ m.text), own := ow } ∧ TStep kb o w F v wr G v' ∧ RoInts wr G (.slice pg m.grants.length cg) m.grants) (fun i _ => m.grants.length - (intOf i).toNat)
 case atStart => exact ⟨0, F, v, th.own, Nat.zero_le _, rfl, rfl, hs, hl, HT1.out, HS01.out, HG1.out⟩
 case round =>
  clear c3 HT1 HS01 HG1 hs hl
  obtain ⟨k, G, v', ow, hk, rfl, hgr, hs, hl, hT, hS, hg⟩ := hrel
  have HGR := hid hgr
  have HTk := hid hT
  have HSk := hid hS
  have HGk := hid hg
  by_cases hlt : k < m.grants.length
  · obtain ⟨b, ob, hpe, hc⟩ := hg.1.cells (by omega)
    have hck := hc k hlt
    subst hpe
    have how := Qi9 kb o G v' { th with text := lastL (th.text ++ m.text), own := ow } m.grants[k] wr hT hs hl
    have HOW := hid how
    have HD : Hid (m.grants.drop k = m.grants[k] :: m.grants.drop (k + 1)) := hid (List.drop_eq_getElem_cons hlt)
    simp only at HOW
    clear how hT hS hg hgr hc
    by_cases hz : (ownL ow m.grants[k]).1 = 0
    · have hne : ((ownL ow m.grants[k]).1 != 0) = false := by simpa using hz
      have HN : Hid (grantL m.grants th.own = grantL (m.grants.drop (k + 1)) (ownL ow m.grants[k]).2) := hid (by rw [HGR.out, HD.out, Qbd, if_pos hz])
      have hs2 := QbO hs m.grants[k]
      have hl2 := QdS hl m.grants[k]
      generalize ownL ow m.grants[k] = R at *
      go_wp2_with (go_at_call 132; refine HOW.out.mono ?_; rintro e w2 ⟨rfl, G2, v2, hT2, hS2⟩)
      go_roundw
      case rel =>
       have hg2 := HGk.out.keep (hS2.kept.sub fun j e => .inl (by rcases List.mem_cons.1 e with rfl | e; exact HTk.out.kbF; exact HTk.out.rows j e)) hS2.more
       exact ⟨k + 1, G2, v2, R.2, hlt, by go_num, HN.out, hs2, hl2, hT2, HSk.out.trans hS2, hg2⟩
      case measure => simp [intOf]; omega
    · have hne : ((ownL ow m.grants[k]).1 != 0) = true := by simpa using hz
      have HN : Hid (grantL m.grants th.own = ow) := hid (by rw [HGR.out, HD.out, Qbd, if_neg hz])
      have HF := hid (QjG hz)
      generalize ownL ow m.grants[k] = R at *
      go_wp2_with (go_at_call 132; refine HOW.out.mono ?_; rintro e w2 ⟨rfl, G2, v2, hT2, hS2⟩)
      refine bodyPost_ret (results_none rfl _ _ _) rfl ⟨rfl, G2, v2, ?_, HSk.out.trans hS2⟩
      rw [HR.out, HN.out]
      rw [HF.out] at hT2
      exact hT2
  · have hkl : k = m.grants.length := by omega
    have HN : Hid (grantL m.grants th.own = ow) := hid (by rw [HGR.out, hkl, List.drop_length]; rfl)
    clear hT hS hg hgr
    go_wp2
    go_end0
    refine ⟨rfl, G, v', ?_, HSk.out⟩
    rw [HR.out, HN.out]
    exact HTk.out
def zero5 : List Value := [.int .i64 0, .int .i64 0, .slice none 0 0, .slice none 0 0, .string ⟨#[]⟩]
theorem Qez (w : World) (ty : TypeId) (g o c : Nat) (hc : ∀ j, j < 5 → (w.cell? ⟨g, o + j, none⟩).isSome = true) (hf : ∀ j, j < 5 → w.frozen? ⟨g, o + j, none⟩ = false) :
 (Builtin.clear_ #[43] ty #[.slice (some ⟨g, o, none⟩) 1 c]).run Tryz.prog w = .ok (.tuple #[]) (w.setCells g o zero5) := by
 have hst := run_storeCells_cells (P := Tryz.prog) g o zero5 0 w (by simpa [zero5] using hc) (by simpa [zero5] using hf) (by intro v hv; simp [zero5] at hv; rcases hv with rfl | rfl | rfl | rfl | rfl <;> rfl)
 simp only [Nat.add_zero] at hst
 have hz : (Builtin.zeroCells (Value.agg #[.int .i64 0, .int .i64 0, .slice none 0 0, .slice none 0 0, .string ⟨#[]⟩]).cells 1).toList = zero5 := by kernel_rfl
 simp [Builtin.clear_, run_underlying Tryz.underlying43, hz, hst]
theorem Qkk {w : World} {g n cap : Nat} {xs : List Value} (h : w.ownsRow 0 50 5 (.slice (some ⟨g, 0, none⟩) (n + 1) cap) (n + 1) xs) :
 ((w.setCells g 0 (xs.drop 5)).setCells g (n * 5) zero5).ownsRow 0 50 5 (.slice (some ⟨g, 0, none⟩) n cap) n (xs.drop 5) ∧ w.grownBy ((w.setCells g 0 (xs.drop 5)).setCells g (n * 5) zero5) (some g) := by
 have hx := h.1
 obtain ⟨cur, hg, h1, h2, h3, h4⟩ := QaI h
 obtain ⟨c1, k1, k2, k3⟩ := QS (xs.drop 5) 0 w cur hg
 obtain ⟨c2, l1, l2, l3⟩ := QS zero5 (n * 5) _ c1 k1
 have hcap : (n + 1) * 5 ≤ cap * 5 := Nat.mul_le_mul_right _ h1
 refine ⟨Qaf l1 (by omega) h2 (by omega) (by rw [List.length_drop, hx]; omega) fun j hj => ?_, ?_⟩
 · rw [l3 j, if_neg (by omega), k3 j, if_pos (by rw [List.length_drop, hx]; omega), Nat.sub_zero]
 · have a1 := QW (b := g) (xs.drop 5) 0 w
   have a2 := QW (b := g) zero5 (n * 5) (w.setCells g 0 (xs.drop 5))
   exact Qh a1 a2
set_option maxRecDepth 100000 in
set_option maxHeartbeats 1600000 in
theorem Qix (g n cap : Nat) (xs : List Value) (w : World) (h : w.ownsRow 0 50 5 (.slice (some ⟨g, 0, none⟩) (n + 1) cap) (n + 1) xs) (hn : n ≤ 1000) (h1 : ∀ u ∈ xs, u.oneCell' = true) :
 Calls Tryz.prog 137 #[.slice (some ⟨g, 0, none⟩) (n + 1) cap, .int .i64 0, .int .i64 1] w fun e w' => e = .returned (.slice (some ⟨g, 0, none⟩) n cap) ∧ w'.ownsRow 0 50 5 (.slice (some ⟨g, 0, none⟩) n cap) n (xs.drop 5) ∧ w.grownBy w' (some g) := by
 obtain ⟨i0, hi, hz0, hz1, hz2⟩ := info_parts Qc9
 have hx := h.1
 have HD := hid (Qkk (w := w.drew) h)
 obtain ⟨cur, hg, hc1, hc2, hc3, hc4⟩ := QaI h
 have hcell : ∀ j, w.cell? ⟨g, j, none⟩ = cur[j]? := fun j => Qa hg j
 have hfz : ∀ j, w.frozen? ⟨g, j, none⟩ = false := fun j => Qb hg j
 have hcap : (n + 1) * 5 ≤ cap * 5 := Nat.mul_le_mul_right _ hc1
 have HN : Hid (∀ j u, (xs.drop 5)[j]? = some u → w.cell? ((⟨g, 5, none⟩ : Addr).add j) = some u) := hid (fun j u hu => by
  rw [WideShapes.add_plain, hcell]
  rw [List.getElem?_drop] at hu
  have hj := (List.getElem?_eq_some_iff.1 hu).1
  rw [hc4 (5 + j) (by omega), hu])
 have HSP : Hid (∀ j, j < (xs.drop 5).length → (w.cell? ⟨g, 0 + 0 * 5 + j, none⟩).isSome = true ∧ w.frozen? ⟨g, 0 + 0 * 5 + j, none⟩ = false) := hid (fun j hj => by
  rw [List.length_drop] at hj
  exact ⟨by rw [show 0 + 0 * 5 + j = j by omega, hcell, Array.getElem?_eq_getElem (by omega)]; rfl, hfz _⟩)
 have HCL : Hid (∀ ty c, (Builtin.clear_ #[43] ty #[.slice (some ⟨g, n * 5, none⟩) 1 c]).run Tryz.prog (w.drew.setCells g 0 (xs.drop 5)) = .ok (.tuple #[]) ((w.drew.setCells g 0 (xs.drop 5)).setCells g (n * 5) zero5)) := hid (fun ty c => by
  obtain ⟨c1, k1, k2, k3⟩ := QS (xs.drop 5) 0 w.drew cur hg
  refine Qez _ ty g (n * 5) c (fun j hj => ?_) (fun j hj => Qb k1 _)
  rw [Qa k1, Array.getElem?_eq_getElem (by omega)]
  rfl)
 have hone : ∀ u ∈ xs.drop 5, u.oneCell' = true := fun u hu => h1 u (List.mem_of_mem_drop hu)
 have hdl : (xs.drop 5).length = n * 5 := by rw [List.length_drop, hx]; omega
 clear h h1 hcell hfz hc4
 generalize xs.drop 5 = ys at *
 have hb : (1 : Int) ≤ (n : Int) + 1 := by omega
 have hlt : n < cap := by omega
 by_cases hcp : cap = 1
 · have hn0 : n = 0 := by omega
   subst hcp
   subst hn0
   have hy0 : ys = [] := List.length_eq_zero_iff.1 (by omega)
   subst hy0
   go_enter Tryz.func137, Tryz.ntmps137
   go_wp2
   go_region_law ((refine step_append_room (by rfl) (.tmp 22) (.tmp 25) 43 (by rfl) 50 i0 5 Tryz.underlying43 hi hz1 g 0 0 1 (by rfl) ⟨g, 0, none⟩ 0 0 [] (by rfl) rfl (fun j u hu => by simp at hu) (fun u hu => by simp at hu) (by omega) (fun j hj => by simp at hj) ?_))
   all_goals
    have hcl := HCL.out
    show Exit.then _ _ Exit.normal (Act.put _ (some 0) _) _
    go_frame
    go_wp2
    go_ret
    exact ⟨rfl, (by simpa using HD.out.1), QaF (by simpa using HD.out.2)⟩
 · go_enter Tryz.func137, Tryz.ntmps137
   go_wp2
   go_region_law ((refine step_append_room (by rfl) (.tmp 22) (.tmp 25) 43 (by rfl) 50 i0 5 Tryz.underlying43 hi hz1 g 0 0 cap (by rfl) ⟨g, 5, none⟩ n (cap - 1) ys (by rfl) hdl HN.out hone (by omega) HSP.out ?_))
   all_goals
    have hcl := HCL.out
    show Exit.then _ _ Exit.normal (Act.put _ (some 0) _) _
    go_frame
    go_wp2
    go_ret
    exact ⟨rfl, HD.out.1, QaF HD.out.2⟩
end Go.Proofs.YtpdijobakfpnbaaGreat
