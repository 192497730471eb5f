/- kernel.put writes into an object, and tells nobody; kernel.get reads one. -/
import Derived.Test.YtgpldlbmjakjhaaGreatQKKer
namespace Go.Proofs.YtgpldlbmjakjhaaGreat
open Go.RowKit Go.Proofs.Parclose

theorem cells8' {w : World} {b : Nat} {t : TypeId} {y0 y1 y2 y3 y4 y5 y6 y7 : Value} (h : w.heap[b]? = some (.cells #[y0, y1, y2, y3, y4, y5, y6, y7] t (0, 0))) : w.cell? ⟨b, 0, none⟩ = some y0 ∧ w.cell? ⟨b, 1, none⟩ = some y1 ∧ w.cell? ⟨b, 2, none⟩ = some y2 ∧ w.cell? ⟨b, 3, none⟩ = some y3 ∧ w.cell? ⟨b, 4, none⟩ = some y4 ∧ w.cell? ⟨b, 5, none⟩ = some y5 ∧ w.cell? ⟨b, 6, none⟩ = some y6 ∧ w.cell? ⟨b, 7, none⟩ = some y7 :=
  ⟨heap_cell h 0, heap_cell h 1, heap_cell h 2, heap_cell h 3, heap_cell h 4, heap_cell h 5, heap_cell h 6, heap_cell h 7⟩

set_option maxRecDepth 100000 in
set_option maxHeartbeats 3200000 in
theorem put_none (kb t : Nat) (F : List Nat) (V : List ThrV) (K : Ker) (c : Cal) (vc : Value) (w : World) (h : KerAt w kb F V K) (hc : CalAt w vc c) (hno : objAt K c.t c.n = none) :
    Calls Tryz.prog 90 #[.pointer (some ⟨kb, 0, none⟩), .pointer (some ⟨kb, 2 + t * 5, none⟩), vc] w fun e w' => e = .returned (repV (code 0)) ∧ ∃ G, KerAt w' kb G V K ∧ KStep kb w F V w' G V := by
  obtain ⟨vl, vg, rfl, ⟨pl, cl, rfl, _⟩, ⟨pg, cg, rfl, _⟩⟩ := hc
  unfold calV
  have HA := hid ((h.reserve (.cells #[.int .i64 c.kind, .int .i64 c.h, .int .i64 c.t, .int .i64 c.n, .int .i64 c.c, .slice pl c.label.length cl, .slice pg c.grants.length cg, .string ⟨c.text.toArray⟩] 30)).reserve (.cells #[.int .i64 0, .int .i64 0, .string ⟨#[]⟩] 35))
  have HS := hid ((KStep.reserve kb w F V (.cells #[.int .i64 c.kind, .int .i64 c.h, .int .i64 c.t, .int .i64 c.n, .int .i64 c.c, .slice pl c.label.length cl, .slice pg c.grants.length cg, .string ⟨c.text.toArray⟩] 30)).trans (KStep.reserve kb _ _ V (.cells #[.int .i64 0, .int .i64 0, .string ⟨#[]⟩] 35)))
  have hob := object_none kb _ V K c.t c.n _ HA.out hno
  have HBX := hid (heap_alloc2_new w (.cells #[.int .i64 c.kind, .int .i64 c.h, .int .i64 c.t, .int .i64 c.n, .int .i64 c.c, .slice pl c.label.length cl, .slice pg c.grants.length cg, .string ⟨c.text.toArray⟩] 30) (.cells #[.int .i64 0, .int .i64 0, .string ⟨#[]⟩] 35))
  clear h hno
  go_enter Tryz.func90, Tryz.ntmps90
  go_wp2_with (go_at_call 108; refine hob.mono ?_; rintro e w1 ⟨rfl, rfl⟩)
  go_quiet (fail)
  go_wp2_with (go_at_call 87; refine (answer_lit _ _).mono ?_; rintro e w2 ⟨rfl, hw2⟩; have HB2 := hid (below_then (below_drewN _ _) hw2); have hb2 := heap_keep HBX.out HB2.out; obtain ⟨c0, c1, c2, f0, f1, f2⟩ := cells3 hb2; have HX2 := hid hb2; clear hb2 hw2)
  have hg := st3_grown w2 (w.heap.size + 1) (.int .i64 0) (.int .i64 0) (.string ⟨#[]⟩)
  exact bodyPost_ret (results_cell_row rfl _ _ (w.heap.size + 1) 35 _ (0, 0) _ rfl (st3_heap (.int .i64 0) (.int .i64 0) (.string ⟨#[]⟩) HX2.out) Tryz.underlying35 rfl (by kernel_rfl)) rfl ⟨rfl, _, (HA.out.below HB2.out).boxed hg (by simp) HX2.out (by decide) (by decide) (by decide) (by decide), (HS.out.trans (KStep.below HB2.out)).boxed hg (by omega)⟩

set_option maxRecDepth 100000 in
set_option maxHeartbeats 3200000 in
theorem put_not (kb t u i : Nat) (F : List Nat) (V : List ThrV) (K : Ker) (c : Cal) (vc : Value) (w : World) (h : KerAt w kb F V K) (h1 : t < V.length) (h2 : t < K.ths.length) (u1 : u < V.length) (u2 : u < K.ths.length) (hl : K.ths[t].own.length ≤ 1000) (hi : i < K.ths[u].objs.length) (hct : c.t = u) (hcn : c.n = i) (hx : c.text.length ≤ 1000) (hc : CalAt w vc c) (hf : flowsL K.ths[t].label K.ths[u].objs[i].label K.ths[t].own = false) :
    Calls Tryz.prog 90 #[.pointer (some ⟨kb, 0, none⟩), .pointer (some ⟨kb, 2 + t * 5, none⟩), vc] w fun e w' => e = .returned (repV (code 0)) ∧ ∃ G, KerAt w' kb G V K ∧ KStep kb w F V w' G V := by
  obtain ⟨vl, vg, rfl, ⟨pl, cl, rfl, _⟩, ⟨pg, cg, rfl, _⟩⟩ := hc
  unfold calV
  obtain ⟨ck, ch, ct, cn, cc, clb, cgr, cx⟩ := c
  simp only at hct hcn hx ⊢
  subst hct
  subst hcn
  have HA := hid ((h.reserve (.cells #[.int .i64 ck, .int .i64 ch, .int .i64 u, .int .i64 i, .int .i64 cc, .slice pl clb.length cl, .slice pg cgr.length cg, .string ⟨cx.toArray⟩] 30)).reserve (.cells #[.int .i64 0, .int .i64 0, .string ⟨#[]⟩] 35))
  have HS := hid ((KStep.reserve kb w F V (.cells #[.int .i64 ck, .int .i64 ch, .int .i64 u, .int .i64 i, .int .i64 cc, .slice pl clb.length cl, .slice pg cgr.length cg, .string ⟨cx.toArray⟩] 30)).trans (KStep.reserve kb _ _ V (.cells #[.int .i64 0, .int .i64 0, .string ⟨#[]⟩] 35)))
  have HBX := hid (heap_alloc2_new w (.cells #[.int .i64 ck, .int .i64 ch, .int .i64 u, .int .i64 i, .int .i64 cc, .slice pl clb.length cl, .slice pg cgr.length cg, .string ⟨cx.toArray⟩] 30) (.cells #[.int .i64 0, .int .i64 0, .string ⟨#[]⟩] 35))
  have HCX := hid (heap_alloc2_old w (.cells #[.int .i64 ck, .int .i64 ch, .int .i64 u, .int .i64 i, .int .i64 cc, .slice pl clb.length cl, .slice pg cgr.length cg, .string ⟨cx.toArray⟩] 30) (.cells #[.int .i64 0, .int .i64 0, .string ⟨#[]⟩] 35))
  have h4u : u < 4 := by rw [← h.len]; exact u1
  have hTu := HA.out.tat u u1 u2
  obtain ⟨g, cap, uo, hvj, o1, o2, of, hro⟩ := hTu.thr.2.2.1.cell i hi
  have hob := object_some kb u i g cap K.ths[u].objs.length _ V[u] K.ths[u] _ hTu h4u hi hvj
  have hTt := HA.out.tat t h1 h2
  obtain ⟨t0, t1, t2, _, _⟩ := hTt.cells
  obtain ⟨ptl, ctl, hvl, _⟩ := id hTt.thr.1.1
  obtain ⟨po, co, hvo⟩ := ownV hTt.thr.2.1
  obtain ⟨puo, cuo, huo, _⟩ := id hro.1
  have HVJ := hid hvj
  have hfl := fun wx (hb : Below (((w.alloc (.cells #[.int .i64 ck, .int .i64 ch, .int .i64 u, .int .i64 i, .int .i64 cc, .slice pl clb.length cl, .slice pg cgr.length cg, .string ⟨cx.toArray⟩] 30)).alloc (.cells #[.int .i64 0, .int .i64 0, .string ⟨#[]⟩] 35))).heap.size ((w.alloc (.cells #[.int .i64 ck, .int .i64 ch, .int .i64 u, .int .i64 i, .int .i64 cc, .slice pl clb.length cl, .slice pg cgr.length cg, .string ⟨cx.toArray⟩] 30)).alloc (.cells #[.int .i64 0, .int .i64 0, .string ⟨#[]⟩] 35)) wx) => flows_any _ _ _ _ _ _ wx (hTt.thr.1.1.below hb) (hro.1.below hb) ((own_ints hTt.thr.2.1 hl).below hb)
  rw [hf] at hfl
  rw [hvl] at t0
  rw [hvo] at t1
  rw [huo] at o1
  rw [hvl, hvo, huo] at hfl
  clear h hTu hTt hvj hro of o2 t2
  generalize hW : ((w.alloc (.cells #[.int .i64 ck, .int .i64 ch, .int .i64 u, .int .i64 i, .int .i64 cc, .slice pl clb.length cl, .slice pg cgr.length cg, .string ⟨cx.toArray⟩] 30)).alloc (.cells #[.int .i64 0, .int .i64 0, .string ⟨#[]⟩] 35)) = W at HA HS HBX HCX hfl t0 t1 o1 hob
  have HW := hid hW
  have HIN : Hid (w.heap.size + 1 ∈ F ++ [w.heap.size] ++ [(w.alloc (.cells #[.int .i64 ck, .int .i64 ch, .int .i64 u, .int .i64 i, .int .i64 cc, .slice pl clb.length cl, .slice pg cgr.length cg, .string ⟨cx.toArray⟩] 30)).heap.size]) := hid (by simp)
  clear hW
  go_enter Tryz.func90, Tryz.ntmps90
  go_wp2_with fail
  rw [HW.out]
  refine hob.mono ?_
  rintro e w1 ⟨rfl, rfl⟩
  clear hob
  go_wp2_with fail
  go_region_held3 (fun w' => w'.cell? ⟨kb, 2 + t * 5, none⟩ = some (.slice ptl K.ths[t].label.length ctl) ∧ w'.cell? ⟨kb, 2 + t * 5 + 1, none⟩ = some (.slice po K.ths[t].own.length co) ∧ w'.cell? ⟨g, i * 2, none⟩ = some (.slice puo K.ths[u].objs[i].label.length cuo)) (go_keep)
    (first | (go_at_call 23; refine (hfl _ (Below.refl _ _).drew).mono ?_; rintro e w5 ⟨rfl, hw5d⟩; have hw5 := kundrew hw5d; have HB5 := hid hw5; have r0 := hw5.cell (cell_block t0); rw [t0] at r0; have r1 := hw5.cell (cell_block t1); rw [t1] at r1; have r2 := hw5.cell (cell_block o1); rw [o1] at r2; clear hw5d hw5))
  all_goals
    go_wp2_with (go_at_call 87; refine (answer_lit _ _).mono ?_; rintro e w2 ⟨rfl, hw2⟩; have HB2 := hid (below_then HB5.out hw2); have hb2 := heap_keep HBX.out HB2.out; obtain ⟨c0, c1, c2, f0, f1, f2⟩ := cells3 hb2; have HX2 := hid hb2; clear hb2 hw2)
    have hg := st3_grown w2 (w.heap.size + 1) (.int .i64 0) (.int .i64 0) (.string ⟨#[]⟩)
    exact bodyPost_ret (results_cell_row rfl _ _ (w.heap.size + 1) 35 _ (0, 0) _ rfl (st3_heap (.int .i64 0) (.int .i64 0) (.string ⟨#[]⟩) HX2.out) Tryz.underlying35 rfl (by kernel_rfl)) rfl ⟨rfl, _, (HA.out.below HB2.out).boxed hg HIN.out HX2.out (by decide) (by decide) (by decide) (by decide), (HS.out.trans (KStep.below HB2.out)).boxed hg (by omega)⟩
set_option maxRecDepth 100000 in
set_option maxHeartbeats 3200000 in
theorem put_yes (kb t u i : Nat) (F : List Nat) (V : List ThrV) (K : Ker) (c : Cal) (vc : Value) (w : World) (h : KerAt w kb F V K) (h1 : t < V.length) (h2 : t < K.ths.length) (u1 : u < V.length) (u2 : u < K.ths.length) (hl : K.ths[t].own.length ≤ 1000) (hi : i < K.ths[u].objs.length) (hct : c.t = u) (hcn : c.n = i) (hx : c.text.length ≤ 1000) (hc : CalAt w vc c) (hf : flowsL K.ths[t].label K.ths[u].objs[i].label K.ths[t].own = true) (hxt : K.ths[t].text.length ≤ 1000) :
    Calls Tryz.prog 90 #[.pointer (some ⟨kb, 0, none⟩), .pointer (some ⟨kb, 2 + t * 5, none⟩), vc] w fun e w' => e = .returned (repV (code 0)) ∧ ∃ G, KerAt w' kb G V { K with ths := K.ths.set u (putO K.ths[u] i (lastL (K.ths[t].text ++ c.text))) } ∧ KStep kb w F V w' G V := by
  obtain ⟨vl, vg, rfl, ⟨pl, cl, rfl, _⟩, ⟨pg, cg, rfl, _⟩⟩ := hc
  unfold calV
  obtain ⟨ck, ch, ct, cn, cc, clb, cgr, cx⟩ := c
  simp only at hct hcn hx ⊢
  subst hct
  subst hcn
  have HA := hid ((h.reserve (.cells #[.int .i64 ck, .int .i64 ch, .int .i64 u, .int .i64 i, .int .i64 cc, .slice pl clb.length cl, .slice pg cgr.length cg, .string ⟨cx.toArray⟩] 30)).reserve (.cells #[.int .i64 0, .int .i64 0, .string ⟨#[]⟩] 35))
  have HS := hid ((KStep.reserve kb w F V (.cells #[.int .i64 ck, .int .i64 ch, .int .i64 u, .int .i64 i, .int .i64 cc, .slice pl clb.length cl, .slice pg cgr.length cg, .string ⟨cx.toArray⟩] 30)).trans (KStep.reserve kb _ _ V (.cells #[.int .i64 0, .int .i64 0, .string ⟨#[]⟩] 35)))
  have HBX := hid (heap_alloc2_new w (.cells #[.int .i64 ck, .int .i64 ch, .int .i64 u, .int .i64 i, .int .i64 cc, .slice pl clb.length cl, .slice pg cgr.length cg, .string ⟨cx.toArray⟩] 30) (.cells #[.int .i64 0, .int .i64 0, .string ⟨#[]⟩] 35))
  have HCX := hid (heap_alloc2_old w (.cells #[.int .i64 ck, .int .i64 ch, .int .i64 u, .int .i64 i, .int .i64 cc, .slice pl clb.length cl, .slice pg cgr.length cg, .string ⟨cx.toArray⟩] 30) (.cells #[.int .i64 0, .int .i64 0, .string ⟨#[]⟩] 35))
  have h4u : u < 4 := by rw [← h.len]; exact u1
  have hTu := HA.out.tat u u1 u2
  obtain ⟨g, cap, uo, hvj, o1, o2, of, hro⟩ := hTu.thr.2.2.1.cell i hi
  have hob := object_some kb u i g cap K.ths[u].objs.length _ V[u] K.ths[u] _ hTu h4u hi hvj
  have hTt := HA.out.tat t h1 h2
  obtain ⟨t0, t1, t2, _, _⟩ := hTt.cells
  obtain ⟨ptl, ctl, hvl, _⟩ := id hTt.thr.1.1
  obtain ⟨po, co, hvo⟩ := ownV hTt.thr.2.1
  obtain ⟨puo, cuo, huo, _⟩ := id hro.1
  have HVJ := hid hvj
  have hfl := fun wx (hb : Below (((w.alloc (.cells #[.int .i64 ck, .int .i64 ch, .int .i64 u, .int .i64 i, .int .i64 cc, .slice pl clb.length cl, .slice pg cgr.length cg, .string ⟨cx.toArray⟩] 30)).alloc (.cells #[.int .i64 0, .int .i64 0, .string ⟨#[]⟩] 35))).heap.size ((w.alloc (.cells #[.int .i64 ck, .int .i64 ch, .int .i64 u, .int .i64 i, .int .i64 cc, .slice pl clb.length cl, .slice pg cgr.length cg, .string ⟨cx.toArray⟩] 30)).alloc (.cells #[.int .i64 0, .int .i64 0, .string ⟨#[]⟩] 35)) wx) => flows_any _ _ _ _ _ _ wx (hTt.thr.1.1.below hb) (hro.1.below hb) ((own_ints hTt.thr.2.1 hl).below hb)
  rw [hf] at hfl
  rw [hvl] at t0
  rw [hvo] at t1
  rw [huo] at o1
  rw [hvl, hvo, huo] at hfl
  clear h hTu hTt hvj hro
  generalize hW : ((w.alloc (.cells #[.int .i64 ck, .int .i64 ch, .int .i64 u, .int .i64 i, .int .i64 cc, .slice pl clb.length cl, .slice pg cgr.length cg, .string ⟨cx.toArray⟩] 30)).alloc (.cells #[.int .i64 0, .int .i64 0, .string ⟨#[]⟩] 35)) = W at HA HS HBX HCX hfl t0 t1 o1 hob t2 o2 of
  have HW := hid hW
  have HIN : Hid (w.heap.size + 1 ∈ F ++ [w.heap.size] ++ [(w.alloc (.cells #[.int .i64 ck, .int .i64 ch, .int .i64 u, .int .i64 i, .int .i64 cc, .slice pl clb.length cl, .slice pg cgr.length cg, .string ⟨cx.toArray⟩] 30)).heap.size]) := hid (by simp)
  clear hW
  go_enter Tryz.func90, Tryz.ntmps90
  go_wp2_with fail
  rw [HW.out]
  refine hob.mono ?_
  rintro e w1 ⟨rfl, rfl⟩
  clear hob
  go_wp2_with fail
  have hstr : ∀ a b : List UInt8, (⟨a.toArray⟩ : ByteArray) ++ ⟨b.toArray⟩ = ⟨(a ++ b).toArray⟩ := fun a b => ByteArray.mk_append_mk a b
  have hsum : K.ths[t].text.length + cx.length < 4611686018427387904 := by omega
  have hsum2 : ¬ (9223372036854775807 < K.ths[t].text.length + cx.length) := by omega
  have hsum3 : K.ths[t].text.length + cx.length ≤ 9223372036854775807 := by omega
  have hg1 : kb ≠ g := fun e => (HA.out.tat u u1 u2).kb_rows (mem_rows.2 (.inr (.inl (by rw [HVJ.out, e]; rfl))))
  have hg2 : g ≠ kb := fun e => hg1 e.symm
  have hg3 : w.heap.size ≠ g := fun e => by
    obtain ⟨_, _, j2, _⟩ := (HA.out.tat u u1 u2).thr.2.2.1
    exact own_box j2 HCX.out (by decide) (by rw [HVJ.out, e]; rfl)
  have hg4 : g ≠ w.heap.size := fun e => hg3 e.symm
  have x7 := (cells8' HCX.out).2.2.2.2.2.2.2
  go_region_held3 (fun w' => w'.cell? ⟨kb, 2 + t * 5, none⟩ = some (.slice ptl K.ths[t].label.length ctl) ∧ w'.cell? ⟨kb, 2 + t * 5 + 1, none⟩ = some (.slice po K.ths[t].own.length co) ∧ w'.cell? ⟨g, i * 2, none⟩ = some (.slice puo K.ths[u].objs[i].label.length cuo)) (go_keep)
    (first | (go_at_call 23; refine (hfl _ (Below.refl _ _).drew).mono ?_; rintro e w5 ⟨rfl, hw5d⟩; have hw5 := kundrew hw5d; have HB5 := hid hw5; have r0 := hw5.cell (cell_block t0); rw [t0] at r0; have r1 := hw5.cell (cell_block t1); rw [t1] at r1; have r2 := hw5.cell (cell_block o1); rw [o1] at r2; have y2 := hw5.cell (cell_block t2); rw [t2] at y2; have y7 := hw5.cell (cell_block x7); rw [x7] at y7; have z2 := hw5.cell (cell_block o2); rw [o2] at z2; clear hw5d hw5))
  all_goals
    clear r0 r1 r2 t0 t1 t2 o1 o2 x7 hfl
    go_wp2_with fail
    go_region_held3 (fun w' => w'.cell? ⟨kb, 2 + t * 5 + 2, none⟩ = some (.string ⟨K.ths[t].text.toArray⟩) ∧ w'.cell? ⟨w.heap.size, 7, none⟩ = some (.string ⟨cx.toArray⟩)) (go_keep)
      (first | (go_at_call 94; refine (last_any (K.ths[t].text ++ cx) _ (by rw [List.length_append]; omega)).mono ?_; rintro e w6 ⟨rfl, hw6d⟩; have hw6 := kundrew hw6d; have HB6 := hid (below_then HB5.out hw6); have q2 := hw6.cell (cell_block y2); rw [y2] at q2; have q7 := hw6.cell (cell_block y7); rw [y7] at q7; have hK6 := HA.out.below HB6.out; have hT6 := hK6.tat u u1 u2; have s2 := hw6.cell (cell_block z2); rw [z2] at s2; obtain ⟨g', cap', uo', hvj', _, _, sf, _⟩ := hT6.thr.2.2.1.cell i hi; have hgg : g' = g := (by have e := hvj'.symm.trans HVJ.out; cases e; rfl); subst hgg; have HT6 := hid hT6; have HK6 := hid hK6; clear hw6d hw6 hT6 hK6))
    all_goals
      have hput := HT6.out.put hvj' hi (lastL (K.ths[t].text ++ cx))
      have hK7 := HK6.out.step u1 u2 hput.1 hput.2
      have hx7 := box_tstep hput.2 HT6.out (heap_keep HBX.out HB6.out) (by decide) (by decide) (by decide) (by decide)
      have hS7 := (HS.out.trans (KStep.below HB6.out)).trans (KStep.of u1 hput.2)
      rw [List.set_getElem_self] at hK7 hS7
      have HK7 := hid hK7
      have HS7 := hid hS7
      have HX7 := hid hx7
      clear hput hK7 hx7 hS7
      generalize w6.setCell ⟨g', i * 2 + 1, none⟩ (.string ⟨(lastL (K.ths[t].text ++ cx)).toArray⟩) = w7 at *
      go_wp2_with (go_at_call 87; refine (answer_lit _ _).mono ?_; rintro e w2 ⟨rfl, hw2⟩; have HB2 := hid hw2; have hb2 := heap_keep HX7.out HB2.out; obtain ⟨c0, c1, c2, f0, f1, f2⟩ := cells3 hb2; have HX2 := hid hb2; clear hb2 hw2)
      have hg := st3_grown w2 (w.heap.size + 1) (.int .i64 0) (.int .i64 0) (.string ⟨#[]⟩)
      exact bodyPost_ret (results_cell_row rfl _ _ (w.heap.size + 1) 35 _ (0, 0) _ rfl (st3_heap (.int .i64 0) (.int .i64 0) (.string ⟨#[]⟩) HX2.out) Tryz.underlying35 rfl (by kernel_rfl)) rfl ⟨rfl, _, (HK7.out.below HB2.out).boxed hg HIN.out HX2.out (by decide) (by decide) (by decide) (by decide), (HS7.out.trans (KStep.below HB2.out)).boxed hg (by omega)⟩
end Go.Proofs.YtgpldlbmjakjhaaGreat
