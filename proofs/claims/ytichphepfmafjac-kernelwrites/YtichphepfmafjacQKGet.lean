/- kernel.get reads an object. -/
import Derived.Test.YtichphepfmafjacQKPut
namespace Go.Proofs.Ytichphepfmafjac
open Go.RowKit Go.Proofs.Parclose

/-- an object's text, where a thread knows more now -/
theorem objs_after {w : World} {kb t u i g cap : Nat} {F : List Nat} {V : List ThrV} {K : Ker} {x : List UInt8} {ht : t < K.ths.length} (h : KerAt w kb F V { K with ths := K.ths.set t { K.ths[t] with text := x } }) (u1 : u < V.length) (u2 : u < K.ths.length) (hi : i < K.ths[u].objs.length) (hv : V[u].vj = .slice (some ⟨g, 0, none⟩) K.ths[u].objs.length cap) : w.cell? ⟨g, i * 2 + 1, none⟩ = some (.string ⟨K.ths[u].objs[i].text.toArray⟩) := by
  have hT := (h.tat u u1 (by simpa using u2)).thr.2.2.1
  have e : ((K.ths.set t { K.ths[t] with text := x })[u]'(by simpa using u2)).objs = K.ths[u].objs := by
    rw [List.getElem_set]
    split
    · rename_i e
      subst e
      rfl
    · rfl
  rw [e] at hT
  obtain ⟨g', cap', uo, hv', _, c2, _⟩ := hT.cell i hi
  have e2 := hv.symm.trans hv'
  cases e2
  exact c2

set_option maxRecDepth 100000 in
set_option maxHeartbeats 3200000 in
theorem get_none (kb t : Nat) (F : List Nat) (V : List ThrV) (K : Ker) (c : Cal) (vc : Value) (w : World) (h : KerAt w kb F V K) (hc : CalAt w vc c) (hno : objAt K c.t c.n = none) :
    Calls Try.prog 53 #[.pointer (some ⟨kb, 0, none⟩), .pointer (some ⟨kb, 2 + t * 5, none⟩), vc] w fun e w' => e = .returned (repV (code 4)) ∧ ∃ G, KerAt w' kb G V K ∧ KStep kb w F V w' G V := by
  obtain ⟨vl, vg, rfl, ⟨pl, cl, rfl, _⟩, ⟨pg, cg, rfl, _⟩⟩ := hc
  unfold calV
  have HA := hid ((h.reserve (.cells #[.int .i64 c.kind, .int .i64 c.h, .int .i64 c.t, .int .i64 c.n, .int .i64 c.c, .slice pl c.label.length cl, .slice pg c.grants.length cg, .string ⟨c.text.toArray⟩] 33)).reserve (.cells #[.int .i64 0, .int .i64 0, .string ⟨#[]⟩] 40))
  have HS := hid ((KStep.reserve kb w F V (.cells #[.int .i64 c.kind, .int .i64 c.h, .int .i64 c.t, .int .i64 c.n, .int .i64 c.c, .slice pl c.label.length cl, .slice pg c.grants.length cg, .string ⟨c.text.toArray⟩] 33)).trans (KStep.reserve kb _ _ V (.cells #[.int .i64 0, .int .i64 0, .string ⟨#[]⟩] 40)))
  have hob := object_none kb _ V K c.t c.n _ HA.out hno
  have HBX := hid (heap_alloc2_new w (.cells #[.int .i64 c.kind, .int .i64 c.h, .int .i64 c.t, .int .i64 c.n, .int .i64 c.c, .slice pl c.label.length cl, .slice pg c.grants.length cg, .string ⟨c.text.toArray⟩] 33) (.cells #[.int .i64 0, .int .i64 0, .string ⟨#[]⟩] 40))
  clear h hno
  go_enter Try.func53, Try.ntmps53
  go_wp2_with (go_at_call 88; refine hob.mono ?_; rintro e w1 ⟨rfl, rfl⟩)
  go_quiet (fail)
  go_wp2_with (go_at_call 49; refine (answer_lit _ _).mono ?_; rintro e w2 ⟨rfl, hw2⟩; have HB2 := hid (below_then (below_drewN _ _) hw2); have hb2 := heap_keep HBX.out HB2.out; obtain ⟨c0, c1, c2, f0, f1, f2⟩ := cells3 hb2; have HX2 := hid hb2; clear hb2 hw2)
  have hg := st3_grown w2 (w.heap.size + 1) (.int .i64 4) (.int .i64 0) (.string ⟨#[]⟩)
  exact bodyPost_ret (results_cell_row rfl _ _ (w.heap.size + 1) 40 _ (0, 0) _ rfl (st3_heap (.int .i64 4) (.int .i64 0) (.string ⟨#[]⟩) HX2.out) Try.underlying40 rfl (by kernel_rfl)) rfl ⟨rfl, _, (HA.out.below HB2.out).boxed hg (by simp) HX2.out (by decide) (by decide) (by decide) (by decide), (HS.out.trans (KStep.below HB2.out)).boxed hg (by omega)⟩

set_option maxRecDepth 100000 in
set_option maxHeartbeats 3200000 in
theorem get_not (kb t u i : Nat) (F : List Nat) (V : List ThrV) (K : Ker) (c : Cal) (vc : Value) (w : World) (h : KerAt w kb F V K) (h1 : t < V.length) (h2 : t < K.ths.length) (u1 : u < V.length) (u2 : u < K.ths.length) (hl : K.ths[t].own.length ≤ 1000) (hi : i < K.ths[u].objs.length) (hct : c.t = u) (hcn : c.n = i) (hx : c.text.length ≤ 1000) (hc : CalAt w vc c) (hf : flowsL K.ths[u].objs[i].label K.ths[t].label K.ths[t].own = false) :
    Calls Try.prog 53 #[.pointer (some ⟨kb, 0, none⟩), .pointer (some ⟨kb, 2 + t * 5, none⟩), vc] w fun e w' => e = .returned (repV (code 4)) ∧ ∃ G, KerAt w' kb G V K ∧ KStep kb w F V w' G V := by
  obtain ⟨vl, vg, rfl, ⟨pl, cl, rfl, _⟩, ⟨pg, cg, rfl, _⟩⟩ := hc
  unfold calV
  obtain ⟨ck, ch, ct, cn, cc, clb, cgr, cx⟩ := c
  simp only at hct hcn hx ⊢
  subst hct
  subst hcn
  have HA := hid ((h.reserve (.cells #[.int .i64 ck, .int .i64 ch, .int .i64 u, .int .i64 i, .int .i64 cc, .slice pl clb.length cl, .slice pg cgr.length cg, .string ⟨cx.toArray⟩] 33)).reserve (.cells #[.int .i64 0, .int .i64 0, .string ⟨#[]⟩] 40))
  have HS := hid ((KStep.reserve kb w F V (.cells #[.int .i64 ck, .int .i64 ch, .int .i64 u, .int .i64 i, .int .i64 cc, .slice pl clb.length cl, .slice pg cgr.length cg, .string ⟨cx.toArray⟩] 33)).trans (KStep.reserve kb _ _ V (.cells #[.int .i64 0, .int .i64 0, .string ⟨#[]⟩] 40)))
  have HBX := hid (heap_alloc2_new w (.cells #[.int .i64 ck, .int .i64 ch, .int .i64 u, .int .i64 i, .int .i64 cc, .slice pl clb.length cl, .slice pg cgr.length cg, .string ⟨cx.toArray⟩] 33) (.cells #[.int .i64 0, .int .i64 0, .string ⟨#[]⟩] 40))
  have HCX := hid (heap_alloc2_old w (.cells #[.int .i64 ck, .int .i64 ch, .int .i64 u, .int .i64 i, .int .i64 cc, .slice pl clb.length cl, .slice pg cgr.length cg, .string ⟨cx.toArray⟩] 33) (.cells #[.int .i64 0, .int .i64 0, .string ⟨#[]⟩] 40))
  have h4u : u < 4 := by rw [← h.len]; exact u1
  have hTu := HA.out.tat u u1 u2
  obtain ⟨g, cap, uo, hvj, o1, o2, of, hro⟩ := hTu.thr.2.2.1.cell i hi
  have hob := object_some kb u i g cap K.ths[u].objs.length _ V[u] K.ths[u] _ hTu h4u hi hvj
  have hTt := HA.out.tat t h1 h2
  obtain ⟨t0, t1, t2, _, _⟩ := hTt.cells
  obtain ⟨ptl, ctl, hvl, _⟩ := id hTt.thr.1.1
  obtain ⟨po, co, hvo⟩ := ownV hTt.thr.2.1
  obtain ⟨puo, cuo, huo, _⟩ := id hro.1
  have HVJ := hid hvj
  have hfl := fun wx (hb : Below (((w.alloc (.cells #[.int .i64 ck, .int .i64 ch, .int .i64 u, .int .i64 i, .int .i64 cc, .slice pl clb.length cl, .slice pg cgr.length cg, .string ⟨cx.toArray⟩] 33)).alloc (.cells #[.int .i64 0, .int .i64 0, .string ⟨#[]⟩] 40))).heap.size ((w.alloc (.cells #[.int .i64 ck, .int .i64 ch, .int .i64 u, .int .i64 i, .int .i64 cc, .slice pl clb.length cl, .slice pg cgr.length cg, .string ⟨cx.toArray⟩] 33)).alloc (.cells #[.int .i64 0, .int .i64 0, .string ⟨#[]⟩] 40)) wx) => flows_any _ _ _ _ _ _ wx (hro.1.below hb) (hTt.thr.1.1.below hb) ((own_ints hTt.thr.2.1 hl).below hb)
  rw [hf] at hfl
  rw [hvl] at t0
  rw [hvo] at t1
  rw [huo] at o1
  rw [hvl, hvo, huo] at hfl
  clear h hTu hTt hvj hro of o2 t2
  generalize hW : ((w.alloc (.cells #[.int .i64 ck, .int .i64 ch, .int .i64 u, .int .i64 i, .int .i64 cc, .slice pl clb.length cl, .slice pg cgr.length cg, .string ⟨cx.toArray⟩] 33)).alloc (.cells #[.int .i64 0, .int .i64 0, .string ⟨#[]⟩] 40)) = W at HA HS HBX HCX hfl t0 t1 o1 hob
  have HW := hid hW
  have HIN : Hid (w.heap.size + 1 ∈ F ++ [w.heap.size] ++ [(w.alloc (.cells #[.int .i64 ck, .int .i64 ch, .int .i64 u, .int .i64 i, .int .i64 cc, .slice pl clb.length cl, .slice pg cgr.length cg, .string ⟨cx.toArray⟩] 33)).heap.size]) := hid (by simp)
  clear hW
  go_enter Try.func53, Try.ntmps53
  go_wp2_with fail
  rw [HW.out]
  refine hob.mono ?_
  rintro e w1 ⟨rfl, rfl⟩
  clear hob
  go_wp2_with fail
  go_region_held3 (fun w' => w'.cell? ⟨kb, 2 + t * 5, none⟩ = some (.slice ptl K.ths[t].label.length ctl) ∧ w'.cell? ⟨kb, 2 + t * 5 + 1, none⟩ = some (.slice po K.ths[t].own.length co) ∧ w'.cell? ⟨g, i * 2, none⟩ = some (.slice puo K.ths[u].objs[i].label.length cuo)) (go_keep)
    (first | (go_at_call 13; refine (hfl _ (Below.refl _ _).drew).mono ?_; rintro e w5 ⟨rfl, hw5d⟩; have hw5 := kundrew hw5d; have HB5 := hid hw5; have r0 := hw5.cell (cell_block t0); rw [t0] at r0; have r1 := hw5.cell (cell_block t1); rw [t1] at r1; have r2 := hw5.cell (cell_block o1); rw [o1] at r2; clear hw5d hw5))
  all_goals
    go_wp2_with (go_at_call 49; refine (answer_lit _ _).mono ?_; rintro e w2 ⟨rfl, hw2⟩; have HB2 := hid (below_then HB5.out hw2); have hb2 := heap_keep HBX.out HB2.out; obtain ⟨c0, c1, c2, f0, f1, f2⟩ := cells3 hb2; have HX2 := hid hb2; clear hb2 hw2)
    have hg := st3_grown w2 (w.heap.size + 1) (.int .i64 4) (.int .i64 0) (.string ⟨#[]⟩)
    exact bodyPost_ret (results_cell_row rfl _ _ (w.heap.size + 1) 40 _ (0, 0) _ rfl (st3_heap (.int .i64 4) (.int .i64 0) (.string ⟨#[]⟩) HX2.out) Try.underlying40 rfl (by kernel_rfl)) rfl ⟨rfl, _, (HA.out.below HB2.out).boxed hg HIN.out HX2.out (by decide) (by decide) (by decide) (by decide), (HS.out.trans (KStep.below HB2.out)).boxed hg (by omega)⟩

set_option maxRecDepth 100000 in
set_option maxHeartbeats 3200000 in
theorem get_yes (kb t u i : Nat) (F : List Nat) (V : List ThrV) (K : Ker) (c : Cal) (vc : Value) (w : World) (h : KerAt w kb F V K) (h1 : t < V.length) (h2 : t < K.ths.length) (u1 : u < V.length) (u2 : u < K.ths.length) (hl : K.ths[t].own.length ≤ 1000) (hi : i < K.ths[u].objs.length) (hct : c.t = u) (hcn : c.n = i) (hx : c.text.length ≤ 1000) (hc : CalAt w vc c) (hf : flowsL K.ths[u].objs[i].label K.ths[t].label K.ths[t].own = true) (hxt : K.ths[t].text.length ≤ 1000) (hxo : K.ths[u].objs[i].text.length ≤ 1000) :
    Calls Try.prog 53 #[.pointer (some ⟨kb, 0, none⟩), .pointer (some ⟨kb, 2 + t * 5, none⟩), vc] w fun e w' => e = .returned (repV ⟨0, (K.ths[u].objs[i].text.length : Int), []⟩) ∧ ∃ G, KerAt w' kb G V { K with ths := K.ths.set t { K.ths[t] with text := lastL (K.ths[t].text ++ K.ths[u].objs[i].text) } } ∧ KStep kb w F V w' G V := by
  obtain ⟨vl, vg, rfl, ⟨pl, cl, rfl, _⟩, ⟨pg, cg, rfl, _⟩⟩ := hc
  unfold calV
  obtain ⟨ck, ch, ct, cn, cc, clb, cgr, cx⟩ := c
  simp only at hct hcn hx ⊢
  subst hct
  subst hcn
  have HA := hid ((h.reserve (.cells #[.int .i64 ck, .int .i64 ch, .int .i64 u, .int .i64 i, .int .i64 cc, .slice pl clb.length cl, .slice pg cgr.length cg, .string ⟨cx.toArray⟩] 33)).reserve (.cells #[.int .i64 0, .int .i64 0, .string ⟨#[]⟩] 40))
  have HS := hid ((KStep.reserve kb w F V (.cells #[.int .i64 ck, .int .i64 ch, .int .i64 u, .int .i64 i, .int .i64 cc, .slice pl clb.length cl, .slice pg cgr.length cg, .string ⟨cx.toArray⟩] 33)).trans (KStep.reserve kb _ _ V (.cells #[.int .i64 0, .int .i64 0, .string ⟨#[]⟩] 40)))
  have HBX := hid (heap_alloc2_new w (.cells #[.int .i64 ck, .int .i64 ch, .int .i64 u, .int .i64 i, .int .i64 cc, .slice pl clb.length cl, .slice pg cgr.length cg, .string ⟨cx.toArray⟩] 33) (.cells #[.int .i64 0, .int .i64 0, .string ⟨#[]⟩] 40))
  have HCX := hid (heap_alloc2_old w (.cells #[.int .i64 ck, .int .i64 ch, .int .i64 u, .int .i64 i, .int .i64 cc, .slice pl clb.length cl, .slice pg cgr.length cg, .string ⟨cx.toArray⟩] 33) (.cells #[.int .i64 0, .int .i64 0, .string ⟨#[]⟩] 40))
  have h4u : u < 4 := by rw [← h.len]; exact u1
  have hTu := HA.out.tat u u1 u2
  obtain ⟨g, cap, uo, hvj, o1, o2, of, hro⟩ := hTu.thr.2.2.1.cell i hi
  have hob := object_some kb u i g cap K.ths[u].objs.length _ V[u] K.ths[u] _ hTu h4u hi hvj
  have hTt := HA.out.tat t h1 h2
  obtain ⟨t0, t1, t2, _, _⟩ := hTt.cells
  obtain ⟨ptl, ctl, hvl, _⟩ := id hTt.thr.1.1
  obtain ⟨po, co, hvo⟩ := ownV hTt.thr.2.1
  obtain ⟨puo, cuo, huo, _⟩ := id hro.1
  have HVJ := hid hvj
  have hfl := fun wx (hb : Below (((w.alloc (.cells #[.int .i64 ck, .int .i64 ch, .int .i64 u, .int .i64 i, .int .i64 cc, .slice pl clb.length cl, .slice pg cgr.length cg, .string ⟨cx.toArray⟩] 33)).alloc (.cells #[.int .i64 0, .int .i64 0, .string ⟨#[]⟩] 40))).heap.size ((w.alloc (.cells #[.int .i64 ck, .int .i64 ch, .int .i64 u, .int .i64 i, .int .i64 cc, .slice pl clb.length cl, .slice pg cgr.length cg, .string ⟨cx.toArray⟩] 33)).alloc (.cells #[.int .i64 0, .int .i64 0, .string ⟨#[]⟩] 40)) wx) => flows_any _ _ _ _ _ _ wx (hro.1.below hb) (hTt.thr.1.1.below hb) ((own_ints hTt.thr.2.1 hl).below hb)
  rw [hf] at hfl
  rw [hvl] at t0
  rw [hvo] at t1
  rw [huo] at o1
  rw [hvl, hvo, huo] at hfl
  clear h hTu hTt hvj hro of t2
  generalize hW : ((w.alloc (.cells #[.int .i64 ck, .int .i64 ch, .int .i64 u, .int .i64 i, .int .i64 cc, .slice pl clb.length cl, .slice pg cgr.length cg, .string ⟨cx.toArray⟩] 33)).alloc (.cells #[.int .i64 0, .int .i64 0, .string ⟨#[]⟩] 40)) = W at HA HS HBX HCX hfl t0 t1 o1 hob o2
  have HW := hid hW
  have HIN : Hid (w.heap.size + 1 ∈ F ++ [w.heap.size] ++ [(w.alloc (.cells #[.int .i64 ck, .int .i64 ch, .int .i64 u, .int .i64 i, .int .i64 cc, .slice pl clb.length cl, .slice pg cgr.length cg, .string ⟨cx.toArray⟩] 33)).heap.size]) := hid (by simp)
  clear hW
  go_enter Try.func53, Try.ntmps53
  go_wp2_with fail
  rw [HW.out]
  refine hob.mono ?_
  rintro e w1 ⟨rfl, rfl⟩
  clear hob
  go_wp2_with fail
  go_region_held3 (fun w' => w'.cell? ⟨kb, 2 + t * 5, none⟩ = some (.slice ptl K.ths[t].label.length ctl) ∧ w'.cell? ⟨kb, 2 + t * 5 + 1, none⟩ = some (.slice po K.ths[t].own.length co) ∧ w'.cell? ⟨g, i * 2, none⟩ = some (.slice puo K.ths[u].objs[i].label.length cuo)) (go_keep)
    (first | (go_at_call 13; refine (hfl _ (Below.refl _ _).drew).mono ?_; rintro e w5 ⟨rfl, hw5d⟩; have hw5 := kundrew hw5d; have HB5 := hid hw5; have r0 := hw5.cell (cell_block t0); rw [t0] at r0; have r1 := hw5.cell (cell_block t1); rw [t1] at r1; have r2 := hw5.cell (cell_block o1); rw [o1] at r2; have z2 := hw5.cell (cell_block o2); rw [o2] at z2; clear hw5d hw5))
  all_goals
    clear r0 r1 r2 t0 t1 o1 o2 hfl
    have hln := learn_any kb (2 + t * 5) _ V[t] K.ths[t] K.ths[u].objs[i].text w5 ((HA.out.below HB5.out).tat t h1 h2) (by omega)
    have HLN := hid hln
    clear hln
    go_wp2_with (go_at_call 89; refine HLN.out.mono ?_; rintro e w6 ⟨rfl, hT6, hS6⟩; have hK5 := HA.out.below HB5.out; have hK6 := hK5.step h1 h2 hT6 hS6; rw [List.set_getElem_self] at hK6; have hx6 := box_tstep hS6 (hK5.tat t h1 h2) (heap_keep HBX.out HB5.out) (by decide) (by decide) (by decide) (by decide); have hst := (HS.out.trans (KStep.below HB5.out)).trans (KStep.of h1 hS6); rw [List.set_getElem_self] at hst; have hzz := objs_after hK6 u1 u2 hi HVJ.out; obtain ⟨c0, c1, c2, f0, f1, f2⟩ := cells3 hx6; have HK6 := hid hK6; have HX6 := hid hx6; have HST := hid hst; clear hK5 hK6 hx6 hst hT6 hS6)
    have hg := st3_grown w6 (w.heap.size + 1) (.int .i64 0) (.int .i64 K.ths[u].objs[i].text.length) (.string ⟨#[]⟩)
    exact bodyPost_ret (results_cell_row rfl _ _ (w.heap.size + 1) 40 _ (0, 0) _ rfl (st3_heap (.int .i64 0) (.int .i64 K.ths[u].objs[i].text.length) (.string ⟨#[]⟩) HX6.out) Try.underlying40 rfl (by kernel_rfl)) rfl ⟨rfl, _, HK6.out.boxed hg HIN.out HX6.out (by decide) (by decide) (by decide) (by decide), HST.out.boxed hg (by omega)⟩
end Go.Proofs.Ytichphepfmafjac
