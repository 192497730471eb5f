/- kernel.get reads an object. -/
import Derived.Test.YtgpldlbmjakjhaaGreatQKPut
import Derived.Test.YtgpldlbmjakjhaaGreatQPlainTrust
namespace Go.Proofs.YtgpldlbmjakjhaaGreat
open Go.RowKit Go.Proofs.Parclose

/-- an object's text, where a thread knows more now -/
theorem objs_after {w : World} {kb t u i g cap : Nat} {F : List Nat} {V : List ThrV} {K : Ker} {x : List UInt8} {ht : t < K.ths.length} (h : KerAt w kb F V { K with ths := K.ths.set t { K.ths[t] with text := x } }) (u1 : u < V.length) (u2 : u < K.ths.length) (hi : i < K.ths[u].objs.length) (hv : V[u].vj = .slice (some ⟨g, 0, none⟩) K.ths[u].objs.length cap) : w.cell? ⟨g, i * 2 + 1, none⟩ = some (.string ⟨K.ths[u].objs[i].text.toArray⟩) := by
  have hT := (h.tat u u1 (by simpa using u2)).thr.2.2.1
  have e : ((K.ths.set t { K.ths[t] with text := x })[u]'(by simpa using u2)).objs = K.ths[u].objs := by
    rw [List.getElem_set]
    split
    · rename_i e
      subst e
      rfl
    · rfl
  rw [e] at hT
  obtain ⟨g', cap', uo, hv', _, c2, _⟩ := hT.cell i hi
  have e2 := hv.symm.trans hv'
  cases e2
  exact c2

set_option maxRecDepth 100000 in
set_option maxHeartbeats 3200000 in
theorem get_none (kb t : Nat) (F : List Nat) (V : List ThrV) (K : Ker) (c : Cal) (vc : Value) (w : World) (h : KerAt w kb F V K) (hc : CalAt w vc c) (hno : objAt K c.t c.n = none) :
    Calls Tryz.prog 91 #[.pointer (some ⟨kb, 0, none⟩), .pointer (some ⟨kb, 2 + t * 5, none⟩), vc] w fun e w' => e = .returned (repV (code 4)) ∧ ∃ G, KerAt w' kb G V K ∧ KStep kb w F V w' G V := by
  obtain ⟨vl, vg, rfl, ⟨pl, cl, rfl, _⟩, ⟨pg, cg, rfl, _⟩⟩ := hc
  unfold calV
  have HA := hid ((h.reserve (.cells #[.int .i64 c.kind, .int .i64 c.h, .int .i64 c.t, .int .i64 c.n, .int .i64 c.c, .slice pl c.label.length cl, .slice pg c.grants.length cg, .string ⟨c.text.toArray⟩] 30)).reserve (.cells #[.int .i64 0, .int .i64 0, .string ⟨#[]⟩] 35))
  have HS := hid ((KStep.reserve kb w F V (.cells #[.int .i64 c.kind, .int .i64 c.h, .int .i64 c.t, .int .i64 c.n, .int .i64 c.c, .slice pl c.label.length cl, .slice pg c.grants.length cg, .string ⟨c.text.toArray⟩] 30)).trans (KStep.reserve kb _ _ V (.cells #[.int .i64 0, .int .i64 0, .string ⟨#[]⟩] 35)))
  have hob := object_none kb _ V K c.t c.n _ HA.out hno
  have HBX := hid (heap_alloc2_new w (.cells #[.int .i64 c.kind, .int .i64 c.h, .int .i64 c.t, .int .i64 c.n, .int .i64 c.c, .slice pl c.label.length cl, .slice pg c.grants.length cg, .string ⟨c.text.toArray⟩] 30) (.cells #[.int .i64 0, .int .i64 0, .string ⟨#[]⟩] 35))
  clear h hno
  go_enter Tryz.func91, Tryz.ntmps91
  go_wp2_with (go_at_call 108; refine hob.mono ?_; rintro e w1 ⟨rfl, rfl⟩)
  go_quiet (fail)
  go_wp2_with (go_at_call 87; refine (answer_lit _ _).mono ?_; rintro e w2 ⟨rfl, hw2⟩; have HB2 := hid (below_then (below_drewN _ _) hw2); have hb2 := heap_keep HBX.out HB2.out; obtain ⟨c0, c1, c2, f0, f1, f2⟩ := cells3 hb2; have HX2 := hid hb2; clear hb2 hw2)
  have hg := st3_grown w2 (w.heap.size + 1) (.int .i64 4) (.int .i64 0) (.string ⟨#[]⟩)
  exact bodyPost_ret (results_cell_row rfl _ _ (w.heap.size + 1) 35 _ (0, 0) _ rfl (st3_heap (.int .i64 4) (.int .i64 0) (.string ⟨#[]⟩) HX2.out) Tryz.underlying35 rfl (by kernel_rfl)) rfl ⟨rfl, _, (HA.out.below HB2.out).boxed hg (by simp) HX2.out (by decide) (by decide) (by decide) (by decide), (HS.out.trans (KStep.below HB2.out)).boxed hg (by omega)⟩

set_option maxRecDepth 100000 in
set_option maxHeartbeats 3200000 in
theorem get_not (kb t u i : Nat) (F : List Nat) (V : List ThrV) (K : Ker) (c : Cal) (vc : Value) (w : World) (h : KerAt w kb F V K) (h1 : t < V.length) (h2 : t < K.ths.length) (u1 : u < V.length) (u2 : u < K.ths.length) (hl : K.ths[t].own.length ≤ 1000) (hi : i < K.ths[u].objs.length) (hct : c.t = u) (hcn : c.n = i) (hx : c.text.length ≤ 1000) (hc : CalAt w vc c) (hf : flowsL K.ths[u].objs[i].label K.ths[t].label K.ths[t].own = false) :
    Calls Tryz.prog 91 #[.pointer (some ⟨kb, 0, none⟩), .pointer (some ⟨kb, 2 + t * 5, none⟩), vc] w fun e w' => e = .returned (repV (code 4)) ∧ ∃ G, KerAt w' kb G V K ∧ KStep kb w F V w' G V := by
  obtain ⟨vl, vg, rfl, ⟨pl, cl, rfl, _⟩, ⟨pg, cg, rfl, _⟩⟩ := hc
  unfold calV
  obtain ⟨ck, ch, ct, cn, cc, clb, cgr, cx⟩ := c
  simp only at hct hcn hx ⊢
  subst hct
  subst hcn
  have HA := hid ((h.reserve (.cells #[.int .i64 ck, .int .i64 ch, .int .i64 u, .int .i64 i, .int .i64 cc, .slice pl clb.length cl, .slice pg cgr.length cg, .string ⟨cx.toArray⟩] 30)).reserve (.cells #[.int .i64 0, .int .i64 0, .string ⟨#[]⟩] 35))
  have HS := hid ((KStep.reserve kb w F V (.cells #[.int .i64 ck, .int .i64 ch, .int .i64 u, .int .i64 i, .int .i64 cc, .slice pl clb.length cl, .slice pg cgr.length cg, .string ⟨cx.toArray⟩] 30)).trans (KStep.reserve kb _ _ V (.cells #[.int .i64 0, .int .i64 0, .string ⟨#[]⟩] 35)))
  have HBX := hid (heap_alloc2_new w (.cells #[.int .i64 ck, .int .i64 ch, .int .i64 u, .int .i64 i, .int .i64 cc, .slice pl clb.length cl, .slice pg cgr.length cg, .string ⟨cx.toArray⟩] 30) (.cells #[.int .i64 0, .int .i64 0, .string ⟨#[]⟩] 35))
  have HCX := hid (heap_alloc2_old w (.cells #[.int .i64 ck, .int .i64 ch, .int .i64 u, .int .i64 i, .int .i64 cc, .slice pl clb.length cl, .slice pg cgr.length cg, .string ⟨cx.toArray⟩] 30) (.cells #[.int .i64 0, .int .i64 0, .string ⟨#[]⟩] 35))
  have h4u : u < 4 := by rw [← h.len]; exact u1
  have hTu := HA.out.tat u u1 u2
  obtain ⟨g, cap, uo, hvj, o1, o2, of, hro⟩ := hTu.thr.2.2.1.cell i hi
  have hob := object_some kb u i g cap K.ths[u].objs.length _ V[u] K.ths[u] _ hTu h4u hi hvj
  have hTt := HA.out.tat t h1 h2
  obtain ⟨t0, t1, t2, _, _⟩ := hTt.cells
  obtain ⟨ptl, ctl, hvl, _⟩ := id hTt.thr.1.1
  obtain ⟨po, co, hvo⟩ := ownV hTt.thr.2.1
  obtain ⟨puo, cuo, huo, _⟩ := id hro.1
  have HVJ := hid hvj
  have hfl := fun wx (hb : Below (((w.alloc (.cells #[.int .i64 ck, .int .i64 ch, .int .i64 u, .int .i64 i, .int .i64 cc, .slice pl clb.length cl, .slice pg cgr.length cg, .string ⟨cx.toArray⟩] 30)).alloc (.cells #[.int .i64 0, .int .i64 0, .string ⟨#[]⟩] 35))).heap.size ((w.alloc (.cells #[.int .i64 ck, .int .i64 ch, .int .i64 u, .int .i64 i, .int .i64 cc, .slice pl clb.length cl, .slice pg cgr.length cg, .string ⟨cx.toArray⟩] 30)).alloc (.cells #[.int .i64 0, .int .i64 0, .string ⟨#[]⟩] 35)) wx) => flows_any _ _ _ _ _ _ wx (hro.1.below hb) (hTt.thr.1.1.below hb) ((own_ints hTt.thr.2.1 hl).below hb)
  rw [hf] at hfl
  rw [hvl] at t0
  rw [hvo] at t1
  rw [huo] at o1
  rw [hvl, hvo, huo] at hfl
  clear h hTu hTt hvj hro of o2 t2
  generalize hW : ((w.alloc (.cells #[.int .i64 ck, .int .i64 ch, .int .i64 u, .int .i64 i, .int .i64 cc, .slice pl clb.length cl, .slice pg cgr.length cg, .string ⟨cx.toArray⟩] 30)).alloc (.cells #[.int .i64 0, .int .i64 0, .string ⟨#[]⟩] 35)) = W at HA HS HBX HCX hfl t0 t1 o1 hob
  have HW := hid hW
  have HIN : Hid (w.heap.size + 1 ∈ F ++ [w.heap.size] ++ [(w.alloc (.cells #[.int .i64 ck, .int .i64 ch, .int .i64 u, .int .i64 i, .int .i64 cc, .slice pl clb.length cl, .slice pg cgr.length cg, .string ⟨cx.toArray⟩] 30)).heap.size]) := hid (by simp)
  clear hW
  go_enter Tryz.func91, Tryz.ntmps91
  go_wp2_with fail
  rw [HW.out]
  refine hob.mono ?_
  rintro e w1 ⟨rfl, rfl⟩
  clear hob
  go_wp2_with fail
  go_region_held3 (fun w' => w'.cell? ⟨kb, 2 + t * 5, none⟩ = some (.slice ptl K.ths[t].label.length ctl) ∧ w'.cell? ⟨kb, 2 + t * 5 + 1, none⟩ = some (.slice po K.ths[t].own.length co) ∧ w'.cell? ⟨g, i * 2, none⟩ = some (.slice puo K.ths[u].objs[i].label.length cuo)) (go_keep)
    (first | (go_at_call 23; refine (hfl _ (Below.refl _ _).drew).mono ?_; rintro e w5 ⟨rfl, hw5d⟩; have hw5 := kundrew hw5d; have HB5 := hid hw5; have r0 := hw5.cell (cell_block t0); rw [t0] at r0; have r1 := hw5.cell (cell_block t1); rw [t1] at r1; have r2 := hw5.cell (cell_block o1); rw [o1] at r2; clear hw5d hw5))
  all_goals
    go_wp2_with (go_at_call 87; refine (answer_lit _ _).mono ?_; rintro e w2 ⟨rfl, hw2⟩; have HB2 := hid (below_then HB5.out hw2); have hb2 := heap_keep HBX.out HB2.out; obtain ⟨c0, c1, c2, f0, f1, f2⟩ := cells3 hb2; have HX2 := hid hb2; clear hb2 hw2)
    have hg := st3_grown w2 (w.heap.size + 1) (.int .i64 4) (.int .i64 0) (.string ⟨#[]⟩)
    exact bodyPost_ret (results_cell_row rfl _ _ (w.heap.size + 1) 35 _ (0, 0) _ rfl (st3_heap (.int .i64 4) (.int .i64 0) (.string ⟨#[]⟩) HX2.out) Tryz.underlying35 rfl (by kernel_rfl)) rfl ⟨rfl, _, (HA.out.below HB2.out).boxed hg HIN.out HX2.out (by decide) (by decide) (by decide) (by decide), (HS.out.trans (KStep.below HB2.out)).boxed hg (by omega)⟩

set_option maxRecDepth 100000 in
set_option maxHeartbeats 3200000 in
theorem get_yes (kb t u i : Nat) (F : List Nat) (V : List ThrV) (K : Ker) (c : Cal) (vc : Value) (w : World) (h : KerAt w kb F V K) (h1 : t < V.length) (h2 : t < K.ths.length) (u1 : u < V.length) (u2 : u < K.ths.length) (hl : K.ths[t].own.length ≤ 1000) (hi : i < K.ths[u].objs.length) (hct : c.t = u) (hcn : c.n = i) (hx : c.text.length ≤ 1000) (hc : CalAt w vc c) (hf : flowsL K.ths[u].objs[i].label K.ths[t].label K.ths[t].own = true) (hxt : K.ths[t].text.length ≤ 1000) (hxo : K.ths[u].objs[i].text.length ≤ 1000) :
    Calls Tryz.prog 91 #[.pointer (some ⟨kb, 0, none⟩), .pointer (some ⟨kb, 2 + t * 5, none⟩), vc] w fun e w' => e = .returned (repV ⟨0, (K.ths[u].objs[i].text.length : Int), []⟩) ∧ ∃ G, KerAt w' kb G V { K with ths := K.ths.set t { K.ths[t] with text := lastL (K.ths[t].text ++ K.ths[u].objs[i].text) } } ∧ KStep kb w F V w' G V := by
  obtain ⟨vl, vg, rfl, ⟨pl, cl, rfl, _⟩, ⟨pg, cg, rfl, _⟩⟩ := hc
  unfold calV
  obtain ⟨ck, ch, ct, cn, cc, clb, cgr, cx⟩ := c
  simp only at hct hcn hx ⊢
  subst hct
  subst hcn
  have HA := hid ((h.reserve (.cells #[.int .i64 ck, .int .i64 ch, .int .i64 u, .int .i64 i, .int .i64 cc, .slice pl clb.length cl, .slice pg cgr.length cg, .string ⟨cx.toArray⟩] 30)).reserve (.cells #[.int .i64 0, .int .i64 0, .string ⟨#[]⟩] 35))
  have HS := hid ((KStep.reserve kb w F V (.cells #[.int .i64 ck, .int .i64 ch, .int .i64 u, .int .i64 i, .int .i64 cc, .slice pl clb.length cl, .slice pg cgr.length cg, .string ⟨cx.toArray⟩] 30)).trans (KStep.reserve kb _ _ V (.cells #[.int .i64 0, .int .i64 0, .string ⟨#[]⟩] 35)))
  have HBX := hid (heap_alloc2_new w (.cells #[.int .i64 ck, .int .i64 ch, .int .i64 u, .int .i64 i, .int .i64 cc, .slice pl clb.length cl, .slice pg cgr.length cg, .string ⟨cx.toArray⟩] 30) (.cells #[.int .i64 0, .int .i64 0, .string ⟨#[]⟩] 35))
  have HCX := hid (heap_alloc2_old w (.cells #[.int .i64 ck, .int .i64 ch, .int .i64 u, .int .i64 i, .int .i64 cc, .slice pl clb.length cl, .slice pg cgr.length cg, .string ⟨cx.toArray⟩] 30) (.cells #[.int .i64 0, .int .i64 0, .string ⟨#[]⟩] 35))
  have h4u : u < 4 := by rw [← h.len]; exact u1
  have hTu := HA.out.tat u u1 u2
  obtain ⟨g, cap, uo, hvj, o1, o2, of, hro⟩ := hTu.thr.2.2.1.cell i hi
  have hob := object_some kb u i g cap K.ths[u].objs.length _ V[u] K.ths[u] _ hTu h4u hi hvj
  have hTt := HA.out.tat t h1 h2
  obtain ⟨t0, t1, t2, _, _⟩ := hTt.cells
  obtain ⟨ptl, ctl, hvl, _⟩ := id hTt.thr.1.1
  obtain ⟨po, co, hvo⟩ := ownV hTt.thr.2.1
  obtain ⟨puo, cuo, huo, _⟩ := id hro.1
  have HVJ := hid hvj
  have hfl := fun wx (hb : Below (((w.alloc (.cells #[.int .i64 ck, .int .i64 ch, .int .i64 u, .int .i64 i, .int .i64 cc, .slice pl clb.length cl, .slice pg cgr.length cg, .string ⟨cx.toArray⟩] 30)).alloc (.cells #[.int .i64 0, .int .i64 0, .string ⟨#[]⟩] 35))).heap.size ((w.alloc (.cells #[.int .i64 ck, .int .i64 ch, .int .i64 u, .int .i64 i, .int .i64 cc, .slice pl clb.length cl, .slice pg cgr.length cg, .string ⟨cx.toArray⟩] 30)).alloc (.cells #[.int .i64 0, .int .i64 0, .string ⟨#[]⟩] 35)) wx) => flows_any _ _ _ _ _ _ wx (hro.1.below hb) (hTt.thr.1.1.below hb) ((own_ints hTt.thr.2.1 hl).below hb)
  rw [hf] at hfl
  rw [hvl] at t0
  rw [hvo] at t1
  rw [huo] at o1
  rw [hvl, hvo, huo] at hfl
  clear h hTu hTt hvj hro of t2
  generalize hW : ((w.alloc (.cells #[.int .i64 ck, .int .i64 ch, .int .i64 u, .int .i64 i, .int .i64 cc, .slice pl clb.length cl, .slice pg cgr.length cg, .string ⟨cx.toArray⟩] 30)).alloc (.cells #[.int .i64 0, .int .i64 0, .string ⟨#[]⟩] 35)) = W at HA HS HBX HCX hfl t0 t1 o1 hob o2
  have HW := hid hW
  have HIN : Hid (w.heap.size + 1 ∈ F ++ [w.heap.size] ++ [(w.alloc (.cells #[.int .i64 ck, .int .i64 ch, .int .i64 u, .int .i64 i, .int .i64 cc, .slice pl clb.length cl, .slice pg cgr.length cg, .string ⟨cx.toArray⟩] 30)).heap.size]) := hid (by simp)
  clear hW
  go_enter Tryz.func91, Tryz.ntmps91
  go_wp2_with fail
  rw [HW.out]
  refine hob.mono ?_
  rintro e w1 ⟨rfl, rfl⟩
  clear hob
  go_wp2_with fail
  go_region_held3 (fun w' => w'.cell? ⟨kb, 2 + t * 5, none⟩ = some (.slice ptl K.ths[t].label.length ctl) ∧ w'.cell? ⟨kb, 2 + t * 5 + 1, none⟩ = some (.slice po K.ths[t].own.length co) ∧ w'.cell? ⟨g, i * 2, none⟩ = some (.slice puo K.ths[u].objs[i].label.length cuo)) (go_keep)
    (first | (go_at_call 23; refine (hfl _ (Below.refl _ _).drew).mono ?_; rintro e w5 ⟨rfl, hw5d⟩; have hw5 := kundrew hw5d; have HB5 := hid hw5; have r0 := hw5.cell (cell_block t0); rw [t0] at r0; have r1 := hw5.cell (cell_block t1); rw [t1] at r1; have r2 := hw5.cell (cell_block o1); rw [o1] at r2; have z2 := hw5.cell (cell_block o2); rw [o2] at z2; clear hw5d hw5))
  all_goals
    clear r0 r1 r2 t0 t1 o1 o2 hfl
    have hln := learn_any kb (2 + t * 5) _ V[t] K.ths[t] K.ths[u].objs[i].text w5 ((HA.out.below HB5.out).tat t h1 h2) (by omega)
    have HLN := hid hln
    clear hln
    go_wp2_with (go_at_call 109; refine HLN.out.mono ?_; rintro e w6 ⟨rfl, hT6, hS6⟩; have hK5 := HA.out.below HB5.out; have hK6 := hK5.step h1 h2 hT6 hS6; rw [List.set_getElem_self] at hK6; have hx6 := box_tstep hS6 (hK5.tat t h1 h2) (heap_keep HBX.out HB5.out) (by decide) (by decide) (by decide) (by decide); have hst := (HS.out.trans (KStep.below HB5.out)).trans (KStep.of h1 hS6); rw [List.set_getElem_self] at hst; have hzz := objs_after hK6 u1 u2 hi HVJ.out; obtain ⟨c0, c1, c2, f0, f1, f2⟩ := cells3 hx6; have HK6 := hid hK6; have HX6 := hid hx6; have HST := hid hst; clear hK5 hK6 hx6 hst hT6 hS6)
    have hg := st3_grown w6 (w.heap.size + 1) (.int .i64 0) (.int .i64 K.ths[u].objs[i].text.length) (.string ⟨#[]⟩)
    exact bodyPost_ret (results_cell_row rfl _ _ (w.heap.size + 1) 35 _ (0, 0) _ rfl (st3_heap (.int .i64 0) (.int .i64 K.ths[u].objs[i].text.length) (.string ⟨#[]⟩) HX6.out) Tryz.underlying35 rfl (by kernel_rfl)) rfl ⟨rfl, _, HK6.out.boxed hg HIN.out HX6.out (by decide) (by decide) (by decide) (by decide), HST.out.boxed hg (by omega)⟩
end Go.Proofs.YtgpldlbmjakjhaaGreat

namespace Go.Proofs.Parclose

theorem count_split {l : List Int} (hs : l.Pairwise (· < ·)) (c : Int) : (∀ x ∈ l.take (l.countP (· < c)), x < c) ∧ ∀ x ∈ l.drop (l.countP (· < c)), c ≤ x := by
  induction l with
  | nil => simp
  | cons a r ih =>
    have hr := (List.pairwise_cons.1 hs).2
    have ha := (List.pairwise_cons.1 hs).1
    by_cases h : a < c
    · rw [List.countP_cons_of_pos (by simpa using h), List.take_succ_cons, List.drop_succ_cons]
      obtain ⟨h1, h2⟩ := ih hr
      refine ⟨fun x hx => ?_, h2⟩
      rcases List.mem_cons.1 hx with rfl | hx
      · exact h
      · exact h1 x hx
    · have hz : r.countP (· < c) = 0 := by
        rw [List.countP_eq_zero]
        intro x hx
        have := ha x hx
        simp
        omega
      rw [List.countP_cons_of_neg (by simpa using h), hz]
      refine ⟨fun x hx => by simp at hx, fun x hx => ?_⟩
      rcases List.mem_cons.1 hx with rfl | hx
      · omega
      · have := ha x hx; omega

theorem insL_sorted {l : List Int} (hs : l.Pairwise (· < ·)) {c : Int} (hc : l.contains c = false) : (insL l c).Pairwise (· < ·) := by
  obtain ⟨h1, h2⟩ := count_split hs c
  have hn : ∀ x ∈ l, x ≠ c := fun x hx e => by
    subst e
    have : l.contains x = true := by simpa using hx
    rw [hc] at this
    cases this
  unfold insL
  rw [List.pairwise_append]
  refine ⟨hs.sublist (List.take_sublist _ _), List.pairwise_cons.2 ⟨fun x hx => ?_, hs.sublist (List.drop_sublist _ _)⟩, fun x hx y hy => ?_⟩
  · have a := h2 x hx
    have b := hn x (List.mem_of_mem_drop hx)
    omega
  · rcases List.mem_cons.1 hy with rfl | hy
    · exact h1 x hx
    · have a := h1 x hx
      have b := h2 y hy
      omega
theorem insL_len (l : List Int) (c : Int) : (insL l c).length = l.length + 1 := by
  have : l.countP (· < c) ≤ l.length := List.countP_le_length
  unfold insL
  simp
  omega
theorem ownL_sorted {l : List Int} (hs : l.Pairwise (· < ·)) (c : Int) : (ownL l c).2.Pairwise (· < ·) := by
  unfold ownL
  split
  · exact hs
  · split
    · exact hs
    · exact insL_sorted hs (by rename_i h _; simpa using h)
theorem ownL_len {l : List Int} (h : l.length ≤ 8) (c : Int) : (ownL l c).2.length ≤ 8 := by
  unfold ownL
  split
  · exact h
  · split
    · exact h
    · show (insL l c).length ≤ 8
      rw [insL_len]
      omega
theorem ownL_fail {l : List Int} {c : Int} (h : (ownL l c).1 ≠ 0) : (ownL l c).2 = l := by
  unfold ownL at h ⊢
  split
  · rfl
  · rename_i h1
    rw [if_neg h1] at h
    split
    · rfl
    · rename_i h2
      rw [if_neg h2] at h
      exact absurd rfl h
theorem grantL_cons (c : Int) (r o : List Int) : grantL (c :: r) o = if (ownL o c).1 = 0 then grantL r (ownL o c).2 else o := rfl
end Go.Proofs.Parclose

namespace Go.Proofs.YtgpldlbmjakjhaaGreat
open Go.RowKit Go.Proofs.Parclose

set_option maxRecDepth 100000 in
set_option maxHeartbeats 3200000 in
theorem readMail_any (kb o : Nat) (F : List Nat) (v : ThrV) (th : Thr) (m : Mal) (vl vg : Value) (w : World) (h : TAt w kb o F v th) (hs : th.own.Pairwise (· < ·)) (hl : th.own.length ≤ 8) (hg : RoInts w F vg m.grants) (hvl : ∃ p n c, vl = .slice p n c) (hx : th.text.length + m.text.length < 4611686018427387904) :
    Calls Tryz.prog 112 #[.pointer (some ⟨kb, o, none⟩), malV m vl vg] w fun e w' => e = .returned (.tuple #[]) ∧ ∃ G v', TAt w' kb o G v' (readL th m) ∧ TStep kb o w F v w' G v' := by
  obtain ⟨pl, nl, cl, rfl⟩ := hvl
  obtain ⟨pg, cg, rfl, _⟩ := id hg.1
  unfold malV
  have hln := fun wx (hb : Below w.heap.size w wx) => learn_any kb o F v th m.text wx (h.below hb) hx
  have hB : w.heap.size ∉ kb :: rowsOf v := fun e => by
    rcases List.mem_cons.1 e with e | e
    · have := h.fin kb h.kbF; omega
    · have := h.fin _ (h.rows _ e); omega
  have HG := hid hg
  have HT := hid h
  have HLN := hid hln
  have HB := hid hB
  have HR : Hid (readL th m = { th with text := lastL (th.text ++ m.text), own := grantL m.grants th.own }) := hid rfl
  clear h hg hln hB
  go_enter Tryz.func112, Tryz.ntmps112
  go_wp2_with fail
  refine (HLN.out _ (below_box _ _)).mono ?_
  rintro e w1 ⟨rfl, hT1, hS1⟩
  have hbx := hS1.kept.heap (heap_alloc_new w _) HB.out
  have c3 := heap_cell hbx 3
  have hS01 := (TStep.below (kb := kb) (o := o) (F := F) (v := v) (below_box w (.cells #[.int .i64 m.host, .int .i64 m.thread, .slice pl nl cl, .slice pg m.grants.length cg, .string ⟨m.text.toArray⟩] 46))).trans hS1
  have HT1 := hid hT1
  have HS01 := hid hS01
  have HG1 : Hid (RoInts w1 F (.slice pg m.grants.length cg) m.grants) := hid (HG.out.keep (hS01.kept.sub fun k e => .inl (by rcases List.mem_cons.1 e with rfl | e; exact HT.out.kbF; exact HT.out.rows k e)) (More.refl _ _))
  clear hT1 hS1 hS01 hbx HLN HB
  go_wp2
  go_loopw [13] (fun i wr => ∃ (k : Nat) (G : List Nat) (v' : ThrV) (ow : List Int), k ≤ m.grants.length ∧ i = .int .i64 k ∧ grantL m.grants th.own = grantL (m.grants.drop k) ow ∧ ow.Pairwise (· < ·) ∧ ow.length ≤ 8 ∧ TAt wr kb o G v' { th with text := lastL (th.text ++ m.text), own := ow } ∧ TStep kb o w F v wr G v' ∧ RoInts wr G (.slice pg m.grants.length cg) m.grants) (fun i _ => m.grants.length - (intOf i).toNat)
  case atStart => exact ⟨0, F, v, th.own, Nat.zero_le _, rfl, rfl, hs, hl, HT1.out, HS01.out, HG1.out⟩
  case round =>
    clear c3 HT1 HS01 HG1 hs hl
    obtain ⟨k, G, v', ow, hk, rfl, hgr, hs, hl, hT, hS, hg⟩ := hrel
    have HGR := hid hgr
    have HTk := hid hT
    have HSk := hid hS
    have HGk := hid hg
    by_cases hlt : k < m.grants.length
    · obtain ⟨b, ob, hpe, hc⟩ := hg.1.cells (by omega)
      have hck := hc k hlt
      subst hpe
      have how := own_any kb o G v' { th with text := lastL (th.text ++ m.text), own := ow } m.grants[k] wr hT hs hl
      have HOW := hid how
      have HD : Hid (m.grants.drop k = m.grants[k] :: m.grants.drop (k + 1)) := hid (List.drop_eq_getElem_cons hlt)
      simp only at HOW
      clear how hT hS hg hgr hc
      by_cases hz : (ownL ow m.grants[k]).1 = 0
      · have hne : ((ownL ow m.grants[k]).1 != 0) = false := by simpa using hz
        have HN : Hid (grantL m.grants th.own = grantL (m.grants.drop (k + 1)) (ownL ow m.grants[k]).2) := hid (by rw [HGR.out, HD.out, grantL_cons, if_pos hz])
        have hs2 := ownL_sorted hs m.grants[k]
        have hl2 := ownL_len hl m.grants[k]
        generalize ownL ow m.grants[k] = R at *
        go_wp2_with (go_at_call 107; refine HOW.out.mono ?_; rintro e w2 ⟨rfl, G2, v2, hT2, hS2⟩)
        go_roundw
        case rel =>
          have hg2 := HGk.out.keep (hS2.kept.sub fun j e => .inl (by rcases List.mem_cons.1 e with rfl | e; exact HTk.out.kbF; exact HTk.out.rows j e)) hS2.more
          exact ⟨k + 1, G2, v2, R.2, hlt, by go_num, HN.out, hs2, hl2, hT2, HSk.out.trans hS2, hg2⟩
        case measure => simp [intOf]; omega
      · have hne : ((ownL ow m.grants[k]).1 != 0) = true := by simpa using hz
        have HN : Hid (grantL m.grants th.own = ow) := hid (by rw [HGR.out, HD.out, grantL_cons, if_neg hz])
        have HF := hid (ownL_fail hz)
        generalize ownL ow m.grants[k] = R at *
        go_wp2_with (go_at_call 107; refine HOW.out.mono ?_; rintro e w2 ⟨rfl, G2, v2, hT2, hS2⟩)
        refine bodyPost_ret (results_none rfl _ _ _) rfl ⟨rfl, G2, v2, ?_, HSk.out.trans hS2⟩
        rw [HR.out, HN.out]
        rw [HF.out] at hT2
        exact hT2
    · have hkl : k = m.grants.length := by omega
      have HN : Hid (grantL m.grants th.own = ow) := hid (by rw [HGR.out, hkl, List.drop_length]; rfl)
      clear hT hS hg hgr
      go_wp2
      go_end0
      refine ⟨rfl, G, v', ?_, HSk.out⟩
      rw [HR.out, HN.out]
      exact HTk.out
end Go.Proofs.YtgpldlbmjakjhaaGreat
