/- kernel.setLevel. -/
import Derived.Test.YtgpldlbmjakjhaaGreatQKMail
import Derived.Test.YtgpldlbmjakjhaaGreatQSplit
import Derived.Test.YtgpldlbmjakjhaaGreatQKTake
import Derived.Test.YtgpldlbmjakjhaaGreatQKGet
namespace Go.Proofs.YtgpldlbmjakjhaaGreat
open Go.RowKit Go.Proofs.Parclose

set_option maxRecDepth 100000 in
set_option maxHeartbeats 1600000 in
theorem setLevel_any (kb o : Nat) (F : List Nat) (v : ThrV) (th : Thr) (c n : Int) (w : World) (h : TAt w kb o F v th) (hl : th.own.length ≤ 1000) :
    Calls Tryz.prog 92 #[.pointer (some ⟨kb, o, none⟩), .int .i64 c, .int .i64 n] w fun e w' => e = .returned (.int .i64 (levelL th c n).2) ∧ ∃ v', TAt w' kb o F v' (levelL th c n).1 ∧ TStep kb o w F v w' F v' := by
  have HL : Hid (levelL th c n = if setE th.label c n = 0 then (if flowsL th.label (setL th.label c n) th.own then ({ th with label := setL th.label c n }, 0) else (th, 6)) else (th, setE th.label c n)) := hid rfl
  have HE : Hid (setE th.label c n = if setB th.label c n = false then 2 else if 8 < (setL th.label c n).length then 5 else 0) := hid rfl
  obtain ⟨t0, t1, _, _, _⟩ := h.cells
  obtain ⟨ptl, ctl, hvl, _⟩ := id h.thr.1.1
  obtain ⟨po, co, hvo⟩ := ownV h.thr.2.1
  have HT := hid h
  have HV := hid hvo
  have HVL := hid hvl
  have hsb := set_bad v.vl th.label c n w h.thr.1.1
  have hsg := set_new v.vl th.label c n w h.thr.1.1
  rw [hvl] at t0 hsb hsg
  rw [hvo] at t1
  clear h hvo hvl
  cases hb : setB th.label c n with
  | false =>
    have HL2 : Hid (levelL th c n = (th, 2)) := hid (by rw [HL.out, HE.out, hb]; rfl)
    have hsb := hsb hb
    clear hsg HL HE
    go_enter Tryz.func92, Tryz.ntmps92
    go_wp2_with (go_at_call 110; refine hsb.mono ?_; rintro e w1 ⟨rfl, hw1⟩)
    go_ret
    rw [HL2.out]
    exact ⟨rfl, v, HT.out.below hw1, TStep.below hw1⟩
  | true =>
    have hsg := hsg hb
    clear hsb
    by_cases h8 : 8 < (setL th.label c n).length
    · have HL2 : Hid (levelL th c n = (th, 5)) := hid (by rw [HL.out, HE.out, hb, if_pos h8]; rfl)
      clear HL HE
      simp only [if_pos h8] at hsg
      go_enter Tryz.func92, Tryz.ntmps92
      go_wp2_with (go_at_call 110; refine hsg.mono ?_; rintro e w1 ⟨v1, x1, rfl, ⟨rfl, rfl⟩, hw1⟩)
      go_ret
      rw [HL2.out]
      exact ⟨rfl, v, HT.out.below hw1, TStep.below hw1⟩
    · have HL2 : Hid (levelL th c n = if flowsL th.label (setL th.label c n) th.own then ({ th with label := setL th.label c n }, 0) else (th, 6)) := hid (by rw [HL.out, HE.out, hb, if_neg h8]; rfl)
      clear HL HE
      simp only [if_neg h8] at hsg
      generalize setL th.label c n = l2 at *
      have HO := hid (own_ints HT.out.thr.2.1 hl)
      cases hf : flowsL th.label l2 th.own with
      | false =>
        have HL3 : Hid (levelL th c n = (th, 6)) := hid (by rw [HL2.out, hf]; rfl)
        clear HL2
        go_enter Tryz.func92, Tryz.ntmps92
        go_wp2_with (go_at_call 110; refine hsg.mono ?_; rintro e w1 ⟨v1, x1, rfl, ⟨rfl, hv1⟩, hw1⟩; obtain ⟨p1, c1, rfl, _⟩ := id hv1.1; have HV1 := hid hv1; have HB1 := hid hw1; have s0 := hw1.cell (cell_block t0); rw [t0] at s0; have s1 := hw1.cell (cell_block t1); rw [t1] at s1; have hfl := fun wx (hbx : Below w1.heap.size w1 wx) => flows_any _ _ _ th.label l2 th.own wx (HT.out.thr.1.1.below (below_then hw1 hbx)) (hv1.1.below hbx) (HO.out.below (below_then hw1 hbx)); rw [HVL.out, HV.out, hf] at hfl; clear hv1 hw1)
        go_region_held3 (fun w' => w'.cell? ⟨kb, o, none⟩ = some (.slice ptl th.label.length ctl) ∧ w'.cell? ⟨kb, o + 1, none⟩ = some (.slice po th.own.length co)) (go_keep)
          (first | (go_at_call 23; refine (hfl _ (Below.refl _ _).drew).mono ?_; rintro e w5 ⟨rfl, hw5d⟩; have hw5 := kundrew hw5d; have hb5 := below_then HB1.out hw5; have r0 := hw5.cell (cell_block s0); rw [s0] at r0; have r1 := hw5.cell (cell_block s1); rw [s1] at r1))
        all_goals
          go_wp2
          go_ret
          rw [HL3.out]
          exact ⟨rfl, v, HT.out.below hb5, TStep.below hb5⟩
      | true =>
        have HL3 : Hid (levelL th c n = ({ th with label := l2 }, 0)) := hid (by rw [HL2.out, hf]; rfl)
        clear HL2
        go_enter Tryz.func92, Tryz.ntmps92
        go_wp2_with (go_at_call 110; refine hsg.mono ?_; rintro e w1 ⟨v1, x1, rfl, ⟨rfl, hv1⟩, hw1⟩; obtain ⟨p1, c1, rfl, _⟩ := id hv1.1; have HV1 := hid hv1; have HB1 := hid hw1; have s0 := hw1.cell (cell_block t0); rw [t0] at s0; have s1 := hw1.cell (cell_block t1); rw [t1] at s1; have hfl := fun wx (hbx : Below w1.heap.size w1 wx) => flows_any _ _ _ th.label l2 th.own wx (HT.out.thr.1.1.below (below_then hw1 hbx)) (hv1.1.below hbx) (HO.out.below (below_then hw1 hbx)); rw [HVL.out, HV.out, hf] at hfl; clear hv1 hw1)
        go_region_held3 (fun w' => w'.cell? ⟨kb, o, none⟩ = some (.slice ptl th.label.length ctl) ∧ w'.cell? ⟨kb, o + 1, none⟩ = some (.slice po th.own.length co)) (go_keep)
          (first | (go_at_call 23; refine (hfl _ (Below.refl _ _).drew).mono ?_; rintro e w5 ⟨rfl, hw5d⟩; have hw5 := kundrew hw5d; have hb5 := below_then HB1.out hw5; have r0 := hw5.cell (cell_block s0); rw [s0] at r0; have r1 := hw5.cell (cell_block s1); rw [s1] at r1))
        all_goals
          have h5 := HT.out.below hb5
          have hfr := h5.frozen o
          have hro : RoLab w5 F (.slice p1 l2.length c1) l2 := ⟨HV1.out.1.below hw5, fun _ k hk hF => by have a1 := HV1.out.2 k hk; have a2 := HT.out.fin k hF; omega⟩
          have hst := h5.lab hro
          go_wp2
          go_ret
          rw [HL3.out]
          exact ⟨rfl, _, hst.1, (TStep.below hb5).trans hst.2⟩
end Go.Proofs.YtgpldlbmjakjhaaGreat

namespace Go.Proofs.YtgpldlbmjakjhaaGreat
open Go.RowKit Go.Proofs.Parclose

set_option maxRecDepth 100000 in
set_option maxHeartbeats 3200000 in
theorem Call_object (kb t : Nat) (F : List Nat) (V : List ThrV) (K : Ker) (c : Cal) (vc : Value) (w : World) (h : KerAt w kb F V K) (h1 : t < V.length) (h2 : t < K.ths.length) (hc : CalAt w vc c) (hk : c.kind = 2) (hx : c.text.length ≤ 64) (hl : K.ths[t].own.length ≤ 1000) (hob : K.ths[t].objs.length ≤ 1000) :
    Calls Tryz.prog 68 #[.pointer (some ⟨kb, 0, none⟩), .int .i64 t, vc] w fun e w' => e = .returned (repV (objectL K.ths[t] c.label).2) ∧ ∃ G V', KerAt w' kb G V' { K with ths := K.ths.set t (objectL K.ths[t] c.label).1 } ∧ KStep kb w F V w' G V' := by
  obtain ⟨vl, vg, rfl, hlab, hgra⟩ := hc
  obtain ⟨pl, cl, rfl, _⟩ := id hlab
  obtain ⟨pg, cg, rfl, _⟩ := id hgra
  unfold calV
  obtain ⟨ck, ch, ct, cn, cc, clb, cgr, cx⟩ := c
  simp only at hk hx hlab hgra ⊢
  subst hk
  have h4 : t < 4 := by rw [← h.len]; exact h1
  have hx2 : ¬ ((64 : Int) < (cx.length : Int)) := by omega
  have HA := hid ((h.reserve (.cells #[.int .i64 2, .int .i64 ch, .int .i64 ct, .int .i64 cn, .int .i64 cc, .slice pl clb.length cl, .slice pg cgr.length cg, .string ⟨cx.toArray⟩] 30)).reserve (.cells #[.int .i64 0, .int .i64 0, .string ⟨#[]⟩] 35))
  have HS := hid ((KStep.reserve kb w F V (.cells #[.int .i64 2, .int .i64 ch, .int .i64 ct, .int .i64 cn, .int .i64 cc, .slice pl clb.length cl, .slice pg cgr.length cg, .string ⟨cx.toArray⟩] 30)).trans (KStep.reserve kb _ _ V (.cells #[.int .i64 0, .int .i64 0, .string ⟨#[]⟩] 35)))
  have HBX := hid (heap_alloc2_new w (.cells #[.int .i64 2, .int .i64 ch, .int .i64 ct, .int .i64 cn, .int .i64 cc, .slice pl clb.length cl, .slice pg cgr.length cg, .string ⟨cx.toArray⟩] 30) (.cells #[.int .i64 0, .int .i64 0, .string ⟨#[]⟩] 35))
  have HWB : Hid (Below w.heap.size w ((w.alloc (.cells #[.int .i64 2, .int .i64 ch, .int .i64 ct, .int .i64 cn, .int .i64 cc, .slice pl clb.length cl, .slice pg cgr.length cg, .string ⟨cx.toArray⟩] 30)).alloc (.cells #[.int .i64 0, .int .i64 0, .string ⟨#[]⟩] 35))) := hid ((below_box w _).alloc (by simp) _)
  have hin1 := makeObject_any kb (2 + t * 5) _ V[t] K.ths[t] (.slice pl clb.length cl) clb _ (HA.out.tat t h1 h2) hl hob (hlab.below HWB.out)
  have HC := hid hin1
  clear hin1
  generalize (objectL K.ths[t] clb).1 = T at *
  generalize (objectL K.ths[t] clb).2 = R at *
  clear h
  go_enter Tryz.func68, Tryz.ntmps68
  go_wp2_with (first
    | (go_at_call 58; refine (thread_in kb t _ h4).mono ?_; rintro e w1 ⟨rfl, rfl⟩)
    | (go_at_call 89; refine HC.out.mono ?_; rintro e w2 ⟨rfl, G2, v2, ht2, hs⟩; have hk2 := HA.out.step h1 h2 ht2 hs; have hs2 := KStep.of h1 hs; have hx2' := box_kstep hs2 HA.out HBX.out (by decide) (by decide) (by decide) (by decide); obtain ⟨c0, c1, c2, f0, f1, f2⟩ := cells3 hx2'; have HX2 := hid hx2'; have HK2 := hid hk2; have HS2 := hid hs2; clear hx2' hk2 hs2; generalize V.set t v2 = V2 at *; unfold repV))
  have hin : w.heap.size + 1 ∈ G2 := HS2.out.more.1 _ (by simp)
  have hg := st3_grown w2 (w.heap.size + 1) (.int .i64 R.code) (.int .i64 R.n) (.string ⟨R.text.toArray⟩)
  exact bodyPost_ret (results_cell_row rfl _ _ (w.heap.size + 1) 35 _ (0, 0) _ rfl (st3_heap (.int .i64 R.code) (.int .i64 R.n) (.string ⟨R.text.toArray⟩) HX2.out) Tryz.underlying35 rfl (by kernel_rfl)) rfl ⟨rfl, G2, V2, HK2.out.boxed hg hin HX2.out (by decide) (by decide) (by decide) (by decide), (HS.out.trans HS2.out).boxed hg (by omega)⟩

set_option maxRecDepth 100000 in
set_option maxHeartbeats 3200000 in
theorem Call_take (kb t : Nat) (F : List Nat) (V : List ThrV) (K : Ker) (c : Cal) (vc : Value) (w : World) (h : KerAt w kb F V K) (h1 : t < V.length) (h2 : t < K.ths.length) (hc : CalAt w vc c) (hk : c.kind = 7) (hx : c.text.length ≤ 64) (hs : K.ths[t].own.Pairwise (· < ·)) (hl : K.ths[t].own.length ≤ 8) (hxt : K.ths[t].text.length ≤ 1000) (hms : ∀ m ∈ K.ths[t].mails, MailFit m) (hml : K.ths[t].mails.length ≤ 1000) :
    Calls Tryz.prog 68 #[.pointer (some ⟨kb, 0, none⟩), .int .i64 t, vc] w fun e w' => e = .returned (repV (takeL K.ths[t] K.ths[t].mails).2) ∧ ∃ G V', KerAt w' kb G V' { K with ths := K.ths.set t (takeL K.ths[t] K.ths[t].mails).1 } ∧ KStep kb w F V w' G V' := by
  obtain ⟨vl, vg, rfl, hlab, hgra⟩ := hc
  obtain ⟨pl, cl, rfl, _⟩ := id hlab
  obtain ⟨pg, cg, rfl, _⟩ := id hgra
  unfold calV
  obtain ⟨ck, ch, ct, cn, cc, clb, cgr, cx⟩ := c
  simp only at hk hx hlab hgra ⊢
  subst hk
  have h4 : t < 4 := by rw [← h.len]; exact h1
  have hx2 : ¬ ((64 : Int) < (cx.length : Int)) := by omega
  have HA := hid ((h.reserve (.cells #[.int .i64 7, .int .i64 ch, .int .i64 ct, .int .i64 cn, .int .i64 cc, .slice pl clb.length cl, .slice pg cgr.length cg, .string ⟨cx.toArray⟩] 30)).reserve (.cells #[.int .i64 0, .int .i64 0, .string ⟨#[]⟩] 35))
  have HS := hid ((KStep.reserve kb w F V (.cells #[.int .i64 7, .int .i64 ch, .int .i64 ct, .int .i64 cn, .int .i64 cc, .slice pl clb.length cl, .slice pg cgr.length cg, .string ⟨cx.toArray⟩] 30)).trans (KStep.reserve kb _ _ V (.cells #[.int .i64 0, .int .i64 0, .string ⟨#[]⟩] 35)))
  have HBX := hid (heap_alloc2_new w (.cells #[.int .i64 7, .int .i64 ch, .int .i64 ct, .int .i64 cn, .int .i64 cc, .slice pl clb.length cl, .slice pg cgr.length cg, .string ⟨cx.toArray⟩] 30) (.cells #[.int .i64 0, .int .i64 0, .string ⟨#[]⟩] 35))
  have HWB : Hid (Below w.heap.size w ((w.alloc (.cells #[.int .i64 7, .int .i64 ch, .int .i64 ct, .int .i64 cn, .int .i64 cc, .slice pl clb.length cl, .slice pg cgr.length cg, .string ⟨cx.toArray⟩] 30)).alloc (.cells #[.int .i64 0, .int .i64 0, .string ⟨#[]⟩] 35))) := hid ((below_box w _).alloc (by simp) _)
  have hin1 := takeMail_k kb (2 + t * 5) _ V[t] K.ths[t] _ (HA.out.tat t h1 h2) hs hl hxt hms hml
  have HC := hid hin1
  clear hin1
  generalize (takeL K.ths[t] K.ths[t].mails).1 = T at *
  generalize (takeL K.ths[t] K.ths[t].mails).2 = R at *
  clear h
  go_enter Tryz.func68, Tryz.ntmps68
  go_wp2_with (first
    | (go_at_call 58; refine (thread_in kb t _ h4).mono ?_; rintro e w1 ⟨rfl, rfl⟩)
    | (go_at_call 93; refine HC.out.mono ?_; rintro e w2 ⟨rfl, G2, v2, ht2, hs⟩; have hk2 := HA.out.step h1 h2 ht2 hs; have hs2 := KStep.of h1 hs; have hx2' := box_kstep hs2 HA.out HBX.out (by decide) (by decide) (by decide) (by decide); obtain ⟨c0, c1, c2, f0, f1, f2⟩ := cells3 hx2'; have HX2 := hid hx2'; have HK2 := hid hk2; have HS2 := hid hs2; clear hx2' hk2 hs2; generalize V.set t v2 = V2 at *; unfold repV))
  have hin : w.heap.size + 1 ∈ G2 := HS2.out.more.1 _ (by simp)
  have hg := st3_grown w2 (w.heap.size + 1) (.int .i64 R.code) (.int .i64 R.n) (.string ⟨R.text.toArray⟩)
  exact bodyPost_ret (results_cell_row rfl _ _ (w.heap.size + 1) 35 _ (0, 0) _ rfl (st3_heap (.int .i64 R.code) (.int .i64 R.n) (.string ⟨R.text.toArray⟩) HX2.out) Tryz.underlying35 rfl (by kernel_rfl)) rfl ⟨rfl, G2, V2, HK2.out.boxed hg hin HX2.out (by decide) (by decide) (by decide) (by decide), (HS.out.trans HS2.out).boxed hg (by omega)⟩

end Go.Proofs.YtgpldlbmjakjhaaGreat

namespace Go.Proofs.YtgpldlbmjakjhaaGreat
open Go.RowKit Go.Proofs.Parclose

set_option maxRecDepth 100000 in
set_option maxHeartbeats 3200000 in
theorem Call_category (kb t : Nat) (F : List Nat) (V : List ThrV) (K : Ker) (c : Cal) (vc : Value) (w : World) (h : KerAt w kb F V K) (h1 : t < V.length) (h2 : t < K.ths.length) (hc : CalAt w vc c) (hk : c.kind = 1) (hx : c.text.length ≤ 64) (hs : K.ths[t].own.Pairwise (· < ·)) (hl : K.ths[t].own.length ≤ 8) (hh : 0 ≤ K.host ∧ K.host < 4) (hm : 0 ≤ K.made ∧ K.made ≤ 20) :
    Calls Tryz.prog 68 #[.pointer (some ⟨kb, 0, none⟩), .int .i64 t, vc] w fun e w' => e = .returned (repV (categoryL K t K.ths[t]).2) ∧ ∃ G V', KerAt w' kb G V' (categoryL K t K.ths[t]).1 ∧ KStep kb w F V w' G V' := by
  obtain ⟨vl, vg, rfl, hlab, hgra⟩ := hc
  obtain ⟨pl, cl, rfl, _⟩ := id hlab
  obtain ⟨pg, cg, rfl, _⟩ := id hgra
  unfold calV
  obtain ⟨ck, ch, ct, cn, cc, clb, cgr, cx⟩ := c
  simp only at hk hx hlab hgra ⊢
  subst hk
  have h4 : t < 4 := by rw [← h.len]; exact h1
  have hx2 : ¬ ((64 : Int) < (cx.length : Int)) := by omega
  have HA := hid ((h.reserve (.cells #[.int .i64 1, .int .i64 ch, .int .i64 ct, .int .i64 cn, .int .i64 cc, .slice pl clb.length cl, .slice pg cgr.length cg, .string ⟨cx.toArray⟩] 30)).reserve (.cells #[.int .i64 0, .int .i64 0, .string ⟨#[]⟩] 35))
  have HS := hid ((KStep.reserve kb w F V (.cells #[.int .i64 1, .int .i64 ch, .int .i64 ct, .int .i64 cn, .int .i64 cc, .slice pl clb.length cl, .slice pg cgr.length cg, .string ⟨cx.toArray⟩] 30)).trans (KStep.reserve kb _ _ V (.cells #[.int .i64 0, .int .i64 0, .string ⟨#[]⟩] 35)))
  have HBX := hid (heap_alloc2_new w (.cells #[.int .i64 1, .int .i64 ch, .int .i64 ct, .int .i64 cn, .int .i64 cc, .slice pl clb.length cl, .slice pg cgr.length cg, .string ⟨cx.toArray⟩] 30) (.cells #[.int .i64 0, .int .i64 0, .string ⟨#[]⟩] 35))
  have HWB : Hid (Below w.heap.size w ((w.alloc (.cells #[.int .i64 1, .int .i64 ch, .int .i64 ct, .int .i64 cn, .int .i64 cc, .slice pl clb.length cl, .slice pg cgr.length cg, .string ⟨cx.toArray⟩] 30)).alloc (.cells #[.int .i64 0, .int .i64 0, .string ⟨#[]⟩] 35))) := hid ((below_box w _).alloc (by simp) _)
  have hin1 := makeCat_any kb t _ V K _ HA.out h1 h2 hs hl hh hm
  have HC := hid hin1
  clear hin1
  generalize (categoryL K t K.ths[t]).1 = T at *
  generalize (categoryL K t K.ths[t]).2 = R at *
  clear h
  go_enter Tryz.func68, Tryz.ntmps68
  go_wp2_with (first
    | (go_at_call 58; refine (thread_in kb t _ h4).mono ?_; rintro e w1 ⟨rfl, rfl⟩)
    | (go_at_call 88; refine HC.out.mono ?_; rintro e w2 ⟨rfl, G2, V2, hk2, hs2⟩; have hx2' := box_kstep hs2 HA.out HBX.out (by decide) (by decide) (by decide) (by decide); obtain ⟨c0, c1, c2, f0, f1, f2⟩ := cells3 hx2'; have HX2 := hid hx2'; have HK2 := hid hk2; have HS2 := hid hs2; clear hx2' hk2 hs2; unfold repV))
  have hin : w.heap.size + 1 ∈ G2 := HS2.out.more.1 _ (by simp)
  have hg := st3_grown w2 (w.heap.size + 1) (.int .i64 R.code) (.int .i64 R.n) (.string ⟨R.text.toArray⟩)
  exact bodyPost_ret (results_cell_row rfl _ _ (w.heap.size + 1) 35 _ (0, 0) _ rfl (st3_heap (.int .i64 R.code) (.int .i64 R.n) (.string ⟨R.text.toArray⟩) HX2.out) Tryz.underlying35 rfl (by kernel_rfl)) rfl ⟨rfl, G2, V2, HK2.out.boxed hg hin HX2.out (by decide) (by decide) (by decide) (by decide), (HS.out.trans HS2.out).boxed hg (by omega)⟩

set_option maxRecDepth 100000 in
set_option maxHeartbeats 3200000 in
theorem Call_put (kb t : Nat) (F : List Nat) (V : List ThrV) (K : Ker) (c : Cal) (vc : Value) (w : World) (h : KerAt w kb F V K) (h1 : t < V.length) (hc : CalAt w vc c) (hk : c.kind = 3) (hx : c.text.length ≤ 64) (K2 : Ker) (R : Rep) (HP : ∀ w1 F1 vc1, KerAt w1 kb F1 V K → CalAt w1 vc1 c → Calls Tryz.prog 90 #[.pointer (some ⟨kb, 0, none⟩), .pointer (some ⟨kb, 2 + t * 5, none⟩), vc1] w1 fun e w' => e = .returned (repV R) ∧ ∃ G, KerAt w' kb G V K2 ∧ KStep kb w1 F1 V w' G V) :
    Calls Tryz.prog 68 #[.pointer (some ⟨kb, 0, none⟩), .int .i64 t, vc] w fun e w' => e = .returned (repV R) ∧ ∃ G V', KerAt w' kb G V' K2 ∧ KStep kb w F V w' G V' := by
  obtain ⟨vl, vg, rfl, hlab, hgra⟩ := hc
  obtain ⟨pl, cl, rfl, _⟩ := id hlab
  obtain ⟨pg, cg, rfl, _⟩ := id hgra
  unfold calV
  obtain ⟨ck, ch, ct, cn, cc, clb, cgr, cx⟩ := c
  simp only at hk hx hlab hgra ⊢
  subst hk
  have h4 : t < 4 := by rw [← h.len]; exact h1
  have hx2 : ¬ ((64 : Int) < (cx.length : Int)) := by omega
  have HA := hid ((h.reserve (.cells #[.int .i64 3, .int .i64 ch, .int .i64 ct, .int .i64 cn, .int .i64 cc, .slice pl clb.length cl, .slice pg cgr.length cg, .string ⟨cx.toArray⟩] 30)).reserve (.cells #[.int .i64 0, .int .i64 0, .string ⟨#[]⟩] 35))
  have HS := hid ((KStep.reserve kb w F V (.cells #[.int .i64 3, .int .i64 ch, .int .i64 ct, .int .i64 cn, .int .i64 cc, .slice pl clb.length cl, .slice pg cgr.length cg, .string ⟨cx.toArray⟩] 30)).trans (KStep.reserve kb _ _ V (.cells #[.int .i64 0, .int .i64 0, .string ⟨#[]⟩] 35)))
  have HBX := hid (heap_alloc2_new w (.cells #[.int .i64 3, .int .i64 ch, .int .i64 ct, .int .i64 cn, .int .i64 cc, .slice pl clb.length cl, .slice pg cgr.length cg, .string ⟨cx.toArray⟩] 30) (.cells #[.int .i64 0, .int .i64 0, .string ⟨#[]⟩] 35))
  have HWB : Hid (Below w.heap.size w ((w.alloc (.cells #[.int .i64 3, .int .i64 ch, .int .i64 ct, .int .i64 cn, .int .i64 cc, .slice pl clb.length cl, .slice pg cgr.length cg, .string ⟨cx.toArray⟩] 30)).alloc (.cells #[.int .i64 0, .int .i64 0, .string ⟨#[]⟩] 35))) := hid ((below_box w _).alloc (by simp) _)
  have hin1 := HP _ _ _ HA.out ⟨_, _, rfl, hlab.below HWB.out, hgra.below HWB.out⟩
  have HC := hid hin1
  clear hin1 HP
  clear h
  go_enter Tryz.func68, Tryz.ntmps68
  go_wp2_with (first
    | (go_at_call 58; refine (thread_in kb t _ h4).mono ?_; rintro e w1 ⟨rfl, rfl⟩)
    | (go_at_call 90; refine HC.out.mono ?_; rintro e w2 ⟨rfl, G2, hk2, hs2⟩; obtain ⟨V2, hk2, hs2⟩ : ∃ V2, KerAt w2 kb G2 V2 K2 ∧ KStep kb _ _ V w2 G2 V2 := ⟨V, hk2, hs2⟩; have hx2' := box_kstep hs2 HA.out HBX.out (by decide) (by decide) (by decide) (by decide); obtain ⟨c0, c1, c2, f0, f1, f2⟩ := cells3 hx2'; have HX2 := hid hx2'; have HK2 := hid hk2; have HS2 := hid hs2; clear hx2' hk2 hs2; unfold repV))
  have hin : w.heap.size + 1 ∈ G2 := HS2.out.more.1 _ (by simp)
  have hg := st3_grown w2 (w.heap.size + 1) (.int .i64 R.code) (.int .i64 R.n) (.string ⟨R.text.toArray⟩)
  exact bodyPost_ret (results_cell_row rfl _ _ (w.heap.size + 1) 35 _ (0, 0) _ rfl (st3_heap (.int .i64 R.code) (.int .i64 R.n) (.string ⟨R.text.toArray⟩) HX2.out) Tryz.underlying35 rfl (by kernel_rfl)) rfl ⟨rfl, G2, V2, HK2.out.boxed hg hin HX2.out (by decide) (by decide) (by decide) (by decide), (HS.out.trans HS2.out).boxed hg (by omega)⟩

set_option maxRecDepth 100000 in
set_option maxHeartbeats 3200000 in
theorem Call_get (kb t : Nat) (F : List Nat) (V : List ThrV) (K : Ker) (c : Cal) (vc : Value) (w : World) (h : KerAt w kb F V K) (h1 : t < V.length) (hc : CalAt w vc c) (hk : c.kind = 4) (hx : c.text.length ≤ 64) (K2 : Ker) (R : Rep) (HP : ∀ w1 F1 vc1, KerAt w1 kb F1 V K → CalAt w1 vc1 c → Calls Tryz.prog 91 #[.pointer (some ⟨kb, 0, none⟩), .pointer (some ⟨kb, 2 + t * 5, none⟩), vc1] w1 fun e w' => e = .returned (repV R) ∧ ∃ G, KerAt w' kb G V K2 ∧ KStep kb w1 F1 V w' G V) :
    Calls Tryz.prog 68 #[.pointer (some ⟨kb, 0, none⟩), .int .i64 t, vc] w fun e w' => e = .returned (repV R) ∧ ∃ G V', KerAt w' kb G V' K2 ∧ KStep kb w F V w' G V' := by
  obtain ⟨vl, vg, rfl, hlab, hgra⟩ := hc
  obtain ⟨pl, cl, rfl, _⟩ := id hlab
  obtain ⟨pg, cg, rfl, _⟩ := id hgra
  unfold calV
  obtain ⟨ck, ch, ct, cn, cc, clb, cgr, cx⟩ := c
  simp only at hk hx hlab hgra ⊢
  subst hk
  have h4 : t < 4 := by rw [← h.len]; exact h1
  have hx2 : ¬ ((64 : Int) < (cx.length : Int)) := by omega
  have HA := hid ((h.reserve (.cells #[.int .i64 4, .int .i64 ch, .int .i64 ct, .int .i64 cn, .int .i64 cc, .slice pl clb.length cl, .slice pg cgr.length cg, .string ⟨cx.toArray⟩] 30)).reserve (.cells #[.int .i64 0, .int .i64 0, .string ⟨#[]⟩] 35))
  have HS := hid ((KStep.reserve kb w F V (.cells #[.int .i64 4, .int .i64 ch, .int .i64 ct, .int .i64 cn, .int .i64 cc, .slice pl clb.length cl, .slice pg cgr.length cg, .string ⟨cx.toArray⟩] 30)).trans (KStep.reserve kb _ _ V (.cells #[.int .i64 0, .int .i64 0, .string ⟨#[]⟩] 35)))
  have HBX := hid (heap_alloc2_new w (.cells #[.int .i64 4, .int .i64 ch, .int .i64 ct, .int .i64 cn, .int .i64 cc, .slice pl clb.length cl, .slice pg cgr.length cg, .string ⟨cx.toArray⟩] 30) (.cells #[.int .i64 0, .int .i64 0, .string ⟨#[]⟩] 35))
  have HWB : Hid (Below w.heap.size w ((w.alloc (.cells #[.int .i64 4, .int .i64 ch, .int .i64 ct, .int .i64 cn, .int .i64 cc, .slice pl clb.length cl, .slice pg cgr.length cg, .string ⟨cx.toArray⟩] 30)).alloc (.cells #[.int .i64 0, .int .i64 0, .string ⟨#[]⟩] 35))) := hid ((below_box w _).alloc (by simp) _)
  have hin1 := HP _ _ _ HA.out ⟨_, _, rfl, hlab.below HWB.out, hgra.below HWB.out⟩
  have HC := hid hin1
  clear hin1 HP
  clear h
  go_enter Tryz.func68, Tryz.ntmps68
  go_wp2_with (first
    | (go_at_call 58; refine (thread_in kb t _ h4).mono ?_; rintro e w1 ⟨rfl, rfl⟩)
    | (go_at_call 91; refine HC.out.mono ?_; rintro e w2 ⟨rfl, G2, hk2, hs2⟩; obtain ⟨V2, hk2, hs2⟩ : ∃ V2, KerAt w2 kb G2 V2 K2 ∧ KStep kb _ _ V w2 G2 V2 := ⟨V, hk2, hs2⟩; have hx2' := box_kstep hs2 HA.out HBX.out (by decide) (by decide) (by decide) (by decide); obtain ⟨c0, c1, c2, f0, f1, f2⟩ := cells3 hx2'; have HX2 := hid hx2'; have HK2 := hid hk2; have HS2 := hid hs2; clear hx2' hk2 hs2; unfold repV))
  have hin : w.heap.size + 1 ∈ G2 := HS2.out.more.1 _ (by simp)
  have hg := st3_grown w2 (w.heap.size + 1) (.int .i64 R.code) (.int .i64 R.n) (.string ⟨R.text.toArray⟩)
  exact bodyPost_ret (results_cell_row rfl _ _ (w.heap.size + 1) 35 _ (0, 0) _ rfl (st3_heap (.int .i64 R.code) (.int .i64 R.n) (.string ⟨R.text.toArray⟩) HX2.out) Tryz.underlying35 rfl (by kernel_rfl)) rfl ⟨rfl, G2, V2, HK2.out.boxed hg hin HX2.out (by decide) (by decide) (by decide) (by decide), (HS.out.trans HS2.out).boxed hg (by omega)⟩

end Go.Proofs.YtgpldlbmjakjhaaGreat
