/- kernel.Call, kind by kind: level, and kinds that are none. -/
import Derived.Test.YtgpldlbmjakjhaaGreatQKLevel
namespace Go.Proofs.YtgpldlbmjakjhaaGreat
open Go.RowKit Go.Proofs.Parclose

set_option maxRecDepth 100000 in
set_option maxHeartbeats 3200000 in
theorem Call_level (kb t : Nat) (F : List Nat) (V : List ThrV) (K : Ker) (c : Cal) (vc : Value) (w : World) (h : KerAt w kb F V K) (h1 : t < V.length) (h2 : t < K.ths.length) (hc : CalAt w vc c) (hk : c.kind = 5) (hx : c.text.length ≤ 64) (hl : K.ths[t].own.length ≤ 1000) :
    Calls Tryz.prog 68 #[.pointer (some ⟨kb, 0, none⟩), .int .i64 t, vc] w fun e w' => e = .returned (repV (code (levelL K.ths[t] c.c c.n).2)) ∧ ∃ G V', KerAt w' kb G V' { K with ths := K.ths.set t (levelL K.ths[t] c.c c.n).1 } ∧ KStep kb w F V w' G V' := by
  obtain ⟨vl, vg, rfl, hlab, hgra⟩ := hc
  obtain ⟨pl, cl, rfl, _⟩ := id hlab
  obtain ⟨pg, cg, rfl, _⟩ := id hgra
  unfold calV
  obtain ⟨ck, ch, ct, cn, cc, clb, cgr, cx⟩ := c
  simp only at hk hx hlab hgra ⊢
  subst hk
  have h4 : t < 4 := by rw [← h.len]; exact h1
  have hx2 : ¬ ((64 : Int) < (cx.length : Int)) := by omega
  have HA := hid ((h.reserve (.cells #[.int .i64 5, .int .i64 ch, .int .i64 ct, .int .i64 cn, .int .i64 cc, .slice pl clb.length cl, .slice pg cgr.length cg, .string ⟨cx.toArray⟩] 30)).reserve (.cells #[.int .i64 0, .int .i64 0, .string ⟨#[]⟩] 35))
  have HS := hid ((KStep.reserve kb w F V (.cells #[.int .i64 5, .int .i64 ch, .int .i64 ct, .int .i64 cn, .int .i64 cc, .slice pl clb.length cl, .slice pg cgr.length cg, .string ⟨cx.toArray⟩] 30)).trans (KStep.reserve kb _ _ V (.cells #[.int .i64 0, .int .i64 0, .string ⟨#[]⟩] 35)))
  have HBX := hid (heap_alloc2_new w (.cells #[.int .i64 5, .int .i64 ch, .int .i64 ct, .int .i64 cn, .int .i64 cc, .slice pl clb.length cl, .slice pg cgr.length cg, .string ⟨cx.toArray⟩] 30) (.cells #[.int .i64 0, .int .i64 0, .string ⟨#[]⟩] 35))
  have HWB : Hid (Below w.heap.size w ((w.alloc (.cells #[.int .i64 5, .int .i64 ch, .int .i64 ct, .int .i64 cn, .int .i64 cc, .slice pl clb.length cl, .slice pg cgr.length cg, .string ⟨cx.toArray⟩] 30)).alloc (.cells #[.int .i64 0, .int .i64 0, .string ⟨#[]⟩] 35))) := hid ((below_box w _).alloc (by simp) _)
  have hin1 := setLevel_any kb (2 + t * 5) _ V[t] K.ths[t] cc cn _ (HA.out.tat t h1 h2) hl
  have HC := hid hin1
  clear hin1
  generalize (levelL K.ths[t] cc cn).1 = T at *
  generalize (levelL K.ths[t] cc cn).2 = R0 at *
  clear h
  go_enter Tryz.func68, Tryz.ntmps68
  go_wp2_with (first
    | (go_at_call 58; refine (thread_in kb t _ h4).mono ?_; rintro e w1 ⟨rfl, rfl⟩)
    | (go_at_call 92; refine HC.out.mono ?_; rintro e w5 ⟨rfl, v2, ht2, hs⟩; have HK1 := hid (HA.out.step h1 h2 ht2 hs); have HS1 := hid (KStep.of h1 hs); have HX1 := hid (box_kstep HS1.out HA.out HBX.out (by decide) (by decide) (by decide) (by decide)); clear ht2 hs)
    | (go_at_call 87; refine (answer_lit _ _).mono ?_; rintro e w2 ⟨rfl, hw2⟩; obtain ⟨G2, V2, hk2, hs2⟩ : ∃ G2 V2, KerAt w2 kb G2 V2 { K with ths := K.ths.set t T } ∧ KStep kb _ _ V w2 G2 V2 := ⟨_, _, HK1.out.below hw2, HS1.out.trans (KStep.below hw2)⟩; have hx2' := heap_keep HX1.out hw2; obtain ⟨c0, c1, c2, f0, f1, f2⟩ := cells3 hx2'; have HX2 := hid hx2'; have HK2 := hid hk2; have HS2 := hid hs2; clear hx2' hk2 hs2 hw2))
  have hin : w.heap.size + 1 ∈ G2 := HS2.out.more.1 _ (by simp)
  have hg := st3_grown w2 (w.heap.size + 1) (.int .i64 R0) (.int .i64 0) (.string ⟨#[]⟩)
  exact bodyPost_ret (results_cell_row rfl _ _ (w.heap.size + 1) 35 _ (0, 0) _ rfl (st3_heap (.int .i64 R0) (.int .i64 0) (.string ⟨#[]⟩) HX2.out) Tryz.underlying35 rfl (by kernel_rfl)) rfl ⟨rfl, G2, V2, HK2.out.boxed hg hin HX2.out (by decide) (by decide) (by decide) (by decide), (HS.out.trans HS2.out).boxed hg (by omega)⟩

end Go.Proofs.YtgpldlbmjakjhaaGreat

namespace Go.Proofs.YtgpldlbmjakjhaaGreat
open Go.RowKit Go.Proofs.Parclose

set_option maxRecDepth 100000 in
set_option maxHeartbeats 3200000 in
theorem Call_other (kb t : Nat) (F : List Nat) (V : List ThrV) (K : Ker) (c : Cal) (vc : Value) (w : World) (h : KerAt w kb F V K) (h1 : t < V.length) (hc : CalAt w vc c) (hx : c.text.length ≤ 64) (n1 : c.kind ≠ 1) (n2 : c.kind ≠ 2) (n3 : c.kind ≠ 3) (n4 : c.kind ≠ 4) (n5 : c.kind ≠ 5) (n7 : c.kind ≠ 7) (n9 : c.kind ≠ 9) (n10 : c.kind ≠ 10) :
    Calls Tryz.prog 68 #[.pointer (some ⟨kb, 0, none⟩), .int .i64 t, vc] w fun e w' => e = .returned (repV (code 3)) ∧ ∃ G V', KerAt w' kb G V' K ∧ KStep kb w F V w' G V' := by
  obtain ⟨vl, vg, rfl, hlab, hgra⟩ := hc
  obtain ⟨pl, cl, rfl, _⟩ := id hlab
  obtain ⟨pg, cg, rfl, _⟩ := id hgra
  unfold calV
  obtain ⟨ck, ch, ct, cn, cc, clb, cgr, cx⟩ := c
  simp only at hx hlab hgra ⊢
  have h4 : t < 4 := by rw [← h.len]; exact h1
  have hx2 : ¬ ((64 : Int) < (cx.length : Int)) := by omega
  have HA := hid ((h.reserve (.cells #[.int .i64 ck, .int .i64 ch, .int .i64 ct, .int .i64 cn, .int .i64 cc, .slice pl clb.length cl, .slice pg cgr.length cg, .string ⟨cx.toArray⟩] 30)).reserve (.cells #[.int .i64 0, .int .i64 0, .string ⟨#[]⟩] 35))
  have HS := hid ((KStep.reserve kb w F V (.cells #[.int .i64 ck, .int .i64 ch, .int .i64 ct, .int .i64 cn, .int .i64 cc, .slice pl clb.length cl, .slice pg cgr.length cg, .string ⟨cx.toArray⟩] 30)).trans (KStep.reserve kb _ _ V (.cells #[.int .i64 0, .int .i64 0, .string ⟨#[]⟩] 35)))
  have HBX := hid (heap_alloc2_new w (.cells #[.int .i64 ck, .int .i64 ch, .int .i64 ct, .int .i64 cn, .int .i64 cc, .slice pl clb.length cl, .slice pg cgr.length cg, .string ⟨cx.toArray⟩] 30) (.cells #[.int .i64 0, .int .i64 0, .string ⟨#[]⟩] 35))
  have HWB : Hid (Below w.heap.size w ((w.alloc (.cells #[.int .i64 ck, .int .i64 ch, .int .i64 ct, .int .i64 cn, .int .i64 cc, .slice pl clb.length cl, .slice pg cgr.length cg, .string ⟨cx.toArray⟩] 30)).alloc (.cells #[.int .i64 0, .int .i64 0, .string ⟨#[]⟩] 35))) := hid ((below_box w _).alloc (by simp) _)
  simp only at n1 n2 n3 n4 n5 n7 n9 n10
  have HK1 := hid HA.out
  have HS1 := hid (KStep.refl kb ((w.alloc (.cells #[.int .i64 ck, .int .i64 ch, .int .i64 ct, .int .i64 cn, .int .i64 cc, .slice pl clb.length cl, .slice pg cgr.length cg, .string ⟨cx.toArray⟩] 30)).alloc (.cells #[.int .i64 0, .int .i64 0, .string ⟨#[]⟩] 35)) (F ++ [w.heap.size] ++ [(w.alloc (.cells #[.int .i64 ck, .int .i64 ch, .int .i64 ct, .int .i64 cn, .int .i64 cc, .slice pl clb.length cl, .slice pg cgr.length cg, .string ⟨cx.toArray⟩] 30)).heap.size]) V)
  have HX1 := hid HBX.out
  clear h
  go_enter Tryz.func68, Tryz.ntmps68
  go_wp2_with (first
    | (go_at_call 58; refine (thread_in kb t _ h4).mono ?_; rintro e w1 ⟨rfl, rfl⟩)
    | (go_at_call 87; refine (answer_lit _ _).mono ?_; rintro e w2 ⟨rfl, hw2⟩; obtain ⟨G2, V2, hk2, hs2⟩ : ∃ G2 V2, KerAt w2 kb G2 V2 K ∧ KStep kb _ _ V w2 G2 V2 := ⟨_, _, HK1.out.below hw2, HS1.out.trans (KStep.below hw2)⟩; have hx2' := heap_keep HX1.out hw2; obtain ⟨c0, c1, c2, f0, f1, f2⟩ := cells3 hx2'; have HX2 := hid hx2'; have HK2 := hid hk2; have HS2 := hid hs2; clear hx2' hk2 hs2 hw2))
  have hin : w.heap.size + 1 ∈ G2 := HS2.out.more.1 _ (by simp)
  have hg := st3_grown w2 (w.heap.size + 1) (.int .i64 3) (.int .i64 0) (.string ⟨#[]⟩)
  exact bodyPost_ret (results_cell_row rfl _ _ (w.heap.size + 1) 35 _ (0, 0) _ rfl (st3_heap (.int .i64 3) (.int .i64 0) (.string ⟨#[]⟩) HX2.out) Tryz.underlying35 rfl (by kernel_rfl)) rfl ⟨rfl, G2, V2, HK2.out.boxed hg hin HX2.out (by decide) (by decide) (by decide) (by decide), (HS.out.trans HS2.out).boxed hg (by omega)⟩

end Go.Proofs.YtgpldlbmjakjhaaGreat

namespace Go.Proofs.YtgpldlbmjakjhaaGreat
open Go.RowKit Go.Proofs.Parclose

set_option maxRecDepth 100000 in
set_option maxHeartbeats 3200000 in
theorem Call_long (kb t : Nat) (F : List Nat) (V : List ThrV) (K : Ker) (c : Cal) (vc : Value) (w : World) (h : KerAt w kb F V K) (h1 : t < V.length) (hc : CalAt w vc c) (hx : 64 < c.text.length) :
    Calls Tryz.prog 68 #[.pointer (some ⟨kb, 0, none⟩), .int .i64 t, vc] w fun e w' => e = .returned (repV (code 9)) ∧ ∃ G V', KerAt w' kb G V' K ∧ KStep kb w F V w' G V' := by
  obtain ⟨vl, vg, rfl, hlab, hgra⟩ := hc
  obtain ⟨pl, cl, rfl, _⟩ := id hlab
  obtain ⟨pg, cg, rfl, _⟩ := id hgra
  unfold calV
  obtain ⟨ck, ch, ct, cn, cc, clb, cgr, cx⟩ := c
  simp only at hx hlab hgra ⊢
  have h4 : t < 4 := by rw [← h.len]; exact h1
  have hx2 : (64 : Int) < (cx.length : Int) := by omega
  have HA := hid ((h.reserve (.cells #[.int .i64 ck, .int .i64 ch, .int .i64 ct, .int .i64 cn, .int .i64 cc, .slice pl clb.length cl, .slice pg cgr.length cg, .string ⟨cx.toArray⟩] 30)).reserve (.cells #[.int .i64 0, .int .i64 0, .string ⟨#[]⟩] 35))
  have HS := hid ((KStep.reserve kb w F V (.cells #[.int .i64 ck, .int .i64 ch, .int .i64 ct, .int .i64 cn, .int .i64 cc, .slice pl clb.length cl, .slice pg cgr.length cg, .string ⟨cx.toArray⟩] 30)).trans (KStep.reserve kb _ _ V (.cells #[.int .i64 0, .int .i64 0, .string ⟨#[]⟩] 35)))
  have HBX := hid (heap_alloc2_new w (.cells #[.int .i64 ck, .int .i64 ch, .int .i64 ct, .int .i64 cn, .int .i64 cc, .slice pl clb.length cl, .slice pg cgr.length cg, .string ⟨cx.toArray⟩] 30) (.cells #[.int .i64 0, .int .i64 0, .string ⟨#[]⟩] 35))
  have HWB : Hid (Below w.heap.size w ((w.alloc (.cells #[.int .i64 ck, .int .i64 ch, .int .i64 ct, .int .i64 cn, .int .i64 cc, .slice pl clb.length cl, .slice pg cgr.length cg, .string ⟨cx.toArray⟩] 30)).alloc (.cells #[.int .i64 0, .int .i64 0, .string ⟨#[]⟩] 35))) := hid ((below_box w _).alloc (by simp) _)
  have HK1 := hid HA.out
  have HS1 := hid (KStep.refl kb ((w.alloc (.cells #[.int .i64 ck, .int .i64 ch, .int .i64 ct, .int .i64 cn, .int .i64 cc, .slice pl clb.length cl, .slice pg cgr.length cg, .string ⟨cx.toArray⟩] 30)).alloc (.cells #[.int .i64 0, .int .i64 0, .string ⟨#[]⟩] 35)) (F ++ [w.heap.size] ++ [(w.alloc (.cells #[.int .i64 ck, .int .i64 ch, .int .i64 ct, .int .i64 cn, .int .i64 cc, .slice pl clb.length cl, .slice pg cgr.length cg, .string ⟨cx.toArray⟩] 30)).heap.size]) V)
  have HX1 := hid HBX.out
  clear h
  go_enter Tryz.func68, Tryz.ntmps68
  go_wp2_with (first
    | (go_at_call 58; refine (thread_in kb t _ h4).mono ?_; rintro e w1 ⟨rfl, rfl⟩)
    | (go_at_call 87; refine (answer_lit _ _).mono ?_; rintro e w2 ⟨rfl, hw2⟩; obtain ⟨G2, V2, hk2, hs2⟩ : ∃ G2 V2, KerAt w2 kb G2 V2 K ∧ KStep kb _ _ V w2 G2 V2 := ⟨_, _, HK1.out.below hw2, HS1.out.trans (KStep.below hw2)⟩; have hx2' := heap_keep HX1.out hw2; obtain ⟨c0, c1, c2, f0, f1, f2⟩ := cells3 hx2'; have HX2 := hid hx2'; have HK2 := hid hk2; have HS2 := hid hs2; clear hx2' hk2 hs2 hw2))
  have hin : w.heap.size + 1 ∈ G2 := HS2.out.more.1 _ (by simp)
  have hg := st3_grown w2 (w.heap.size + 1) (.int .i64 9) (.int .i64 0) (.string ⟨#[]⟩)
  exact bodyPost_ret (results_cell_row rfl _ _ (w.heap.size + 1) 35 _ (0, 0) _ rfl (st3_heap (.int .i64 9) (.int .i64 0) (.string ⟨#[]⟩) HX2.out) Tryz.underlying35 rfl (by kernel_rfl)) rfl ⟨rfl, G2, V2, HK2.out.boxed hg hin HX2.out (by decide) (by decide) (by decide) (by decide), (HS.out.trans HS2.out).boxed hg (by omega)⟩

end Go.Proofs.YtgpldlbmjakjhaaGreat

namespace Go.Proofs.YtgpldlbmjakjhaaGreat
open Go.RowKit Go.Proofs.Parclose

set_option maxRecDepth 100000 in
set_option maxHeartbeats 3200000 in
theorem Call_out (kb : Nat) (t : Int) (F : List Nat) (V : List ThrV) (K : Ker) (c : Cal) (vc : Value) (w : World) (h : KerAt w kb F V K) (h4 : ¬ (0 ≤ t ∧ t < 4)) (hc : CalAt w vc c) :
    Calls Tryz.prog 68 #[.pointer (some ⟨kb, 0, none⟩), .int .i64 t, vc] w fun e w' => e = .returned (repV (code 4)) ∧ ∃ G V', KerAt w' kb G V' K ∧ KStep kb w F V w' G V' := by
  obtain ⟨vl, vg, rfl, hlab, hgra⟩ := hc
  obtain ⟨pl, cl, rfl, _⟩ := id hlab
  obtain ⟨pg, cg, rfl, _⟩ := id hgra
  unfold calV
  obtain ⟨ck, ch, ct, cn, cc, clb, cgr, cx⟩ := c
  simp only at hlab hgra ⊢
  have HA := hid ((h.reserve (.cells #[.int .i64 ck, .int .i64 ch, .int .i64 ct, .int .i64 cn, .int .i64 cc, .slice pl clb.length cl, .slice pg cgr.length cg, .string ⟨cx.toArray⟩] 30)).reserve (.cells #[.int .i64 0, .int .i64 0, .string ⟨#[]⟩] 35))
  have HS := hid ((KStep.reserve kb w F V (.cells #[.int .i64 ck, .int .i64 ch, .int .i64 ct, .int .i64 cn, .int .i64 cc, .slice pl clb.length cl, .slice pg cgr.length cg, .string ⟨cx.toArray⟩] 30)).trans (KStep.reserve kb _ _ V (.cells #[.int .i64 0, .int .i64 0, .string ⟨#[]⟩] 35)))
  have HBX := hid (heap_alloc2_new w (.cells #[.int .i64 ck, .int .i64 ch, .int .i64 ct, .int .i64 cn, .int .i64 cc, .slice pl clb.length cl, .slice pg cgr.length cg, .string ⟨cx.toArray⟩] 30) (.cells #[.int .i64 0, .int .i64 0, .string ⟨#[]⟩] 35))
  have HWB : Hid (Below w.heap.size w ((w.alloc (.cells #[.int .i64 ck, .int .i64 ch, .int .i64 ct, .int .i64 cn, .int .i64 cc, .slice pl clb.length cl, .slice pg cgr.length cg, .string ⟨cx.toArray⟩] 30)).alloc (.cells #[.int .i64 0, .int .i64 0, .string ⟨#[]⟩] 35))) := hid ((below_box w _).alloc (by simp) _)
  have HK1 := hid HA.out
  have HS1 := hid (KStep.refl kb ((w.alloc (.cells #[.int .i64 ck, .int .i64 ch, .int .i64 ct, .int .i64 cn, .int .i64 cc, .slice pl clb.length cl, .slice pg cgr.length cg, .string ⟨cx.toArray⟩] 30)).alloc (.cells #[.int .i64 0, .int .i64 0, .string ⟨#[]⟩] 35)) (F ++ [w.heap.size] ++ [(w.alloc (.cells #[.int .i64 ck, .int .i64 ch, .int .i64 ct, .int .i64 cn, .int .i64 cc, .slice pl clb.length cl, .slice pg cgr.length cg, .string ⟨cx.toArray⟩] 30)).heap.size]) V)
  have HX1 := hid HBX.out
  clear h
  go_enter Tryz.func68, Tryz.ntmps68
  go_wp2_with (first
    | (go_at_call 58; refine (thread_out kb t _ h4).mono ?_; rintro e w1 ⟨rfl, rfl⟩)
    | (go_at_call 87; refine (answer_lit _ _).mono ?_; rintro e w2 ⟨rfl, hw2⟩; obtain ⟨G2, V2, hk2, hs2⟩ : ∃ G2 V2, KerAt w2 kb G2 V2 K ∧ KStep kb _ _ V w2 G2 V2 := ⟨_, _, HK1.out.below hw2, HS1.out.trans (KStep.below hw2)⟩; have hx2' := heap_keep HX1.out hw2; obtain ⟨c0, c1, c2, f0, f1, f2⟩ := cells3 hx2'; have HX2 := hid hx2'; have HK2 := hid hk2; have HS2 := hid hs2; clear hx2' hk2 hs2 hw2))
  have hin : w.heap.size + 1 ∈ G2 := HS2.out.more.1 _ (by simp)
  have hg := st3_grown w2 (w.heap.size + 1) (.int .i64 4) (.int .i64 0) (.string ⟨#[]⟩)
  exact bodyPost_ret (results_cell_row rfl _ _ (w.heap.size + 1) 35 _ (0, 0) _ rfl (st3_heap (.int .i64 4) (.int .i64 0) (.string ⟨#[]⟩) HX2.out) Tryz.underlying35 rfl (by kernel_rfl)) rfl ⟨rfl, G2, V2, HK2.out.boxed hg hin HX2.out (by decide) (by decide) (by decide) (by decide), (HS.out.trans HS2.out).boxed hg (by omega)⟩

end Go.Proofs.YtgpldlbmjakjhaaGreat

namespace Go.Proofs.YtgpldlbmjakjhaaGreat
open Go.RowKit Go.Proofs.Parclose

set_option maxRecDepth 100000 in
set_option maxHeartbeats 3200000 in
theorem Call_say (kb t : Nat) (F : List Nat) (V : List ThrV) (K : Ker) (c : Cal) (vc : Value) (w : World) (h : KerAt w kb F V K) (h1 : t < V.length) (h2 : t < K.ths.length) (hc : CalAt w vc c) (hk : c.kind = 10) (hx : c.text.length ≤ 64) :
    Calls Tryz.prog 68 #[.pointer (some ⟨kb, 0, none⟩), .int .i64 t, vc] w fun e w' => e = .returned (repV (⟨0, 0, K.ths[t].text⟩)) ∧ ∃ G V', KerAt w' kb G V' K ∧ KStep kb w F V w' G V' := by
  obtain ⟨vl, vg, rfl, hlab, hgra⟩ := hc
  obtain ⟨pl, cl, rfl, _⟩ := id hlab
  obtain ⟨pg, cg, rfl, _⟩ := id hgra
  unfold calV
  obtain ⟨ck, ch, ct, cn, cc, clb, cgr, cx⟩ := c
  simp only at hk hx hlab hgra ⊢
  subst hk
  have h4 : t < 4 := by rw [← h.len]; exact h1
  have hx2 : ¬ ((64 : Int) < (cx.length : Int)) := by omega
  have HA := hid ((h.reserve (.cells #[.int .i64 10, .int .i64 ch, .int .i64 ct, .int .i64 cn, .int .i64 cc, .slice pl clb.length cl, .slice pg cgr.length cg, .string ⟨cx.toArray⟩] 30)).reserve (.cells #[.int .i64 0, .int .i64 0, .string ⟨#[]⟩] 35))
  have HBX := hid (heap_alloc2_new w (.cells #[.int .i64 10, .int .i64 ch, .int .i64 ct, .int .i64 cn, .int .i64 cc, .slice pl clb.length cl, .slice pg cgr.length cg, .string ⟨cx.toArray⟩] 30) (.cells #[.int .i64 0, .int .i64 0, .string ⟨#[]⟩] 35))
  obtain ⟨t0, t1, t2, t3, t4⟩ := (HA.out.tat t h1 h2).cells
  obtain ⟨c0, c1, c2, f0, f1, f2⟩ := cells3 HBX.out
  have HH := hid h
  clear h
  go_enter Tryz.func68, Tryz.ntmps68
  go_wp2_with (go_at_call 58; refine (thread_in kb t _ h4).mono ?_; rintro e w1 ⟨rfl, rfl⟩)
  exact bodyPost_ret (results_cell_row rfl _ _ (w.heap.size + 1) 35 _ (0, 0) _ rfl (heap_alloc2_new w _ _) Tryz.underlying35 rfl (by kernel_rfl)) rfl ⟨rfl, _, V, HH.out.below ((below_box w _).alloc (by simp) _), KStep.below ((below_box w _).alloc (by simp) _)⟩

end Go.Proofs.YtgpldlbmjakjhaaGreat

namespace Go.Proofs.YtgpldlbmjakjhaaGreat
open Go.RowKit Go.Proofs.Parclose

set_option maxRecDepth 100000 in
set_option maxHeartbeats 3200000 in
theorem Call_forget (kb t : Nat) (F : List Nat) (V : List ThrV) (K : Ker) (c : Cal) (vc : Value) (w : World) (h : KerAt w kb F V K) (h1 : t < V.length) (h2 : t < K.ths.length) (hc : CalAt w vc c) (hk : c.kind = 9) (hx : c.text.length ≤ 64) :
    Calls Tryz.prog 68 #[.pointer (some ⟨kb, 0, none⟩), .int .i64 t, vc] w fun e w' => e = .returned (repV (code 0)) ∧ ∃ G V', KerAt w' kb G V' { K with ths := K.ths.set t { K.ths[t] with text := lastL c.text } } ∧ KStep kb w F V w' G V' := by
  obtain ⟨vl, vg, rfl, hlab, hgra⟩ := hc
  obtain ⟨pl, cl, rfl, _⟩ := id hlab
  obtain ⟨pg, cg, rfl, _⟩ := id hgra
  unfold calV
  obtain ⟨ck, ch, ct, cn, cc, clb, cgr, cx⟩ := c
  simp only at hk hx hlab hgra ⊢
  subst hk
  have h4 : t < 4 := by rw [← h.len]; exact h1
  have hx2 : ¬ ((64 : Int) < (cx.length : Int)) := by omega
  have HA := hid ((h.reserve (.cells #[.int .i64 9, .int .i64 ch, .int .i64 ct, .int .i64 cn, .int .i64 cc, .slice pl clb.length cl, .slice pg cgr.length cg, .string ⟨cx.toArray⟩] 30)).reserve (.cells #[.int .i64 0, .int .i64 0, .string ⟨#[]⟩] 35))
  have HS := hid ((KStep.reserve kb w F V (.cells #[.int .i64 9, .int .i64 ch, .int .i64 ct, .int .i64 cn, .int .i64 cc, .slice pl clb.length cl, .slice pg cgr.length cg, .string ⟨cx.toArray⟩] 30)).trans (KStep.reserve kb _ _ V (.cells #[.int .i64 0, .int .i64 0, .string ⟨#[]⟩] 35)))
  have HBX := hid (heap_alloc2_new w (.cells #[.int .i64 9, .int .i64 ch, .int .i64 ct, .int .i64 cn, .int .i64 cc, .slice pl clb.length cl, .slice pg cgr.length cg, .string ⟨cx.toArray⟩] 30) (.cells #[.int .i64 0, .int .i64 0, .string ⟨#[]⟩] 35))
  clear h
  go_enter Tryz.func68, Tryz.ntmps68
  go_wp2_with (first
    | (go_at_call 58; refine (thread_in kb t _ h4).mono ?_; rintro e w1 ⟨rfl, rfl⟩)
    | (go_at_call 94; refine (last_any cx _ (by omega)).mono ?_; rintro e w5 ⟨rfl, hw5⟩; have hk5 := HA.out.below hw5; have ht5 := hk5.tat t h1 h2; obtain ⟨_, _, d2, _, _⟩ := ht5.cells; have f2 := ht5.frozen (2 + t * 5 + 2); have hst := ht5.text (lastL cx); have HK1 := hid (hk5.step h1 h2 hst.1 hst.2); have HS1 := hid ((KStep.below hw5).trans (KStep.of h1 hst.2)); have HX1 := hid (box_kstep HS1.out HA.out HBX.out (by decide) (by decide) (by decide) (by decide)); clear hk5 ht5 hst hw5)
    | (go_at_call 87; refine (answer_lit _ _).mono ?_; rintro e w2 ⟨rfl, hw2⟩; obtain ⟨G2, V2, hk2, hs2⟩ : ∃ G2 V2, KerAt w2 kb G2 V2 { K with ths := K.ths.set t { K.ths[t] with text := lastL cx } } ∧ KStep kb _ _ V w2 G2 V2 := ⟨_, _, HK1.out.below hw2, HS1.out.trans (KStep.below hw2)⟩; have hx2' := heap_keep HX1.out hw2; obtain ⟨c0, c1, c2, f0, f1, f2⟩ := cells3 hx2'; have HX2 := hid hx2'; have HK2 := hid hk2; have HS2 := hid hs2; clear hx2' hk2 hs2 hw2))
  have hin : w.heap.size + 1 ∈ G2 := HS2.out.more.1 _ (by simp)
  have hg := st3_grown w2 (w.heap.size + 1) (.int .i64 0) (.int .i64 0) (.string ⟨#[]⟩)
  exact bodyPost_ret (results_cell_row rfl _ _ (w.heap.size + 1) 35 _ (0, 0) _ rfl (st3_heap (.int .i64 0) (.int .i64 0) (.string ⟨#[]⟩) HX2.out) Tryz.underlying35 rfl (by kernel_rfl)) rfl ⟨rfl, G2, V2, HK2.out.boxed hg hin HX2.out (by decide) (by decide) (by decide) (by decide), (HS.out.trans HS2.out).boxed hg (by omega)⟩
end Go.Proofs.YtgpldlbmjakjhaaGreat
