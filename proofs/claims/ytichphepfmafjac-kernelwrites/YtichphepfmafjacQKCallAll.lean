/- kernel.Call, kind by kind. -/
import Derived.Test.YtichphepfmafjacQKTake
import Derived.Test.YtichphepfmafjacQKLevel
import Derived.Test.YtichphepfmafjacQKGet
import Derived.Test.YtichphepfmafjacQPlainAll
namespace Go.Proofs.Ytichphepfmafjac
open Go.RowKit Go.Proofs.Parclose

set_option maxRecDepth 100000 in
set_option maxHeartbeats 3200000 in
theorem Call_object (kb t : Nat) (F : List Nat) (V : List ThrV) (K : Ker) (c : Cal) (vc : Value) (w : World) (h : KerAt w kb F V K) (h1 : t < V.length) (h2 : t < K.ths.length) (hc : CalAt w vc c) (hk : c.kind = 2) (hx : c.text.length ≤ 64) (hl : K.ths[t].own.length ≤ 1000) (hob : K.ths[t].objs.length ≤ 1000) :
    Calls Try.prog 19 #[.pointer (some ⟨kb, 0, none⟩), .int .i64 t, vc] w fun e w' => e = .returned (repV (objectL K.ths[t] c.label).2) ∧ ∃ G V', KerAt w' kb G V' { K with ths := K.ths.set t (objectL K.ths[t] c.label).1 } ∧ KStep kb w F V w' G V' := by
  obtain ⟨vl, vg, rfl, hlab, hgra⟩ := hc
  obtain ⟨pl, cl, rfl, _⟩ := id hlab
  obtain ⟨pg, cg, rfl, _⟩ := id hgra
  unfold calV
  obtain ⟨ck, ch, ct, cn, cc, clb, cgr, cx⟩ := c
  simp only at hk hx hlab hgra ⊢
  subst hk
  have h4 : t < 4 := by rw [← h.len]; exact h1
  have hx2 : ¬ ((64 : Int) < (cx.length : Int)) := by omega
  have HA := hid ((h.reserve (.cells #[.int .i64 2, .int .i64 ch, .int .i64 ct, .int .i64 cn, .int .i64 cc, .slice pl clb.length cl, .slice pg cgr.length cg, .string ⟨cx.toArray⟩] 33)).reserve (.cells #[.int .i64 0, .int .i64 0, .string ⟨#[]⟩] 40))
  have HS := hid ((KStep.reserve kb w F V (.cells #[.int .i64 2, .int .i64 ch, .int .i64 ct, .int .i64 cn, .int .i64 cc, .slice pl clb.length cl, .slice pg cgr.length cg, .string ⟨cx.toArray⟩] 33)).trans (KStep.reserve kb _ _ V (.cells #[.int .i64 0, .int .i64 0, .string ⟨#[]⟩] 40)))
  have HBX := hid (heap_alloc2_new w (.cells #[.int .i64 2, .int .i64 ch, .int .i64 ct, .int .i64 cn, .int .i64 cc, .slice pl clb.length cl, .slice pg cgr.length cg, .string ⟨cx.toArray⟩] 33) (.cells #[.int .i64 0, .int .i64 0, .string ⟨#[]⟩] 40))
  have HWB : Hid (Below w.heap.size w ((w.alloc (.cells #[.int .i64 2, .int .i64 ch, .int .i64 ct, .int .i64 cn, .int .i64 cc, .slice pl clb.length cl, .slice pg cgr.length cg, .string ⟨cx.toArray⟩] 33)).alloc (.cells #[.int .i64 0, .int .i64 0, .string ⟨#[]⟩] 40))) := hid ((below_box w _).alloc (by simp) _)
  have hin1 := makeObject_any kb (2 + t * 5) _ V[t] K.ths[t] (.slice pl clb.length cl) clb _ (HA.out.tat t h1 h2) hl hob (hlab.below HWB.out)
  have HC := hid hin1
  clear hin1
  generalize (objectL K.ths[t] clb).1 = T at *
  generalize (objectL K.ths[t] clb).2 = R at *
  clear h
  go_enter Try.func19, Try.ntmps19
  go_wp2_with (first
    | (go_at_call 39; refine (thread_in kb t _ h4).mono ?_; rintro e w1 ⟨rfl, rfl⟩)
    | (go_at_call 51; refine HC.out.mono ?_; rintro e w2 ⟨rfl, G2, v2, ht2, hs⟩; have hk2 := HA.out.step h1 h2 ht2 hs; have hs2 := KStep.of h1 hs; have hx2' := box_kstep hs2 HA.out HBX.out (by decide) (by decide) (by decide) (by decide); obtain ⟨c0, c1, c2, f0, f1, f2⟩ := cells3 hx2'; have HX2 := hid hx2'; have HK2 := hid hk2; have HS2 := hid hs2; clear hx2' hk2 hs2; generalize V.set t v2 = V2 at *; unfold repV))
  have hin : w.heap.size + 1 ∈ G2 := HS2.out.more.1 _ (by simp)
  have hg := st3_grown w2 (w.heap.size + 1) (.int .i64 R.code) (.int .i64 R.n) (.string ⟨R.text.toArray⟩)
  exact bodyPost_ret (results_cell_row rfl _ _ (w.heap.size + 1) 40 _ (0, 0) _ rfl (st3_heap (.int .i64 R.code) (.int .i64 R.n) (.string ⟨R.text.toArray⟩) HX2.out) Try.underlying40 rfl (by kernel_rfl)) rfl ⟨rfl, G2, V2, HK2.out.boxed hg hin HX2.out (by decide) (by decide) (by decide) (by decide), (HS.out.trans HS2.out).boxed hg (by omega)⟩

set_option maxRecDepth 100000 in
set_option maxHeartbeats 3200000 in
theorem Call_take (kb t : Nat) (F : List Nat) (V : List ThrV) (K : Ker) (c : Cal) (vc : Value) (w : World) (h : KerAt w kb F V K) (h1 : t < V.length) (h2 : t < K.ths.length) (hc : CalAt w vc c) (hk : c.kind = 7) (hx : c.text.length ≤ 64) (hs : K.ths[t].own.Pairwise (· < ·)) (hl : K.ths[t].own.length ≤ 8) (hxt : K.ths[t].text.length ≤ 1000) (hms : ∀ m ∈ K.ths[t].mails, MailFit m) (hml : K.ths[t].mails.length ≤ 1000) :
    Calls Try.prog 19 #[.pointer (some ⟨kb, 0, none⟩), .int .i64 t, vc] w fun e w' => e = .returned (repV (takeL K.ths[t] K.ths[t].mails).2) ∧ ∃ G V', KerAt w' kb G V' { K with ths := K.ths.set t (takeL K.ths[t] K.ths[t].mails).1 } ∧ KStep kb w F V w' G V' := by
  obtain ⟨vl, vg, rfl, hlab, hgra⟩ := hc
  obtain ⟨pl, cl, rfl, _⟩ := id hlab
  obtain ⟨pg, cg, rfl, _⟩ := id hgra
  unfold calV
  obtain ⟨ck, ch, ct, cn, cc, clb, cgr, cx⟩ := c
  simp only at hk hx hlab hgra ⊢
  subst hk
  have h4 : t < 4 := by rw [← h.len]; exact h1
  have hx2 : ¬ ((64 : Int) < (cx.length : Int)) := by omega
  have HA := hid ((h.reserve (.cells #[.int .i64 7, .int .i64 ch, .int .i64 ct, .int .i64 cn, .int .i64 cc, .slice pl clb.length cl, .slice pg cgr.length cg, .string ⟨cx.toArray⟩] 33)).reserve (.cells #[.int .i64 0, .int .i64 0, .string ⟨#[]⟩] 40))
  have HS := hid ((KStep.reserve kb w F V (.cells #[.int .i64 7, .int .i64 ch, .int .i64 ct, .int .i64 cn, .int .i64 cc, .slice pl clb.length cl, .slice pg cgr.length cg, .string ⟨cx.toArray⟩] 33)).trans (KStep.reserve kb _ _ V (.cells #[.int .i64 0, .int .i64 0, .string ⟨#[]⟩] 40)))
  have HBX := hid (heap_alloc2_new w (.cells #[.int .i64 7, .int .i64 ch, .int .i64 ct, .int .i64 cn, .int .i64 cc, .slice pl clb.length cl, .slice pg cgr.length cg, .string ⟨cx.toArray⟩] 33) (.cells #[.int .i64 0, .int .i64 0, .string ⟨#[]⟩] 40))
  have HWB : Hid (Below w.heap.size w ((w.alloc (.cells #[.int .i64 7, .int .i64 ch, .int .i64 ct, .int .i64 cn, .int .i64 cc, .slice pl clb.length cl, .slice pg cgr.length cg, .string ⟨cx.toArray⟩] 33)).alloc (.cells #[.int .i64 0, .int .i64 0, .string ⟨#[]⟩] 40))) := hid ((below_box w _).alloc (by simp) _)
  have hin1 := takeMail_k kb (2 + t * 5) _ V[t] K.ths[t] _ (HA.out.tat t h1 h2) hs hl hxt hms hml
  have HC := hid hin1
  clear hin1
  generalize (takeL K.ths[t] K.ths[t].mails).1 = T at *
  generalize (takeL K.ths[t] K.ths[t].mails).2 = R at *
  clear h
  go_enter Try.func19, Try.ntmps19
  go_wp2_with (first
    | (go_at_call 39; refine (thread_in kb t _ h4).mono ?_; rintro e w1 ⟨rfl, rfl⟩)
    | (go_at_call 55; refine HC.out.mono ?_; rintro e w2 ⟨rfl, G2, v2, ht2, hs⟩; have hk2 := HA.out.step h1 h2 ht2 hs; have hs2 := KStep.of h1 hs; have hx2' := box_kstep hs2 HA.out HBX.out (by decide) (by decide) (by decide) (by decide); obtain ⟨c0, c1, c2, f0, f1, f2⟩ := cells3 hx2'; have HX2 := hid hx2'; have HK2 := hid hk2; have HS2 := hid hs2; clear hx2' hk2 hs2; generalize V.set t v2 = V2 at *; unfold repV))
  have hin : w.heap.size + 1 ∈ G2 := HS2.out.more.1 _ (by simp)
  have hg := st3_grown w2 (w.heap.size + 1) (.int .i64 R.code) (.int .i64 R.n) (.string ⟨R.text.toArray⟩)
  exact bodyPost_ret (results_cell_row rfl _ _ (w.heap.size + 1) 40 _ (0, 0) _ rfl (st3_heap (.int .i64 R.code) (.int .i64 R.n) (.string ⟨R.text.toArray⟩) HX2.out) Try.underlying40 rfl (by kernel_rfl)) rfl ⟨rfl, G2, V2, HK2.out.boxed hg hin HX2.out (by decide) (by decide) (by decide) (by decide), (HS.out.trans HS2.out).boxed hg (by omega)⟩

end Go.Proofs.Ytichphepfmafjac

namespace Go.Proofs.Ytichphepfmafjac
open Go.RowKit Go.Proofs.Parclose

set_option maxRecDepth 100000 in
set_option maxHeartbeats 3200000 in
theorem Call_category (kb t : Nat) (F : List Nat) (V : List ThrV) (K : Ker) (c : Cal) (vc : Value) (w : World) (h : KerAt w kb F V K) (h1 : t < V.length) (h2 : t < K.ths.length) (hc : CalAt w vc c) (hk : c.kind = 1) (hx : c.text.length ≤ 64) (hs : K.ths[t].own.Pairwise (· < ·)) (hl : K.ths[t].own.length ≤ 8) (hh : 0 ≤ K.host ∧ K.host < 4) (hm : 0 ≤ K.made ∧ K.made ≤ 20) :
    Calls Try.prog 19 #[.pointer (some ⟨kb, 0, none⟩), .int .i64 t, vc] w fun e w' => e = .returned (repV (categoryL K t K.ths[t]).2) ∧ ∃ G V', KerAt w' kb G V' (categoryL K t K.ths[t]).1 ∧ KStep kb w F V w' G V' := by
  obtain ⟨vl, vg, rfl, hlab, hgra⟩ := hc
  obtain ⟨pl, cl, rfl, _⟩ := id hlab
  obtain ⟨pg, cg, rfl, _⟩ := id hgra
  unfold calV
  obtain ⟨ck, ch, ct, cn, cc, clb, cgr, cx⟩ := c
  simp only at hk hx hlab hgra ⊢
  subst hk
  have h4 : t < 4 := by rw [← h.len]; exact h1
  have hx2 : ¬ ((64 : Int) < (cx.length : Int)) := by omega
  have HA := hid ((h.reserve (.cells #[.int .i64 1, .int .i64 ch, .int .i64 ct, .int .i64 cn, .int .i64 cc, .slice pl clb.length cl, .slice pg cgr.length cg, .string ⟨cx.toArray⟩] 33)).reserve (.cells #[.int .i64 0, .int .i64 0, .string ⟨#[]⟩] 40))
  have HS := hid ((KStep.reserve kb w F V (.cells #[.int .i64 1, .int .i64 ch, .int .i64 ct, .int .i64 cn, .int .i64 cc, .slice pl clb.length cl, .slice pg cgr.length cg, .string ⟨cx.toArray⟩] 33)).trans (KStep.reserve kb _ _ V (.cells #[.int .i64 0, .int .i64 0, .string ⟨#[]⟩] 40)))
  have HBX := hid (heap_alloc2_new w (.cells #[.int .i64 1, .int .i64 ch, .int .i64 ct, .int .i64 cn, .int .i64 cc, .slice pl clb.length cl, .slice pg cgr.length cg, .string ⟨cx.toArray⟩] 33) (.cells #[.int .i64 0, .int .i64 0, .string ⟨#[]⟩] 40))
  have HWB : Hid (Below w.heap.size w ((w.alloc (.cells #[.int .i64 1, .int .i64 ch, .int .i64 ct, .int .i64 cn, .int .i64 cc, .slice pl clb.length cl, .slice pg cgr.length cg, .string ⟨cx.toArray⟩] 33)).alloc (.cells #[.int .i64 0, .int .i64 0, .string ⟨#[]⟩] 40))) := hid ((below_box w _).alloc (by simp) _)
  have hin1 := makeCat_any kb t _ V K _ HA.out h1 h2 hs hl hh hm
  have HC := hid hin1
  clear hin1
  generalize (categoryL K t K.ths[t]).1 = T at *
  generalize (categoryL K t K.ths[t]).2 = R at *
  clear h
  go_enter Try.func19, Try.ntmps19
  go_wp2_with (first
    | (go_at_call 39; refine (thread_in kb t _ h4).mono ?_; rintro e w1 ⟨rfl, rfl⟩)
    | (go_at_call 50; refine HC.out.mono ?_; rintro e w2 ⟨rfl, G2, V2, hk2, hs2⟩; have hx2' := box_kstep hs2 HA.out HBX.out (by decide) (by decide) (by decide) (by decide); obtain ⟨c0, c1, c2, f0, f1, f2⟩ := cells3 hx2'; have HX2 := hid hx2'; have HK2 := hid hk2; have HS2 := hid hs2; clear hx2' hk2 hs2; unfold repV))
  have hin : w.heap.size + 1 ∈ G2 := HS2.out.more.1 _ (by simp)
  have hg := st3_grown w2 (w.heap.size + 1) (.int .i64 R.code) (.int .i64 R.n) (.string ⟨R.text.toArray⟩)
  exact bodyPost_ret (results_cell_row rfl _ _ (w.heap.size + 1) 40 _ (0, 0) _ rfl (st3_heap (.int .i64 R.code) (.int .i64 R.n) (.string ⟨R.text.toArray⟩) HX2.out) Try.underlying40 rfl (by kernel_rfl)) rfl ⟨rfl, G2, V2, HK2.out.boxed hg hin HX2.out (by decide) (by decide) (by decide) (by decide), (HS.out.trans HS2.out).boxed hg (by omega)⟩

set_option maxRecDepth 100000 in
set_option maxHeartbeats 3200000 in
theorem Call_put (kb t : Nat) (F : List Nat) (V : List ThrV) (K : Ker) (c : Cal) (vc : Value) (w : World) (h : KerAt w kb F V K) (h1 : t < V.length) (hc : CalAt w vc c) (hk : c.kind = 3) (hx : c.text.length ≤ 64) (K2 : Ker) (R : Rep) (HP : ∀ w1 F1 vc1, KerAt w1 kb F1 V K → CalAt w1 vc1 c → Calls Try.prog 52 #[.pointer (some ⟨kb, 0, none⟩), .pointer (some ⟨kb, 2 + t * 5, none⟩), vc1] w1 fun e w' => e = .returned (repV R) ∧ ∃ G, KerAt w' kb G V K2 ∧ KStep kb w1 F1 V w' G V) :
    Calls Try.prog 19 #[.pointer (some ⟨kb, 0, none⟩), .int .i64 t, vc] w fun e w' => e = .returned (repV R) ∧ ∃ G V', KerAt w' kb G V' K2 ∧ KStep kb w F V w' G V' := by
  obtain ⟨vl, vg, rfl, hlab, hgra⟩ := hc
  obtain ⟨pl, cl, rfl, _⟩ := id hlab
  obtain ⟨pg, cg, rfl, _⟩ := id hgra
  unfold calV
  obtain ⟨ck, ch, ct, cn, cc, clb, cgr, cx⟩ := c
  simp only at hk hx hlab hgra ⊢
  subst hk
  have h4 : t < 4 := by rw [← h.len]; exact h1
  have hx2 : ¬ ((64 : Int) < (cx.length : Int)) := by omega
  have HA := hid ((h.reserve (.cells #[.int .i64 3, .int .i64 ch, .int .i64 ct, .int .i64 cn, .int .i64 cc, .slice pl clb.length cl, .slice pg cgr.length cg, .string ⟨cx.toArray⟩] 33)).reserve (.cells #[.int .i64 0, .int .i64 0, .string ⟨#[]⟩] 40))
  have HS := hid ((KStep.reserve kb w F V (.cells #[.int .i64 3, .int .i64 ch, .int .i64 ct, .int .i64 cn, .int .i64 cc, .slice pl clb.length cl, .slice pg cgr.length cg, .string ⟨cx.toArray⟩] 33)).trans (KStep.reserve kb _ _ V (.cells #[.int .i64 0, .int .i64 0, .string ⟨#[]⟩] 40)))
  have HBX := hid (heap_alloc2_new w (.cells #[.int .i64 3, .int .i64 ch, .int .i64 ct, .int .i64 cn, .int .i64 cc, .slice pl clb.length cl, .slice pg cgr.length cg, .string ⟨cx.toArray⟩] 33) (.cells #[.int .i64 0, .int .i64 0, .string ⟨#[]⟩] 40))
  have HWB : Hid (Below w.heap.size w ((w.alloc (.cells #[.int .i64 3, .int .i64 ch, .int .i64 ct, .int .i64 cn, .int .i64 cc, .slice pl clb.length cl, .slice pg cgr.length cg, .string ⟨cx.toArray⟩] 33)).alloc (.cells #[.int .i64 0, .int .i64 0, .string ⟨#[]⟩] 40))) := hid ((below_box w _).alloc (by simp) _)
  have hin1 := HP _ _ _ HA.out ⟨_, _, rfl, hlab.below HWB.out, hgra.below HWB.out⟩
  have HC := hid hin1
  clear hin1 HP
  clear h
  go_enter Try.func19, Try.ntmps19
  go_wp2_with (first
    | (go_at_call 39; refine (thread_in kb t _ h4).mono ?_; rintro e w1 ⟨rfl, rfl⟩)
    | (go_at_call 52; refine HC.out.mono ?_; rintro e w2 ⟨rfl, G2, hk2, hs2⟩; obtain ⟨V2, hk2, hs2⟩ : ∃ V2, KerAt w2 kb G2 V2 K2 ∧ KStep kb _ _ V w2 G2 V2 := ⟨V, hk2, hs2⟩; have hx2' := box_kstep hs2 HA.out HBX.out (by decide) (by decide) (by decide) (by decide); obtain ⟨c0, c1, c2, f0, f1, f2⟩ := cells3 hx2'; have HX2 := hid hx2'; have HK2 := hid hk2; have HS2 := hid hs2; clear hx2' hk2 hs2; unfold repV))
  have hin : w.heap.size + 1 ∈ G2 := HS2.out.more.1 _ (by simp)
  have hg := st3_grown w2 (w.heap.size + 1) (.int .i64 R.code) (.int .i64 R.n) (.string ⟨R.text.toArray⟩)
  exact bodyPost_ret (results_cell_row rfl _ _ (w.heap.size + 1) 40 _ (0, 0) _ rfl (st3_heap (.int .i64 R.code) (.int .i64 R.n) (.string ⟨R.text.toArray⟩) HX2.out) Try.underlying40 rfl (by kernel_rfl)) rfl ⟨rfl, G2, V2, HK2.out.boxed hg hin HX2.out (by decide) (by decide) (by decide) (by decide), (HS.out.trans HS2.out).boxed hg (by omega)⟩

set_option maxRecDepth 100000 in
set_option maxHeartbeats 3200000 in
theorem Call_get (kb t : Nat) (F : List Nat) (V : List ThrV) (K : Ker) (c : Cal) (vc : Value) (w : World) (h : KerAt w kb F V K) (h1 : t < V.length) (hc : CalAt w vc c) (hk : c.kind = 4) (hx : c.text.length ≤ 64) (K2 : Ker) (R : Rep) (HP : ∀ w1 F1 vc1, KerAt w1 kb F1 V K → CalAt w1 vc1 c → Calls Try.prog 53 #[.pointer (some ⟨kb, 0, none⟩), .pointer (some ⟨kb, 2 + t * 5, none⟩), vc1] w1 fun e w' => e = .returned (repV R) ∧ ∃ G, KerAt w' kb G V K2 ∧ KStep kb w1 F1 V w' G V) :
    Calls Try.prog 19 #[.pointer (some ⟨kb, 0, none⟩), .int .i64 t, vc] w fun e w' => e = .returned (repV R) ∧ ∃ G V', KerAt w' kb G V' K2 ∧ KStep kb w F V w' G V' := by
  obtain ⟨vl, vg, rfl, hlab, hgra⟩ := hc
  obtain ⟨pl, cl, rfl, _⟩ := id hlab
  obtain ⟨pg, cg, rfl, _⟩ := id hgra
  unfold calV
  obtain ⟨ck, ch, ct, cn, cc, clb, cgr, cx⟩ := c
  simp only at hk hx hlab hgra ⊢
  subst hk
  have h4 : t < 4 := by rw [← h.len]; exact h1
  have hx2 : ¬ ((64 : Int) < (cx.length : Int)) := by omega
  have HA := hid ((h.reserve (.cells #[.int .i64 4, .int .i64 ch, .int .i64 ct, .int .i64 cn, .int .i64 cc, .slice pl clb.length cl, .slice pg cgr.length cg, .string ⟨cx.toArray⟩] 33)).reserve (.cells #[.int .i64 0, .int .i64 0, .string ⟨#[]⟩] 40))
  have HS := hid ((KStep.reserve kb w F V (.cells #[.int .i64 4, .int .i64 ch, .int .i64 ct, .int .i64 cn, .int .i64 cc, .slice pl clb.length cl, .slice pg cgr.length cg, .string ⟨cx.toArray⟩] 33)).trans (KStep.reserve kb _ _ V (.cells #[.int .i64 0, .int .i64 0, .string ⟨#[]⟩] 40)))
  have HBX := hid (heap_alloc2_new w (.cells #[.int .i64 4, .int .i64 ch, .int .i64 ct, .int .i64 cn, .int .i64 cc, .slice pl clb.length cl, .slice pg cgr.length cg, .string ⟨cx.toArray⟩] 33) (.cells #[.int .i64 0, .int .i64 0, .string ⟨#[]⟩] 40))
  have HWB : Hid (Below w.heap.size w ((w.alloc (.cells #[.int .i64 4, .int .i64 ch, .int .i64 ct, .int .i64 cn, .int .i64 cc, .slice pl clb.length cl, .slice pg cgr.length cg, .string ⟨cx.toArray⟩] 33)).alloc (.cells #[.int .i64 0, .int .i64 0, .string ⟨#[]⟩] 40))) := hid ((below_box w _).alloc (by simp) _)
  have hin1 := HP _ _ _ HA.out ⟨_, _, rfl, hlab.below HWB.out, hgra.below HWB.out⟩
  have HC := hid hin1
  clear hin1 HP
  clear h
  go_enter Try.func19, Try.ntmps19
  go_wp2_with (first
    | (go_at_call 39; refine (thread_in kb t _ h4).mono ?_; rintro e w1 ⟨rfl, rfl⟩)
    | (go_at_call 53; refine HC.out.mono ?_; rintro e w2 ⟨rfl, G2, hk2, hs2⟩; obtain ⟨V2, hk2, hs2⟩ : ∃ V2, KerAt w2 kb G2 V2 K2 ∧ KStep kb _ _ V w2 G2 V2 := ⟨V, hk2, hs2⟩; have hx2' := box_kstep hs2 HA.out HBX.out (by decide) (by decide) (by decide) (by decide); obtain ⟨c0, c1, c2, f0, f1, f2⟩ := cells3 hx2'; have HX2 := hid hx2'; have HK2 := hid hk2; have HS2 := hid hs2; clear hx2' hk2 hs2; unfold repV))
  have hin : w.heap.size + 1 ∈ G2 := HS2.out.more.1 _ (by simp)
  have hg := st3_grown w2 (w.heap.size + 1) (.int .i64 R.code) (.int .i64 R.n) (.string ⟨R.text.toArray⟩)
  exact bodyPost_ret (results_cell_row rfl _ _ (w.heap.size + 1) 40 _ (0, 0) _ rfl (st3_heap (.int .i64 R.code) (.int .i64 R.n) (.string ⟨R.text.toArray⟩) HX2.out) Try.underlying40 rfl (by kernel_rfl)) rfl ⟨rfl, G2, V2, HK2.out.boxed hg hin HX2.out (by decide) (by decide) (by decide) (by decide), (HS.out.trans HS2.out).boxed hg (by omega)⟩

end Go.Proofs.Ytichphepfmafjac

namespace Go.Proofs.Ytichphepfmafjac
open Go.RowKit Go.Proofs.Parclose

set_option maxRecDepth 100000 in
set_option maxHeartbeats 3200000 in
theorem Call_level (kb t : Nat) (F : List Nat) (V : List ThrV) (K : Ker) (c : Cal) (vc : Value) (w : World) (h : KerAt w kb F V K) (h1 : t < V.length) (h2 : t < K.ths.length) (hc : CalAt w vc c) (hk : c.kind = 5) (hx : c.text.length ≤ 64) (hl : K.ths[t].own.length ≤ 1000) :
    Calls Try.prog 19 #[.pointer (some ⟨kb, 0, none⟩), .int .i64 t, vc] w fun e w' => e = .returned (repV (code (levelL K.ths[t] c.c c.n).2)) ∧ ∃ G V', KerAt w' kb G V' { K with ths := K.ths.set t (levelL K.ths[t] c.c c.n).1 } ∧ KStep kb w F V w' G V' := by
  obtain ⟨vl, vg, rfl, hlab, hgra⟩ := hc
  obtain ⟨pl, cl, rfl, _⟩ := id hlab
  obtain ⟨pg, cg, rfl, _⟩ := id hgra
  unfold calV
  obtain ⟨ck, ch, ct, cn, cc, clb, cgr, cx⟩ := c
  simp only at hk hx hlab hgra ⊢
  subst hk
  have h4 : t < 4 := by rw [← h.len]; exact h1
  have hx2 : ¬ ((64 : Int) < (cx.length : Int)) := by omega
  have HA := hid ((h.reserve (.cells #[.int .i64 5, .int .i64 ch, .int .i64 ct, .int .i64 cn, .int .i64 cc, .slice pl clb.length cl, .slice pg cgr.length cg, .string ⟨cx.toArray⟩] 33)).reserve (.cells #[.int .i64 0, .int .i64 0, .string ⟨#[]⟩] 40))
  have HS := hid ((KStep.reserve kb w F V (.cells #[.int .i64 5, .int .i64 ch, .int .i64 ct, .int .i64 cn, .int .i64 cc, .slice pl clb.length cl, .slice pg cgr.length cg, .string ⟨cx.toArray⟩] 33)).trans (KStep.reserve kb _ _ V (.cells #[.int .i64 0, .int .i64 0, .string ⟨#[]⟩] 40)))
  have HBX := hid (heap_alloc2_new w (.cells #[.int .i64 5, .int .i64 ch, .int .i64 ct, .int .i64 cn, .int .i64 cc, .slice pl clb.length cl, .slice pg cgr.length cg, .string ⟨cx.toArray⟩] 33) (.cells #[.int .i64 0, .int .i64 0, .string ⟨#[]⟩] 40))
  have HWB : Hid (Below w.heap.size w ((w.alloc (.cells #[.int .i64 5, .int .i64 ch, .int .i64 ct, .int .i64 cn, .int .i64 cc, .slice pl clb.length cl, .slice pg cgr.length cg, .string ⟨cx.toArray⟩] 33)).alloc (.cells #[.int .i64 0, .int .i64 0, .string ⟨#[]⟩] 40))) := hid ((below_box w _).alloc (by simp) _)
  have hin1 := setLevel_any kb (2 + t * 5) _ V[t] K.ths[t] cc cn _ (HA.out.tat t h1 h2) hl
  have HC := hid hin1
  clear hin1
  generalize (levelL K.ths[t] cc cn).1 = T at *
  generalize (levelL K.ths[t] cc cn).2 = R0 at *
  clear h
  go_enter Try.func19, Try.ntmps19
  go_wp2_with (first
    | (go_at_call 39; refine (thread_in kb t _ h4).mono ?_; rintro e w1 ⟨rfl, rfl⟩)
    | (go_at_call 54; refine HC.out.mono ?_; rintro e w5 ⟨rfl, v2, ht2, hs⟩; have HK1 := hid (HA.out.step h1 h2 ht2 hs); have HS1 := hid (KStep.of h1 hs); have HX1 := hid (box_kstep HS1.out HA.out HBX.out (by decide) (by decide) (by decide) (by decide)); clear ht2 hs)
    | (go_at_call 49; refine (answer_lit _ _).mono ?_; rintro e w2 ⟨rfl, hw2⟩; obtain ⟨G2, V2, hk2, hs2⟩ : ∃ G2 V2, KerAt w2 kb G2 V2 { K with ths := K.ths.set t T } ∧ KStep kb _ _ V w2 G2 V2 := ⟨_, _, HK1.out.below hw2, HS1.out.trans (KStep.below hw2)⟩; have hx2' := heap_keep HX1.out hw2; obtain ⟨c0, c1, c2, f0, f1, f2⟩ := cells3 hx2'; have HX2 := hid hx2'; have HK2 := hid hk2; have HS2 := hid hs2; clear hx2' hk2 hs2 hw2))
  have hin : w.heap.size + 1 ∈ G2 := HS2.out.more.1 _ (by simp)
  have hg := st3_grown w2 (w.heap.size + 1) (.int .i64 R0) (.int .i64 0) (.string ⟨#[]⟩)
  exact bodyPost_ret (results_cell_row rfl _ _ (w.heap.size + 1) 40 _ (0, 0) _ rfl (st3_heap (.int .i64 R0) (.int .i64 0) (.string ⟨#[]⟩) HX2.out) Try.underlying40 rfl (by kernel_rfl)) rfl ⟨rfl, G2, V2, HK2.out.boxed hg hin HX2.out (by decide) (by decide) (by decide) (by decide), (HS.out.trans HS2.out).boxed hg (by omega)⟩

end Go.Proofs.Ytichphepfmafjac

namespace Go.Proofs.Ytichphepfmafjac
open Go.RowKit Go.Proofs.Parclose

set_option maxRecDepth 100000 in
set_option maxHeartbeats 3200000 in
theorem Call_other (kb t : Nat) (F : List Nat) (V : List ThrV) (K : Ker) (c : Cal) (vc : Value) (w : World) (h : KerAt w kb F V K) (h1 : t < V.length) (hc : CalAt w vc c) (hx : c.text.length ≤ 64) (n1 : c.kind ≠ 1) (n2 : c.kind ≠ 2) (n3 : c.kind ≠ 3) (n4 : c.kind ≠ 4) (n5 : c.kind ≠ 5) (n7 : c.kind ≠ 7) (n9 : c.kind ≠ 9) (n10 : c.kind ≠ 10) :
    Calls Try.prog 19 #[.pointer (some ⟨kb, 0, none⟩), .int .i64 t, vc] w fun e w' => e = .returned (repV (code 3)) ∧ ∃ G V', KerAt w' kb G V' K ∧ KStep kb w F V w' G V' := by
  obtain ⟨vl, vg, rfl, hlab, hgra⟩ := hc
  obtain ⟨pl, cl, rfl, _⟩ := id hlab
  obtain ⟨pg, cg, rfl, _⟩ := id hgra
  unfold calV
  obtain ⟨ck, ch, ct, cn, cc, clb, cgr, cx⟩ := c
  simp only at hx hlab hgra ⊢
  have h4 : t < 4 := by rw [← h.len]; exact h1
  have hx2 : ¬ ((64 : Int) < (cx.length : Int)) := by omega
  have HA := hid ((h.reserve (.cells #[.int .i64 ck, .int .i64 ch, .int .i64 ct, .int .i64 cn, .int .i64 cc, .slice pl clb.length cl, .slice pg cgr.length cg, .string ⟨cx.toArray⟩] 33)).reserve (.cells #[.int .i64 0, .int .i64 0, .string ⟨#[]⟩] 40))
  have HS := hid ((KStep.reserve kb w F V (.cells #[.int .i64 ck, .int .i64 ch, .int .i64 ct, .int .i64 cn, .int .i64 cc, .slice pl clb.length cl, .slice pg cgr.length cg, .string ⟨cx.toArray⟩] 33)).trans (KStep.reserve kb _ _ V (.cells #[.int .i64 0, .int .i64 0, .string ⟨#[]⟩] 40)))
  have HBX := hid (heap_alloc2_new w (.cells #[.int .i64 ck, .int .i64 ch, .int .i64 ct, .int .i64 cn, .int .i64 cc, .slice pl clb.length cl, .slice pg cgr.length cg, .string ⟨cx.toArray⟩] 33) (.cells #[.int .i64 0, .int .i64 0, .string ⟨#[]⟩] 40))
  have HWB : Hid (Below w.heap.size w ((w.alloc (.cells #[.int .i64 ck, .int .i64 ch, .int .i64 ct, .int .i64 cn, .int .i64 cc, .slice pl clb.length cl, .slice pg cgr.length cg, .string ⟨cx.toArray⟩] 33)).alloc (.cells #[.int .i64 0, .int .i64 0, .string ⟨#[]⟩] 40))) := hid ((below_box w _).alloc (by simp) _)
  simp only at n1 n2 n3 n4 n5 n7 n9 n10
  have HK1 := hid HA.out
  have HS1 := hid (KStep.refl kb ((w.alloc (.cells #[.int .i64 ck, .int .i64 ch, .int .i64 ct, .int .i64 cn, .int .i64 cc, .slice pl clb.length cl, .slice pg cgr.length cg, .string ⟨cx.toArray⟩] 33)).alloc (.cells #[.int .i64 0, .int .i64 0, .string ⟨#[]⟩] 40)) (F ++ [w.heap.size] ++ [(w.alloc (.cells #[.int .i64 ck, .int .i64 ch, .int .i64 ct, .int .i64 cn, .int .i64 cc, .slice pl clb.length cl, .slice pg cgr.length cg, .string ⟨cx.toArray⟩] 33)).heap.size]) V)
  have HX1 := hid HBX.out
  clear h
  go_enter Try.func19, Try.ntmps19
  go_wp2_with (first
    | (go_at_call 39; refine (thread_in kb t _ h4).mono ?_; rintro e w1 ⟨rfl, rfl⟩)
    | (go_at_call 49; refine (answer_lit _ _).mono ?_; rintro e w2 ⟨rfl, hw2⟩; obtain ⟨G2, V2, hk2, hs2⟩ : ∃ G2 V2, KerAt w2 kb G2 V2 K ∧ KStep kb _ _ V w2 G2 V2 := ⟨_, _, HK1.out.below hw2, HS1.out.trans (KStep.below hw2)⟩; have hx2' := heap_keep HX1.out hw2; obtain ⟨c0, c1, c2, f0, f1, f2⟩ := cells3 hx2'; have HX2 := hid hx2'; have HK2 := hid hk2; have HS2 := hid hs2; clear hx2' hk2 hs2 hw2))
  have hin : w.heap.size + 1 ∈ G2 := HS2.out.more.1 _ (by simp)
  have hg := st3_grown w2 (w.heap.size + 1) (.int .i64 3) (.int .i64 0) (.string ⟨#[]⟩)
  exact bodyPost_ret (results_cell_row rfl _ _ (w.heap.size + 1) 40 _ (0, 0) _ rfl (st3_heap (.int .i64 3) (.int .i64 0) (.string ⟨#[]⟩) HX2.out) Try.underlying40 rfl (by kernel_rfl)) rfl ⟨rfl, G2, V2, HK2.out.boxed hg hin HX2.out (by decide) (by decide) (by decide) (by decide), (HS.out.trans HS2.out).boxed hg (by omega)⟩

end Go.Proofs.Ytichphepfmafjac

namespace Go.Proofs.Ytichphepfmafjac
open Go.RowKit Go.Proofs.Parclose

set_option maxRecDepth 100000 in
set_option maxHeartbeats 3200000 in
theorem Call_long (kb t : Nat) (F : List Nat) (V : List ThrV) (K : Ker) (c : Cal) (vc : Value) (w : World) (h : KerAt w kb F V K) (h1 : t < V.length) (hc : CalAt w vc c) (hx : 64 < c.text.length) :
    Calls Try.prog 19 #[.pointer (some ⟨kb, 0, none⟩), .int .i64 t, vc] w fun e w' => e = .returned (repV (code 9)) ∧ ∃ G V', KerAt w' kb G V' K ∧ KStep kb w F V w' G V' := by
  obtain ⟨vl, vg, rfl, hlab, hgra⟩ := hc
  obtain ⟨pl, cl, rfl, _⟩ := id hlab
  obtain ⟨pg, cg, rfl, _⟩ := id hgra
  unfold calV
  obtain ⟨ck, ch, ct, cn, cc, clb, cgr, cx⟩ := c
  simp only at hx hlab hgra ⊢
  have h4 : t < 4 := by rw [← h.len]; exact h1
  have hx2 : (64 : Int) < (cx.length : Int) := by omega
  have HA := hid ((h.reserve (.cells #[.int .i64 ck, .int .i64 ch, .int .i64 ct, .int .i64 cn, .int .i64 cc, .slice pl clb.length cl, .slice pg cgr.length cg, .string ⟨cx.toArray⟩] 33)).reserve (.cells #[.int .i64 0, .int .i64 0, .string ⟨#[]⟩] 40))
  have HS := hid ((KStep.reserve kb w F V (.cells #[.int .i64 ck, .int .i64 ch, .int .i64 ct, .int .i64 cn, .int .i64 cc, .slice pl clb.length cl, .slice pg cgr.length cg, .string ⟨cx.toArray⟩] 33)).trans (KStep.reserve kb _ _ V (.cells #[.int .i64 0, .int .i64 0, .string ⟨#[]⟩] 40)))
  have HBX := hid (heap_alloc2_new w (.cells #[.int .i64 ck, .int .i64 ch, .int .i64 ct, .int .i64 cn, .int .i64 cc, .slice pl clb.length cl, .slice pg cgr.length cg, .string ⟨cx.toArray⟩] 33) (.cells #[.int .i64 0, .int .i64 0, .string ⟨#[]⟩] 40))
  have HWB : Hid (Below w.heap.size w ((w.alloc (.cells #[.int .i64 ck, .int .i64 ch, .int .i64 ct, .int .i64 cn, .int .i64 cc, .slice pl clb.length cl, .slice pg cgr.length cg, .string ⟨cx.toArray⟩] 33)).alloc (.cells #[.int .i64 0, .int .i64 0, .string ⟨#[]⟩] 40))) := hid ((below_box w _).alloc (by simp) _)
  have HK1 := hid HA.out
  have HS1 := hid (KStep.refl kb ((w.alloc (.cells #[.int .i64 ck, .int .i64 ch, .int .i64 ct, .int .i64 cn, .int .i64 cc, .slice pl clb.length cl, .slice pg cgr.length cg, .string ⟨cx.toArray⟩] 33)).alloc (.cells #[.int .i64 0, .int .i64 0, .string ⟨#[]⟩] 40)) (F ++ [w.heap.size] ++ [(w.alloc (.cells #[.int .i64 ck, .int .i64 ch, .int .i64 ct, .int .i64 cn, .int .i64 cc, .slice pl clb.length cl, .slice pg cgr.length cg, .string ⟨cx.toArray⟩] 33)).heap.size]) V)
  have HX1 := hid HBX.out
  clear h
  go_enter Try.func19, Try.ntmps19
  go_wp2_with (first
    | (go_at_call 39; refine (thread_in kb t _ h4).mono ?_; rintro e w1 ⟨rfl, rfl⟩)
    | (go_at_call 49; refine (answer_lit _ _).mono ?_; rintro e w2 ⟨rfl, hw2⟩; obtain ⟨G2, V2, hk2, hs2⟩ : ∃ G2 V2, KerAt w2 kb G2 V2 K ∧ KStep kb _ _ V w2 G2 V2 := ⟨_, _, HK1.out.below hw2, HS1.out.trans (KStep.below hw2)⟩; have hx2' := heap_keep HX1.out hw2; obtain ⟨c0, c1, c2, f0, f1, f2⟩ := cells3 hx2'; have HX2 := hid hx2'; have HK2 := hid hk2; have HS2 := hid hs2; clear hx2' hk2 hs2 hw2))
  have hin : w.heap.size + 1 ∈ G2 := HS2.out.more.1 _ (by simp)
  have hg := st3_grown w2 (w.heap.size + 1) (.int .i64 9) (.int .i64 0) (.string ⟨#[]⟩)
  exact bodyPost_ret (results_cell_row rfl _ _ (w.heap.size + 1) 40 _ (0, 0) _ rfl (st3_heap (.int .i64 9) (.int .i64 0) (.string ⟨#[]⟩) HX2.out) Try.underlying40 rfl (by kernel_rfl)) rfl ⟨rfl, G2, V2, HK2.out.boxed hg hin HX2.out (by decide) (by decide) (by decide) (by decide), (HS.out.trans HS2.out).boxed hg (by omega)⟩

end Go.Proofs.Ytichphepfmafjac

namespace Go.Proofs.Ytichphepfmafjac
open Go.RowKit Go.Proofs.Parclose

set_option maxRecDepth 100000 in
set_option maxHeartbeats 3200000 in
theorem Call_out (kb : Nat) (t : Int) (F : List Nat) (V : List ThrV) (K : Ker) (c : Cal) (vc : Value) (w : World) (h : KerAt w kb F V K) (h4 : ¬ (0 ≤ t ∧ t < 4)) (hc : CalAt w vc c) :
    Calls Try.prog 19 #[.pointer (some ⟨kb, 0, none⟩), .int .i64 t, vc] w fun e w' => e = .returned (repV (code 4)) ∧ ∃ G V', KerAt w' kb G V' K ∧ KStep kb w F V w' G V' := by
  obtain ⟨vl, vg, rfl, hlab, hgra⟩ := hc
  obtain ⟨pl, cl, rfl, _⟩ := id hlab
  obtain ⟨pg, cg, rfl, _⟩ := id hgra
  unfold calV
  obtain ⟨ck, ch, ct, cn, cc, clb, cgr, cx⟩ := c
  simp only at hlab hgra ⊢
  have HA := hid ((h.reserve (.cells #[.int .i64 ck, .int .i64 ch, .int .i64 ct, .int .i64 cn, .int .i64 cc, .slice pl clb.length cl, .slice pg cgr.length cg, .string ⟨cx.toArray⟩] 33)).reserve (.cells #[.int .i64 0, .int .i64 0, .string ⟨#[]⟩] 40))
  have HS := hid ((KStep.reserve kb w F V (.cells #[.int .i64 ck, .int .i64 ch, .int .i64 ct, .int .i64 cn, .int .i64 cc, .slice pl clb.length cl, .slice pg cgr.length cg, .string ⟨cx.toArray⟩] 33)).trans (KStep.reserve kb _ _ V (.cells #[.int .i64 0, .int .i64 0, .string ⟨#[]⟩] 40)))
  have HBX := hid (heap_alloc2_new w (.cells #[.int .i64 ck, .int .i64 ch, .int .i64 ct, .int .i64 cn, .int .i64 cc, .slice pl clb.length cl, .slice pg cgr.length cg, .string ⟨cx.toArray⟩] 33) (.cells #[.int .i64 0, .int .i64 0, .string ⟨#[]⟩] 40))
  have HWB : Hid (Below w.heap.size w ((w.alloc (.cells #[.int .i64 ck, .int .i64 ch, .int .i64 ct, .int .i64 cn, .int .i64 cc, .slice pl clb.length cl, .slice pg cgr.length cg, .string ⟨cx.toArray⟩] 33)).alloc (.cells #[.int .i64 0, .int .i64 0, .string ⟨#[]⟩] 40))) := hid ((below_box w _).alloc (by simp) _)
  have HK1 := hid HA.out
  have HS1 := hid (KStep.refl kb ((w.alloc (.cells #[.int .i64 ck, .int .i64 ch, .int .i64 ct, .int .i64 cn, .int .i64 cc, .slice pl clb.length cl, .slice pg cgr.length cg, .string ⟨cx.toArray⟩] 33)).alloc (.cells #[.int .i64 0, .int .i64 0, .string ⟨#[]⟩] 40)) (F ++ [w.heap.size] ++ [(w.alloc (.cells #[.int .i64 ck, .int .i64 ch, .int .i64 ct, .int .i64 cn, .int .i64 cc, .slice pl clb.length cl, .slice pg cgr.length cg, .string ⟨cx.toArray⟩] 33)).heap.size]) V)
  have HX1 := hid HBX.out
  clear h
  go_enter Try.func19, Try.ntmps19
  go_wp2_with (first
    | (go_at_call 39; refine (thread_out kb t _ h4).mono ?_; rintro e w1 ⟨rfl, rfl⟩)
    | (go_at_call 49; refine (answer_lit _ _).mono ?_; rintro e w2 ⟨rfl, hw2⟩; obtain ⟨G2, V2, hk2, hs2⟩ : ∃ G2 V2, KerAt w2 kb G2 V2 K ∧ KStep kb _ _ V w2 G2 V2 := ⟨_, _, HK1.out.below hw2, HS1.out.trans (KStep.below hw2)⟩; have hx2' := heap_keep HX1.out hw2; obtain ⟨c0, c1, c2, f0, f1, f2⟩ := cells3 hx2'; have HX2 := hid hx2'; have HK2 := hid hk2; have HS2 := hid hs2; clear hx2' hk2 hs2 hw2))
  have hin : w.heap.size + 1 ∈ G2 := HS2.out.more.1 _ (by simp)
  have hg := st3_grown w2 (w.heap.size + 1) (.int .i64 4) (.int .i64 0) (.string ⟨#[]⟩)
  exact bodyPost_ret (results_cell_row rfl _ _ (w.heap.size + 1) 40 _ (0, 0) _ rfl (st3_heap (.int .i64 4) (.int .i64 0) (.string ⟨#[]⟩) HX2.out) Try.underlying40 rfl (by kernel_rfl)) rfl ⟨rfl, G2, V2, HK2.out.boxed hg hin HX2.out (by decide) (by decide) (by decide) (by decide), (HS.out.trans HS2.out).boxed hg (by omega)⟩

end Go.Proofs.Ytichphepfmafjac

namespace Go.Proofs.Ytichphepfmafjac
open Go.RowKit Go.Proofs.Parclose

set_option maxRecDepth 100000 in
set_option maxHeartbeats 3200000 in
theorem Call_say (kb t : Nat) (F : List Nat) (V : List ThrV) (K : Ker) (c : Cal) (vc : Value) (w : World) (h : KerAt w kb F V K) (h1 : t < V.length) (h2 : t < K.ths.length) (hc : CalAt w vc c) (hk : c.kind = 10) (hx : c.text.length ≤ 64) :
    Calls Try.prog 19 #[.pointer (some ⟨kb, 0, none⟩), .int .i64 t, vc] w fun e w' => e = .returned (repV (⟨0, 0, K.ths[t].text⟩)) ∧ ∃ G V', KerAt w' kb G V' K ∧ KStep kb w F V w' G V' := by
  obtain ⟨vl, vg, rfl, hlab, hgra⟩ := hc
  obtain ⟨pl, cl, rfl, _⟩ := id hlab
  obtain ⟨pg, cg, rfl, _⟩ := id hgra
  unfold calV
  obtain ⟨ck, ch, ct, cn, cc, clb, cgr, cx⟩ := c
  simp only at hk hx hlab hgra ⊢
  subst hk
  have h4 : t < 4 := by rw [← h.len]; exact h1
  have hx2 : ¬ ((64 : Int) < (cx.length : Int)) := by omega
  have HA := hid ((h.reserve (.cells #[.int .i64 10, .int .i64 ch, .int .i64 ct, .int .i64 cn, .int .i64 cc, .slice pl clb.length cl, .slice pg cgr.length cg, .string ⟨cx.toArray⟩] 33)).reserve (.cells #[.int .i64 0, .int .i64 0, .string ⟨#[]⟩] 40))
  have HBX := hid (heap_alloc2_new w (.cells #[.int .i64 10, .int .i64 ch, .int .i64 ct, .int .i64 cn, .int .i64 cc, .slice pl clb.length cl, .slice pg cgr.length cg, .string ⟨cx.toArray⟩] 33) (.cells #[.int .i64 0, .int .i64 0, .string ⟨#[]⟩] 40))
  obtain ⟨t0, t1, t2, t3, t4⟩ := (HA.out.tat t h1 h2).cells
  obtain ⟨c0, c1, c2, f0, f1, f2⟩ := cells3 HBX.out
  have HH := hid h
  clear h
  go_enter Try.func19, Try.ntmps19
  go_wp2_with (go_at_call 39; refine (thread_in kb t _ h4).mono ?_; rintro e w1 ⟨rfl, rfl⟩)
  exact bodyPost_ret (results_cell_row rfl _ _ (w.heap.size + 1) 40 _ (0, 0) _ rfl (heap_alloc2_new w _ _) Try.underlying40 rfl (by kernel_rfl)) rfl ⟨rfl, _, V, HH.out.below ((below_box w _).alloc (by simp) _), KStep.below ((below_box w _).alloc (by simp) _)⟩

end Go.Proofs.Ytichphepfmafjac

namespace Go.Proofs.Ytichphepfmafjac
open Go.RowKit Go.Proofs.Parclose

set_option maxRecDepth 100000 in
set_option maxHeartbeats 3200000 in
theorem Call_forget (kb t : Nat) (F : List Nat) (V : List ThrV) (K : Ker) (c : Cal) (vc : Value) (w : World) (h : KerAt w kb F V K) (h1 : t < V.length) (h2 : t < K.ths.length) (hc : CalAt w vc c) (hk : c.kind = 9) (hx : c.text.length ≤ 64) :
    Calls Try.prog 19 #[.pointer (some ⟨kb, 0, none⟩), .int .i64 t, vc] w fun e w' => e = .returned (repV (code 0)) ∧ ∃ G V', KerAt w' kb G V' { K with ths := K.ths.set t { K.ths[t] with text := lastL c.text } } ∧ KStep kb w F V w' G V' := by
  obtain ⟨vl, vg, rfl, hlab, hgra⟩ := hc
  obtain ⟨pl, cl, rfl, _⟩ := id hlab
  obtain ⟨pg, cg, rfl, _⟩ := id hgra
  unfold calV
  obtain ⟨ck, ch, ct, cn, cc, clb, cgr, cx⟩ := c
  simp only at hk hx hlab hgra ⊢
  subst hk
  have h4 : t < 4 := by rw [← h.len]; exact h1
  have hx2 : ¬ ((64 : Int) < (cx.length : Int)) := by omega
  have HA := hid ((h.reserve (.cells #[.int .i64 9, .int .i64 ch, .int .i64 ct, .int .i64 cn, .int .i64 cc, .slice pl clb.length cl, .slice pg cgr.length cg, .string ⟨cx.toArray⟩] 33)).reserve (.cells #[.int .i64 0, .int .i64 0, .string ⟨#[]⟩] 40))
  have HS := hid ((KStep.reserve kb w F V (.cells #[.int .i64 9, .int .i64 ch, .int .i64 ct, .int .i64 cn, .int .i64 cc, .slice pl clb.length cl, .slice pg cgr.length cg, .string ⟨cx.toArray⟩] 33)).trans (KStep.reserve kb _ _ V (.cells #[.int .i64 0, .int .i64 0, .string ⟨#[]⟩] 40)))
  have HBX := hid (heap_alloc2_new w (.cells #[.int .i64 9, .int .i64 ch, .int .i64 ct, .int .i64 cn, .int .i64 cc, .slice pl clb.length cl, .slice pg cgr.length cg, .string ⟨cx.toArray⟩] 33) (.cells #[.int .i64 0, .int .i64 0, .string ⟨#[]⟩] 40))
  clear h
  go_enter Try.func19, Try.ntmps19
  go_wp2_with (first
    | (go_at_call 39; refine (thread_in kb t _ h4).mono ?_; rintro e w1 ⟨rfl, rfl⟩)
    | (go_at_call 56; refine (last_any cx _ (by omega)).mono ?_; rintro e w5 ⟨rfl, hw5⟩; have hk5 := HA.out.below hw5; have ht5 := hk5.tat t h1 h2; obtain ⟨_, _, d2, _, _⟩ := ht5.cells; have f2 := ht5.frozen (2 + t * 5 + 2); have hst := ht5.text (lastL cx); have HK1 := hid (hk5.step h1 h2 hst.1 hst.2); have HS1 := hid ((KStep.below hw5).trans (KStep.of h1 hst.2)); have HX1 := hid (box_kstep HS1.out HA.out HBX.out (by decide) (by decide) (by decide) (by decide)); clear hk5 ht5 hst hw5)
    | (go_at_call 49; refine (answer_lit _ _).mono ?_; rintro e w2 ⟨rfl, hw2⟩; obtain ⟨G2, V2, hk2, hs2⟩ : ∃ G2 V2, KerAt w2 kb G2 V2 { K with ths := K.ths.set t { K.ths[t] with text := lastL cx } } ∧ KStep kb _ _ V w2 G2 V2 := ⟨_, _, HK1.out.below hw2, HS1.out.trans (KStep.below hw2)⟩; have hx2' := heap_keep HX1.out hw2; obtain ⟨c0, c1, c2, f0, f1, f2⟩ := cells3 hx2'; have HX2 := hid hx2'; have HK2 := hid hk2; have HS2 := hid hs2; clear hx2' hk2 hs2 hw2))
  have hin : w.heap.size + 1 ∈ G2 := HS2.out.more.1 _ (by simp)
  have hg := st3_grown w2 (w.heap.size + 1) (.int .i64 0) (.int .i64 0) (.string ⟨#[]⟩)
  exact bodyPost_ret (results_cell_row rfl _ _ (w.heap.size + 1) 40 _ (0, 0) _ rfl (st3_heap (.int .i64 0) (.int .i64 0) (.string ⟨#[]⟩) HX2.out) Try.underlying40 rfl (by kernel_rfl)) rfl ⟨rfl, G2, V2, HK2.out.boxed hg hin HX2.out (by decide) (by decide) (by decide) (by decide), (HS.out.trans HS2.out).boxed hg (by omega)⟩
end Go.Proofs.Ytichphepfmafjac

namespace Go.Proofs.Ytichphepfmafjac
open Go.RowKit Go.Proofs.Parclose

theorem fit_of {m : Mal} (h : mailE m = 0) : MailFit m := by
  unfold mailE at h
  split at h
  · rename_i g
    split at h
    · simp only [Bool.and_eq_true] at g
      have g1 := of_decide_eq_true g.1.1.1
      have g2 := of_decide_eq_true g.1.1.2
      exact ⟨g1, g2, by assumption⟩
    · cases h
  · cases h

theorem objAt_some {K : Ker} {t n : Int} {o : Obt} (h : objAt K t n = some o) : ∃ u i : Nat, t = u ∧ n = i ∧ ∃ (hu : u < K.ths.length) (hi : i < K.ths[u].objs.length), K.ths[u].objs[i] = o := by
  unfold objAt at h
  split at h
  · cases h
  · rename_i th hth
    obtain ⟨u, rfl, hu, rfl⟩ := getT_some hth
    split at h
    · rename_i h0
      obtain ⟨hi, e⟩ := List.getElem?_eq_some_iff.1 h
      exact ⟨u, n.toNat, rfl, by omega, hu, hi, e⟩
    · cases h

theorem Call_any (kb : Nat) (t : Int) (F : List Nat) (V : List ThrV) (K : Ker) (c : Cal) (vc : Value) (w : World) (h : KerAt w kb F V K) (hg : GoodK K) (hc : CalAt w vc c) :
    Calls Try.prog 19 #[.pointer (some ⟨kb, 0, none⟩), .int .i64 t, vc] w fun e w' => e = .returned (repV (callL K t c).2) ∧ ∃ G V', KerAt w' kb G V' (callL K t c).1 ∧ KStep kb w F V w' G V' := by
  have hV : V.length = 4 := h.len
  cases hth : getT K t with
  | none =>
    have e : callL K t c = (K, code 4) := by unfold callL; rw [hth]
    rw [e]
    exact Call_out kb t F V K c vc w h (getT_none hg.four hth) hc
  | some th =>
    obtain ⟨n, rfl, hn, rfl⟩ := getT_some hth
    have e : callL K n c = callT K n K.ths[n] c := by unfold callL; rw [hth]
    rw [e]
    have h1 : n < V.length := by rw [hV]; have := hg.four; omega
    have gt := hg.ths _ (List.getElem_mem hn)
    have hown : K.ths[n].own.length ≤ 1000 := Nat.le_trans gt.own (by decide)
    have htext : K.ths[n].text.length ≤ 1000 := Nat.le_trans gt.text (by decide)
    unfold callT
    by_cases hx : 64 < c.text.length
    · rw [if_pos hx]
      exact Call_long kb n F V K c vc w h h1 hc hx
    rw [if_neg hx]
    have hx64 : c.text.length ≤ 64 := by omega
    have hx1000 : c.text.length ≤ 1000 := by omega
    by_cases k1 : c.kind = 1
    · rw [if_pos k1]
      exact Call_category kb n F V K c vc w h h1 hn hc k1 hx64 gt.sorted gt.own hg.host hg.made
    rw [if_neg k1]
    by_cases k2 : c.kind = 2
    · rw [if_pos k2, setT_nat]
      exact Call_object kb n F V K c vc w h h1 hn hc k2 hx64 hown (Nat.le_trans gt.objs (by decide))
    rw [if_neg k2]
    by_cases k3 : c.kind = 3
    · rw [if_pos k3]
      cases ho : objAt K c.t c.n with
      | none =>
        have e3 : putL K K.ths[n] c = K := by unfold putL; rw [ho]; cases getT K c.t <;> rfl
        rw [e3]
        exact Call_put kb n F V K c vc w h h1 hc k3 hx64 K (code 0) (fun w1 F1 vc1 g1 g2 => put_none kb n F1 V K c vc1 w1 g1 g2 ho)
      | some o =>
        obtain ⟨u, i, hct, hcn, hu, hi, rfl⟩ := objAt_some ho
        have u1 : u < V.length := by rw [hV]; have := hg.four; omega
        have e3 : putL K K.ths[n] c = if flowsL K.ths[n].label K.ths[u].objs[i].label K.ths[n].own then { K with ths := K.ths.set u (putO K.ths[u] i (lastL (K.ths[n].text ++ c.text))) } else K := by
          unfold putL
          rw [ho, hct, getT_nat hu]
          simp only [setT_nat, hcn]
        rw [e3]
        cases hf : flowsL K.ths[n].label K.ths[u].objs[i].label K.ths[n].own with
        | false => exact Call_put kb n F V K c vc w h h1 hc k3 hx64 K (code 0) (fun w1 F1 vc1 g1 g2 => put_not kb n u i F1 V K c vc1 w1 g1 h1 hn u1 hu hown hi hct hcn hx1000 g2 hf)
        | true => exact Call_put kb n F V K c vc w h h1 hc k3 hx64 _ (code 0) (fun w1 F1 vc1 g1 g2 => put_yes kb n u i F1 V K c vc1 w1 g1 h1 hn u1 hu hown hi hct hcn hx1000 g2 hf htext)
    rw [if_neg k3]
    by_cases k4 : c.kind = 4
    · rw [if_pos k4]
      cases ho : objAt K c.t c.n with
      | none =>
        have e4 : getL K n K.ths[n] c = (K, code 4) := by unfold getL; rw [ho]
        rw [e4]
        exact Call_get kb n F V K c vc w h h1 hc k4 hx64 K (code 4) (fun w1 F1 vc1 g1 g2 => get_none kb n F1 V K c vc1 w1 g1 g2 ho)
      | some o =>
        obtain ⟨u, i, hct, hcn, hu, hi, rfl⟩ := objAt_some ho
        have u1 : u < V.length := by rw [hV]; have := hg.four; omega
        have hot : K.ths[u].objs[i].text.length ≤ 1000 := Nat.le_trans ((hg.ths _ (List.getElem_mem hu)).obj _ (List.getElem_mem hi)).1 (by decide)
        have e4 : getL K n K.ths[n] c = if flowsL K.ths[u].objs[i].label K.ths[n].label K.ths[n].own then ({ K with ths := K.ths.set n { K.ths[n] with text := lastL (K.ths[n].text ++ K.ths[u].objs[i].text) } }, ⟨0, (K.ths[u].objs[i].text.length : Int), []⟩) else (K, code 4) := by
          unfold getL
          rw [ho]
          simp only [setT_nat]
        rw [e4]
        cases hf : flowsL K.ths[u].objs[i].label K.ths[n].label K.ths[n].own with
        | false => exact Call_get kb n F V K c vc w h h1 hc k4 hx64 K (code 4) (fun w1 F1 vc1 g1 g2 => get_not kb n u i F1 V K c vc1 w1 g1 h1 hn u1 hu hown hi hct hcn hx1000 g2 hf)
        | true => exact Call_get kb n F V K c vc w h h1 hc k4 hx64 _ _ (fun w1 F1 vc1 g1 g2 => get_yes kb n u i F1 V K c vc1 w1 g1 h1 hn u1 hu hown hi hct hcn hx1000 g2 hf htext hot)
    rw [if_neg k4]
    by_cases k5 : c.kind = 5
    · rw [if_pos k5, setT_nat]
      exact Call_level kb n F V K c vc w h h1 hn hc k5 hx64 hown
    rw [if_neg k5]
    by_cases k7 : c.kind = 7
    · rw [if_pos k7, setT_nat]
      exact Call_take kb n F V K c vc w h h1 hn hc k7 hx64 gt.sorted gt.own htext (fun m hm => fit_of (gt.mail m hm)) (Nat.le_trans gt.mails (by decide))
    rw [if_neg k7]
    by_cases k9 : c.kind = 9
    · rw [if_pos k9, setT_nat]
      exact Call_forget kb n F V K c vc w h h1 hn hc k9 hx64
    rw [if_neg k9]
    by_cases k10 : c.kind = 10
    · rw [if_pos k10]
      exact Call_say kb n F V K c vc w h h1 hn hc k10 hx64
    rw [if_neg k10]
    exact Call_other kb n F V K c vc w h h1 hc hx64 k1 k2 k3 k4 k5 k7 k9 k10
end Go.Proofs.Ytichphepfmafjac
