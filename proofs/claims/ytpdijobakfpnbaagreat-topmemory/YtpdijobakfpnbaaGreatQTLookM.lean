/- The look of TopMemory: whatever is written over what a cluster has told, another one to which nothing is done answers the same. -/
import Derived.Test.YtpdijobakfpnbaaGreatQCMove
import Derived.Test.YtpdijobakfpnbaaGreatQKTake
import Derived.Deep.RegionHeld3
namespace Go.Proofs.YtpdijobakfpnbaaGreat
open Go.RowKit Go.Proofs.Parclose
theorem Qg4 {cb : Nat} {w w' : World} {F G : List Nat} {Z Z' : CluV} (h : CStep cb w.drew F Z w' G Z') : CStep cb w F Z w' G Z' := ⟨⟨h.kept.os, h.kept.tape, h.kept.output, h.kept.size, h.kept.block⟩, h.own, h.more⟩
def JM (Bo : Nat) (w : World) (F : List Nat) (cb : Nat) (Z : CluV) (C : Clu) : Prop := ∃ (kb : Nat) (Zb : CluV), w.heap[Bo]? = some (.cells #[.pointer (some ⟨kb, 0, none⟩)] 23 (0, 0)) ∧ CluAt w kb F Zb C ∧ ∀ k ∈ cownL cb Z, k ∉ cownL kb Zb
theorem JM.below {Bo cb : Nat} {w w' : World} {F : List Nat} {Z : CluV} {C : Clu} (h : JM Bo w F cb Z C) (hb : Below w.heap.size w w') : JM Bo w' F cb Z C := by
 obtain ⟨kb, Zb, h1, h2, h3⟩ := h
 exact ⟨kb, Zb, Qe h1 hb, h2.below hb, h3⟩
theorem JM.step {Bo cb : Nat} {w w' : World} {F G : List Nat} {Z Z' : CluV} {C D : Clu} (h : JM Bo w F cb Z C) (hs : CStep cb w F Z w' G Z') (hc : CluAt w cb F Z D) (hG : ∀ k ∈ G, k < w'.heap.size) : JM Bo w' G cb Z' C := by
 obtain ⟨kb, Zb, h1, h2, h3⟩ := h
 refine ⟨kb, Zb, QC hs hc h1 (by decide) (by decide) (by decide) (by decide) (by decide) (by decide), h2.keep hs.kept (fun k hk => hc.ownF k hk) hs.more (fun k hk e => h3 k e hk) hG, fun k hk e => ?_⟩
 rcases hs.own k hk with g | g
 · exact h3 k g e
 · have := h2.fin k (h2.ownF k e)
   omega
set_option maxRecDepth 100000 in
set_option maxHeartbeats 25600000 in
theorem QdN (cb Bo : Nat) (F : List Nat) (Z : CluV) (C0 : Clu) (a : Ac) (r : Rep) (pl pg : Option Addr) (cl cg : Nat) (w : World) (hc : CluAt w cb F Z (doC C0 a).1) (hg0 : GoodC C0) (hr : (doC C0 a).2 = r) (hj : JM Bo w F cb Z C0) (hv : ∀ w', Below w.heap.size w w' → AcRo w' F (.agg #[.int .i64 a.kind, .int .i64 a.h, .int .i64 a.t, .int .i64 a.n, .int .i64 a.call.kind, .int .i64 a.call.h, .int .i64 a.call.t, .int .i64 a.call.n, .int .i64 a.call.c, .slice pl a.call.label.length cl, .slice pg a.call.grants.length cg, .string ⟨a.call.text.toArray⟩]) a) :
 Calls Tryz.prog 17 #[.pointer (some ⟨cb, 0, none⟩), (.agg #[.int .i64 a.kind, .int .i64 a.h, .int .i64 a.t, .int .i64 a.n, .int .i64 a.call.kind, .int .i64 a.call.h, .int .i64 a.call.t, .int .i64 a.call.n, .int .i64 a.call.c, .slice pl a.call.label.length cl, .slice pg a.call.grants.length cg, .string ⟨a.call.text.toArray⟩]), (.agg #[.int .i64 r.code, .int .i64 r.n, .string ⟨r.text.toArray⟩]), .pointer (some ⟨Bo, 0, none⟩)] w fun e w' => e = .returned (.bool true) ∧ ∃ G, JM Bo w' G cb Z (doC C0 a).1 ∧ CluAt w' cb G Z (doC C0 a).1 ∧ (∀ (b : Nat) (V : Array Value) (t : TypeId), FarT t → w.heap[b]? = some (.cells V t (0, 0)) → w'.heap[b]? = some (.cells V t (0, 0))) ∧ ∀ n, (∀ k ∈ F, n ≤ k) → n ≤ w.heap.size → Below n w w' ∧ ∀ k ∈ G, n ≤ k := by
 obtain ⟨kb, Zb, hxo, hck, hap⟩ := hj
 have hb1 := Qc w (.cells #[.int .i64 a.kind, .int .i64 a.h, .int .i64 a.t, .int .i64 a.n, .int .i64 a.call.kind, .int .i64 a.call.h, .int .i64 a.call.t, .int .i64 a.call.n, .int .i64 a.call.c, .slice pl a.call.label.length cl, .slice pg a.call.grants.length cg, .string ⟨a.call.text.toArray⟩] 39)
 have hb2 := Qc (w.alloc (.cells #[.int .i64 a.kind, .int .i64 a.h, .int .i64 a.t, .int .i64 a.n, .int .i64 a.call.kind, .int .i64 a.call.h, .int .i64 a.call.t, .int .i64 a.call.n, .int .i64 a.call.c, .slice pl a.call.label.length cl, .slice pg a.call.grants.length cg, .string ⟨a.call.text.toArray⟩] 39)) (.cells #[.int .i64 r.code, .int .i64 r.n, .string ⟨r.text.toArray⟩] 31)
 have HXA := hid (Qe (heap_alloc_new w (.cells #[.int .i64 a.kind, .int .i64 a.h, .int .i64 a.t, .int .i64 a.n, .int .i64 a.call.kind, .int .i64 a.call.h, .int .i64 a.call.t, .int .i64 a.call.n, .int .i64 a.call.c, .slice pl a.call.label.length cl, .slice pg a.call.grants.length cg, .string ⟨a.call.text.toArray⟩] 39)) hb2)
 have HXR := hid (heap_alloc_new (w.alloc (.cells #[.int .i64 a.kind, .int .i64 a.h, .int .i64 a.t, .int .i64 a.n, .int .i64 a.call.kind, .int .i64 a.call.h, .int .i64 a.call.t, .int .i64 a.call.n, .int .i64 a.call.c, .slice pl a.call.label.length cl, .slice pg a.call.grants.length cg, .string ⟨a.call.text.toArray⟩] 39)) (.cells #[.int .i64 r.code, .int .i64 r.n, .string ⟨r.text.toArray⟩] 31))
 rw [World.size_alloc] at HXR
 have hb3 := Qd hb1 hb2
 have HB3 := hid hb3
 have HXO := hid (Qe hxo hb3)
 have HC1 := hid (hc.below hb3)
 have HCK := hid (hck.below hb3)
 have HAP := hid hap
 have HGC := hid (Qbv hg0 a)
 have hdo := Qda kb F Zb C0 _ a ((w.alloc (.cells #[.int .i64 a.kind, .int .i64 a.h, .int .i64 a.t, .int .i64 a.n, .int .i64 a.call.kind, .int .i64 a.call.h, .int .i64 a.call.t, .int .i64 a.call.n, .int .i64 a.call.c, .slice pl a.call.label.length cl, .slice pg a.call.grants.length cg, .string ⟨a.call.text.toArray⟩] 39)).alloc (.cells #[.int .i64 r.code, .int .i64 r.n, .string ⟨r.text.toArray⟩] 31)).drew ((hck.below hb3).below (Below.refl _ _).drew) hg0 (hv _ (Qd hb3 (Below.refl _ _).drew))
 rw [hr] at hdo
 generalize doC C0 a = D at *
 clear hxo hck hap hc hg0 hv hb1 hb2 hb3
 have HS1 : Hid (∀ w' : World, w'.heap[Bo]? = some (.cells #[.pointer (some ⟨kb, 0, none⟩)] 23 (0, 0)) → w'.heap[w.heap.size]? = some (.cells #[.int .i64 a.kind, .int .i64 a.h, .int .i64 a.t, .int .i64 a.n, .int .i64 a.call.kind, .int .i64 a.call.h, .int .i64 a.call.t, .int .i64 a.call.n, .int .i64 a.call.c, .slice pl a.call.label.length cl, .slice pg a.call.grants.length cg, .string ⟨a.call.text.toArray⟩] 39 (0, 0)) → w'.heap[w.heap.size + 1]? = some (.cells #[.int .i64 r.code, .int .i64 r.n, .string ⟨r.text.toArray⟩] 31 (0, 0)) → w'.cell? ⟨Bo, 0, none⟩ = some (.pointer (some ⟨kb, 0, none⟩)) ∧ (w'.cell? ⟨w.heap.size, 0, none⟩ = some (.int .i64 a.kind) ∧ w'.cell? ⟨w.heap.size, 1, none⟩ = some (.int .i64 a.h) ∧ w'.cell? ⟨w.heap.size, 2, none⟩ = some (.int .i64 a.t) ∧ w'.cell? ⟨w.heap.size, 3, none⟩ = some (.int .i64 a.n) ∧ w'.cell? ⟨w.heap.size, 4, none⟩ = some (.int .i64 a.call.kind) ∧ w'.cell? ⟨w.heap.size, 5, none⟩ = some (.int .i64 a.call.h) ∧ w'.cell? ⟨w.heap.size, 6, none⟩ = some (.int .i64 a.call.t) ∧ w'.cell? ⟨w.heap.size, 7, none⟩ = some (.int .i64 a.call.n) ∧ w'.cell? ⟨w.heap.size, 8, none⟩ = some (.int .i64 a.call.c) ∧ w'.cell? ⟨w.heap.size, 9, none⟩ = some (.slice pl a.call.label.length cl) ∧ w'.cell? ⟨w.heap.size, 10, none⟩ = some (.slice pg a.call.grants.length cg) ∧ w'.cell? ⟨w.heap.size, 11, none⟩ = some (.string ⟨a.call.text.toArray⟩)) ∧ w'.cell? ⟨w.heap.size + 1, 0, none⟩ = some (.int .i64 r.code) ∧ w'.cell? ⟨w.heap.size + 1, 1, none⟩ = some (.int .i64 r.n) ∧ w'.cell? ⟨w.heap.size + 1, 2, none⟩ = some (.string ⟨r.text.toArray⟩)) := hid (fun w' h1 h2 h3 => ⟨Qa h1 0, ⟨Qa h2 0, Qa h2 1, Qa h2 2, Qa h2 3, Qa h2 4, Qa h2 5, Qa h2 6, Qa h2 7, Qa h2 8, Qa h2 9, Qa h2 10, Qa h2 11⟩, Qa h3 0, Qa h3 1, Qa h3 2⟩)
 go_enter Tryz.func17, Tryz.ntmps17
 go_upto_region 1 with fail
 generalize (w.alloc (.cells #[.int .i64 a.kind, .int .i64 a.h, .int .i64 a.t, .int .i64 a.n, .int .i64 a.call.kind, .int .i64 a.call.h, .int .i64 a.call.t, .int .i64 a.call.n, .int .i64 a.call.c, .slice pl a.call.label.length cl, .slice pg a.call.grants.length cg, .string ⟨a.call.text.toArray⟩] 39)).alloc (.cells #[.int .i64 r.code, .int .i64 r.n, .string ⟨r.text.toArray⟩] 31) = w1 at *
 refine wp_region_held_drew (S := (fun w' => w'.cell? ⟨Bo, 0, none⟩ = some (.pointer (some ⟨kb, 0, none⟩)) ∧ (w'.cell? ⟨w.heap.size, 0, none⟩ = some (.int .i64 a.kind) ∧ w'.cell? ⟨w.heap.size, 1, none⟩ = some (.int .i64 a.h) ∧ w'.cell? ⟨w.heap.size, 2, none⟩ = some (.int .i64 a.t) ∧ w'.cell? ⟨w.heap.size, 3, none⟩ = some (.int .i64 a.n) ∧ w'.cell? ⟨w.heap.size, 4, none⟩ = some (.int .i64 a.call.kind) ∧ w'.cell? ⟨w.heap.size, 5, none⟩ = some (.int .i64 a.call.h) ∧ w'.cell? ⟨w.heap.size, 6, none⟩ = some (.int .i64 a.call.t) ∧ w'.cell? ⟨w.heap.size, 7, none⟩ = some (.int .i64 a.call.n) ∧ w'.cell? ⟨w.heap.size, 8, none⟩ = some (.int .i64 a.call.c) ∧ w'.cell? ⟨w.heap.size, 9, none⟩ = some (.slice pl a.call.label.length cl) ∧ w'.cell? ⟨w.heap.size, 10, none⟩ = some (.slice pg a.call.grants.length cg) ∧ w'.cell? ⟨w.heap.size, 11, none⟩ = some (.string ⟨a.call.text.toArray⟩)) ∧ w'.cell? ⟨w.heap.size + 1, 0, none⟩ = some (.int .i64 r.code) ∧ w'.cell? ⟨w.heap.size + 1, 1, none⟩ = some (.int .i64 r.n) ∧ w'.cell? ⟨w.heap.size + 1, 2, none⟩ = some (.string ⟨r.text.toArray⟩))) (by as_aux_lemma => kernel_rfl) (HS1.out w1.drew HXO.out HXA.out HXR.out) (fun _hHeld => ?_)
 refine takeF 0 22 ?v1 rfl (Or.inl ⟨by rfl, ?hy1⟩) ?rest1
 case hy1 => intro wz hSw; (try dsimp only at hSw); go_simp; try with_reducible rfl
 simp only [Act.put, List.setIfInBounds_toArray, List.set_cons_zero, List.set_cons_succ]
 refine takeF 1 23 ?v2 rfl (Or.inl ⟨by rfl, ?hy2⟩) ?rest2
 case hy2 => intro wz hSw; (try dsimp only at hSw); go_simp; try with_reducible rfl
 simp only [Act.put, List.setIfInBounds_toArray, List.set_cons_zero, List.set_cons_succ]
 refine takeF 3 25 ?v3 rfl (Or.inl ⟨by rfl, ?hy3⟩) ?rest3
 case hy3 => intro wz hSw; (try dsimp only at hSw); go_simp; try with_reducible rfl
 simp only [Act.put, List.setIfInBounds_toArray, List.set_cons_zero, List.set_cons_succ]
 refine wpAnyH_ready (rs := [2]) (by as_aux_lemma => kernel_rfl) (by simp) ?_
 refine (AllReadyH.cons rfl (fun K' hK => ?_) AllReadyH.nil)
 go_simp
 go_wp2_with (go_at_call 11; refine hdo.mono ?_; rintro e wB ⟨rfl, G, Zc, hcB, hsB⟩)
 have HST := hid (Qg4 hsB)
 have HCB := hid hcB
 clear hcB hsB hdo
 refine hK.out _ _ (HS1.out _ (QC HST.out HCK.out HXO.out (by decide) (by decide) (by decide) (by decide) (by decide) (by decide)) (QC HST.out HCK.out HXA.out (by decide) (by decide) (by decide) (by decide) (by decide) (by decide)) (QC HST.out HCK.out HXR.out (by decide) (by decide) (by decide) (by decide) (by decide) (by decide))) (fun _ => ?_)
 clear hK K'
 refine takeF 4 26 ?v4 rfl (Or.inl ⟨by rfl, ?hy4⟩) ?rest4
 case hy4 => intro wz hSw; (try dsimp only at hSw); go_simp; try with_reducible rfl
 simp only [Act.put, List.setIfInBounds_toArray, List.set_cons_zero, List.set_cons_succ]
 refine wpAnyH_done (by as_aux_lemma => kernel_rfl) ?_ _
 have HT : Hid (Two wB G kb Zc D.1 cb Z D.1) := hid (Two.step ⟨HCK.out, HC1.out, fun k hk e => HAP.out k e hk⟩ HST.out HCB.out)
 have HXB := hid (QC HST.out HCK.out HXO.out (by decide) (by decide) (by decide) (by decide) (by decide) (by decide))
 clear HXA HXR HS1 HC1
 go_wp2_with fail
 go_loopw [8] (fun c wr => ∃ i : Nat, i ≤ 4 ∧ c = .int .i64 i ∧ Below wB.heap.size wB wr) (fun c _ => 4 - (intOf c).toNat)
 case atStart => exact ⟨0, by omega, rfl, Below.refl _ _⟩
 case round =>
  obtain ⟨i, hi, rfl, hbr⟩ := hrel
  obtain ⟨wo, hwo⟩ : ∃ wo, wo = wr := ⟨_, rfl⟩
  subst hwo
  have HBo := hid hbr
  clear hbr
  by_cases hi4 : i < 4
  · have hI : (i : Int) < 4 := by omega
    go_wp2_with fail
    go_loopw [9] (fun c wr => ∃ j : Nat, j ≤ 4 ∧ c = .int .i64 j ∧ Below wB.heap.size wB wr) (fun c _ => 4 - (intOf c).toNat)
    case atStart => exact ⟨0, by omega, rfl, HBo.out⟩
    case round =>
     clear HBo
     obtain ⟨j, hj, rfl, hbr⟩ := hrel
     obtain ⟨wi, hwi⟩ : ∃ wi, wi = wr := ⟨_, rfl⟩
     subst hwi
     have HBi := hid hbr
     clear hbr
     by_cases hj4 : j < 4
     · have hJ : (j : Int) < 4 := by omega
       have hthr := QcT cb i j G Z D.1 wi (HT.out.two.below HBi.out) HGC.out
       have hthB := fun wx (hb : Below wi.heap.size wi wx) => QcT kb i j G Zc D.1 wx (HT.out.one.below (Qd HBi.out hb)) HGC.out
       have HGT := hid (Qib HGC.out i j)
       generalize thrC D.1 i j = th at *
       have hbl8 := HGT.out.label.1
       have hbo8 := HGT.out.own
       have hbj4 := HGT.out.objs
       have hbm6 := HGT.out.mails
       go_upto_region 10 with (go_at_call 13; refine hthr.mono ?_; rintro e w3 ⟨p1, pa, p2, pb, p3, pc, p4, pd, rfl, hn3, hw3⟩)
       have hbx := Qc w3 (.cells #[.slice p1 th.label.length pa, .slice p2 th.own.length pb, .string ⟨th.text.toArray⟩, .slice p3 th.objs.length pc, .slice p4 th.mails.length pd] 45)
       have HX4 := hid (heap_alloc_new w3 (.cells #[.slice p1 th.label.length pa, .slice p2 th.own.length pb, .string ⟨th.text.toArray⟩, .slice p3 th.objs.length pc, .slice p4 th.mails.length pd] 45))
       have HN4 := hid (hn3.below hbx)
       have HB4 := hid (Qd hw3 hbx)
       replace hthB := fun wx (hb : Below (w3.alloc (.cells #[.slice p1 th.label.length pa, .slice p2 th.own.length pb, .string ⟨th.text.toArray⟩, .slice p3 th.objs.length pc, .slice p4 th.mails.length pd] 45)).heap.size (w3.alloc (.cells #[.slice p1 th.label.length pa, .slice p2 th.own.length pb, .string ⟨th.text.toArray⟩, .slice p3 th.objs.length pc, .slice p4 th.mails.length pd] 45)) wx) => hthB wx (Qd HB4.out hb)
       clear hthr hn3 hw3 hbx
       generalize w3.alloc (.cells #[.slice p1 th.label.length pa, .slice p2 th.own.length pb, .string ⟨th.text.toArray⟩, .slice p3 th.objs.length pc, .slice p4 th.mails.length pd] 45) = w4 at *
       have HXO4 := hid (Qe HXB.out (Qd HBi.out HB4.out))
       have HS10 : Hid (∀ w', Below w4.heap.size w4 w' → w'.cell? ⟨Bo, 0, none⟩ = some (.pointer (some ⟨kb, 0, none⟩)) ∧ w'.cell? ⟨w3.heap.size, 0, none⟩ = some (.slice p1 th.label.length pa) ∧ w'.cell? ⟨w3.heap.size, 1, none⟩ = some (.slice p2 th.own.length pb) ∧ w'.cell? ⟨w3.heap.size, 2, none⟩ = some (.string ⟨th.text.toArray⟩) ∧ w'.cell? ⟨w3.heap.size, 3, none⟩ = some (.slice p3 th.objs.length pc) ∧ w'.cell? ⟨w3.heap.size, 4, none⟩ = some (.slice p4 th.mails.length pd)) := hid (fun w' hw => ⟨Qa (Qe HXO4.out hw) 0, Qa (Qe HX4.out hw) 0, Qa (Qe HX4.out hw) 1, Qa (Qe HX4.out hw) 2, Qa (Qe HX4.out hw) 3, Qa (Qe HX4.out hw) 4⟩)
       refine wp_region_held_drew (S := (fun w' => w'.cell? ⟨Bo, 0, none⟩ = some (.pointer (some ⟨kb, 0, none⟩)) ∧ w'.cell? ⟨w3.heap.size, 0, none⟩ = some (.slice p1 th.label.length pa) ∧ w'.cell? ⟨w3.heap.size, 1, none⟩ = some (.slice p2 th.own.length pb) ∧ w'.cell? ⟨w3.heap.size, 2, none⟩ = some (.string ⟨th.text.toArray⟩) ∧ w'.cell? ⟨w3.heap.size, 3, none⟩ = some (.slice p3 th.objs.length pc) ∧ w'.cell? ⟨w3.heap.size, 4, none⟩ = some (.slice p4 th.mails.length pd))) (by as_aux_lemma => kernel_rfl) (HS10.out _ (Below.refl _ _).drew) (fun _hHeld => ?_)
       refine takeF 0 39 ?v5 rfl (Or.inl ⟨by rfl, ?hy5⟩) ?rest5
       case hy5 => intro wz hSw; (try dsimp only at hSw); go_simp; try with_reducible rfl
       simp only [Act.put, List.setIfInBounds_toArray, List.set_cons_zero, List.set_cons_succ]
       refine takeF 1 40 ?v6 rfl (Or.inl ⟨by rfl, ?hy6⟩) ?rest6
       case hy6 => intro wz hSw; (try dsimp only at hSw); go_simp; try with_reducible rfl
       simp only [Act.put, List.setIfInBounds_toArray, List.set_cons_zero, List.set_cons_succ]
       refine takeF 2 41 ?v7 rfl (Or.inl ⟨by rfl, ?hy7⟩) ?rest7
       case hy7 => intro wz hSw; (try dsimp only at hSw); go_simp; try with_reducible rfl
       simp only [Act.put, List.setIfInBounds_toArray, List.set_cons_zero, List.set_cons_succ]
       refine takeF 3 42 ?v8 rfl (Or.inl ⟨by rfl, ?hy8⟩) ?rest8
       case hy8 => intro wz hSw; (try dsimp only at hSw); go_simp; try with_reducible rfl
       simp only [Act.put, List.setIfInBounds_toArray, List.set_cons_zero, List.set_cons_succ]
       refine wpAnyH_ready (rs := [4]) (by as_aux_lemma => kernel_rfl) (by simp) ?_
       refine (AllReadyH.cons rfl (fun K' hK => ?_) AllReadyH.nil)
       go_simp
       go_wp2_with (go_at_call 13; refine (hthB _ (Below.refl _ _).drew).mono ?_; rintro e w5 ⟨s1, sa, s2, sb, s3, sc, s4, sd, rfl, hn5, hw5d⟩)
       have hw5 := kundrew hw5d
       have HN5 := hid hn5
       clear hn5 hw5d
       refine hK.out _ _ (HS10.out _ hw5) (fun _ => ?_)
       clear hK K'
       refine wpAnyH_ready (rs := [5]) (by as_aux_lemma => kernel_rfl) (by simp) ?_
       refine (AllReadyH.cons rfl (fun K' hK => ?_) AllReadyH.nil)
       go_simp
       go_wp2_with (go_at_call 15; refine (QdI _ _ th p1 p2 p3 p4 s1 s2 s3 s4 pa pb pc pd sa sb sc sd w5 (HN4.out.below hw5) HN5.out HGT.out).mono ?_; rintro e w6 ⟨rfl, hw6⟩)
       refine hK.out _ _ (HS10.out _ (Qd hw5 hw6)) (fun _ => ?_)
       clear hK K'
       refine takeF 6 45 ?v9 rfl (Or.inl ⟨by rfl, ?hy9⟩) ?rest9
       case hy9 => intro wz hSw; (try dsimp only at hSw); go_simp; try with_reducible rfl
       simp only [Act.put, List.setIfInBounds_toArray, List.set_cons_zero, List.set_cons_succ]
       refine wpAnyH_done (by as_aux_lemma => kernel_rfl) ?_ _
       have HX6 := hid (Qe HX4.out (Qd hw5 hw6))
       have HN6 := hid (HN4.out.below (Qd hw5 hw6))
       have HB6 := hid (Qd HB4.out (Qd hw5 hw6))
       clear hthB hw5 hw6 HN5 HS10 HX4 HN4 HB4 HXO4
       obtain ⟨wq, hwq⟩ : ∃ wq, wq = w6 := ⟨_, rfl⟩
       have HSP : Hid (Spo w6 wq) := hid (by rw [hwq]; exact Spo.refl _)
       have HBP : Hid (Below wi.heap.size wi wq) := hid (by rw [hwq]; exact HB6.out)
       have z0 : wq.cell? ⟨w3.heap.size, 0, none⟩ = some (.slice p1 th.label.length pa) := (HSP.out.cell HX6.out (by decide) (by decide) (by decide)).trans (Qa HX6.out 0)
       rw [← hwq]
       clear hwq
       go_wp2_with fail
       go_loopw [49] (fun c wr => ∃ n : Nat, n ≤ th.label.length ∧ c = .int .i64 n ∧ Spo w6 wr ∧ Below wi.heap.size wi wr) (fun c _ => th.label.length - (intOf c).toNat)
       case atStart => exact ⟨0, Nat.zero_le _, rfl, HSP.out, HBP.out⟩
       case round =>
        clear HSP HBP
        obtain ⟨n, hn, rfl, hsp, hbp⟩ := hrel
        obtain ⟨wq, hwq⟩ : ∃ wq, wq = wr := ⟨_, rfl⟩
        subst hwq
        have HSP := hid hsp
        have HBP := hid hbp
        clear hsp hbp
        by_cases hlt : n < th.label.length
        · have hN : (n : Int) < (th.label.length : Int) := by omega
          have N0 : (0 : Int) ≤ n := by omega
          obtain ⟨g, GA, e1, hg1, hg2, hg3⟩ := Qah HN6.out.lab (by omega)
          subst e1
          have z0 : wq.cell? ⟨w3.heap.size, 0, none⟩ = some (.slice (some ⟨g, 0, none⟩) th.label.length pa) := (HSP.out.cell HX6.out (by decide) (by decide) (by decide)).trans (Qa HX6.out 0)
          obtain ⟨⟨u, hu⟩, hf⟩ := (HSP.out.row hg2 hg3).cell (n * 2 + 1) (by omega)
          have hlb := Qf hu
          go_wp2_with fail
          go_roundw
          case rel => exact ⟨n + 1, hlt, by go_num, HSP.out.put hg2 (.inl rfl) _, Qar HBP.out hg1 _⟩
          case measure => simp [intOf]; omega
        · have hnl : n = th.label.length := by omega
          subst hnl
          have z1 : wq.cell? ⟨w3.heap.size, 1, none⟩ = some (.slice p2 th.own.length pb) := (HSP.out.cell HX6.out (by decide) (by decide) (by decide)).trans (Qa HX6.out 1)
          go_wp2_with fail
          go_loopw [61] (fun c wr => ∃ n : Nat, n ≤ th.own.length ∧ c = .int .i64 n ∧ Spo w6 wr ∧ Below wi.heap.size wi wr) (fun c _ => th.own.length - (intOf c).toNat)
          case atStart => exact ⟨0, Nat.zero_le _, rfl, HSP.out, HBP.out⟩
          case round =>
           clear HSP HBP
           obtain ⟨n, hn, rfl, hsp, hbp⟩ := hrel
           obtain ⟨wq, hwq⟩ : ∃ wq, wq = wr := ⟨_, rfl⟩
           subst hwq
           have HSP := hid hsp
           have HBP := hid hbp
           clear hsp hbp
           by_cases hlt : n < th.own.length
           · have hN : (n : Int) < (th.own.length : Int) := by omega
             have N0 : (0 : Int) ≤ n := by omega
             obtain ⟨g, GA, e1, hg1, hg2, hg3⟩ := Qah HN6.out.own (by omega)
             subst e1
             have z1 : wq.cell? ⟨w3.heap.size, 1, none⟩ = some (.slice (some ⟨g, 0, none⟩) th.own.length pb) := (HSP.out.cell HX6.out (by decide) (by decide) (by decide)).trans (Qa HX6.out 1)
             obtain ⟨⟨u, hu⟩, hf⟩ := (HSP.out.row hg2 hg3).cell (n) (by omega)
             have hlb := Qf hu
             go_wp2_with fail
             go_roundw
             case rel => exact ⟨n + 1, hlt, by go_num, HSP.out.put hg2 (.inr (.inl rfl)) _, Qar HBP.out hg1 _⟩
             case measure => simp [intOf]; omega
           · have hnl : n = th.own.length := by omega
             subst hnl
             have z3 : wq.cell? ⟨w3.heap.size, 3, none⟩ = some (.slice p3 th.objs.length pc) := (HSP.out.cell HX6.out (by decide) (by decide) (by decide)).trans (Qa HX6.out 3)
             go_wp2_with fail
             go_loopw [72] (fun c wr => ∃ n : Nat, n ≤ th.objs.length ∧ c = .int .i64 n ∧ Spo w6 wr ∧ Below wi.heap.size wi wr) (fun c _ => th.objs.length - (intOf c).toNat)
             case atStart => exact ⟨0, Nat.zero_le _, rfl, HSP.out, HBP.out⟩
             case round =>
              clear HSP HBP
              obtain ⟨n, hn, rfl, hsp, hbp⟩ := hrel
              obtain ⟨wq, hwq⟩ : ∃ wq, wq = wr := ⟨_, rfl⟩
              subst hwq
              have HSP := hid hsp
              have HBP := hid hbp
              clear hsp hbp
              by_cases hlt : n < th.objs.length
              · have hN : (n : Int) < (th.objs.length : Int) := by omega
                have N0 : (0 : Int) ≤ n := by omega
                obtain ⟨vs, _, hro, _⟩ := id HN6.out.objs
                obtain ⟨go, GO, e1, ho1, ho2, ho3⟩ := Qah hro (by omega)
                obtain ⟨ga, la, lb, e9, c0, c1, ol⟩ := HN6.out.objs.get n hlt
                rw [e1] at e9
                have e8 : go = ga := by injection e9 with e9; injection e9
                subst e8
                clear e9 hro
                subst e1
                have hxl := (HGT.out.obj _ (List.getElem_mem hlt)).2.1
                generalize th.objs[n] = ox at *
                have z3 : wq.cell? ⟨w3.heap.size, 3, none⟩ = some (.slice (some ⟨go, 0, none⟩) th.objs.length pc) := (HSP.out.cell HX6.out (by decide) (by decide) (by decide)).trans (Qa HX6.out 3)
                have y0 : wq.cell? ⟨go, n * 2, none⟩ = some (.slice la ox.label.length lb) := (HSP.out.cell ho2 (by decide) (by decide) (fun _ => by omega)).trans c0
                have hgo := Qf y0
                go_wp2_with fail
                go_loopw [82] (fun c wr => ∃ m : Nat, m ≤ ox.label.length ∧ c = .int .i64 m ∧ Spo w6 wr ∧ Below wi.heap.size wi wr) (fun c _ => ox.label.length - (intOf c).toNat)
                case atStart => exact ⟨0, Nat.zero_le _, rfl, HSP.out, HBP.out⟩
                case round =>
                 clear HSP HBP z3 y0 hgo
                 obtain ⟨m, hm, rfl, hsp, hbp⟩ := hrel
                 obtain ⟨wm, hwm⟩ : ∃ wm, wm = wr := ⟨_, rfl⟩
                 subst hwm
                 have HSP := hid hsp
                 have HBP := hid hbp
                 clear hsp hbp
                 by_cases hl2 : m < ox.label.length
                 · have hM : (m : Int) < (ox.label.length : Int) := by omega
                   have M0 : (0 : Int) ≤ m := by omega
                   obtain ⟨gl, GL, e2, hl1, hlh, hl3⟩ := Qah ol (by omega)
                   subst e2
                   have z3 : wm.cell? ⟨w3.heap.size, 3, none⟩ = some (.slice (some ⟨go, 0, none⟩) th.objs.length pc) := (HSP.out.cell HX6.out (by decide) (by decide) (by decide)).trans (Qa HX6.out 3)
                   have y0 : wm.cell? ⟨go, n * 2, none⟩ = some (.slice (some ⟨gl, 0, none⟩) ox.label.length lb) := (HSP.out.cell ho2 (by decide) (by decide) (fun _ => by omega)).trans c0
                   have hgo := Qf y0
                   obtain ⟨⟨u, hu⟩, hf⟩ := (HSP.out.row hlh hl3).cell (m * 2) (by omega)
                   have hlb := Qf hu
                   go_wp2_with fail
                   go_roundw
                   case rel => exact ⟨m + 1, hl2, by go_num, HSP.out.put hlh (.inl rfl) _, Qar HBP.out hl1 _⟩
                   case measure => simp [intOf]; omega
                 · have hml : m = ox.label.length := by omega
                   subst hml
                   have z3 : wm.cell? ⟨w3.heap.size, 3, none⟩ = some (.slice (some ⟨go, 0, none⟩) th.objs.length pc) := (HSP.out.cell HX6.out (by decide) (by decide) (by decide)).trans (Qa HX6.out 3)
                   have y0 : wm.cell? ⟨go, n * 2, none⟩ = some (.slice la ox.label.length lb) := (HSP.out.cell ho2 (by decide) (by decide) (fun _ => by omega)).trans c0
                   have hgo := Qf y0
                   obtain ⟨⟨u, hu⟩, hf⟩ := (HSP.out.row ho2 ho3).cell (n * 2 + 1) (by omega)
                   go_wp2_with fail
                   go_roundw
                   case rel => exact ⟨n + 1, hlt, by go_num, HSP.out.put ho2 (.inr (.inr ⟨rfl, by omega⟩)) _, Qar HBP.out ho1 _⟩
                   case measure => simp [intOf]; omega
              · have hnl : n = th.objs.length := by omega
                subst hnl
                have z4 : wq.cell? ⟨w3.heap.size, 4, none⟩ = some (.slice p4 th.mails.length pd) := (HSP.out.cell HX6.out (by decide) (by decide) (by decide)).trans (Qa HX6.out 4)
                go_wp2_with fail
                go_loopw [104] (fun c wr => ∃ n : Nat, n ≤ th.mails.length ∧ c = .int .i64 n ∧ Spo w6 wr ∧ Below wi.heap.size wi wr) (fun c _ => th.mails.length - (intOf c).toNat)
                case atStart => exact ⟨0, Nat.zero_le _, rfl, HSP.out, HBP.out⟩
                case round =>
                 clear HSP HBP
                 obtain ⟨n, hn, rfl, hsp, hbp⟩ := hrel
                 obtain ⟨wq, hwq⟩ : ∃ wq, wq = wr := ⟨_, rfl⟩
                 subst hwq
                 have HSP := hid hsp
                 have HBP := hid hbp
                 clear hsp hbp
                 by_cases hlt : n < th.mails.length
                 · have hN : (n : Int) < (th.mails.length : Int) := by omega
                   have N0 : (0 : Int) ≤ n := by omega
                   obtain ⟨vs, _, hro, _⟩ := id HN6.out.mails
                   obtain ⟨gm, GM, e1, ho1, ho2, ho3⟩ := Qah hro (by omega)
                   obtain ⟨ga, la, lb, na, nb, e9, c0, c1, c2, c3, c4, ol, og⟩ := HN6.out.mails.get n hlt
                   rw [e1] at e9
                   have e8 : gm = ga := by injection e9 with e9; injection e9
                   subst e8
                   clear e9 hro
                   subst e1
                   obtain ⟨hxl, hxg⟩ := Qe9 (HGT.out.mail _ (List.getElem_mem hlt))
                   generalize th.mails[n] = mx at *
                   have z4 : wq.cell? ⟨w3.heap.size, 4, none⟩ = some (.slice (some ⟨gm, 0, none⟩) th.mails.length pd) := (HSP.out.cell HX6.out (by decide) (by decide) (by decide)).trans (Qa HX6.out 4)
                   have y2 : wq.cell? ⟨gm, n * 5 + 2, none⟩ = some (.slice la mx.label.length lb) := (HSP.out.cell ho2 (by decide) (by decide) (fun h => absurd h (by decide))).trans c2
                   have hgm := Qf y2
                   go_wp2_with fail
                   go_loopw [114] (fun c wr => ∃ m : Nat, m ≤ mx.label.length ∧ c = .int .i64 m ∧ Spo w6 wr ∧ Below wi.heap.size wi wr) (fun c _ => mx.label.length - (intOf c).toNat)
                   case atStart => exact ⟨0, Nat.zero_le _, rfl, HSP.out, HBP.out⟩
                   case round =>
                    clear HSP HBP z4 y2 hgm
                    obtain ⟨m, hm, rfl, hsp, hbp⟩ := hrel
                    obtain ⟨wm, hwm⟩ : ∃ wm, wm = wr := ⟨_, rfl⟩
                    subst hwm
                    have HSP := hid hsp
                    have HBP := hid hbp
                    clear hsp hbp
                    by_cases hl2 : m < mx.label.length
                    · have hM : (m : Int) < (mx.label.length : Int) := by omega
                      have M0 : (0 : Int) ≤ m := by omega
                      obtain ⟨gl, GL, e2, hl1, hlh, hl3⟩ := Qah ol (by omega)
                      subst e2
                      have z4 : wm.cell? ⟨w3.heap.size, 4, none⟩ = some (.slice (some ⟨gm, 0, none⟩) th.mails.length pd) := (HSP.out.cell HX6.out (by decide) (by decide) (by decide)).trans (Qa HX6.out 4)
                      have y2 : wm.cell? ⟨gm, n * 5 + 2, none⟩ = some (.slice (some ⟨gl, 0, none⟩) mx.label.length lb) := (HSP.out.cell ho2 (by decide) (by decide) (fun h => absurd h (by decide))).trans c2
                      have hgm := Qf y2
                      obtain ⟨⟨u, hu⟩, hf⟩ := (HSP.out.row hlh hl3).cell (m * 2) (by omega)
                      have hlb := Qf hu
                      go_wp2_with fail
                      go_roundw
                      case rel => exact ⟨m + 1, hl2, by go_num, HSP.out.put hlh (.inl rfl) _, Qar HBP.out hl1 _⟩
                      case measure => simp [intOf]; omega
                    · have hml : m = mx.label.length := by omega
                      subst hml
                      have z4 : wm.cell? ⟨w3.heap.size, 4, none⟩ = some (.slice (some ⟨gm, 0, none⟩) th.mails.length pd) := (HSP.out.cell HX6.out (by decide) (by decide) (by decide)).trans (Qa HX6.out 4)
                      have y3 : wm.cell? ⟨gm, n * 5 + 3, none⟩ = some (.slice na mx.grants.length nb) := (HSP.out.cell ho2 (by decide) (by decide) (fun h => absurd h (by decide))).trans c3
                      have hgm := Qf y3
                      go_wp2_with fail
                      go_loopw [134] (fun c wr => ∃ m : Nat, m ≤ mx.grants.length ∧ c = .int .i64 m ∧ Spo w6 wr ∧ Below wi.heap.size wi wr) (fun c _ => mx.grants.length - (intOf c).toNat)
                      case atStart => exact ⟨0, Nat.zero_le _, rfl, HSP.out, HBP.out⟩
                      case round =>
                       clear HSP HBP z4 y3 hgm
                       obtain ⟨m, hm, rfl, hsp, hbp⟩ := hrel
                       obtain ⟨wm, hwm⟩ : ∃ wm, wm = wr := ⟨_, rfl⟩
                       subst hwm
                       have HSP := hid hsp
                       have HBP := hid hbp
                       clear hsp hbp
                       by_cases hl2 : m < mx.grants.length
                       · have hM : (m : Int) < (mx.grants.length : Int) := by omega
                         have M0 : (0 : Int) ≤ m := by omega
                         obtain ⟨gl, GL, e2, hl1, hlh, hl3⟩ := Qah og (by omega)
                         subst e2
                         have z4 : wm.cell? ⟨w3.heap.size, 4, none⟩ = some (.slice (some ⟨gm, 0, none⟩) th.mails.length pd) := (HSP.out.cell HX6.out (by decide) (by decide) (by decide)).trans (Qa HX6.out 4)
                         have y3 : wm.cell? ⟨gm, n * 5 + 3, none⟩ = some (.slice (some ⟨gl, 0, none⟩) mx.grants.length nb) := (HSP.out.cell ho2 (by decide) (by decide) (fun h => absurd h (by decide))).trans c3
                         have hgm := Qf y3
                         obtain ⟨⟨u, hu⟩, hf⟩ := (HSP.out.row hlh hl3).cell (m) (by omega)
                         have hlb := Qf hu
                         go_wp2_with fail
                         go_roundw
                         case rel => exact ⟨m + 1, hl2, by go_num, HSP.out.put hlh (.inr (.inl rfl)) _, Qar HBP.out hl1 _⟩
                         case measure => simp [intOf]; omega
                       · have hml : m = mx.grants.length := by omega
                         subst hml
                         go_wp2_with fail
                         go_roundw
                         case rel => exact ⟨n + 1, hlt, by go_num, HSP.out, HBP.out⟩
                         case measure => simp [intOf]; omega
                 · have hnl : n = th.mails.length := by omega
                   subst hnl
                   go_wp2_with fail
                   go_roundw
                   case rel => exact ⟨j + 1, hj4, by go_num, Below.trans' HBi.out (HBP.out.mono HBi.out.size)⟩
                   case measure => simp [intOf]; omega
     · have hj5 : j = 4 := by omega
       subst hj5
       have hi0 : (0 : Int) ≤ i := by omega
       go_upto_region 47 with (go_at_call 18; refine (QhF cb i hi4 G Z D.1 wi (HT.out.two.below HBi.out)).mono ?_; rintro e w3 ⟨nc, pc, cc, rfl, hrc, hw3⟩)
       have HWC := hid hw3
       have HRC := hid hrc
       have hncl := Qku hrc
       unfold maxLen at hncl
       clear hrc hw3
       go_wp2_with fail
       go_loopw [152] (fun c wr => ∃ n : Nat, n ≤ nc ∧ c = .int .i64 n ∧ Below wi.heap.size wi wr ∧ (0 < nc → ∃ g, pc = some ⟨g, 0, none⟩ ∧ wi.heap.size ≤ g ∧ RowS wr g 60 (nc * 4))) (fun c _ => nc - (intOf c).toNat)
       case atStart => exact ⟨0, Nat.zero_le _, rfl, HWC.out, fun h0 => by obtain ⟨g, GA, e1, h1, h2, h3⟩ := Qah HRC.out h0; exact ⟨g, e1, h1, GA, h2, h3⟩⟩
       case round =>
        obtain ⟨n, hn, rfl, hbp, hro⟩ := hrel
        have HBP := hid hbp
        clear hbp
        by_cases hlt : n < nc
        · have hN : (n : Int) < (nc : Int) := by omega
          have N0 : (0 : Int) ≤ n := by omega
          obtain ⟨g, e1, hg1, hg2⟩ := hro (by omega)
          have HRO := hid hg2
          subst e1
          obtain ⟨⟨u, hu⟩, hf⟩ := hg2.cell (n * 4) (by omega)
          have hlb := Qf hu
          clear hg2 hro
          go_wp2_with fail
          go_roundw
          case rel => exact ⟨n + 1, hlt, by go_num, Qar HBP.out hg1 _, fun _ => ⟨g, rfl, hg1, HRO.out.put _⟩⟩
          case measure => simp [intOf]; omega
        · have hnl : n = nc := by omega
          subst hnl
          clear hro
          go_wp2_with fail
          go_roundw
          case rel => exact ⟨i + 1, hi4, by go_num, Below.trans' HBi.out (HBP.out.mono HBi.out.size)⟩
          case measure => simp [intOf]; omega
  · have hi5 : i = 4 := by omega
    subst hi5
    have hnet := Qff cb G Z D.1 wo (HT.out.two.below HBo.out) HGC.out.net
    have hnn60 := HGC.out.net
    generalize D.1.net.length = nn at *
    go_upto_region 53 with (go_at_call 12; refine hnet.mono ?_; rintro e w3 ⟨pz, cz, rfl, hrz, hw3⟩)
    have HRZ := hid hrz
    have HW3 := hid hw3
    clear hnet hrz hw3
    go_wp2_with fail
    go_loopw [164] (fun c wr => ∃ n : Nat, n ≤ nn ∧ c = .int .i64 n ∧ Below wo.heap.size wo wr ∧ (0 < nn → ∃ g, pz = some ⟨g, 0, none⟩ ∧ wo.heap.size ≤ g ∧ RowS wr g 9 (nn * 1))) (fun c _ => nn - (intOf c).toNat)
    case atStart => exact ⟨0, Nat.zero_le _, rfl, HW3.out, fun h0 => by obtain ⟨g, GA, e1, h1, h2, h3⟩ := Qah HRZ.out h0; exact ⟨g, e1, h1, GA, h2, h3⟩⟩
    case round =>
     clear HW3 HRZ
     obtain ⟨n, hn, rfl, hbp, hro⟩ := hrel
     have HBP := hid hbp
     clear hbp
     by_cases hlt : n < nn
     · have hN : (n : Int) < (nn : Int) := by omega
       have N0 : (0 : Int) ≤ n := by omega
       obtain ⟨g, e1, hg1, hg2⟩ := hro (by omega)
       have HRO := hid hg2
       subst e1
       obtain ⟨⟨u, hu⟩, hf⟩ := hg2.cell n (by omega)
       have hlb := Qf hu
       clear hg2 hro
       go_wp2_with fail
       go_roundw
       case rel => exact ⟨n + 1, hlt, by go_num, Qar HBP.out hg1 _, fun _ => ⟨g, rfl, hg1, HRO.out.put _⟩⟩
       case measure => simp [intOf]; omega
     · have hnl : n = nn := by omega
       subst hnl
       clear hro
       have HBZ := hid (Below.trans' HBo.out (HBP.out.mono HBo.out.size))
       go_wp2_with fail
       go_ret
       refine ⟨rfl, G, ⟨kb, Zc, Qe HXB.out HBZ.out, HT.out.one.below HBZ.out, fun k hk e => HT.out.apart k e hk⟩, HT.out.two.below HBZ.out, fun b V t ht hV => ?_, fun n hF hn => ?_⟩
       · exact Qe (QC HST.out HCK.out (Qe hV HB3.out) ht.1 ht.2.1 ht.2.2.1 ht.2.2.2.1 ht.2.2.2.2.1 ht.2.2.2.2.2) HBZ.out
       · obtain ⟨q1, q2⟩ := HST.out.low HCK.out hF (Nat.le_trans hn HB3.out.size)
         exact ⟨Below.trans' (HB3.out.mono hn) (Below.trans' q1 (HBZ.out.mono (Nat.le_trans hn (Nat.le_trans HB3.out.size HST.out.kept.size)))), q2⟩
set_option maxRecDepth 100000 in
set_option maxHeartbeats 6400000 in
theorem Qfu (Bo : Nat) (Bs : List Nat) (v : Value) (l : List Ac) (w0 w : World) (hv : AcsAt w0 v l) (hw0 : Below w0.heap.size w0 w) (hbs : ∀ b ∈ Bs, w0.heap.size ≤ b ∧ b < w.heap.size) (hJ : ∀ w' G cb Z, Below w.heap.size w w' → (∀ b ∈ Bs, b ∈ G) → (∀ k ∈ cownL cb Z, w.heap.size ≤ k) → (∀ k ∈ G, k < w'.heap.size) → JM Bo w' G cb Z freshClu) :
 Calls Tryz.prog 7 #[v, .func (.func 17) #[] #[.pointer (some ⟨Bo, 0, none⟩)]] w fun e w' => (∃ x, e = .returned (.tuple #[x, .bool true])) ∧ Below w0.heap.size w0 w' := by
 have HV := hid hv
 have HW0 := hid hw0
 have HBS := hid hbs
 have HJ0 := hid hJ
 obtain ⟨p, cap, rfl, hlc, _⟩ := hv.slice
 clear hv hw0 hbs hJ
 go_enter Tryz.func7, Tryz.ntmps7
 go_upto_region 3 with (go_at_call 25; refine (Qgv _).mono ?_; rintro e w1 ⟨rfl, hw1⟩)
 go_upto_region 4 with (go_at_call 16; refine (Qdk _).mono ?_; rintro e w2 ⟨rfl, ⟨kp, F, hc2, hF⟩, hw2⟩)
 have hw12 := Qd hw1 hw2
 have HB2 := hid (Below.trans' HW0.out (hw12.mono HW0.out.size))
 have HF2 : Hid (∀ k ∈ Bs ++ F, w0.heap.size ≤ k) := hid (fun k hk => by
  rcases List.mem_append.1 hk with e | e
  · exact (HBS.out k e).1
  · exact Nat.le_trans HW0.out.size (Nat.le_trans hw1.size (hF k e)))
 have HC2 := hid (hc2.anyF (G := Bs ++ F) (fun k hk => List.mem_append_right _ hk) (fun k hk => by
  rcases List.mem_append.1 hk with e | e
  · exact Nat.lt_of_lt_of_le (HBS.out k e).2 hw12.size
  · exact hc2.fin k e))
 have HJ2 := hid (HJ0.out w2 (Bs ++ F) w1.heap.size (zeroZ kp) hw12 (fun b hb => List.mem_append_left _ hb) (fun k hk => Nat.le_trans hw1.size (hF k (hc2.ownF k hk))) (fun k hk => HC2.out.fin k hk))
 have HWZ := hid hw12.size
 clear hc2 hF hw1 hw2 hw12
 go_wp2_with fail
 go_loopw [7] (fun i wr => ∃ (k : Nat) (G : List Nat) (Z' : CluV), k ≤ l.length ∧ k ≤ 120 ∧ i = .int .i64 k ∧ CluAt wr w1.heap.size G Z' (playC freshClu (l.take k)) ∧ Below w0.heap.size w0 wr ∧ (∀ b ∈ G, w0.heap.size ≤ b) ∧ JM Bo wr G w1.heap.size Z' (playC freshClu (l.take k)) ∧ w.heap.size ≤ wr.heap.size) (fun i _ => l.length - (intOf i).toNat)
 case atStart => exact ⟨0, Bs ++ F, _, Nat.zero_le _, Nat.zero_le _, rfl, HC2.out, HB2.out, HF2.out, HJ2.out, HWZ.out⟩
 case round =>
  clear HC2 HB2 HF2 HJ2 HJ0
  obtain ⟨k, G, Z', hk, hk120, rfl, hck, hbw, hG, hj, hws⟩ := hrel
  have HCK := hid hck
  have HBW := hid hbw
  have HGG := hid hG
  have HJJ := hid hj
  have HWS := hid hws
  have hsz := hbw.size
  clear hck hbw hG hj hws
  by_cases hlt : k < l.length
  · have hI : (k : Int) < (l.length : Int) := by omega
    by_cases h120 : k < 120
    · have hJ : (k : Int) < 120 := by omega
      obtain ⟨b, o, pl, cl, pg, cg, rfl, hla, hin2, q0, q1, q2, q3, q4, q5, q6, q7, q8, q9, q10, q11⟩ := HV.out.get k hlt
      have HPS : Hid (playC freshClu (l.take (k + 1)) = (doC (playC freshClu (l.take k)) l[k]).1) := hid (by rw [← List.take_append_getElem hlt, Qds])
      have HGD := hid (Qdt (l.take k) QbA)
      have HG2 := hid (Qbv HGD.out l[k])
      generalize l[k] = a at *
      have HLA := hid hla
      have HIA := hid hin2
      generalize playC freshClu (l.take k) = Ck at *
      have r0 := (HBW.out.cell (Qf q0)).trans q0
      have r1 := (HBW.out.cell (Qf q1)).trans q1
      have r2 := (HBW.out.cell (Qf q2)).trans q2
      have r3 := (HBW.out.cell (Qf q3)).trans q3
      have r4 := (HBW.out.cell (Qf q4)).trans q4
      have r5 := (HBW.out.cell (Qf q5)).trans q5
      have r6 := (HBW.out.cell (Qf q6)).trans q6
      have r7 := (HBW.out.cell (Qf q7)).trans q7
      have r8 := (HBW.out.cell (Qf q8)).trans q8
      have r9 := (HBW.out.cell (Qf q9)).trans q9
      have r10 := (HBW.out.cell (Qf q10)).trans q10
      have r11 := (HBW.out.cell (Qf q11)).trans q11
      have hbl0 := Qf q0
      have hbl := Nat.lt_of_lt_of_le hbl0 hsz
      have hdo := Qda w1.heap.size G Z' Ck _ a wr HCK.out HGD.out ⟨_, _, rfl, Qeh hla HGG.out (hla.below HBW.out), Qdq hin2 HGG.out (hin2.below HBW.out)⟩
      unfold acV at hdo
      obtain ⟨C2, hC2⟩ : ∃ C2, C2 = (doC Ck a).1 := ⟨_, rfl⟩
      obtain ⟨r, hrr⟩ : ∃ r, r = (doC Ck a).2 := ⟨_, rfl⟩
      rw [← hC2, ← hrr] at hdo
      rw [← hC2] at HPS HG2
      have HRR := hid hrr.symm
      have HCC := hid hC2
      clear hC2 hrr
      have HQ : Hid (∀ w', Below w0.heap.size w0 w' → w'.cell? ⟨b, o + k * 12, none⟩ = some (.int .i64 a.kind) ∧ w'.cell? ⟨b, o + k * 12 + 1, none⟩ = some (.int .i64 a.h) ∧ w'.cell? ⟨b, o + k * 12 + 2, none⟩ = some (.int .i64 a.t) ∧ w'.cell? ⟨b, o + k * 12 + 3, none⟩ = some (.int .i64 a.n) ∧ w'.cell? ⟨b, o + k * 12 + 4, none⟩ = some (.int .i64 a.call.kind) ∧ w'.cell? ⟨b, o + k * 12 + 5, none⟩ = some (.int .i64 a.call.h) ∧ w'.cell? ⟨b, o + k * 12 + 6, none⟩ = some (.int .i64 a.call.t) ∧ w'.cell? ⟨b, o + k * 12 + 7, none⟩ = some (.int .i64 a.call.n) ∧ w'.cell? ⟨b, o + k * 12 + 8, none⟩ = some (.int .i64 a.call.c) ∧ w'.cell? ⟨b, o + k * 12 + 9, none⟩ = some (.slice pl a.call.label.length cl) ∧ w'.cell? ⟨b, o + k * 12 + 10, none⟩ = some (.slice pg a.call.grants.length cg) ∧ w'.cell? ⟨b, o + k * 12 + 11, none⟩ = some (.string ⟨a.call.text.toArray⟩)) := hid (fun w' h => ⟨(h.cell (Qf q0)).trans q0, (h.cell (Qf q1)).trans q1, (h.cell (Qf q2)).trans q2, (h.cell (Qf q3)).trans q3, (h.cell (Qf q4)).trans q4, (h.cell (Qf q5)).trans q5, (h.cell (Qf q6)).trans q6, (h.cell (Qf q7)).trans q7, (h.cell (Qf q8)).trans q8, (h.cell (Qf q9)).trans q9, (h.cell (Qf q10)).trans q10, (h.cell (Qf q11)).trans q11⟩)
      clear q0 q1 q2 q3 q4 q5 q6 q7 q8 q9 q10 q11 hla hin2 hbl0
      go_upto_region 8 with (go_at_call 11; refine hdo.mono ?_; rintro e w5 ⟨rfl, G5, Z5, hc5, hs5⟩)
      obtain ⟨hb5, hG5⟩ := hs5.low HCK.out HGG.out hsz
      have HB5 := hid (Below.trans' HBW.out hb5)
      have hbx := Qc w5 (.cells #[.int .i64 r.code, .int .i64 r.n, .string ⟨r.text.toArray⟩] 31)
      have HB6 := hid (Below.trans' HB5.out (hbx.mono HB5.out.size))
      have HX6 := hid (heap_alloc_new w5 (.cells #[.int .i64 r.code, .int .i64 r.n, .string ⟨r.text.toArray⟩] 31))
      have HC6 := hid (hc5.below hbx)
      have HJ6 := hid ((JM.step HJJ.out hs5 HCK.out hc5.fin).below hbx)
      have HG5 := hid hG5
      have HS5 : Hid (∀ b ∈ Bs, w0.heap.size ≤ b ∧ b < w5.heap.size) := hid (fun b hb => ⟨(HBS.out b hb).1, Nat.lt_of_lt_of_le (HBS.out b hb).2 (Nat.le_trans HWS.out hs5.kept.size)⟩)
      have HWS5 : Hid (w.heap.size ≤ w5.heap.size) := hid (Nat.le_trans HWS.out hs5.kept.size)
      obtain ⟨s0, s1, s2, s3, s4, s5, s6, s7, s8, s9, s10, s11⟩ := HQ.out _ HB6.out
      obtain ⟨t0, t1, t2, _⟩ := cells3 HX6.out
      have hlt6 := Qu HX6.out
      have hbl5 : b < w5.heap.size := Nat.lt_of_lt_of_le hbl hs5.kept.size
      have HZ6 : Hid (w5.heap.size ≤ (w5.alloc (.cells #[.int .i64 r.code, .int .i64 r.n, .string ⟨r.text.toArray⟩] 31)).heap.size) := hid hbx.size
      clear hdo hs5 hc5 hb5 hG5 hbx r0 r1 r2 r3 r4 r5 r6 r7 r8 r9 r10 r11
      generalize hw6 : w5.alloc (.cells #[.int .i64 r.code, .int .i64 r.n, .string ⟨r.text.toArray⟩] 31) = w6 at *
      clear hw6
      have HC6D : Hid (CluAt w6.drew w1.heap.size G5 Z5 (doC Ck a).1) := hid (by rw [← HCC.out]; exact HC6.out.below (Below.refl _ _).drew)
      go_region_held3 (fun w' => (w'.cell? ⟨b, o + k * 12, none⟩ = some (.int .i64 a.kind) ∧ w'.cell? ⟨b, o + k * 12 + 1, none⟩ = some (.int .i64 a.h) ∧ w'.cell? ⟨b, o + k * 12 + 2, none⟩ = some (.int .i64 a.t) ∧ w'.cell? ⟨b, o + k * 12 + 3, none⟩ = some (.int .i64 a.n) ∧ w'.cell? ⟨b, o + k * 12 + 4, none⟩ = some (.int .i64 a.call.kind) ∧ w'.cell? ⟨b, o + k * 12 + 5, none⟩ = some (.int .i64 a.call.h) ∧ w'.cell? ⟨b, o + k * 12 + 6, none⟩ = some (.int .i64 a.call.t) ∧ w'.cell? ⟨b, o + k * 12 + 7, none⟩ = some (.int .i64 a.call.n) ∧ w'.cell? ⟨b, o + k * 12 + 8, none⟩ = some (.int .i64 a.call.c) ∧ w'.cell? ⟨b, o + k * 12 + 9, none⟩ = some (.slice pl a.call.label.length cl) ∧ w'.cell? ⟨b, o + k * 12 + 10, none⟩ = some (.slice pg a.call.grants.length cg) ∧ w'.cell? ⟨b, o + k * 12 + 11, none⟩ = some (.string ⟨a.call.text.toArray⟩)) ∧ w'.cell? ⟨w5.heap.size, 0, none⟩ = some (.int .i64 r.code) ∧ w'.cell? ⟨w5.heap.size, 1, none⟩ = some (.int .i64 r.n) ∧ w'.cell? ⟨w5.heap.size, 2, none⟩ = some (.string ⟨r.text.toArray⟩)) (go_keep)
       (first
        | (go_at_call 17; refine (QdN w1.heap.size Bo G5 Z5 Ck a r pl pg cl cg _ HC6D.out HGD.out HRR.out (HJ6.out.below (Below.refl _ _).drew) (fun wq hq => ⟨_, _, rfl, Qeh HLA.out HG5.out (HLA.out.below (Below.trans' HB6.out ((Qd (Below.refl _ _).drew hq).mono HB6.out.size))), Qdq HIA.out HG5.out (HIA.out.below (Below.trans' HB6.out ((Qd (Below.refl _ _).drew hq).mono HB6.out.size)))⟩)).mono ?_; rintro e w7 ⟨rfl, G7, hj7, hc7, hfar, hlow⟩; rw [← HCC.out] at hj7 hc7; have HJ7 := hid hj7; have HC7 := hid hc7; have hl := hlow w0.heap.size HG5.out HB6.out.size; have HL7 : Hid (Below w0.heap.size w6 w7 ∧ ∀ k ∈ G7, w0.heap.size ≤ k) := hid ⟨⟨hl.1.os, hl.1.tape, hl.1.output, hl.1.size, hl.1.block⟩, hl.2⟩; have HB7 := hid (Below.trans' HB6.out HL7.out.1); have HZ7 : Hid (w5.heap.size ≤ w7.heap.size) := hid (Nat.le_trans HZ6.out HL7.out.1.size); obtain ⟨u0, u1, u2, u3, u4, u5, u6, u7, u8, u9, u10, u11⟩ := HQ.out _ HB7.out; obtain ⟨y0, y1, y2, _⟩ := cells3 (hfar w5.heap.size _ _ (by decide) HX6.out); clear hj7 hc7 hfar hlow hl)
        | fail)
      all_goals
       go_wp2
       go_roundw
       case rel => exact ⟨k + 1, G7, Z5, hlt, h120, by go_num, by rw [HPS.out]; exact HC7.out, HB7.out, HL7.out.2, by rw [HPS.out]; exact HJ7.out, Nat.le_trans HWS5.out HZ7.out⟩
       case measure => simp [intOf]; omega
    · have hJ : ¬ ((k : Int) < 120) := by omega
      go_wp2
      go_ret2
      exact ⟨⟨_, rfl⟩, HBW.out⟩
  · have hI : ¬ ((k : Int) < (l.length : Int)) := by omega
    go_wp2
    go_ret2
    exact ⟨⟨_, rfl⟩, HBW.out⟩
set_option maxRecDepth 100000 in
set_option maxHeartbeats 1600000 in
theorem QdW (v : Value) (l : List Ac) (w : World) (hv : AcsAt w v l) : Calls Tryz.prog 4 #[v] w fun e w' => e = .returned (.bool true) ∧ Below w.heap.size w w' := by
 have HV := hid hv
 obtain ⟨p, cap, rfl, _⟩ := hv.slice
 clear hv
 go_enter Tryz.func4, Tryz.ntmps4
 go_upto_region 2 with (go_at_call 16; refine (Qdk _).mono ?_; rintro e w1 ⟨rfl, ⟨kp, F, hc, hF⟩, hw1⟩)
 have hbx := Qc w1 (.cells #[.pointer (some ⟨w.heap.size, 0, none⟩)] 23)
 have hplay := Qfu w1.heap.size (w1.heap.size :: F) _ l w (w1.alloc (.cells #[.pointer (some ⟨w.heap.size, 0, none⟩)] 23)) HV.out (Qd hw1 hbx) (fun b hb => by
  rcases List.mem_cons.1 hb with e | e
  · rw [e]; exact ⟨hw1.size, by simp⟩
  · exact ⟨hF b e, Nat.lt_of_lt_of_le (hc.fin b e) hbx.size⟩) (fun w' G cb Z hb hG hZ hfin => ⟨w.heap.size, zeroZ kp, Qe (heap_alloc_new w1 _) hb, ((hc.below hbx).below hb).anyF (fun k hk => hG k (List.mem_cons_of_mem _ hk)) hfin, fun k hk e => by
    have h1 := hZ k hk
    have h2 := (hc.below hbx).fin k ((hc.below hbx).ownF k e)
    omega⟩)
 go_wp2_with (go_at_call 7; refine hplay.mono ?_; rintro e w2 ⟨⟨x, rfl⟩, hw2⟩)
 go_ret
 exact ⟨rfl, hw2⟩
end Go.Proofs.YtpdijobakfpnbaaGreat
