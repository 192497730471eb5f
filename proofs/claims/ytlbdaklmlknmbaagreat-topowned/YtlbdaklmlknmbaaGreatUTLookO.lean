/- The look of TopOwned: whoever grants a category owns it, and each cert was given by a host with an owner. -/
import Derived.Test.YtlbdaklmlknmbaaGreatUCCome
import Derived.Test.YtlbdaklmlknmbaaGreatUTIn
import Derived.Test.YtlbdaklmlknmbaaGreatUTakeD
import Derived.Test.YtlbdaklmlknmbaaGreatUKTake
import Derived.Test.YtlbdaklmlknmbaaGreatUPlainGoodN
import Derived.Deep.RegionHeld3
namespace Go.Proofs.YtlbdaklmlknmbaaGreat
open Go.RowKit Go.Proofs.Parclose
def ownB (C : Clu) (x : Crt) (j : Nat) : Bool := (List.range j).any fun t => decide (x.c ∈ (thrC C x.b (t : Int)).own)
theorem ownB_succ (C : Clu) (x : Crt) (j : Nat) : ownB C x (j + 1) = (ownB C x j || decide (x.c ∈ (thrC C x.b (j : Int)).own)) := by
 unfold ownB
 rw [List.range_succ, List.any_append]
 simp
structure OwnedL (C : Clu) : Prop where
 mails : ∀ h t, ∀ m ∈ (thrC C h t).mails, ∀ g ∈ m.grants, g ∈ (thrC C m.host m.thread).own
 certs : ∀ h, ∀ x ∈ crtsC C h, ownB C x 4 = true
theorem ownedL {C : Clu} (h : OwnC (ownsC C) C) : OwnedL C := by
 refine ⟨fun a t m hm g hg => ?_, fun a x hx => ?_⟩
 · unfold thrC at hm
   split at hm
   · obtain ⟨h0, h1, h2⟩ := h.mails _ t m hm g hg
     unfold thrC
     rw [if_pos (show hostB m.host = true from decide_eq_true ⟨h0, h1⟩)]
     exact h2
   · cases hm
 · unfold crtsC at hx
   split at hx
   · obtain ⟨h0, h1, t, ht, _, _, h2⟩ := h.certs _ x hx
     unfold ownB
     rw [List.any_eq_true]
     refine ⟨t, by simpa using ht, ?_⟩
     unfold thrC
     rw [if_pos (show hostB x.b = true from decide_eq_true ⟨h0, h1⟩)]
     exact decide_eq_true h2
   · cases hx
set_option maxRecDepth 100000 in
set_option maxHeartbeats 12800000 in
theorem lookOwned_any (cb : Nat) (F : List Nat) (Z : CluV) (C : Clu) (a : Ac) (r : Rep) (pl pg : Option Addr) (cl cg : Nat) (w : World) (hc : CluAt w cb F Z C) (hg : GoodC C) (ho : OwnedL C) :
 Calls Tryz.prog 21 #[.pointer (some ⟨cb, 0, none⟩), (.agg #[.int .i64 a.kind, .int .i64 a.h, .int .i64 a.t, .int .i64 a.n, .int .i64 a.call.kind, .int .i64 a.call.h, .int .i64 a.call.t, .int .i64 a.call.n, .int .i64 a.call.c, .slice pl a.call.label.length cl, .slice pg a.call.grants.length cg, .string ⟨a.call.text.toArray⟩]), (.agg #[.int .i64 r.code, .int .i64 r.n, .string ⟨r.text.toArray⟩])] w fun e w' => e = .returned (.bool true) ∧ Below w.heap.size w w' := by
 have HC := hid hc
 have HG := hid hg
 have HO := hid ho
 have hfo := field_own
 clear hc hg ho
 go_enter Tryz.func21, Tryz.ntmps21
 go_wp2_with fail
 go_loopw [7] (fun c wr => ∃ i : Nat, i ≤ 4 ∧ c = .int .i64 i ∧ Below w.heap.size w wr) (fun c _ => 4 - (intOf c).toNat)
 case atStart => exact ⟨0, by omega, rfl, (below_box w _).alloc (below_box w _).size _⟩
 case round =>
  obtain ⟨i, hi, rfl, hbr⟩ := hrel
  obtain ⟨wo, hwo⟩ : ∃ wo, wo = wr := ⟨_, rfl⟩
  subst hwo
  have HBo := hid hbr
  clear hbr
  by_cases hi4 : i < 4
  · have hI : (i : Int) < 4 := by omega
    go_wp2_with fail
    go_loopw [8] (fun c wr => ∃ j : Nat, j ≤ 4 ∧ c = .int .i64 j ∧ Below w.heap.size w wr) (fun c _ => 4 - (intOf c).toNat)
    case atStart => exact ⟨0, by omega, rfl, HBo.out⟩
    case round =>
     clear HBo
     obtain ⟨j, hj, rfl, hbr⟩ := hrel
     obtain ⟨wi, hwi⟩ : ∃ wi, wi = wr := ⟨_, rfl⟩
     subst hwi
     have HBi := hid hbr
     clear hbr
     by_cases hj4 : j < 4
     · have hJ : (j : Int) < 4 := by omega
       have hthr := cthread_any cb i j F Z C wi (HC.out.below HBi.out) HG.out
       have HGT := hid (thrC_good HG.out i j)
       have HMO := hid (HO.out.mails i j)
       generalize thrC C i j = th at *
       have hm6 := HGT.out.mails
       go_upto_region 8 with (go_at_call 11; refine hthr.mono ?_; rintro e w3 ⟨p1, q1, p2, q2, p3, q3, p4, q4, rfl, hn3, hw3⟩)
       have hbx := below_box w3 (.cells #[.slice p1 th.label.length q1, .slice p2 th.own.length q2, .string ⟨th.text.toArray⟩, .slice p3 th.objs.length q3, .slice p4 th.mails.length q4] 36)
       have HX4 := hid (heap_alloc_new w3 (.cells #[.slice p1 th.label.length q1, .slice p2 th.own.length q2, .string ⟨th.text.toArray⟩, .slice p3 th.objs.length q3, .slice p4 th.mails.length q4] 36))
       have HN4 := hid (hn3.below hbx)
       have HB4 := hid (below_then (below_then HBi.out hw3) hbx)
       generalize w3.alloc (.cells #[.slice p1 th.label.length q1, .slice p2 th.own.length q2, .string ⟨th.text.toArray⟩, .slice p3 th.objs.length q3, .slice p4 th.mails.length q4] 36) = w4 at *
       have b4 : w4.cell? ⟨w3.heap.size, 4, none⟩ = some (.slice p4 th.mails.length q4) := heap_cell HX4.out 4
       clear hthr hn3 hbx hw3
       go_wp2_with fail
       go_loopw [33] (fun c wr => ∃ k : Nat, k ≤ th.mails.length ∧ c = .int .i64 k ∧ Below w4.heap.size w4 wr) (fun c _ => th.mails.length - (intOf c).toNat)
       case atStart => exact ⟨0, Nat.zero_le _, rfl, Below.refl _ _⟩
       case round =>
        clear b4
        obtain ⟨k, hk, rfl, hbr⟩ := hrel
        obtain ⟨wm, hwm⟩ : ∃ wm, wm = wr := ⟨_, rfl⟩
        subst hwm
        have HBr := hid hbr
        clear hbr
        by_cases hlt : k < th.mails.length
        · have hK : (k : Int) < (th.mails.length : Int) := by omega
          have K0 : (0 : Int) ≤ k := by omega
          obtain ⟨ga, la, ka, na, ma, e1, c0, c1, c2, c3, c4, o1, o2⟩ := (HN4.out.below HBr.out).mails.get k hlt
          have hme := HGT.out.mail _ (List.getElem_mem hlt)
          have HMG := hid (HMO.out _ (List.getElem_mem hlt))
          subst e1
          generalize th.mails[k] = x at *
          have hln := mail_len hme
          have HIN := hid (nums_of_own o2 (by omega))
          have hlb := cell_block c0
          clear o1 o2 hme hln
          go_upto_region 11 with fail
          have hbx := below_box wm (.cells #[.int .i64 x.host, .int .i64 x.thread, .slice la x.label.length ka, .slice na x.grants.length ma, .string ⟨x.text.toArray⟩] 51)
          have HXM := hid (heap_alloc_new wm (.cells #[.int .i64 x.host, .int .i64 x.thread, .slice la x.label.length ka, .slice na x.grants.length ma, .string ⟨x.text.toArray⟩] 51))
          have HIM := hid (HIN.out.below hbx)
          have HBm := hid (below_then HBr.out hbx)
          generalize wm.alloc (.cells #[.int .i64 x.host, .int .i64 x.thread, .slice la x.label.length ka, .slice na x.grants.length ma, .string ⟨x.text.toArray⟩] 51) = w7 at *
          have d3 : w7.cell? ⟨wm.heap.size, 3, none⟩ = some (.slice na x.grants.length ma) := heap_cell HXM.out 3
          clear hbx HIN c0 c1 c2 c3 c4 hlb
          go_wp2_with fail
          go_loopw [40] (fun c wr => ∃ n : Nat, n ≤ x.grants.length ∧ c = .int .i64 n ∧ Below w7.heap.size w7 wr) (fun c _ => x.grants.length - (intOf c).toNat)
          case atStart => exact ⟨0, Nat.zero_le _, rfl, Below.refl _ _⟩
          case round =>
           clear d3
           obtain ⟨n, hn, rfl, hbr⟩ := hrel
           have HBn := hid hbr
           clear hbr
           by_cases hl2 : n < x.grants.length
           · have hN : (n : Int) < (x.grants.length : Int) := by omega
             have N0 : (0 : Int) ≤ n := by omega
             obtain ⟨pz, cz, e3, _, _, hcz⟩ := HIM.out.below HBn.out
             injection e3 with e3 e4 e5
             subst e3 e5
             clear e4
             obtain ⟨bg, og, e6, hcg⟩ := hcz (by omega)
             subst e6
             have g0 := hcg n hl2
             have hmem := HMG.out _ (List.getElem_mem hl2)
             generalize x.grants[n] = g at *
             have hthr2 := cthread_any cb x.host x.thread F Z C wr (HC.out.below (below_then HB4.out (below_then HBm.out HBn.out))) HG.out
             have hol := (thrC_good HG.out x.host x.thread).own
             generalize thrC C x.host x.thread = th2 at *
             have HDM := hid (decide_eq_true hmem)
             obtain ⟨d0, d1⟩ : wr.cell? ⟨wm.heap.size, 0, none⟩ = some (.int .i64 x.host) ∧ wr.cell? ⟨wm.heap.size, 1, none⟩ = some (.int .i64 x.thread) := ⟨heap_cell (heap_keep HXM.out HBn.out) 0, heap_cell (heap_keep HXM.out HBn.out) 1⟩
             clear hcz hcg hmem
             go_wp2_with (first
              | (go_at_call 11; refine hthr2.mono ?_; rintro e w8 ⟨s1, t1, s2, t2, s3, t3, s4, t4, rfl, hn8, hw8⟩)
              | (go_at_call 12; refine (tin_any _ th2.own g w8 (nums_of_own hn8.own (by omega))).mono ?_; rw [HDM.out]; rintro e w9 ⟨rfl, hwe⟩; rw [hwe]; clear hwe))
             go_roundw
             case rel => exact ⟨n + 1, hl2, by go_num, below_then HBn.out hw8⟩
             case measure => simp [intOf]; omega
           · have hnl : n = x.grants.length := by omega
             subst hnl
             go_wp2
             go_roundw
             case rel => exact ⟨k + 1, hlt, by go_num, below_then HBm.out HBn.out⟩
             case measure => simp [intOf]; omega
        · have hkl : k = th.mails.length := by omega
          subst hkl
          go_wp2
          go_roundw
          case rel => exact ⟨j + 1, hj4, by go_num, below_then HB4.out HBr.out⟩
          case measure => simp [intOf]; omega
     · have hj5 : j = 4 := by omega
       subst hj5
       have HCE := hid (HO.out.certs i)
       have hcer := ccerts_any cb i F Z C wi (HC.out.below HBi.out)
       generalize crtsC C i = cs at *
       go_upto_region 19 with (go_at_call 22; refine hcer.mono ?_; rintro e w3 ⟨pc, cc, rfl, hcr, _, hw3⟩)
       have HCR := hid hcr
       have HB3 := hid (below_then HBi.out hw3)
       clear hcr hw3 hcer HBi
       go_wp2_with fail
       go_loopw [60] (fun c wr => ∃ k : Nat, k ≤ cs.length ∧ c = .int .i64 k ∧ Below w3.heap.size w3 wr) (fun c _ => cs.length - (intOf c).toNat)
       case atStart => exact ⟨0, Nat.zero_le _, rfl, Below.refl _ _⟩
       case round =>
        obtain ⟨k, hk, rfl, hbr⟩ := hrel
        obtain ⟨wk, hwk⟩ : ∃ wk, wk = wr := ⟨_, rfl⟩
        subst hwk
        have HBr := hid hbr
        clear hbr
        by_cases hlt : k < cs.length
        · have hK : (k : Int) < (cs.length : Int) := by omega
          have K0 : (0 : Int) ≤ k := by omega
          obtain ⟨pz, cz, e3, _, _, hcz⟩ := HCR.out.below HBr.out
          injection e3 with e3 e4 e5
          subst e3 e5
          clear e4
          obtain ⟨bg, og, e6, hcg⟩ := hcz (by omega)
          subst e6
          obtain ⟨c0, c1, c2, c3⟩ := hcg k hlt
          have HOX := hid (HCE.out _ (List.getElem_mem hlt))
          generalize cs[k] = x at *
          have hlb := cell_block c0
          clear hcz hcg
          go_upto_region 22 with fail
          have hbx := below_box wk (.cells #[.int .i64 x.c, .int .i64 x.b, .int .i64 x.h, .int .i64 x.u] 58)
          have HXX := hid (heap_alloc_new wk (.cells #[.int .i64 x.c, .int .i64 x.b, .int .i64 x.h, .int .i64 x.u] 58))
          have HBm := hid (below_then HBr.out hbx)
          generalize wk.alloc (.cells #[.int .i64 x.c, .int .i64 x.b, .int .i64 x.h, .int .i64 x.u] 58) = w7 at *
          clear hbx c0 c1 c2 c3 hlb
          go_wp2_with fail
          go_loopw [16, 17] (fun d c wr => ∃ n : Nat, n ≤ 4 ∧ c = .int .i64 n ∧ d = .bool (ownB C x n) ∧ Below w7.heap.size w7 wr) (fun _ c _ => 4 - (intOf c).toNat)
          case atStart => exact ⟨0, by omega, rfl, rfl, Below.refl _ _⟩
          case round =>
           obtain ⟨n, hn, rfl, rfl, hbr⟩ := hrel
           have HBn := hid hbr
           clear hbr
           by_cases hn4 : n < 4
           · have hN : (n : Int) < 4 := by omega
             have HSU := hid (ownB_succ C x n)
             have hthr := fun wx (hb : Below wr.heap.size wr wx) => cthread_any cb x.b n F Z C wx (HC.out.below (below_then (below_then HB3.out (below_then HBm.out HBn.out)) hb)) HG.out
             have hol := (thrC_good HG.out x.b n).own
             generalize thrC C x.b n = th2 at *
             have HS : Hid (∀ w', Below wr.heap.size wr w' → w'.cell? ⟨wk.heap.size, 0, none⟩ = some (.int .i64 x.c) ∧ w'.cell? ⟨wk.heap.size, 1, none⟩ = some (.int .i64 x.b)) := hid (fun w' hw => ⟨heap_cell (heap_keep (heap_keep HXX.out HBn.out) hw) 0, heap_cell (heap_keep (heap_keep HXX.out HBn.out) hw) 1⟩)
             cases hob : ownB C x n with
             | true =>
              rw [hob] at HSU
              go_upto_region 25 with fail
              refine wp_region_held_drew (S := (fun w' => True)) (by as_aux_lemma => kernel_rfl) trivial (fun _hHeld => ?_)
              refine takeF 0 68 ?v1 rfl (Or.inl ⟨by rfl, ?hy1⟩) ?rest1
              case hy1 => intro wz hSw; (try dsimp only at hSw); go_simp; try with_reducible rfl
              simp only [Act.put, List.setIfInBounds_toArray, List.set_cons_zero, List.set_cons_succ]
              refine takeF 1 69 ?v2 rfl (Or.inl ⟨by rfl, ?hy2⟩) ?rest2
              case hy2 => intro wz hSw; (try dsimp only at hSw); go_simp; try with_reducible rfl
              simp only [Act.put, List.setIfInBounds_toArray, List.set_cons_zero, List.set_cons_succ]
              refine skipD 2 70 rfl (by as_aux_lemma => kernel_rfl) (by as_aux_lemma => kernel_rfl) (by as_aux_lemma => kernel_rfl) (by as_aux_lemma => kernel_rfl) (fun _ _ _ h => h) (by as_aux_lemma => kernel_rfl) (by assumption) ?_
              simp only [Act.put, List.setIfInBounds_toArray, List.set_cons_zero, List.set_cons_succ]
              refine skipD 3 71 rfl (by as_aux_lemma => kernel_rfl) (by as_aux_lemma => kernel_rfl) (by as_aux_lemma => kernel_rfl) (by as_aux_lemma => kernel_rfl) (fun _ _ _ h => h) (by as_aux_lemma => kernel_rfl) (by assumption) ?_
              simp only [Act.put, List.setIfInBounds_toArray, List.set_cons_zero, List.set_cons_succ]
              refine skipD 4 72 rfl (by as_aux_lemma => kernel_rfl) (by as_aux_lemma => kernel_rfl) (by as_aux_lemma => kernel_rfl) (by as_aux_lemma => kernel_rfl) (fun _ _ _ h => h) (by as_aux_lemma => kernel_rfl) (by assumption) ?_
              simp only [Act.put, List.setIfInBounds_toArray, List.set_cons_zero, List.set_cons_succ]
              refine skipD 5 73 rfl (by as_aux_lemma => kernel_rfl) (by as_aux_lemma => kernel_rfl) (by as_aux_lemma => kernel_rfl) (by as_aux_lemma => kernel_rfl) (fun _ _ _ h => h) (by as_aux_lemma => kernel_rfl) (by assumption) ?_
              simp only [Act.put, List.setIfInBounds_toArray, List.set_cons_zero, List.set_cons_succ]
              refine skipD 6 74 rfl (by as_aux_lemma => kernel_rfl) (by as_aux_lemma => kernel_rfl) (by as_aux_lemma => kernel_rfl) (by as_aux_lemma => kernel_rfl) (fun _ _ _ h => h) (by as_aux_lemma => kernel_rfl) (by assumption) ?_
              simp only [Act.put, List.setIfInBounds_toArray, List.set_cons_zero, List.set_cons_succ]
              refine skipD 7 75 rfl (by as_aux_lemma => kernel_rfl) (by as_aux_lemma => kernel_rfl) (by as_aux_lemma => kernel_rfl) (by as_aux_lemma => kernel_rfl) (fun _ _ _ h => h) (by as_aux_lemma => kernel_rfl) (by assumption) ?_
              simp only [Act.put, List.setIfInBounds_toArray, List.set_cons_zero, List.set_cons_succ]
              refine skipD 8 76 rfl (by as_aux_lemma => kernel_rfl) (by as_aux_lemma => kernel_rfl) (by as_aux_lemma => kernel_rfl) (by as_aux_lemma => kernel_rfl) (fun _ _ _ h => h) (by as_aux_lemma => kernel_rfl) (by assumption) ?_
              simp only [Act.put, List.setIfInBounds_toArray, List.set_cons_zero, List.set_cons_succ]
              refine skipD 9 77 rfl (by as_aux_lemma => kernel_rfl) (by as_aux_lemma => kernel_rfl) (by as_aux_lemma => kernel_rfl) (by as_aux_lemma => kernel_rfl) (fun _ _ _ h => h) (by as_aux_lemma => kernel_rfl) (by assumption) ?_
              simp only [Act.put, List.setIfInBounds_toArray, List.set_cons_zero, List.set_cons_succ]
              refine skipD 10 78 rfl (by as_aux_lemma => kernel_rfl) (by as_aux_lemma => kernel_rfl) (by as_aux_lemma => kernel_rfl) (by as_aux_lemma => kernel_rfl) (fun _ _ _ h => h) (by as_aux_lemma => kernel_rfl) (by assumption) ?_
              simp only [Act.put, List.setIfInBounds_toArray, List.set_cons_zero, List.set_cons_succ]
              refine takeF 11 79 ?v3 rfl (Or.inl ⟨by rfl, ?hy3⟩) ?rest3
              case hy3 => intro wz hSw; (try dsimp only at hSw); go_simp; try with_reducible rfl
              simp only [Act.put, List.setIfInBounds_toArray, List.set_cons_zero, List.set_cons_succ]
              refine takeF 12 16 ?v4 rfl (Or.inl ⟨by rfl, ?hy4⟩) ?rest4
              case hy4 => intro wz hSw; (try dsimp only at hSw); go_simp; try with_reducible rfl
              simp only [Act.put, List.setIfInBounds_toArray, List.set_cons_zero, List.set_cons_succ]
              refine wpAnyH_done (by as_aux_lemma => kernel_rfl) ?_ _
              go_wp2
              go_roundw
              case rel => exact ⟨n + 1, hn4, by go_num, by rw [HSU.out]; rfl, HBn.out.drew⟩
              case measure => simp [intOf]; omega
             | false =>
              rw [hob] at HSU
              go_upto_region 25 with fail
              refine wp_region_held_drew (S := (fun w' => w'.cell? ⟨wk.heap.size, 0, none⟩ = some (.int .i64 x.c) ∧ w'.cell? ⟨wk.heap.size, 1, none⟩ = some (.int .i64 x.b))) (by as_aux_lemma => kernel_rfl) (HS.out _ (Below.refl _ _).drew) (fun _hHeld => ?_)
              refine takeF 0 68 ?v5 rfl (Or.inl ⟨by rfl, ?hy5⟩) ?rest5
              case hy5 => intro wz hSw; (try dsimp only at hSw); go_simp; try with_reducible rfl
              simp only [Act.put, List.setIfInBounds_toArray, List.set_cons_zero, List.set_cons_succ]
              refine takeF 1 69 ?v6 rfl (Or.inl ⟨by rfl, ?hy6⟩) ?rest6
              case hy6 => intro wz hSw; (try dsimp only at hSw); go_simp; try with_reducible rfl
              simp only [Act.put, List.setIfInBounds_toArray, List.set_cons_zero, List.set_cons_succ]
              refine takeF 2 70 ?v7 rfl (Or.inl ⟨by rfl, ?hy7⟩) ?rest7
              case hy7 => intro wz hSw; (try dsimp only at hSw); go_simp; try with_reducible rfl
              simp only [Act.put, List.setIfInBounds_toArray, List.set_cons_zero, List.set_cons_succ]
              refine takeF 3 71 ?v8 rfl (Or.inl ⟨by rfl, ?hy8⟩) ?rest8
              case hy8 => intro wz hSw; (try dsimp only at hSw); go_simp; try with_reducible rfl
              simp only [Act.put, List.setIfInBounds_toArray, List.set_cons_zero, List.set_cons_succ]
              refine takeF 4 72 ?v9 rfl (Or.inl ⟨by rfl, ?hy9⟩) ?rest9
              case hy9 => intro wz hSw; (try dsimp only at hSw); go_simp; try with_reducible rfl
              simp only [Act.put, List.setIfInBounds_toArray, List.set_cons_zero, List.set_cons_succ]
              refine takeF 5 73 ?v10 rfl (Or.inl ⟨by rfl, ?hy10⟩) ?rest10
              case hy10 => intro wz hSw; (try dsimp only at hSw); go_simp; try with_reducible rfl
              simp only [Act.put, List.setIfInBounds_toArray, List.set_cons_zero, List.set_cons_succ]
              refine takeF 8 76 ?v11 rfl (Or.inl ⟨by rfl, ?hy11⟩) ?rest11
              case hy11 => intro wz hSw; (try dsimp only at hSw); go_simp; try with_reducible rfl
              simp only [Act.put, List.setIfInBounds_toArray, List.set_cons_zero, List.set_cons_succ]
              refine takeF 9 77 ?v12 rfl (Or.inl ⟨by rfl, ?hy12⟩) ?rest12
              case hy12 => intro wz hSw; (try dsimp only at hSw); go_simp; try with_reducible rfl
              simp only [Act.put, List.setIfInBounds_toArray, List.set_cons_zero, List.set_cons_succ]
              refine wpAnyH_ready (rs := [6]) (by as_aux_lemma => kernel_rfl) (by simp) ?_
              refine (AllReadyH.cons rfl (fun K' hK => ?_) AllReadyH.nil)
              go_simp
              go_wp2_with (go_at_call 11; refine (hthr _ (Below.refl _ _).drew).mono ?_; rintro e w9 ⟨s1, t1, s2, t2, s3, t3, s4, t4, rfl, hn9, hw9d⟩)
              have hw9 : Below wr.heap.size wr w9 := kundrew hw9d
              have HN9 := hid hn9
              clear hn9 hw9d
              refine hK.out _ _ (HS.out _ hw9) (fun _ => ?_)
              clear hK K'
              refine takeF 7 75 ?v13 rfl (Or.inl ⟨by rfl, ?hy13⟩) ?rest13
              case hy13 => intro wz hSw; (try dsimp only at hSw); go_simp; try with_reducible rfl
              simp only [Act.put, List.setIfInBounds_toArray, List.set_cons_zero, List.set_cons_succ]
              refine wpAnyH_ready (rs := [10]) (by as_aux_lemma => kernel_rfl) (by simp) ?_
              refine (AllReadyH.cons rfl (fun K' hK => ?_) AllReadyH.nil)
              go_simp
              go_wp2_with (go_at_call 12; refine (tin_any _ th2.own x.c w9 (nums_of_own HN9.out.own (by omega))).mono ?_; rintro e w9b ⟨rfl, hwe⟩; rw [hwe]; clear hwe)
              refine hK.out _ _ (HS.out _ hw9) (fun _ => ?_)
              clear hK K'
              refine takeF 11 79 ?v14 rfl (Or.inl ⟨by rfl, ?hy14⟩) ?rest14
              case hy14 => intro wz hSw; (try dsimp only at hSw); go_simp; try with_reducible rfl
              simp only [Act.put, List.setIfInBounds_toArray, List.set_cons_zero, List.set_cons_succ]
              refine takeF 12 16 ?v15 rfl (Or.inl ⟨by rfl, ?hy15⟩) ?rest15
              case hy15 => intro wz hSw; (try dsimp only at hSw); go_simp; try with_reducible rfl
              simp only [Act.put, List.setIfInBounds_toArray, List.set_cons_zero, List.set_cons_succ]
              refine wpAnyH_done (by as_aux_lemma => kernel_rfl) ?_ _
              go_wp2
              go_roundw
              case rel => exact ⟨n + 1, hn4, by go_num, by rw [HSU.out, Bool.false_or], below_then HBn.out hw9⟩
              case measure => simp [intOf]; omega
           · have hn5 : n = 4 := by omega
             subst hn5
             rw [HOX.out]
             go_wp2
             go_roundw
             case rel => exact ⟨k + 1, hlt, by go_num, below_then HBm.out HBn.out⟩
             case measure => simp [intOf]; omega
        · have hkl : k = cs.length := by omega
          subst hkl
          go_wp2
          go_roundw
          case rel => exact ⟨i + 1, hi4, by go_num, below_then HB3.out HBr.out⟩
          case measure => simp [intOf]; omega
  · have hi5 : i = 4 := by omega
    subst hi5
    go_wp2
    go_ret
    exact ⟨rfl, HBo.out⟩
end Go.Proofs.YtlbdaklmlknmbaaGreat
namespace Go.Proofs.YtlbdaklmlknmbaaGreat
open Go.RowKit Go.Proofs.Parclose
set_option maxRecDepth 100000 in
set_option maxHeartbeats 6400000 in
theorem play_owned (v : Value) (l : List Ac) (w : World) (hv : AcsAt w v l) :
 Calls Tryz.prog 20 #[v, .func (.func 21) #[] #[]] w fun e w' => (∃ x, e = .returned (.tuple #[x, .bool true])) ∧ Below w.heap.size w w' := by
 have HV := hid hv
 obtain ⟨p, cap, rfl, hlc, _⟩ := hv.slice
 clear hv
 go_enter Tryz.func20, Tryz.ntmps20
 go_upto_region 3 with (go_at_call 9; refine (talive_any _).mono ?_; rintro e w1 ⟨rfl, hw1⟩)
 go_upto_region 4 with (go_at_call 10; refine (cnew_any _).mono ?_; rintro e w2 ⟨rfl, ⟨kp, F, hc2, hF⟩, hw2⟩)
 have HB2 := hid (below_then hw1 hw2)
 have HF2 : Hid (∀ k ∈ F, w.heap.size ≤ k) := hid (fun k hk => Nat.le_trans hw1.size (hF k hk))
 have HC2 := hid hc2
 clear hc2 hF hw1 hw2
 go_wp2_with fail
 go_loopw [7] (fun i wr => ∃ (k : Nat) (G : List Nat) (Z' : CluV), k ≤ l.length ∧ k ≤ 120 ∧ i = .int .i64 k ∧ CluAt wr w1.heap.size G Z' (playC freshClu (l.take k)) ∧ Below w.heap.size w wr ∧ (∀ b ∈ G, w.heap.size ≤ b)) (fun i _ => l.length - (intOf i).toNat)
 case atStart => exact ⟨0, F, _, Nat.zero_le _, Nat.zero_le _, rfl, HC2.out, HB2.out, HF2.out⟩
 case round =>
  clear HC2 HB2 HF2
  obtain ⟨k, G, Z', hk, hk120, rfl, hck, hbw, hG⟩ := hrel
  have HCK := hid hck
  have HBW := hid hbw
  have HGG := hid hG
  have hsz := hbw.size
  clear hck hbw hG
  by_cases hlt : k < l.length
  · have hI : (k : Int) < (l.length : Int) := by omega
    by_cases h120 : k < 120
    · have hJ : (k : Int) < 120 := by omega
      obtain ⟨b, o, pl, cl, pg, cg, rfl, hla, hin2, q0, q1, q2, q3, q4, q5, q6, q7, q8, q9, q10, q11⟩ := HV.out.get k hlt
      have HPS : Hid (playC freshClu (l.take (k + 1)) = (doC (playC freshClu (l.take k)) l[k]).1) := hid (by rw [← List.take_append_getElem hlt, playC_snoc])
      have HGD := hid (playC_good (l.take k) freshC_good)
      have HG2 := hid (doC_good HGD.out l[k])
      have HFA := hid (ownedL (by have := playC_owned (l.take k ++ [l[k]]) freshC_good freshH (freshO _); rwa [playC_snoc] at this))
      have HLA := hid hla
      have HGA := hid hin2
      generalize l[k] = a at *
      generalize playC freshClu (l.take k) = Ck at *
      have r0 := (HBW.out.cell (cell_block q0)).trans q0
      have r1 := (HBW.out.cell (cell_block q1)).trans q1
      have r2 := (HBW.out.cell (cell_block q2)).trans q2
      have r3 := (HBW.out.cell (cell_block q3)).trans q3
      have r4 := (HBW.out.cell (cell_block q4)).trans q4
      have r5 := (HBW.out.cell (cell_block q5)).trans q5
      have r6 := (HBW.out.cell (cell_block q6)).trans q6
      have r7 := (HBW.out.cell (cell_block q7)).trans q7
      have r8 := (HBW.out.cell (cell_block q8)).trans q8
      have r9 := (HBW.out.cell (cell_block q9)).trans q9
      have r10 := (HBW.out.cell (cell_block q10)).trans q10
      have r11 := (HBW.out.cell (cell_block q11)).trans q11
      have hbl := Nat.lt_of_lt_of_le (cell_block q0) hsz
      have hdo := cdo_any w1.heap.size G Z' Ck _ a wr HCK.out HGD.out ⟨_, _, rfl, roLab_old hla HGG.out (hla.below HBW.out), roInts_old hin2 HGG.out (hin2.below HBW.out)⟩
      unfold acV at hdo
      generalize doC Ck a = R at *
      obtain ⟨C2, r⟩ := R
      simp only at hdo HPS
      have HQ : Hid (∀ w', Below w.heap.size w w' → w'.cell? ⟨b, o + k * 12, none⟩ = some (.int .i64 a.kind) ∧ w'.cell? ⟨b, o + k * 12 + 1, none⟩ = some (.int .i64 a.h) ∧ w'.cell? ⟨b, o + k * 12 + 2, none⟩ = some (.int .i64 a.t) ∧ w'.cell? ⟨b, o + k * 12 + 3, none⟩ = some (.int .i64 a.n) ∧ w'.cell? ⟨b, o + k * 12 + 4, none⟩ = some (.int .i64 a.call.kind) ∧ w'.cell? ⟨b, o + k * 12 + 5, none⟩ = some (.int .i64 a.call.h) ∧ w'.cell? ⟨b, o + k * 12 + 6, none⟩ = some (.int .i64 a.call.t) ∧ w'.cell? ⟨b, o + k * 12 + 7, none⟩ = some (.int .i64 a.call.n) ∧ w'.cell? ⟨b, o + k * 12 + 8, none⟩ = some (.int .i64 a.call.c) ∧ w'.cell? ⟨b, o + k * 12 + 9, none⟩ = some (.slice pl a.call.label.length cl) ∧ w'.cell? ⟨b, o + k * 12 + 10, none⟩ = some (.slice pg a.call.grants.length cg) ∧ w'.cell? ⟨b, o + k * 12 + 11, none⟩ = some (.string ⟨a.call.text.toArray⟩)) := hid (fun w' h => ⟨(h.cell (cell_block q0)).trans q0, (h.cell (cell_block q1)).trans q1, (h.cell (cell_block q2)).trans q2, (h.cell (cell_block q3)).trans q3, (h.cell (cell_block q4)).trans q4, (h.cell (cell_block q5)).trans q5, (h.cell (cell_block q6)).trans q6, (h.cell (cell_block q7)).trans q7, (h.cell (cell_block q8)).trans q8, (h.cell (cell_block q9)).trans q9, (h.cell (cell_block q10)).trans q10, (h.cell (cell_block q11)).trans q11⟩)
      clear q0 q1 q2 q3 q4 q5 q6 q7 q8 q9 q10 q11 hla hin2
      go_upto_region 8 with (go_at_call 15; refine hdo.mono ?_; rintro e w5 ⟨rfl, G5, Z5, hc5, hs5⟩)
      obtain ⟨hb5, hG5⟩ := hs5.low HCK.out HGG.out hsz
      have HB5 := hid (Below.trans' HBW.out hb5)
      have hbx := below_box w5 (.cells #[.int .i64 r.code, .int .i64 r.n, .string ⟨r.text.toArray⟩] 43)
      have HB6 := hid (below_then HB5.out hbx)
      have HX6 := hid (heap_alloc_new w5 (.cells #[.int .i64 r.code, .int .i64 r.n, .string ⟨r.text.toArray⟩] 43))
      have HC6 := hid (hc5.below hbx)
      have HG5 := hid hG5
      obtain ⟨s0, s1, s2, s3, s4, s5, s6, s7, s8, s9, s10, s11⟩ := HQ.out _ HB6.out
      obtain ⟨t0, t1, t2, _⟩ := cells3 HX6.out
      have hlt6 := heap_lt HX6.out
      have hbl5 : b < w5.heap.size := Nat.lt_of_lt_of_le hbl hs5.kept.size
      clear hdo hs5 hc5 hb5 hG5 hbx r0 r1 r2 r3 r4 r5 r6 r7 r8 r9 r10 r11
      generalize hw6 : w5.alloc (.cells #[.int .i64 r.code, .int .i64 r.n, .string ⟨r.text.toArray⟩] 43) = w6 at *
      have HW6 := hid (Below.refl w6.heap.size w6)
      clear hw6
      go_region_held3 (fun w' => (w'.cell? ⟨b, o + k * 12, none⟩ = some (.int .i64 a.kind) ∧ w'.cell? ⟨b, o + k * 12 + 1, none⟩ = some (.int .i64 a.h) ∧ w'.cell? ⟨b, o + k * 12 + 2, none⟩ = some (.int .i64 a.t) ∧ w'.cell? ⟨b, o + k * 12 + 3, none⟩ = some (.int .i64 a.n) ∧ w'.cell? ⟨b, o + k * 12 + 4, none⟩ = some (.int .i64 a.call.kind) ∧ w'.cell? ⟨b, o + k * 12 + 5, none⟩ = some (.int .i64 a.call.h) ∧ w'.cell? ⟨b, o + k * 12 + 6, none⟩ = some (.int .i64 a.call.t) ∧ w'.cell? ⟨b, o + k * 12 + 7, none⟩ = some (.int .i64 a.call.n) ∧ w'.cell? ⟨b, o + k * 12 + 8, none⟩ = some (.int .i64 a.call.c) ∧ w'.cell? ⟨b, o + k * 12 + 9, none⟩ = some (.slice pl a.call.label.length cl) ∧ w'.cell? ⟨b, o + k * 12 + 10, none⟩ = some (.slice pg a.call.grants.length cg) ∧ w'.cell? ⟨b, o + k * 12 + 11, none⟩ = some (.string ⟨a.call.text.toArray⟩)) ∧ w'.cell? ⟨w5.heap.size, 0, none⟩ = some (.int .i64 r.code) ∧ w'.cell? ⟨w5.heap.size, 1, none⟩ = some (.int .i64 r.n) ∧ w'.cell? ⟨w5.heap.size, 2, none⟩ = some (.string ⟨r.text.toArray⟩)) (go_keep)
       (first
        | (go_at_call 21; refine (lookOwned_any _ G5 Z5 C2 a r pl pg cl cg _ (HC6.out.below (Below.refl _ _).drew) HG2.out HFA.out).mono ?_; rintro e w7 ⟨rfl, hwd⟩; have hw := kundrew hwd; have HW7 := hid hw; obtain ⟨u0, u1, u2, u3, u4, u5, u6, u7, u8, u9, u10, u11⟩ := HQ.out _ (below_then HB6.out hw); obtain ⟨y0, y1, y2, _⟩ := cells3 (heap_keep HX6.out hw); clear hw hwd)
        | fail)
      all_goals
       go_wp2
       go_roundw
       case rel => exact ⟨k + 1, G5, Z5, hlt, h120, by go_num, by rw [HPS.out]; exact HC6.out.below HW7.out, below_then HB6.out HW7.out, HG5.out⟩
       case measure => simp [intOf]; omega
    · have hJ : ¬ ((k : Int) < 120) := by omega
      go_wp2
      go_ret2
      exact ⟨⟨_, rfl⟩, HBW.out⟩
  · have hI : ¬ ((k : Int) < (l.length : Int)) := by omega
    go_wp2
    go_ret2
    exact ⟨⟨_, rfl⟩, HBW.out⟩
end Go.Proofs.YtlbdaklmlknmbaaGreat
namespace Go.Proofs.YtlbdaklmlknmbaaGreat
open Go.RowKit Go.Proofs.Parclose
set_option maxRecDepth 100000 in
theorem topOwned_any (v : Value) (l : List Ac) (w : World) (hv : AcsAt w v l) : Calls Tryz.prog 4 #[v] w fun e w' => e = .returned (.bool true) ∧ Below w.heap.size w w' := by
 have hplay := play_owned v l w hv
 obtain ⟨p, cap, rfl, _⟩ := hv.slice
 clear hv
 go_enter Tryz.func4, Tryz.ntmps4
 go_wp2_with (go_at_call 20; refine hplay.mono ?_; rintro e w1 ⟨⟨x, rfl⟩, hw1⟩)
 go_ret
 exact ⟨rfl, hw1⟩
end Go.Proofs.YtlbdaklmlknmbaaGreat
