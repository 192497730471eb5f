/- cluster.move: what the net does to a frame under way. -/
import Derived.Test.YtgpldlbmjakjhaaGreatQCCome
import Derived.Test.YtgpldlbmjakjhaaGreatQCDel
import Derived.Test.YtgpldlbmjakjhaaGreatQPlainWire
import Derived.Test.YtgpldlbmjakjhaaGreatQCAgain
import Derived.Test.YtgpldlbmjakjhaaGreatQCRo
import Derived.Test.YtgpldlbmjakjhaaGreatQPlainInv
import Derived.Test.YtgpldlbmjakjhaaGreatQCCall
namespace Go.Proofs.YtgpldlbmjakjhaaGreat
open Go.RowKit Go.Proofs.Parclose

theorem strs_get (l : List (List UInt8)) (j : Nat) (hj : j < l.length) : (strs l)[j]? = some (.string ⟨(l.getD j []).toArray⟩) := by
  unfold strs strV
  rw [List.getElem?_map, List.getElem?_eq_getElem hj, List.getD_eq_getElem?_getD, List.getElem?_eq_getElem hj]
  rfl
theorem strs_del (l : List (List UInt8)) (i : Nat) : (strs l).take i ++ (strs l).drop (i + 1) = strs (l.take i ++ l.drop (i + 1)) := by
  unfold strs
  rw [List.map_append, List.map_take, List.map_drop]
theorem moveC_out {C : Clu} {k n : Int} (h : ¬ (0 ≤ n ∧ n < (C.net.length : Int))) : moveC C k n = (C, code 4) := by
  unfold moveC
  rw [if_neg h]
theorem moveC_in {C : Clu} {k : Int} {i : Nat} (h : i < C.net.length) : moveC C k i = ((if k = 4 then (if k = 3 then C else { C with net := C.net.take i ++ C.net.drop (i + 1) }) else comeC (if k = 3 then C else { C with net := C.net.take i ++ C.net.drop (i + 1) }) (C.net.getD i [])), ⟨0, ((C.net.getD i []).length : Int), []⟩) := by
  unfold moveC
  rw [if_pos (by omega)]
  simp only [Int.toNat_natCast]

set_option maxRecDepth 100000 in
set_option maxHeartbeats 3200000 in
theorem cmove_any (cb : Nat) (k n : Int) (F : List Nat) (Z : CluV) (C : Clu) (w : World) (hc : CluAt w cb F Z C) (hg : GoodC C) (hk : k = 2 ∨ k = 3 ∨ k = 4) :
    Calls Tryz.prog 49 #[.pointer (some ⟨cb, 0, none⟩), .int .i64 k, .int .i64 n] w fun e w' => e = .returned (.agg #[.int .i64 (moveC C k n).2.code, .int .i64 (moveC C k n).2.n, .string ⟨(moveC C k n).2.text.toArray⟩]) ∧ ∃ G Z', CluAt w' cb G Z' (moveC C k n).1 ∧ CStep cb w F Z w' G Z' := by
  obtain ⟨pn, cn, hvn⟩ := texts_slice hc.net
  have k186 := hc.cnet.1
  rw [hvn] at k186
  have hlt := hc.lt
  have HC0 := hid (hc.reserve (.cells #[.int .i64 0, .int .i64 0, .string ⟨#[]⟩] 35))
  have HS0 := hid (CStep.reserve cb w F Z (.cells #[.int .i64 0, .int .i64 0, .string ⟨#[]⟩] 35))
  have HM0 : Hid (w.heap.size ∈ F ++ [w.heap.size]) := hid (by simp)
  have HC := hid hc
  have HG := hid hg
  have HVN := hid hvn
  clear hc hg hvn
  by_cases h1 : 0 ≤ n ∧ n < (C.net.length : Int)
  rotate_left
  · simp only [moveC_out h1]
    by_cases h2 : n < 0
    · clear h1
      go_enter Tryz.func49, Tryz.ntmps49
      go_wp2_with (go_at_call 47; refine (canswer_any 4 _).mono ?_; rintro e w1 ⟨rfl, hw1⟩; have HB1 := hid hw1; obtain ⟨b0, b1, b2, b3, b4, b5⟩ := cells3 (heap_keep (zero_box w) hw1); clear hw1)
      obtain ⟨e1, e2, e3⟩ := creply_end 4 0 [] (heap_keep (zero_box w) HB1.out) HM0.out (Nat.le_refl _) (HC0.out.below HB1.out) (HS0.out.trans (CStep.below HB1.out))
      exact bodyPost_ret (results_cell_row rfl _ _ w.heap.size 35 _ (0, 0) _ rfl e1 Tryz.underlying35 rfl (by kernel_rfl)) rfl ⟨rfl, _, _, e2, e3⟩
    · have h3 : (C.net.length : Int) ≤ n := by omega
      clear h1
      go_enter Tryz.func49, Tryz.ntmps49
      go_wp2_with (go_at_call 47; refine (canswer_any 4 _).mono ?_; rintro e w1 ⟨rfl, hw1⟩; have HB1 := hid hw1; obtain ⟨b0, b1, b2, b3, b4, b5⟩ := cells3 (heap_keep (zero_box w) hw1); clear hw1)
      obtain ⟨e1, e2, e3⟩ := creply_end 4 0 [] (heap_keep (zero_box w) HB1.out) HM0.out (Nat.le_refl _) (HC0.out.below HB1.out) (HS0.out.trans (CStep.below HB1.out))
      exact bodyPost_ret (results_cell_row rfl _ _ w.heap.size 35 _ (0, 0) _ rfl e1 Tryz.underlying35 rfl (by kernel_rfl)) rfl ⟨rfl, _, _, e2, e3⟩
  · obtain ⟨i, rfl⟩ : ∃ i : Nat, n = i := ⟨n.toNat, by omega⟩
    have hi : i < C.net.length := by omega
    simp only [moveC_in hi]
    have HN := hid HC.out.net
    rw [HVN.out] at HN
    obtain ⟨g, hpn⟩ : ∃ g, pn = some ⟨g, 0, none⟩ := by
      rcases HN.out.2 with ⟨h, h0⟩ | ⟨g, cap, cur, h, _⟩
      · omega
      · injection h with h _ _; exact ⟨g, h⟩
    subst hpn
    have xi : w.cell? ⟨g, i, none⟩ = some (.string ⟨(C.net.getD i []).toArray⟩) := by
      have := World.ownsRow.cells HN.out (g := g) rfl i _ (strs_get C.net i hi)
      rwa [WideShapes.add_plain, Nat.zero_add] at this
    have hgl := cell_block xi
    obtain ⟨m, hm⟩ : ∃ m, C.net.length = m + 1 := ⟨C.net.length - 1, by omega⟩
    have hm60 : m ≤ 1000 := by have := HG.out.net; omega
    have I0 : (0 : Int) ≤ i := by omega
    have I1 : (i : Int) < (C.net.length : Int) := by omega
    have I2 : ¬ ((i : Int) < 0) := by omega
    have I3 : ¬ ((C.net.length : Int) ≤ i) := by omega
    generalize C.net.getD i [] = s at *
    have hwi : IntKind.i64.wrap ((i : Int) + 1) = (i : Int) + 1 := Go.wrap_small _ (by omega) (by omega)
    have HLN : Hid ((C.net.take i ++ C.net.drop (i + 1)).length = m) := hid (by rw [List.length_append, List.length_take, List.length_drop]; omega)
    rcases hk with rfl | rfl | rfl
    · simp only [if_neg (show ¬ ((2 : Int) = 4) by decide), if_neg (show ¬ ((2 : Int) = 3) by decide)]
      have hdel := deleteT_any g m cn i (strs C.net) (w.alloc (.cells #[.int .i64 0, .int .i64 0, .string ⟨#[]⟩] 35)) (by rw [← hm]; exact own_later HN.out (below_box w _)) hm60 (by omega) (strs_one C.net)
      rw [← hm, strs_del] at hdel
      rw [← HLN.out] at hdel
      have HCD : Hid (GoodC { C with net := C.net.take i ++ C.net.drop (i + 1) }) := hid ⟨HG.out.ks, HG.out.now, HG.out.acts, by show (C.net.take i ++ C.net.drop (i + 1)).length ≤ 60; rw [HLN.out]; have := HG.out.net; omega⟩
      clear HLN hm
      generalize C.net.take i ++ C.net.drop (i + 1) = net' at *
      obtain ⟨A0, hA0, hB0⟩ := HC0.out.box
      have HA0 := hid hA0
      have HB0 := hid hB0.net
      have hgc : cb ≠ g := fun e => own_box (own_later HN.out (below_box w (.cells #[.int .i64 0, .int .i64 0, .string ⟨#[]⟩] 35))) hA0 (by decide) (by rw [e]; rfl)
      clear hA0 hB0
      go_enter Tryz.func49, Tryz.ntmps49
      go_wp2_with (first
        | (go_at_call 69; refine hdel.mono ?_; rintro e w1 ⟨rfl, hown, hgr⟩; have hA1 := heap_tk HA0.out hgc hgr; have d186 := (heap_cell hA1 186).trans HB0.out; rw [HVN.out] at d186; have q186 := heap_frozen hA1 186; have hSN := HC0.out.setNet (by rw [HVN.out]; exact hgr) hown (by rw [HVN.out]; exact fun k hk => .inl hk); have HSN := hid hSN; have HX1 := hid (box_cstep hSN.2 HC0.out (zero_box w) (by decide) (by decide) (by decide) (by decide) (by decide) (by decide)); clear hSN hA1 hdel)
        | (go_at_call 70; refine (ccome_any cb _ _ _ s _ HSN.out.1 HCD.out).mono ?_; rintro e w2 ⟨rfl, G2, Z2, hC2, hS2⟩; have HX2 := hid (box_cstep hS2 HSN.out.1 HX1.out (by decide) (by decide) (by decide) (by decide) (by decide) (by decide)); have HC2 := hid hC2; have HS2 := hid hS2; obtain ⟨b0, b1, b2, b3, b4, b5⟩ := cells3 HX2.out; clear hC2 hS2))
      obtain ⟨e1, e2, e3⟩ := creply_end 0 s.length [] HX2.out (HS2.out.more.1 _ (HSN.out.2.more.1 _ HM0.out)) (Nat.le_refl _) HC2.out (HS0.out.trans (HSN.out.2.trans HS2.out))
      exact bodyPost_ret (results_cell_row rfl _ _ w.heap.size 35 _ (0, 0) _ rfl e1 Tryz.underlying35 rfl (by kernel_rfl)) rfl ⟨rfl, _, _, e2, e3⟩
    · simp only [if_neg (show ¬ ((3 : Int) = 4) by decide), if_pos]
      go_enter Tryz.func49, Tryz.ntmps49
      go_wp2_with (first
        | (go_at_call 70; refine (ccome_any cb _ _ _ s _ HC0.out HG.out).mono ?_; rintro e w2 ⟨rfl, G2, Z2, hC2, hS2⟩; have HX2 := hid (box_cstep hS2 HC0.out (zero_box w) (by decide) (by decide) (by decide) (by decide) (by decide) (by decide)); have HC2 := hid hC2; have HS2 := hid hS2; obtain ⟨b0, b1, b2, b3, b4, b5⟩ := cells3 HX2.out; clear hC2 hS2)
        | fail)
      obtain ⟨e1, e2, e3⟩ := creply_end 0 s.length [] HX2.out (HS2.out.more.1 _ HM0.out) (Nat.le_refl _) HC2.out (HS0.out.trans HS2.out)
      exact bodyPost_ret (results_cell_row rfl _ _ w.heap.size 35 _ (0, 0) _ rfl e1 Tryz.underlying35 rfl (by kernel_rfl)) rfl ⟨rfl, _, _, e2, e3⟩
    · simp only [if_neg (show ¬ ((4 : Int) = 3) by decide), if_pos]
      have hdel := deleteT_any g m cn i (strs C.net) (w.alloc (.cells #[.int .i64 0, .int .i64 0, .string ⟨#[]⟩] 35)) (by rw [← hm]; exact own_later HN.out (below_box w _)) hm60 (by omega) (strs_one C.net)
      rw [← hm, strs_del] at hdel
      rw [← HLN.out] at hdel
      have HCD : Hid (GoodC { C with net := C.net.take i ++ C.net.drop (i + 1) }) := hid ⟨HG.out.ks, HG.out.now, HG.out.acts, by show (C.net.take i ++ C.net.drop (i + 1)).length ≤ 60; rw [HLN.out]; have := HG.out.net; omega⟩
      clear HLN hm
      generalize C.net.take i ++ C.net.drop (i + 1) = net' at *
      obtain ⟨A0, hA0, hB0⟩ := HC0.out.box
      have HA0 := hid hA0
      have HB0 := hid hB0.net
      have hgc : cb ≠ g := fun e => own_box (own_later HN.out (below_box w (.cells #[.int .i64 0, .int .i64 0, .string ⟨#[]⟩] 35))) hA0 (by decide) (by rw [e]; rfl)
      clear hA0 hB0
      go_enter Tryz.func49, Tryz.ntmps49
      go_wp2_with (first
        | (go_at_call 69; refine hdel.mono ?_; rintro e w1 ⟨rfl, hown, hgr⟩; have hA1 := heap_tk HA0.out hgc hgr; have d186 := (heap_cell hA1 186).trans HB0.out; rw [HVN.out] at d186; have q186 := heap_frozen hA1 186; have hSN := HC0.out.setNet (by rw [HVN.out]; exact hgr) hown (by rw [HVN.out]; exact fun k hk => .inl hk); have HSN := hid hSN; have HX1 := hid (box_cstep hSN.2 HC0.out (zero_box w) (by decide) (by decide) (by decide) (by decide) (by decide) (by decide)); obtain ⟨b0, b1, b2, b3, b4, b5⟩ := cells3 HX1.out; clear hSN hA1 hdel)
        | fail)
      obtain ⟨e1, e2, e3⟩ := creply_end 0 s.length [] HX1.out (HSN.out.2.more.1 _ HM0.out) (Nat.le_refl _) HSN.out.1 (HS0.out.trans HSN.out.2)
      exact bodyPost_ret (results_cell_row rfl _ _ w.heap.size 35 _ (0, 0) _ rfl e1 Tryz.underlying35 rfl (by kernel_rfl)) rfl ⟨rfl, _, _, e2, e3⟩
end Go.Proofs.YtgpldlbmjakjhaaGreat

namespace Go.Proofs.YtgpldlbmjakjhaaGreat
open Go.RowKit Go.Proofs.Parclose

set_option maxRecDepth 100000 in
set_option maxHeartbeats 3200000 in
theorem ctick_any (cb : Nat) (n : Int) (F : List Nat) (Z : CluV) (C : Clu) (w : World) (hc : CluAt w cb F Z C) (hg : GoodC C) :
    Calls Tryz.prog 50 #[.pointer (some ⟨cb, 0, none⟩), .int .i64 n] w fun e w' => e = .returned (.agg #[.int .i64 (tickC C n).2.code, .int .i64 (tickC C n).2.n, .string ⟨(tickC C n).2.text.toArray⟩]) ∧ ∃ G Z', CluAt w' cb G Z' (tickC C n).1 ∧ CStep cb w F Z w' G Z' := by
  have kn := hc.cnow
  have hnow := hg.now
  have hlt := hc.lt
  have HC0 := hid (hc.reserve (.cells #[.int .i64 0, .int .i64 0, .string ⟨#[]⟩] 35))
  have HS0 := hid (CStep.reserve cb w F Z (.cells #[.int .i64 0, .int .i64 0, .string ⟨#[]⟩] 35))
  have HM0 : Hid (w.heap.size ∈ F ++ [w.heap.size]) := hid (by simp)
  have hw1 : IntKind.i64.wrap (1099511627776 - C.now) = 1099511627776 - C.now := Go.wrap_small _ (by omega) (by omega)
  have HG := hid hg
  have HC := hid hc
  clear hc hg
  by_cases h1 : 1 ≤ n ∧ n ≤ 1099511627776 - C.now
  rotate_left
  · simp only [tickC_out h1]
    by_cases h2 : n < 1
    · clear h1
      go_enter Tryz.func50, Tryz.ntmps50
      go_wp2_with (go_at_call 47; refine (canswer_any 2 _).mono ?_; rintro e w1 ⟨rfl, hw1⟩; have HB1 := hid hw1; obtain ⟨b0, b1, b2, b3, b4, b5⟩ := cells3 (heap_keep (zero_box w) hw1); clear hw1)
      obtain ⟨e1, e2, e3⟩ := creply_end 2 0 [] (heap_keep (zero_box w) HB1.out) HM0.out (Nat.le_refl _) (HC0.out.below HB1.out) (HS0.out.trans (CStep.below HB1.out))
      exact bodyPost_ret (results_cell_row rfl _ _ w.heap.size 35 _ (0, 0) _ rfl e1 Tryz.underlying35 rfl (by kernel_rfl)) rfl ⟨rfl, _, _, e2, e3⟩
    · have h3 : ¬ n ≤ 1099511627776 - C.now := by omega
      clear h1
      go_enter Tryz.func50, Tryz.ntmps50
      go_wp2_with (go_at_call 47; refine (canswer_any 2 _).mono ?_; rintro e w1 ⟨rfl, hw1⟩; have HB1 := hid hw1; obtain ⟨b0, b1, b2, b3, b4, b5⟩ := cells3 (heap_keep (zero_box w) hw1); clear hw1)
      obtain ⟨e1, e2, e3⟩ := creply_end 2 0 [] (heap_keep (zero_box w) HB1.out) HM0.out (Nat.le_refl _) (HC0.out.below HB1.out) (HS0.out.trans (CStep.below HB1.out))
      exact bodyPost_ret (results_cell_row rfl _ _ w.heap.size 35 _ (0, 0) _ rfl e1 Tryz.underlying35 rfl (by kernel_rfl)) rfl ⟨rfl, _, _, e2, e3⟩
  · obtain ⟨h1, h2⟩ := h1
    simp only [tickC_in h1 h2]
    have hD : GoodC { C with now := C.now + n } := ⟨HG.out.ks, by show 0 ≤ C.now + n ∧ C.now + n ≤ 1099511627776; omega, HG.out.acts, HG.out.net⟩
    have hwn : IntKind.i64.wrap (C.now + n) = C.now + n := Go.wrap_small _ (by omega) (by omega)
    obtain ⟨hN1, hN2⟩ := HC.out.setNow (C.now + n)
    have hR1 := hN1.reserve (.cells #[.int .i64 0, .int .i64 0, .string ⟨#[]⟩] 35)
    have hR2 := hN2.trans (CStep.reserve cb _ F Z (.cells #[.int .i64 0, .int .i64 0, .string ⟨#[]⟩] 35))
    simp only [World.size_setCell] at hR1 hR2
    have HR1 := hid hR1
    have HR2 := hid hR2
    have HBX : Hid (((w.setCell ⟨cb, 0, none⟩ (.int .i64 (C.now + n))).alloc (.cells #[.int .i64 0, .int .i64 0, .string ⟨#[]⟩] 35)).heap[w.heap.size]? = some (.cells #[.int .i64 0, .int .i64 0, .string ⟨#[]⟩] 35 (0, 0))) := hid (by have := heap_alloc_new (w.setCell ⟨cb, 0, none⟩ (.int .i64 (C.now + n))) (.cells #[.int .i64 0, .int .i64 0, .string ⟨#[]⟩] 35); simpa using this)
    have hf0 : w.frozen? ⟨cb, 0, none⟩ = false := by obtain ⟨A, hA, _⟩ := HC.out.box; exact heap_frozen hA _
    clear hN1 hN2 hR1 hR2
    have HDG := hid hD
    clear hD
    generalize { C with now := C.now + n } = D at *
    generalize hT16 : tickN D 16 = T16 at *
    have HT16 := hid hT16
    clear hT16
    go_enter Tryz.func50, Tryz.ntmps50
    go_wp2_with fail
    generalize ((w.setCell ⟨cb, 0, none⟩ (.int .i64 (C.now + n))).alloc (.cells #[.int .i64 0, .int .i64 0, .string ⟨#[]⟩] 35)) = w1 at *
    go_loopw [5, 28] (fun c i wr => ∃ (k : Nat) (G : List Nat) (Z' : CluV) (T : Clu × Nat), k ≤ 4 ∧ i = .int .i64 k ∧ c = .int .i64 T.2 ∧ Hid (tickN D (k * 4) = T) ∧ T.2 ≤ (k * 4) * 879609302220 ∧ CluAt wr cb G Z' T.1 ∧ CStep cb w F Z wr G Z' ∧ wr.heap[w.heap.size]? = some (.cells #[.int .i64 0, .int .i64 0, .string ⟨#[]⟩] 35 (0, 0)) ∧ w.heap.size ∈ G) (fun _ i _ => 4 - (intOf i).toNat)
    case atStart => exact ⟨0, _, Z, (D, 0), by omega, rfl, rfl, hid rfl, Nat.le_refl _, HR1.out, HR2.out, HBX.out, HM0.out⟩
    case round =>
      clear HR1 HR2 HBX kn hlt hf0 hw1 hwn
      obtain ⟨k, G, Z', T, hk, rfl, rfl, HT, hle, hcl, hst, hbx, hmm⟩ := hrel
      obtain ⟨wo, hwo⟩ : ∃ wo, wo = wr := ⟨_, rfl⟩
      subst hwo
      have HCL := hid hcl
      have HST := hid hst
      have HBX := hid hbx
      by_cases hk4 : k < 4
      · clear hcl hst hbx
        have hI : (k : Int) < 4 := by omega
        go_wp2_with fail
        go_loopw [5, 31] (fun c i wr => ∃ (j : Nat) (G : List Nat) (Z' : CluV) (T : Clu × Nat), j ≤ 4 ∧ i = .int .i64 j ∧ c = .int .i64 T.2 ∧ Hid (tickN D (k * 4 + j) = T) ∧ T.2 ≤ (k * 4 + j) * 879609302220 ∧ CluAt wr cb G Z' T.1 ∧ CStep cb w F Z wr G Z' ∧ wr.heap[w.heap.size]? = some (.cells #[.int .i64 0, .int .i64 0, .string ⟨#[]⟩] 35 (0, 0)) ∧ w.heap.size ∈ G) (fun _ i _ => 4 - (intOf i).toNat)
        case atStart => exact ⟨0, G, Z', T, by omega, rfl, rfl, HT, hle, HCL.out, HST.out, HBX.out, hmm⟩
        case round =>
          clear HCL HST HBX HT hle hmm
          obtain ⟨j, G2, Z2, T2, hj, rfl, rfl, HT2, hle2, hcl2, hst2, hbx2, hmm2⟩ := hrel
          by_cases hj4 : j < 4
          · have hJ : (j : Int) < 4 := by omega
            have hag := cagain_any cb k j G2 Z2 _ wr hcl2 (by rw [← HT2.out]; exact tickN_good HDG.out _) hk4 hj4
            have HTS : Hid (tickN D (k * 4 + (j + 1)) = ((againC T2.1 k j).1, T2.2 + (againC T2.1 k j).2)) := hid (by have := tickN_succ D hk4 hj4; rw [HT2.out] at this; exact this)
            have HB2 := hid (fun w' G' Z'' (hs : CStep cb wr G2 Z2 w' G' Z'') => box_cstep hs hcl2 hbx2 (by decide) (by decide) (by decide) (by decide) (by decide) (by decide))
            have HS2 := hid hst2
            clear hcl2 hst2 hbx2 HT2
            generalize againC T2.1 k j = A at *
            go_wp2_with fail
            refine hag.mono ?_
            rintro e w3 ⟨rfl, hle3, G3, Z3, hC3, hS3⟩
            have hww : IntKind.i64.wrap ((T2.2 : Int) + (A.2 : Int)) = (T2.2 : Int) + (A.2 : Int) := by
              have h16 : (k * 4 + j) * 879609302220 ≤ 16 * 879609302220 := Nat.mul_le_mul_right _ (by omega)
              exact Go.wrap_small _ (by omega) (by omega)
            have HX3 := hid (HB2.out _ _ _ hS3)
            have HC3 := hid hC3
            have HS3 := hid (HS2.out.trans hS3)
            have HM3 := hid (hS3.more.1 _ hmm2)
            have HLE : Hid (T2.2 + A.2 ≤ (k * 4 + (j + 1)) * 879609302220) := hid (by rw [← Nat.add_assoc, Nat.add_mul]; omega)
            clear hag hC3 hS3
            go_wp2
            go_roundw
            case rel =>
              exact ⟨j + 1, G3, Z3, (A.1, T2.2 + A.2), hj4, by go_num, by simp, HTS, HLE.out, HC3.out, HS3.out, HX3.out, HM3.out⟩
            case measure => simp [intOf]; omega
          · have hj5 : j = 4 := by omega
            subst hj5
            have HC2 := hid hcl2
            have HS2 := hid hst2
            have HX2 := hid hbx2
            clear hcl2 hst2 hbx2
            go_wp2
            go_roundw
            case rel => exact ⟨k + 1, G2, Z2, T2, hk4, by go_num, rfl, hid (by rw [show (k + 1) * 4 = k * 4 + 4 by omega]; exact HT2.out), by rw [show (k + 1) * 4 = k * 4 + 4 by omega]; exact hle2, HC2.out, HS2.out, HX2.out, hmm2⟩
            case measure => simp [intOf]; omega
      · have hk5 : k * 4 = 16 := by omega
        have hTT : T = T16 := by rw [← HT.out, hk5, HT16.out]
        subst hTT
        obtain ⟨b0, b1, b2, b3, b4, b5⟩ := cells3 hbx
        clear hcl hst hbx hk5
        have hk6 : k = 4 := by omega
        subst hk6
        go_wp2
        obtain ⟨e1, e2, e3⟩ := creply_end 0 (T.2 : Int) [] HBX.out hmm (Nat.le_refl _) HCL.out HST.out
        exact bodyPost_ret (results_cell_row rfl _ _ w.heap.size 35 _ (0, 0) _ rfl e1 Tryz.underlying35 rfl (by kernel_rfl)) rfl ⟨rfl, _, _, e2, e3⟩
end Go.Proofs.YtgpldlbmjakjhaaGreat

namespace Go.Proofs.YtgpldlbmjakjhaaGreat
open Go.RowKit Go.Proofs.Parclose

def acV (a : Ac) (vl vg : Value) : Value := .agg #[.int .i64 a.kind, .int .i64 a.h, .int .i64 a.t, .int .i64 a.n, .int .i64 a.call.kind, .int .i64 a.call.h, .int .i64 a.call.t, .int .i64 a.call.n, .int .i64 a.call.c, vl, vg, .string ⟨a.call.text.toArray⟩]
/-- v is the act a -/
def AcAt (w : World) (v : Value) (a : Ac) : Prop := ∃ vl vg, v = acV a vl vg ∧ LabAt w vl a.call.label ∧ IntsAt w vg a.call.grants
theorem AcAt.below {w wr : World} {v : Value} {a : Ac} (h : AcAt w v a) (hb : Below w.heap.size w wr) : AcAt wr v a := by
  obtain ⟨vl, vg, e, h1, h2⟩ := h
  exact ⟨vl, vg, e, h1.below hb, h2.below hb⟩
/-- an act that stays whatever is written of F -/
def AcRo (w : World) (F : List Nat) (v : Value) (a : Ac) : Prop := ∃ vl vg, v = acV a vl vg ∧ RoLab w F vl a.call.label ∧ RoInts w F vg a.call.grants
theorem AcRo.at {w : World} {F : List Nat} {v : Value} {a : Ac} (h : AcRo w F v a) : AcAt w v a := by
  obtain ⟨vl, vg, e, h1, h2⟩ := h
  exact ⟨vl, vg, e, h1.1, h2.1⟩
theorem CluAt.setActs1 {w : World} {cb : Nat} {F : List Nat} {Z : CluV} {C : Clu} (h : CluAt w cb F Z C) : CluAt (w.setCell ⟨cb, 1, none⟩ (.int .i64 ((C.acts : Int) + 1))) cb F Z { C with acts := C.acts + 1 } ∧ CStep cb w F Z (w.setCell ⟨cb, 1, none⟩ (.int .i64 ((C.acts : Int) + 1))) F Z := by
  have h1 := h.setActs (C.acts + 1)
  rw [show (((C.acts + 1 : Nat)) : Int) = (C.acts : Int) + 1 by omega] at h1
  exact h1
theorem CluAt.cacts {w : World} {cb : Nat} {F : List Nat} {Z : CluV} {C : Clu} (h : CluAt w cb F Z C) : w.cell? ⟨cb, 1, none⟩ = some (.int .i64 C.acts) ∧ w.frozen? ⟨cb, 1, none⟩ = false := by
  obtain ⟨A, hA, hB⟩ := h.box
  exact ⟨(heap_cell hA 1).trans hB.acts, heap_frozen hA _⟩
theorem doC_call {C : Clu} {a : Ac} (h : C.acts < 300) (k : a.kind = 1) : doC C a = callC { C with acts := C.acts + 1 } a.h a.t a.call := by
  unfold doC
  rw [if_neg (by omega), if_pos k]
theorem doC_move {C : Clu} {a : Ac} (h : C.acts < 300) (k : a.kind = 2 ∨ a.kind = 3 ∨ a.kind = 4) : doC C a = moveC { C with acts := C.acts + 1 } a.kind a.n := by
  unfold doC
  rw [if_neg (by omega), if_neg (by omega), if_pos k]
theorem doC_tick {C : Clu} {a : Ac} (h : C.acts < 300) (k : a.kind = 5) : doC C a = tickC { C with acts := C.acts + 1 } a.n := by
  unfold doC
  rw [if_neg (by omega), if_neg (by omega), if_neg (by omega), if_pos k]
theorem doC_kind {C : Clu} {a : Ac} (h : C.acts < 300) (k1 : a.kind ≠ 1) (k2 : ¬ (a.kind = 2 ∨ a.kind = 3 ∨ a.kind = 4)) (k5 : a.kind ≠ 5) : doC C a = ({ C with acts := C.acts + 1 }, code 3) := by
  unfold doC
  rw [if_neg (by omega), if_neg k1, if_neg k2, if_neg k5]

set_option maxRecDepth 100000 in
set_option maxHeartbeats 6400000 in
theorem cdo_any (cb : Nat) (F : List Nat) (Z : CluV) (C : Clu) (va : Value) (a : Ac) (w : World) (hc : CluAt w cb F Z C) (hg : GoodC C) (hv : AcRo w F va a) :
    Calls Tryz.prog 22 #[.pointer (some ⟨cb, 0, none⟩), va] w fun e w' => e = .returned (.agg #[.int .i64 (doC C a).2.code, .int .i64 (doC C a).2.n, .string ⟨(doC C a).2.text.toArray⟩]) ∧ ∃ G Z', CluAt w' cb G Z' (doC C a).1 ∧ CStep cb w F Z w' G Z' := by
  have HV := hid hv
  obtain ⟨vl, vg, rfl, ⟨⟨pl, cl, rfl, _⟩, _⟩, ⟨⟨pg, cg, rfl, _⟩, _⟩⟩ := hv
  unfold acV at HV ⊢
  have hlt := hc.lt
  obtain ⟨k1, f1⟩ := hc.cacts
  have hact := hg.acts
  have hneq : cb ≠ w.heap.size := by omega
  by_cases h300 : 300 ≤ C.acts
  · have HP := hid (doC_full C a h300)
    have h3 : (300 : Int) ≤ (C.acts : Int) := by omega
    have hbb := below_box w (.cells #[.int .i64 a.kind, .int .i64 a.h, .int .i64 a.t, .int .i64 a.n, .int .i64 a.call.kind, .int .i64 a.call.h, .int .i64 a.call.t, .int .i64 a.call.n, .int .i64 a.call.c, .slice pl a.call.label.length cl, .slice pg a.call.grants.length cg, .string ⟨a.call.text.toArray⟩] 32)
    have HC1 := hid ((hc.below hbb).reserve (.cells #[.int .i64 0, .int .i64 0, .string ⟨#[]⟩] 35))
    have HS1 := hid ((CStep.below (cb := cb) (F := F) (Z := Z) hbb).trans (CStep.reserve cb _ F Z (.cells #[.int .i64 0, .int .i64 0, .string ⟨#[]⟩] 35)))
    rw [size_box] at HC1 HS1
    have HXR := hid (heap_alloc2_new w (.cells #[.int .i64 a.kind, .int .i64 a.h, .int .i64 a.t, .int .i64 a.n, .int .i64 a.call.kind, .int .i64 a.call.h, .int .i64 a.call.t, .int .i64 a.call.n, .int .i64 a.call.c, .slice pl a.call.label.length cl, .slice pg a.call.grants.length cg, .string ⟨a.call.text.toArray⟩] 32) (.cells #[.int .i64 0, .int .i64 0, .string ⟨#[]⟩] 35))
    have HM0 : Hid (w.heap.size + 1 ∈ F ++ [w.heap.size + 1]) := hid (by simp)
    clear hc hg hbb h300
    go_enter Tryz.func22, Tryz.ntmps22
    go_wp2_with (go_at_call 47; refine (canswer_any _ _).mono ?_; rintro e w9 ⟨rfl, hw9⟩; have HB9 := hid hw9; have HX9 := hid (heap_keep HXR.out hw9); obtain ⟨b0, b1, b2, b3, b4, b5⟩ := cells3 HX9.out; clear hw9)
    obtain ⟨e1, e2, e3⟩ := creply_end 5 0 [] HX9.out HM0.out (Nat.le_succ _) (HC1.out.below HB9.out) (HS1.out.trans (CStep.below HB9.out))
    rw [HP.out]
    exact bodyPost_ret (results_cell_row rfl _ _ (w.heap.size + 1) 35 _ (0, 0) _ rfl e1 Tryz.underlying35 rfl (by kernel_rfl)) rfl ⟨rfl, _, _, e2, e3⟩
  · have h300' : C.acts < 300 := by omega
    have h3 : ¬ ((300 : Int) ≤ (C.acts : Int)) := by omega
    have hwr : IntKind.i64.wrap ((C.acts : Int) + 1) = (C.acts : Int) + 1 := Go.wrap_small _ (by omega) (by omega)
    have hSA := hc.setActs1
    have hbb := below_box (w.setCell ⟨cb, 1, none⟩ (.int .i64 ((C.acts : Int) + 1))) (.cells #[.int .i64 a.kind, .int .i64 a.h, .int .i64 a.t, .int .i64 a.n, .int .i64 a.call.kind, .int .i64 a.call.h, .int .i64 a.call.t, .int .i64 a.call.n, .int .i64 a.call.c, .slice pl a.call.label.length cl, .slice pg a.call.grants.length cg, .string ⟨a.call.text.toArray⟩] 32)
    have hSZ : (w.setCell ⟨cb, 1, none⟩ (.int .i64 ((C.acts : Int) + 1))).heap.size = w.heap.size := World.size_setCell _ _ _
    have HC1 := hid ((hSA.1.below hbb).reserve (.cells #[.int .i64 0, .int .i64 0, .string ⟨#[]⟩] 35))
    have HS1 := hid (hSA.2.trans ((CStep.below (cb := cb) (F := F) (Z := Z) hbb).trans (CStep.reserve cb _ F Z (.cells #[.int .i64 0, .int .i64 0, .string ⟨#[]⟩] 35))))
    rw [size_box, hSZ] at HC1 HS1
    have HXR := hid (heap_alloc2_new (w.setCell ⟨cb, 1, none⟩ (.int .i64 ((C.acts : Int) + 1))) (.cells #[.int .i64 a.kind, .int .i64 a.h, .int .i64 a.t, .int .i64 a.n, .int .i64 a.call.kind, .int .i64 a.call.h, .int .i64 a.call.t, .int .i64 a.call.n, .int .i64 a.call.c, .slice pl a.call.label.length cl, .slice pg a.call.grants.length cg, .string ⟨a.call.text.toArray⟩] 32) (.cells #[.int .i64 0, .int .i64 0, .string ⟨#[]⟩] 35))
    rw [hSZ] at HXR
    have HKP : Hid (KeptF F w (((w.setCell ⟨cb, 1, none⟩ (.int .i64 ((C.acts : Int) + 1))).alloc (.cells #[.int .i64 a.kind, .int .i64 a.h, .int .i64 a.t, .int .i64 a.n, .int .i64 a.call.kind, .int .i64 a.call.h, .int .i64 a.call.t, .int .i64 a.call.n, .int .i64 a.call.c, .slice pl a.call.label.length cl, .slice pg a.call.grants.length cg, .string ⟨a.call.text.toArray⟩] 32)).alloc (.cells #[.int .i64 0, .int .i64 0, .string ⟨#[]⟩] 35))) := hid (HS1.out.keptF hc)
    have HVA : Hid (LabAt (((w.setCell ⟨cb, 1, none⟩ (.int .i64 ((C.acts : Int) + 1))).alloc (.cells #[.int .i64 a.kind, .int .i64 a.h, .int .i64 a.t, .int .i64 a.n, .int .i64 a.call.kind, .int .i64 a.call.h, .int .i64 a.call.t, .int .i64 a.call.n, .int .i64 a.call.c, .slice pl a.call.label.length cl, .slice pg a.call.grants.length cg, .string ⟨a.call.text.toArray⟩] 32)).alloc (.cells #[.int .i64 0, .int .i64 0, .string ⟨#[]⟩] 35)) (.slice pl a.call.label.length cl) a.call.label ∧ IntsAt (((w.setCell ⟨cb, 1, none⟩ (.int .i64 ((C.acts : Int) + 1))).alloc (.cells #[.int .i64 a.kind, .int .i64 a.h, .int .i64 a.t, .int .i64 a.n, .int .i64 a.call.kind, .int .i64 a.call.h, .int .i64 a.call.t, .int .i64 a.call.n, .int .i64 a.call.c, .slice pl a.call.label.length cl, .slice pg a.call.grants.length cg, .string ⟨a.call.text.toArray⟩] 32)).alloc (.cells #[.int .i64 0, .int .i64 0, .string ⟨#[]⟩] 35)) (.slice pg a.call.grants.length cg) a.call.grants) := hid (by
      obtain ⟨vl', vg', e, h1, h2⟩ := HV.out
      unfold acV at e
      injection e with e
      simp only [Array.mk.injEq, List.cons.injEq, true_and, and_true] at e
      obtain ⟨rfl, rfl⟩ := e
      exact ⟨(h1.keep HKP.out (More.refl _ _)).1, (h2.keep HKP.out (More.refl _ _)).1⟩)
    have HM0 : Hid (w.heap.size + 1 ∈ F ++ [w.heap.size + 1]) := hid (by simp)
    have HLE : Hid (w.heap.size ≤ w.heap.size + 1) := hid (Nat.le_succ _)
    have HG1 : Hid (GoodC { C with acts := C.acts + 1 }) := hid ⟨hg.ks, hg.now, by show C.acts + 1 ≤ 300; omega, hg.net⟩
    clear hc hg hbb hSA h300 HV
    by_cases q1 : a.kind = 1
    · have HP := hid (doC_call (a := a) h300' q1)
      have e1' : (a.kind == 1) = true := by simpa using q1
      have hcall := ccall_any cb a.h a.t _ Z { C with acts := C.acts + 1 } _ a.call (((w.setCell ⟨cb, 1, none⟩ (.int .i64 ((C.acts : Int) + 1))).alloc (.cells #[.int .i64 a.kind, .int .i64 a.h, .int .i64 a.t, .int .i64 a.n, .int .i64 a.call.kind, .int .i64 a.call.h, .int .i64 a.call.t, .int .i64 a.call.n, .int .i64 a.call.c, .slice pl a.call.label.length cl, .slice pg a.call.grants.length cg, .string ⟨a.call.text.toArray⟩] 32)).alloc (.cells #[.int .i64 0, .int .i64 0, .string ⟨#[]⟩] 35)) HC1.out HG1.out ⟨_, _, rfl, HVA.out.1, HVA.out.2⟩
      unfold calV at hcall
      generalize callC { C with acts := C.acts + 1 } a.h a.t a.call = SC at *
      clear q1
      go_enter Tryz.func22, Tryz.ntmps22
      go_wp2_with (go_at_call 48; refine hcall.mono ?_; rintro e w5 ⟨rfl, G5, Z5, hC5, hS5⟩; have HC5 := hid hC5; have HS5 := hid hS5; have HX5 := hid (box_cstep hS5 HC1.out HXR.out (by decide) (by decide) (by decide) (by decide) (by decide) (by decide)); obtain ⟨b0, b1, b2, b3, b4, b5⟩ := cells3 HX5.out; clear hC5 hS5 hcall)
      obtain ⟨e1, e2, e3⟩ := creply_end SC.2.code SC.2.n SC.2.text HX5.out (HS5.out.more.1 _ HM0.out) HLE.out HC5.out (HS1.out.trans HS5.out)
      rw [HP.out]
      exact bodyPost_ret (results_cell_row rfl _ _ (w.heap.size + 1) 35 _ (0, 0) _ rfl e1 Tryz.underlying35 rfl (by kernel_rfl)) rfl ⟨rfl, _, _, e2, e3⟩
    · have e1' : (a.kind == 1) = false := by simpa using q1
      by_cases q2 : a.kind = 2 ∨ a.kind = 3 ∨ a.kind = 4
      · have HP := hid (doC_move (a := a) h300' q2)
        have hmv := cmove_any cb a.kind a.n _ Z { C with acts := C.acts + 1 } (((w.setCell ⟨cb, 1, none⟩ (.int .i64 ((C.acts : Int) + 1))).alloc (.cells #[.int .i64 a.kind, .int .i64 a.h, .int .i64 a.t, .int .i64 a.n, .int .i64 a.call.kind, .int .i64 a.call.h, .int .i64 a.call.t, .int .i64 a.call.n, .int .i64 a.call.c, .slice pl a.call.label.length cl, .slice pg a.call.grants.length cg, .string ⟨a.call.text.toArray⟩] 32)).alloc (.cells #[.int .i64 0, .int .i64 0, .string ⟨#[]⟩] 35)) HC1.out HG1.out q2
        generalize moveC { C with acts := C.acts + 1 } a.kind a.n = SC at *
        rcases q2 with q2 | q2 | q2
        · have e2' : (a.kind == 2) = true := by simpa using q2
          clear q1 q2
          go_enter Tryz.func22, Tryz.ntmps22
          go_wp2_with (go_at_call 49; refine hmv.mono ?_; rintro e w5 ⟨rfl, G5, Z5, hC5, hS5⟩; have HC5 := hid hC5; have HS5 := hid hS5; have HX5 := hid (box_cstep hS5 HC1.out HXR.out (by decide) (by decide) (by decide) (by decide) (by decide) (by decide)); obtain ⟨b0, b1, b2, b3, b4, b5⟩ := cells3 HX5.out; clear hC5 hS5 hmv)
          obtain ⟨e1, e2, e3⟩ := creply_end SC.2.code SC.2.n SC.2.text HX5.out (HS5.out.more.1 _ HM0.out) HLE.out HC5.out (HS1.out.trans HS5.out)
          rw [HP.out]
          exact bodyPost_ret (results_cell_row rfl _ _ (w.heap.size + 1) 35 _ (0, 0) _ rfl e1 Tryz.underlying35 rfl (by kernel_rfl)) rfl ⟨rfl, _, _, e2, e3⟩
        · have e2' : (a.kind == 2) = false := by simp [q2]
          have e3' : (a.kind == 3) = true := by simpa using q2
          clear q1 q2
          go_enter Tryz.func22, Tryz.ntmps22
          go_wp2_with (go_at_call 49; refine hmv.mono ?_; rintro e w5 ⟨rfl, G5, Z5, hC5, hS5⟩; have HC5 := hid hC5; have HS5 := hid hS5; have HX5 := hid (box_cstep hS5 HC1.out HXR.out (by decide) (by decide) (by decide) (by decide) (by decide) (by decide)); obtain ⟨b0, b1, b2, b3, b4, b5⟩ := cells3 HX5.out; clear hC5 hS5 hmv)
          obtain ⟨e1, e2, e3⟩ := creply_end SC.2.code SC.2.n SC.2.text HX5.out (HS5.out.more.1 _ HM0.out) HLE.out HC5.out (HS1.out.trans HS5.out)
          rw [HP.out]
          exact bodyPost_ret (results_cell_row rfl _ _ (w.heap.size + 1) 35 _ (0, 0) _ rfl e1 Tryz.underlying35 rfl (by kernel_rfl)) rfl ⟨rfl, _, _, e2, e3⟩
        · have e2' : (a.kind == 2) = false := by simp [q2]
          have e3' : (a.kind == 3) = false := by simp [q2]
          have e4' : (a.kind == 4) = true := by simpa using q2
          clear q1 q2
          go_enter Tryz.func22, Tryz.ntmps22
          go_wp2_with (go_at_call 49; refine hmv.mono ?_; rintro e w5 ⟨rfl, G5, Z5, hC5, hS5⟩; have HC5 := hid hC5; have HS5 := hid hS5; have HX5 := hid (box_cstep hS5 HC1.out HXR.out (by decide) (by decide) (by decide) (by decide) (by decide) (by decide)); obtain ⟨b0, b1, b2, b3, b4, b5⟩ := cells3 HX5.out; clear hC5 hS5 hmv)
          obtain ⟨e1, e2, e3⟩ := creply_end SC.2.code SC.2.n SC.2.text HX5.out (HS5.out.more.1 _ HM0.out) HLE.out HC5.out (HS1.out.trans HS5.out)
          rw [HP.out]
          exact bodyPost_ret (results_cell_row rfl _ _ (w.heap.size + 1) 35 _ (0, 0) _ rfl e1 Tryz.underlying35 rfl (by kernel_rfl)) rfl ⟨rfl, _, _, e2, e3⟩
      · have e2' : (a.kind == 2) = false := by simp; omega
        have e3' : (a.kind == 3) = false := by simp; omega
        have e4' : (a.kind == 4) = false := by simp; omega
        by_cases q5 : a.kind = 5
        · have HP := hid (doC_tick (a := a) h300' q5)
          have e5' : (a.kind == 5) = true := by simpa using q5
          have htk := ctick_any cb a.n _ Z { C with acts := C.acts + 1 } (((w.setCell ⟨cb, 1, none⟩ (.int .i64 ((C.acts : Int) + 1))).alloc (.cells #[.int .i64 a.kind, .int .i64 a.h, .int .i64 a.t, .int .i64 a.n, .int .i64 a.call.kind, .int .i64 a.call.h, .int .i64 a.call.t, .int .i64 a.call.n, .int .i64 a.call.c, .slice pl a.call.label.length cl, .slice pg a.call.grants.length cg, .string ⟨a.call.text.toArray⟩] 32)).alloc (.cells #[.int .i64 0, .int .i64 0, .string ⟨#[]⟩] 35)) HC1.out HG1.out
          generalize tickC { C with acts := C.acts + 1 } a.n = SC at *
          clear q1 q2 q5
          go_enter Tryz.func22, Tryz.ntmps22
          go_wp2_with (go_at_call 50; refine htk.mono ?_; rintro e w5 ⟨rfl, G5, Z5, hC5, hS5⟩; have HC5 := hid hC5; have HS5 := hid hS5; have HX5 := hid (box_cstep hS5 HC1.out HXR.out (by decide) (by decide) (by decide) (by decide) (by decide) (by decide)); obtain ⟨b0, b1, b2, b3, b4, b5⟩ := cells3 HX5.out; clear hC5 hS5 htk)
          obtain ⟨e1, e2, e3⟩ := creply_end SC.2.code SC.2.n SC.2.text HX5.out (HS5.out.more.1 _ HM0.out) HLE.out HC5.out (HS1.out.trans HS5.out)
          rw [HP.out]
          exact bodyPost_ret (results_cell_row rfl _ _ (w.heap.size + 1) 35 _ (0, 0) _ rfl e1 Tryz.underlying35 rfl (by kernel_rfl)) rfl ⟨rfl, _, _, e2, e3⟩
        · have HP := hid (doC_kind (a := a) h300' q1 q2 q5)
          have e5' : (a.kind == 5) = false := by simpa using q5
          clear q1 q2 q5
          go_enter Tryz.func22, Tryz.ntmps22
          go_wp2_with (go_at_call 47; refine (canswer_any _ _).mono ?_; rintro e w9 ⟨rfl, hw9⟩; have HB9 := hid hw9; have HX9 := hid (heap_keep HXR.out hw9); obtain ⟨b0, b1, b2, b3, b4, b5⟩ := cells3 HX9.out; clear hw9)
          obtain ⟨e1, e2, e3⟩ := creply_end 3 0 [] HX9.out HM0.out (Nat.le_succ _) (HC1.out.below HB9.out) (HS1.out.trans (CStep.below HB9.out))
          rw [HP.out]
          exact bodyPost_ret (results_cell_row rfl _ _ (w.heap.size + 1) 35 _ (0, 0) _ rfl e1 Tryz.underlying35 rfl (by kernel_rfl)) rfl ⟨rfl, _, _, e2, e3⟩
end Go.Proofs.YtgpldlbmjakjhaaGreat
