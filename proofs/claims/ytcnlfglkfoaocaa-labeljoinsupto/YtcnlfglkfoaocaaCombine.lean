/- label.Join and label.Meet answer the greater and the lesser of the levels of two labels, category by category, in a list of their own. -/
import Derived.Test.YtcnlfglkfoaocaaFrom
import Derived.Test.YtcnlfglkfoaocaaCopies
namespace Go.Proofs.Ytcnlfglkfoaocaa
open Go.RowKit Go.Proofs.Parclose

theorem greater_any (x y : Int) (w : World) : Calls Try.prog 36 #[.int .i64 x, .int .i64 y] w fun e w' => e = .returned (.int .i64 (max x y)) ∧ w' = w := by
  go_enter Try.func36, Try.ntmps36
  go_wp2
  all_goals go_ret
  all_goals exact ⟨by first | rfl | (refine ret_int ?_; omega), rfl⟩

theorem lesser_any (x y : Int) (w : World) : Calls Try.prog 38 #[.int .i64 x, .int .i64 y] w fun e w' => e = .returned (.int .i64 (min x y)) ∧ w' = w := by
  go_enter Try.func38, Try.ntmps38
  go_wp2
  all_goals go_ret
  all_goals exact ⟨by first | rfl | (refine ret_int ?_; omega), rfl⟩

/-- one level, laid for an append -/
theorem one_flat (w : World) (x y : Int) : ∀ j u, (flat [(x, y)])[j]? = some u → (w.alloc (.cells #[.int .i64 x, .int .i64 y] 47)).cell? ((⟨w.heap.size, 0, none⟩ : Addr).add j) = some u := by
  intro j u hu
  match j, hu with
  | 0, hu => simp [flat] at hu; subst hu; simp [Addr.add]
  | 1, hu => simp [flat] at hu; subst hu; simp [Addr.add]
  | n + 2, hu => simp [flat] at hu

set_option maxHeartbeats 1000000 in
theorem combine_join (va vb : Value) (a b : List (Int × Int)) (w : World) (ha : LabAt w va a) (hb : LabAt w vb b) (hab : a.length + b.length ≤ 8796093022208) :
    Calls Try.prog 35 #[va, vb, .func (.func 36) #[] #[]] w fun e w' => ∃ v, e = .returned v ∧ LabAt w' v (combL max a b) ∧ Below w.heap.size w w' := by
  obtain ⟨i0, hi, hz0, hz1, hz2⟩ := info_parts info_level
  go_enter Try.func35, Try.ntmps35
  go_wp2_with (go_at_call 29; refine (named_any _ _ a b _ ha hb).mono ?_; rintro e w1 ⟨v, rfl, ⟨p, cap, rfl, hlc, hcap, hcells⟩, hw1⟩)
  have HC : Hid (combL max a b = combOn max a b (catsL a b)) := rfl
  have hcl := catsL_length a b
  generalize catsL a b = cs at *
  go_loopw [7, 15] (fun v i wr => ∃ k : Nat, k ≤ cs.length ∧ i = .int .i64 k ∧ wr.ownsRow w1.heap.size 47 2 v (combOn max a b (cs.take k)).length (flat (combOn max a b (cs.take k))) ∧ Below w1.heap.size w1 wr) (fun _ i _ => cs.length - (intOf i).toNat)
  case atStart => exact ⟨0, Nat.zero_le _, rfl, World.ownsRow_nil _ _ _ _, Below.refl _ _⟩
  case round =>
    obtain ⟨k, hk, rfl, hown, hbr⟩ := hrel
    have hwr := below_then hw1 hbr
    by_cases hlt : k < cs.length
    · obtain ⟨bn, on, rfl, hc⟩ := hcells (by omega)
      have hck := (hc.below hbr) k hlt
      clear hcells hc
      have ha1 := ha.below hwr
      have hb1 := hb.below hwr
      have htk : cs.take (k + 1) = cs.take k ++ [cs[k]] := List.take_succ_eq_append_getElem hlt
      have HK : Hid (cs.take (k + 1) = cs.take k ++ [cs[k]]) := htk
      clear htk
      have hcol := combOn_length max a b (cs.take k)
      have htl : (cs.take k).length ≤ k := List.length_take_le _ _
      have HP : Hid (∀ x, max (atL a cs[k]) (atL b cs[k]) = x → x = 1 → combOn max a b (cs.take (k + 1)) = combOn max a b (cs.take k)) := fun x h1 h2 => by
        rw [HK.out]; exact combOn_snoc_plain _ _ _ _ _ (h1.trans h2)
      have HQ : Hid (∀ x, max (atL a cs[k]) (atL b cs[k]) = x → x ≠ 1 → combOn max a b (cs.take (k + 1)) = combOn max a b (cs.take k) ++ [(cs[k], x)]) := fun x h1 h2 => by
        subst h1; rw [HK.out]; exact combOn_snoc _ _ _ _ _ h2
      have hA := at_any va a cs[k] wr ha1
      go_wp2_with fail
      refine hA.mono ?_
      rintro e w2 ⟨rfl, hw2⟩
      go_wp2_with fail
      refine (at_any vb b cs[k] w2 (hb1.below hw2)).mono ?_
      rintro e w3 ⟨rfl, hw3⟩
      have hw23 := below_then hw2 hw3
      go_wp2_with fail
      refine (greater_any _ _ _).mono ?_
      rintro e w4 ⟨rfl, rfl⟩
      generalize hx : max (atL a cs[k]) (atL b cs[k]) = x
      have HX : Hid (max (atL a cs[k]) (atL b cs[k]) = x) := hx
      have hown4 := hown.kept (grown_of_below hw23) (Classical.em _)
      have HO : Hid (w4.ownsRow w1.heap.size 47 2 u7 (combOn max a b (cs.take k)).length (flat (combOn max a b (cs.take k)))) := hown4
      have hb4 := below_then hbr hw23
      generalize hco : combOn max a b (cs.take k) = out at *
      have HCO : Hid (combOn max a b (cs.take k) = out) := hco
      clear hx hco hA hown ha1 hb1 hw2 hw3 hw23
      by_cases h1 : x = 1
      · have hne : (x != 1) = false := by simp [h1]
        have HP2 := HP.out x HX.out h1
        have HP3 : Hid (combOn max a b (cs.take (k + 1)) = out) := HP2
        clear HP2 h1 hown4
        go_wp2
        go_roundw
        case rel => exact ⟨k + 1, hlt, by go_num, by rw [HP3.out]; exact HO.out, hb4⟩
        case measure => simp [intOf]; omega
      · have hne : (x != 1) = true := by simp [h1]
        have HP2 := HQ.out x HX.out h1
        have HP3 : Hid (combOn max a b (cs.take (k + 1)) = out ++ [(cs[k], x)]) := HP2
        clear HP2 h1
        have hsz4 := hb4.size
        go_wp2_with (at_builtin; refine wpList_append_own _ rfl _ _ 23 rfl w1.heap.size 47 i0 _ 2 16 Try.underlying23 hi hz0 hz1 hz2 rfl (by decide) _ out.length (flat out) rfl (hown4.alloc _) ⟨w4.heap.size, 0, none⟩ 1 1 (flat [(cs[k], x)]) rfl rfl (one_flat w4 _ _) (flat_one _) (by unfold maxLen; omega) (by omega) (by simp; omega) ?_; intro v5 w5 hown5 hgrow5 hnil5)
        clear hown4
        go_roundw
        case rel => exact ⟨k + 1, hlt, by go_num, by rw [HP3.out, flat_append, List.length_append]; exact hown5, (hb4.alloc hsz4 _).grown hgrow5 (by simp; omega) (fun j hj => ownsRow_base HO.out hj)⟩
        case measure => simp [intOf]; omega
    · have hkl : k = cs.length := by omega
      subst hkl
      rw [List.take_length] at hown
      have hcol := combOn_length max a b cs
      go_wp2
      go_ret
      exact ⟨_, rfl, by rw [HC.out]; exact lab_of_row hown (by omega), hwr⟩

set_option maxHeartbeats 1000000 in
theorem combine_meet (va vb : Value) (a b : List (Int × Int)) (w : World) (ha : LabAt w va a) (hb : LabAt w vb b) (hab : a.length + b.length ≤ 8796093022208) :
    Calls Try.prog 35 #[va, vb, .func (.func 38) #[] #[]] w fun e w' => ∃ v, e = .returned v ∧ LabAt w' v (combL min a b) ∧ Below w.heap.size w w' := by
  obtain ⟨i0, hi, hz0, hz1, hz2⟩ := info_parts info_level
  go_enter Try.func35, Try.ntmps35
  go_wp2_with (go_at_call 29; refine (named_any _ _ a b _ ha hb).mono ?_; rintro e w1 ⟨v, rfl, ⟨p, cap, rfl, hlc, hcap, hcells⟩, hw1⟩)
  have HC : Hid (combL min a b = combOn min a b (catsL a b)) := rfl
  have hcl := catsL_length a b
  generalize catsL a b = cs at *
  go_loopw [7, 15] (fun v i wr => ∃ k : Nat, k ≤ cs.length ∧ i = .int .i64 k ∧ wr.ownsRow w1.heap.size 47 2 v (combOn min a b (cs.take k)).length (flat (combOn min a b (cs.take k))) ∧ Below w1.heap.size w1 wr) (fun _ i _ => cs.length - (intOf i).toNat)
  case atStart => exact ⟨0, Nat.zero_le _, rfl, World.ownsRow_nil _ _ _ _, Below.refl _ _⟩
  case round =>
    obtain ⟨k, hk, rfl, hown, hbr⟩ := hrel
    have hwr := below_then hw1 hbr
    by_cases hlt : k < cs.length
    · obtain ⟨bn, on, rfl, hc⟩ := hcells (by omega)
      have hck := (hc.below hbr) k hlt
      clear hcells hc
      have ha1 := ha.below hwr
      have hb1 := hb.below hwr
      have htk : cs.take (k + 1) = cs.take k ++ [cs[k]] := List.take_succ_eq_append_getElem hlt
      have HK : Hid (cs.take (k + 1) = cs.take k ++ [cs[k]]) := htk
      clear htk
      have hcol := combOn_length min a b (cs.take k)
      have htl : (cs.take k).length ≤ k := List.length_take_le _ _
      have HP : Hid (∀ x, min (atL a cs[k]) (atL b cs[k]) = x → x = 1 → combOn min a b (cs.take (k + 1)) = combOn min a b (cs.take k)) := fun x h1 h2 => by
        rw [HK.out]; exact combOn_snoc_plain _ _ _ _ _ (h1.trans h2)
      have HQ : Hid (∀ x, min (atL a cs[k]) (atL b cs[k]) = x → x ≠ 1 → combOn min a b (cs.take (k + 1)) = combOn min a b (cs.take k) ++ [(cs[k], x)]) := fun x h1 h2 => by
        subst h1; rw [HK.out]; exact combOn_snoc _ _ _ _ _ h2
      have hA := at_any va a cs[k] wr ha1
      go_wp2_with fail
      refine hA.mono ?_
      rintro e w2 ⟨rfl, hw2⟩
      go_wp2_with fail
      refine (at_any vb b cs[k] w2 (hb1.below hw2)).mono ?_
      rintro e w3 ⟨rfl, hw3⟩
      have hw23 := below_then hw2 hw3
      go_wp2_with fail
      refine (lesser_any _ _ _).mono ?_
      rintro e w4 ⟨rfl, rfl⟩
      generalize hx : min (atL a cs[k]) (atL b cs[k]) = x
      have HX : Hid (min (atL a cs[k]) (atL b cs[k]) = x) := hx
      have hown4 := hown.kept (grown_of_below hw23) (Classical.em _)
      have HO : Hid (w4.ownsRow w1.heap.size 47 2 u7 (combOn min a b (cs.take k)).length (flat (combOn min a b (cs.take k)))) := hown4
      have hb4 := below_then hbr hw23
      generalize hco : combOn min a b (cs.take k) = out at *
      have HCO : Hid (combOn min a b (cs.take k) = out) := hco
      clear hx hco hA hown ha1 hb1 hw2 hw3 hw23
      by_cases h1 : x = 1
      · have hne : (x != 1) = false := by simp [h1]
        have HP2 := HP.out x HX.out h1
        have HP3 : Hid (combOn min a b (cs.take (k + 1)) = out) := HP2
        clear HP2 h1 hown4
        go_wp2
        go_roundw
        case rel => exact ⟨k + 1, hlt, by go_num, by rw [HP3.out]; exact HO.out, hb4⟩
        case measure => simp [intOf]; omega
      · have hne : (x != 1) = true := by simp [h1]
        have HP2 := HQ.out x HX.out h1
        have HP3 : Hid (combOn min a b (cs.take (k + 1)) = out ++ [(cs[k], x)]) := HP2
        clear HP2 h1
        have hsz4 := hb4.size
        go_wp2_with (at_builtin; refine wpList_append_own _ rfl _ _ 23 rfl w1.heap.size 47 i0 _ 2 16 Try.underlying23 hi hz0 hz1 hz2 rfl (by decide) _ out.length (flat out) rfl (hown4.alloc _) ⟨w4.heap.size, 0, none⟩ 1 1 (flat [(cs[k], x)]) rfl rfl (one_flat w4 _ _) (flat_one _) (by unfold maxLen; omega) (by omega) (by simp; omega) ?_; intro v5 w5 hown5 hgrow5 hnil5)
        clear hown4
        go_roundw
        case rel => exact ⟨k + 1, hlt, by go_num, by rw [HP3.out, flat_append, List.length_append]; exact hown5, (hb4.alloc hsz4 _).grown hgrow5 (by simp; omega) (fun j hj => ownsRow_base HO.out hj)⟩
        case measure => simp [intOf]; omega
    · have hkl : k = cs.length := by omega
      subst hkl
      rw [List.take_length] at hown
      have hcol := combOn_length min a b cs
      go_wp2
      go_ret
      exact ⟨_, rfl, by rw [HC.out]; exact lab_of_row hown (by omega), hwr⟩

theorem join_any (va vb : Value) (a b : List (Int × Int)) (w : World) (ha : LabAt w va a) (hb : LabAt w vb b) (hab : a.length + b.length ≤ 8796093022208) :
    Calls Try.prog 22 #[va, vb] w fun e w' => ∃ v, e = .returned v ∧ LabAt w' v (combL max a b) ∧ Below w.heap.size w w' := by
  go_enter Try.func22, Try.ntmps22
  go_wp2_with (go_at_call 35; refine (combine_join _ _ a b _ ha hb hab).mono ?_; rintro e w1 ⟨v, rfl, hv, hw1⟩)
  go_ret
  exact ⟨_, rfl, hv, hw1⟩

theorem meet_any (va vb : Value) (a b : List (Int × Int)) (w : World) (ha : LabAt w va a) (hb : LabAt w vb b) (hab : a.length + b.length ≤ 8796093022208) :
    Calls Try.prog 24 #[va, vb] w fun e w' => ∃ v, e = .returned v ∧ LabAt w' v (combL min a b) ∧ Below w.heap.size w w' := by
  go_enter Try.func24, Try.ntmps24
  go_wp2_with (go_at_call 35; refine (combine_meet _ _ a b _ ha hb hab).mono ?_; rintro e w1 ⟨v, rfl, hv, hw1⟩)
  go_ret
  exact ⟨_, rfl, hv, hw1⟩
end Go.Proofs.Ytcnlfglkfoaocaa
