/- The reference: four, IsCategory, GoodLabel, SameLabel answer what the document says. -/
import Derived.Test.YtagmnfghkfeplaaWGoodF
import Derived.Test.YtagmnfghkfeplaaSame
import Derived.Test.YtagmnfghkfeplaaRCat
namespace Go.Proofs.Ytagmnfghkfeplaa
open Go.RowKit Go.Proofs.Parclose

set_option maxHeartbeats 800000 in
theorem rsame_any (va vb : Value) (a b : List (Int × Int)) (w : World) (ha : LabAt w va a) (hb : LabAt w vb b) :
    Calls Try.prog 51 #[va, vb] w fun e w' => e = .returned (.bool (sameB a b)) ∧ Below w.heap.size w w' := by
  obtain ⟨p, cap, rfl, hlc, hcap, hca⟩ := ha
  obtain ⟨q, cap', rfl, hlc', hcap', hcb⟩ := hb
  by_cases hl : a.length = b.length
  rotate_left
  · have HS : Hid (sameB a b = false) := sameB_len hl
    have hl' : ((a.length : Int) != (b.length : Int)) = true := by rw [bne_iff_ne]; omega
    go_enter Try.func51, Try.ntmps51
    go_wp2
    go_ret
    exact ⟨ret_bool HS.out.symm, Below.refl _ _⟩
  have hl' : ((a.length : Int) != (b.length : Int)) = false := by rw [bne_eq_false_iff_eq]; omega
  have HL : Hid (a.length = b.length) := hl
  have hlb : b.length ≤ a.length := by omega
  have hla : a.length ≤ b.length := by omega
  clear hl
  have hgd := guard_level
  go_enter Try.func51, Try.ntmps51
  go_wp2
  go_loopw [13] (fun i wr => ∃ k n : Nat, k ≤ a.length ∧ i = .int .i64 k ∧ (∀ j (hj : j < k) (hja : j < a.length) (hjb : j < b.length), a[j] = b[j]) ∧ wr = w.drewN n) (fun i _ => a.length - (intOf i).toNat)
  case atStart => exact ⟨0, 0, Nat.zero_le _, rfl, fun j hj => absurd hj (Nat.not_lt_zero _), rfl⟩
  case round =>
    obtain ⟨k, n, hk, rfl, heq0, rfl⟩ := hrel
    have HE : Hid (∀ j (hj : j < k) (hja : j < a.length) (hjb : j < b.length), a[j] = b[j]) := heq0
    clear heq0
    by_cases hlt : k < a.length
    · obtain ⟨ba, oa, rfl, hcA⟩ := hca (by omega)
      obtain ⟨bb, ob, rfl, hcB⟩ := hcb (by omega)
      have hkb : k < b.length := by omega
      obtain ⟨ga1, ga2⟩ := hcA k hlt
      obtain ⟨gb1, gb2⟩ := hcB k hkb
      have hne := fun w => neq_level a[k] b[k] w
      clear hca hcb hcA hcB
      cases hd : decide (a[k] = b[k]) with
      | true =>
        rw [hd] at hne
        have hk2 : a[k] = b[k] := of_decide_eq_true hd
        have HK : Hid (a[k] = b[k]) := hk2
        clear hk2
        clear hd
        go_wp2_with fail
        go_quiet (fail)
        go_wp2
        go_roundw
        case rel => exact ⟨k + 1, n + nq, hlt, by go_num, fun j hj hja hjb => by
          by_cases e : j = k
          · subst e; exact HK.out
          · exact HE.out j (by omega) hja hjb, rfl⟩
        case measure => simp [intOf]; omega
      | false =>
        rw [hd] at hne
        have HS : Hid (sameB a b = false) := sameB_elem k hlt hkb (of_decide_eq_false hd)
        clear hd
        go_wp2_with fail
        go_quiet (fail)
        go_wp2
        go_ret
        exact ⟨ret_bool HS.out.symm, by rw [World.drewN_drewN]; exact below_drewN _ _⟩
    · go_wp2
      go_ret
      have e : sameB a b = true := sameB_all HL.out fun j hja hjb => HE.out j (by omega) hja hjb
      exact ⟨ret_bool e.symm, below_drewN _ _⟩

set_option maxHeartbeats 1000000 in
theorem rgood_any (v : Value) (l : List (Int × Int)) (w : World) (hv : LabAt w v l) :
    Calls Try.prog 40 #[v] w fun e w' => e = .returned (.bool (goodB l)) ∧ Below w.heap.size w w' := by
  obtain ⟨p, cap, rfl, hlc, hcap, hcells⟩ := hv
  go_enter Try.func40, Try.ntmps40
  go_wp2
  go_loopw [3, 8] (fun s i wr => ∃ (k : Nat) (last : Int), k ≤ l.length ∧ i = .int .i64 k ∧ s = .int .i64 last ∧ -1 ≤ last ∧ (k = 0 → last = -1) ∧ (∀ m (hm : m < l.length), k = m + 1 → last = l[m].1) ∧
      (∀ j (hj : j < k) (hj' : j < l.length), levB l[j] = true) ∧ (∀ j (hj : j + 1 < k) (hj' : j + 1 < l.length), l[j].1 < l[j + 1].1) ∧ Below w.heap.size w wr) (fun _ i _ => l.length - (intOf i).toNat)
  case atStart => exact ⟨0, -1, Nat.zero_le _, rfl, rfl, by omega, fun _ => rfl, fun m hm h => by omega, fun j hj => absurd hj (Nat.not_lt_zero _), fun j hj => absurd hj (Nat.not_lt_zero _), Below.refl _ _⟩
  case round =>
    obtain ⟨k, last, hk, rfl, rfl, hge, hz0, hm0, hlev0, hup0, hb⟩ := hrel
    have HZ : Hid (k = 0 → last = -1) := hz0
    have HM : Hid (∀ m (hm : m < l.length), k = m + 1 → last = l[m].1) := hm0
    have HL : Hid (∀ j (hj : j < k) (hj' : j < l.length), levB l[j] = true) := hlev0
    have HU : Hid (∀ j (hj : j + 1 < k) (hj' : j + 1 < l.length), l[j].1 < l[j + 1].1) := hup0
    clear hlev0 hup0 hz0 hm0
    by_cases hlt : k < l.length
    · obtain ⟨b, o, rfl, hc⟩ := hcells (by omega)
      obtain ⟨hc1, hc2⟩ := (hc.below hb) k hlt
      have hsz := hb.size
      clear hcells hc
      have hbad : levB l[k] = false → Hid (goodB l = false) := fun h => goodB_lev k hlt h
      have hturn : l[k].1 ≤ last → Hid (goodB l = false) := fun h => by
        cases k with
        | zero =>
          refine goodB_lev 0 hlt ?_
          have e := HZ.out rfl
          cases hx : levB l[0] with
          | false => rfl
          | true => have := (levB_iff _).1 hx; omega
        | succ m => exact goodB_turn m hlt (by rw [← HM.out m (by omega) rfl]; exact h)
      by_cases h1 : l[k].1 ≤ last
      · have HG := hturn h1
        clear hturn hbad
        go_wp2
        go_ret
        exact ⟨ret_bool HG.out.symm, hb.alloc hsz _⟩
      by_cases h2 : 79 < l[k].1
      · have HG := hbad (by
          cases hx : levB l[k] with
          | false => rfl
          | true => have := (levB_iff _).1 hx; omega)
        clear hturn hbad
        go_wp2
        go_ret
        exact ⟨ret_bool HG.out.symm, hb.alloc hsz _⟩
      have hfin : l[k].2 = 0 ∨ l[k].2 = 2 ∨ l[k].2 = 3 → Hid (levB l[k] = true) := fun h => (levB_iff _).2 ⟨by omega, by omega, by omega, by omega, by omega⟩
      have hcases : ((l[k].2 != 0) = false ∧ Hid (levB l[k] = true)) ∨ ((l[k].2 != 0) = true ∧ (l[k].2 != 2) = false ∧ Hid (levB l[k] = true)) ∨ ((l[k].2 != 0) = true ∧ (l[k].2 != 2) = true ∧ (l[k].2 != 3) = false ∧ Hid (levB l[k] = true)) ∨
          ((l[k].2 != 0) = true ∧ (l[k].2 != 2) = true ∧ (l[k].2 != 3) = true ∧ Hid (goodB l = false)) := by
        by_cases e0 : l[k].2 = 0
        · exact Or.inl ⟨by simp [e0], hfin (by omega)⟩
        by_cases e2 : l[k].2 = 2
        · exact Or.inr (Or.inl ⟨by simp [e2], by simp [e2], hfin (by omega)⟩)
        by_cases e3 : l[k].2 = 3
        · exact Or.inr (Or.inr (Or.inl ⟨by simp [e3], by simp [e3], by simp [e3], hfin (by omega)⟩))
        refine Or.inr (Or.inr (Or.inr ⟨by simp [e0], by simp [e2], by simp [e3], hbad ?_⟩))
        cases hx : levB l[k] with
        | false => rfl
        | true => have := (levB_iff _).1 hx; omega
      have HN : ∀ m (hm : m < l.length), k + 1 = m + 1 → l[k].1 = l[m].1 := fun m hm h => by
        have e : k = m := by omega
        subst e
        rfl
      have HN2 : Hid (∀ m (hm : m < l.length), k + 1 = m + 1 → l[k].1 = l[m].1) := HN
      clear hturn hbad hfin HN
      rcases hcases with ⟨t0, HY⟩ | ⟨t0, t2, HY⟩ | ⟨t0, t2, t3, HY⟩ | ⟨t0, t2, t3, HG⟩
      rotate_right
      · go_wp2
        go_ret
        exact ⟨ret_bool HG.out.symm, hb.alloc hsz _⟩
      all_goals
        go_wp2
        go_roundw
        case rel => exact ⟨k + 1, l[k].1, hlt, by go_num, rfl, by omega, fun h => by omega, HN2.out, fun j hj hj' => by
          by_cases e : j = k
          · subst e; exact HY.out
          · exact HL.out j (by omega) hj', fun j hj hj' => by
          by_cases e : j + 1 = k
          · have := HM.out j (by omega) (by omega)
            subst e
            omega
          · exact HU.out j (by omega) hj', hb.alloc hsz _⟩
        case measure => simp [intOf]; omega
    · go_wp2
      go_ret
      refine ⟨ret_bool ?_, hb⟩
      by_cases h8 : l.length ≤ 8
      · rw [goodB_all h8 (fun j hj => HL.out j (by omega) hj) (fun j hj => HU.out j (by omega) hj)]; simp; omega
      · rw [goodB_long (by omega)]; simp; omega
end Go.Proofs.Ytagmnfghkfeplaa
