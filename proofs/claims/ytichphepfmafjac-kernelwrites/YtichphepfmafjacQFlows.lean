/- label.Flows answers whether the level of each category in the one label is at most that in the other, but for those that are owned; it turns nothing that was there. -/
import Derived.Test.YtichphepfmafjacQLabelAll
import Derived.Test.YtichphepfmafjacQNamed
namespace Go.Proofs.Ytichphepfmafjac
open Go.RowKit Go.Proofs.Parclose

theorem contains_any (v : Value) (zs : List Int) (c : Int) (w : World) (hv : IntsAt w v zs) :
    Calls Try.prog 45 #[v, .int .i64 c] w fun e w' => e = .returned (.bool (hasB zs c)) ∧ w' = w := by
  obtain ⟨p, cap, rfl, hlc, hcap, hcells⟩ := hv
  by_cases h0 : 0 < zs.length
  · obtain ⟨b, o, rfl, hc⟩ := hcells h0
    refine (Try.slices_Contains_int b o zs.length cap zs c w (Nat.le_refl _) (by omega) ?_).mono ?_
    · intro j hj
      rw [hc j hj]
      simp [List.getD, hj]
    · rintro e w' ⟨rfl, rfl⟩
      exact ⟨ret_bool (by rw [List.take_length]; rfl), rfl⟩
  · have hz : zs = [] := List.length_eq_zero_iff.1 (by omega)
    subst hz
    refine (Try.slices_Contains_int_empty p cap c w).mono ?_
    rintro e w' ⟨rfl, rfl⟩
    exact ⟨rfl, rfl⟩

set_option maxHeartbeats 1000000 in
theorem flows_any (va vb vo : Value) (a b : List (Int × Int)) (own : List Int) (w : World) (ha : LabAt w va a) (hb : LabAt w vb b) (ho : IntsAt w vo own) :
    Calls Try.prog 13 #[va, vb, vo] w fun e w' => e = .returned (.bool (flowsL a b own)) ∧ Below w.heap.size w w' := by
  go_enter Try.func13, Try.ntmps13
  go_wp2_with (go_at_call 43; refine (named_any _ _ a b _ ha hb).mono ?_; rintro e w1 ⟨v, rfl, ⟨p, cap, rfl, hlc, hcap, hcells⟩, hw1⟩)
  have HF : Hid (∀ j (hj : j < (catsL a b).length), atL b (catsL a b)[j] < atL a (catsL a b)[j] → hasB own (catsL a b)[j] = false → flowsL a b own = false) := fun j hj h1 h2 => flowsL_false_of h1 h2
  have HT : Hid ((∀ j (hj : j < (catsL a b).length), atL a (catsL a b)[j] ≤ atL b (catsL a b)[j] ∨ hasB own (catsL a b)[j] = true) → flowsL a b own = true) := flowsL_true_of
  generalize hres : flowsL a b own = res at *
  have HR : Hid (flowsL a b own = res) := hres
  clear hres
  generalize catsL a b = cs at *
  go_loopw [13] (fun i wr => ∃ k : Nat, k ≤ cs.length ∧ i = .int .i64 k ∧ (∀ j (hj : j < k) (hj' : j < cs.length), atL a cs[j] ≤ atL b cs[j] ∨ hasB own cs[j] = true) ∧ Below w1.heap.size w1 wr) (fun i _ => cs.length - (intOf i).toNat)
  case atStart => exact ⟨0, Nat.zero_le _, rfl, fun j hj => absurd hj (Nat.not_lt_zero _), Below.refl _ _⟩
  case round =>
    obtain ⟨k, hk, rfl, hok, hbr⟩ := hrel
    have HO : Hid (∀ j (hj : j < k) (hj' : j < cs.length), atL a cs[j] ≤ atL b cs[j] ∨ hasB own cs[j] = true) := hok
    clear hok
    have hwr := below_then hw1 hbr
    by_cases hlt : k < cs.length
    · obtain ⟨bn, on, rfl, hc⟩ := hcells (by omega)
      have hck := (hc.below hbr) k hlt
      clear hcells hc
      have ha1 := ha.below hwr
      have hb1 := hb.below hwr
      have ho1 := ho.below hwr
      go_wp2_with fail
      refine (at_any va a _ _ ha1).mono ?_
      rintro e w2 ⟨rfl, hw2⟩
      have hb2 := hb1.below hw2
      go_wp2_with fail
      refine (at_any vb b _ _ hb2).mono ?_
      rintro e w3 ⟨rfl, hw3⟩
      have ho3 := (ho1.below hw2).below hw3
      have hr3 := below_then (below_then hbr hw2) hw3
      have HC : Hid (atL b cs[k] < atL a cs[k] → hasB own cs[k] = false → res = false) := HF.out k hlt
      clear ha1 hb1 ho1 hb2
      generalize hat : atL a cs[k] = x at *
      generalize hbt : atL b cs[k] = y at *
      generalize hct : hasB own cs[k] = z at *
      have HA : Hid (atL a cs[k] = x ∧ atL b cs[k] = y ∧ hasB own cs[k] = z) := ⟨hat, hbt, hct⟩
      clear hat hbt
      by_cases hyx : y < x
      · cases z with
        | true =>
          go_wp2_with (go_at_call 45; refine (contains_any vo own _ _ ho3).mono ?_; rintro e w4 ⟨rfl, rfl⟩; rw [hct])
          go_roundw
          case rel => exact ⟨k + 1, hlt, by go_num, fun j hj hj' => by
            by_cases e : j = k
            · subst e; exact Or.inr HA.out.2.2
            · exact HO.out j (by omega) hj', hr3⟩
          case measure => simp [intOf]; omega
        | false =>
          go_wp2_with (go_at_call 45; refine (contains_any vo own _ _ ho3).mono ?_; rintro e w4 ⟨rfl, rfl⟩; rw [hct])
          go_ret
          exact ⟨ret_bool ((HC.out hyx (by first | rfl | trivial)).symm.trans HR.out.symm), below_then hw1 hr3⟩
      · go_wp2
        go_roundw
        case rel => exact ⟨k + 1, hlt, by go_num, fun j hj hj' => by
          by_cases e : j = k
          · subst e; exact Or.inl (by rw [HA.out.1, HA.out.2.1]; omega)
          · exact HO.out j (by omega) hj', hr3⟩
        case measure => simp [intOf]; omega
    · go_wp2
      go_ret
      exact ⟨ret_bool ((HT.out fun j hj => HO.out j (by omega) hj).symm.trans HR.out.symm), hwr⟩
end Go.Proofs.Ytichphepfmafjac
