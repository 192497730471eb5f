/- parclosekeep.LabelOrder answers true at every three labels and whatever is owned, and turns nothing that was there. -/
import Derived.Test.YtcnlfglkfoaocaaFrom
namespace Go.Proofs.Ytcnlfglkfoaocaa
open Go.RowKit Go.Proofs.Parclose

theorem kflows_from {w0 w : World} (h : Below w0.heap.size w0 w) : Calls Try.prog 28 #[] w fun e w' => e = .returned (.bool true) ∧ Below w0.heap.size w0 w' :=
  (kflows_any w).mono fun _ _ ⟨he, hw⟩ => ⟨he, below_then h hw⟩

set_option maxHeartbeats 4000000 in
theorem order_any (va vb vc vo : Value) (a b c : List (Int × Int)) (own : List Int) (w : World) (ha : LabAt w va a) (hb : LabAt w vb b) (hc : LabAt w vc c) (ho : IntsAt w vo own) :
    Calls Try.prog 6 #[va, vb, vc, vo] w fun e w' => e = .returned (.bool true) ∧ Below w.heap.size w w' := by
  obtain ⟨p, cap, hvo, hlen⟩ := id ho
  subst hvo
  have hol := ho.len
  have hn2 := IntsAt.nil w none 0 (fun _ => rfl)
  have hb0 := Below.refl w.heap.size w
  have haa := flows_refl a []
  clear hlen
  have key : (flowsL a b own = false ∧ flowsL a b [] = false) ∨ (flowsL a b own = true ∧ flowsL b c own = false ∧ flowsL a b [] = false) ∨ (flowsL a b own = true ∧ flowsL b c own = false ∧ flowsL a b [] = true) ∨
      (flowsL a b own = true ∧ flowsL b c own = true ∧ flowsL a c own = true ∧ flowsL a b [] = false) ∨ (flowsL a b own = true ∧ flowsL b c own = true ∧ flowsL a c own = true ∧ flowsL a b [] = true) := by
    cases h1 : flowsL a b own with
    | false =>
      refine Or.inl ⟨rfl, ?_⟩
      cases h2 : flowsL a b [] with
      | false => rfl
      | true => rw [flows_own h2] at h1; cases h1
    | true =>
      cases h2 : flowsL b c own with
      | false => cases h3 : flowsL a b [] <;> simp
      | true => have h4 := flows_trans h1 h2; rw [h4]; cases h3 : flowsL a b [] <;> simp
  rcases key with ⟨k1, k2⟩ | ⟨k1, k2, k3⟩ | ⟨k1, k2, k3⟩ | ⟨k1, k2, k3, k4⟩ | ⟨k1, k2, k3, k4⟩
  all_goals
    cases hga : goodB a with
    | false =>
      go_enter Try.func6, Try.ntmps6
      go_wp2_with (first | (go_at_call 9; refine (flows_from (w0 := w) (by assumption) (by assumption) (by assumption) (by assumption)).mono ?_; rintro e w' ⟨rfl, hw⟩) | (go_at_call 28; refine (kflows_from (w0 := w) (by assumption)).mono ?_; rintro e w' ⟨rfl, hw⟩) | (go_at_call 13; refine (good_from (w0 := w) (by assumption) (by assumption)).mono ?_; rintro e w' ⟨rfl, hw⟩) | (go_at_call 19; refine (same_from (w0 := w) (by assumption) (by assumption) (by assumption)).mono ?_; rintro e w' ⟨rfl, hw⟩))
      go_ret
      exact ⟨rfl, by assumption⟩
    | true =>
      cases hgb : goodB b with
      | false =>
        go_enter Try.func6, Try.ntmps6
        go_wp2_with (first | (go_at_call 9; refine (flows_from (w0 := w) (by assumption) (by assumption) (by assumption) (by assumption)).mono ?_; rintro e w' ⟨rfl, hw⟩) | (go_at_call 28; refine (kflows_from (w0 := w) (by assumption)).mono ?_; rintro e w' ⟨rfl, hw⟩) | (go_at_call 13; refine (good_from (w0 := w) (by assumption) (by assumption)).mono ?_; rintro e w' ⟨rfl, hw⟩) | (go_at_call 19; refine (same_from (w0 := w) (by assumption) (by assumption) (by assumption)).mono ?_; rintro e w' ⟨rfl, hw⟩))
        go_ret
        exact ⟨rfl, by assumption⟩
      | true =>
        by_cases hown : 0 < own.length
        · have hi : ((0 : Int) < (own.length : Int)) := by omega
          go_enter Try.func6, Try.ntmps6
          go_wp2_with (first | (go_at_call 9; refine (flows_from (w0 := w) (by assumption) (by assumption) (by assumption) (by assumption)).mono ?_; rintro e w' ⟨rfl, hw⟩) | (go_at_call 28; refine (kflows_from (w0 := w) (by assumption)).mono ?_; rintro e w' ⟨rfl, hw⟩) | (go_at_call 13; refine (good_from (w0 := w) (by assumption) (by assumption)).mono ?_; rintro e w' ⟨rfl, hw⟩) | (go_at_call 19; refine (same_from (w0 := w) (by assumption) (by assumption) (by assumption)).mono ?_; rintro e w' ⟨rfl, hw⟩))
          go_ret
          exact ⟨rfl, by assumption⟩
        · have hi : ¬ ((0 : Int) < (own.length : Int)) := by omega
          have hz : own = [] := List.length_eq_zero_iff.1 (by omega)
          cases hba : flowsL b a own with
          | false =>
            clear hz
            go_enter Try.func6, Try.ntmps6
            go_wp2_with (first | (go_at_call 9; refine (flows_from (w0 := w) (by assumption) (by assumption) (by assumption) (by assumption)).mono ?_; rintro e w' ⟨rfl, hw⟩) | (go_at_call 28; refine (kflows_from (w0 := w) (by assumption)).mono ?_; rintro e w' ⟨rfl, hw⟩) | (go_at_call 13; refine (good_from (w0 := w) (by assumption) (by assumption)).mono ?_; rintro e w' ⟨rfl, hw⟩) | (go_at_call 19; refine (same_from (w0 := w) (by assumption) (by assumption) (by assumption)).mono ?_; rintro e w' ⟨rfl, hw⟩))
            go_ret
            exact ⟨rfl, by assumption⟩
          | true =>
            have hsame : flowsL a b own = true → Hid (sameB a b = true) := fun h => by
              subst hz
              exact (sameB_iff a b).2 (good_ext ((goodB_iff a).1 hga) ((goodB_iff b).1 hgb) (fun x => flows_both h hba x))
            have hs2 : flowsL a b own = false ∨ sameB a b = true := by
              cases h : flowsL a b own with
              | false => exact Or.inl rfl
              | true => exact Or.inr (hsame h).out
            clear hsame hz
            rcases hs2 with hs2 | hs2
            all_goals
              first
              | (rw [k1] at hs2; cases hs2; done)
              | (
                go_enter Try.func6, Try.ntmps6
                go_wp2_with (first | (go_at_call 9; refine (flows_from (w0 := w) (by assumption) (by assumption) (by assumption) (by assumption)).mono ?_; rintro e w' ⟨rfl, hw⟩) | (go_at_call 28; refine (kflows_from (w0 := w) (by assumption)).mono ?_; rintro e w' ⟨rfl, hw⟩) | (go_at_call 13; refine (good_from (w0 := w) (by assumption) (by assumption)).mono ?_; rintro e w' ⟨rfl, hw⟩) | (go_at_call 19; refine (same_from (w0 := w) (by assumption) (by assumption) (by assumption)).mono ?_; rintro e w' ⟨rfl, hw⟩))
                go_ret
                exact ⟨rfl, by assumption⟩)
end Go.Proofs.Ytcnlfglkfoaocaa
