/- The answers of label.Flows, Good and Same in every later world, and that parclosekeep.flows answers true. -/
import Derived.Test.YtcnlfglkfoaocaaFlows
import Derived.Test.YtcnlfglkfoaocaaGood
import Derived.Test.YtcnlfglkfoaocaaSame
namespace Go.Proofs.Ytcnlfglkfoaocaa
open Go.RowKit Go.Proofs.Parclose

theorem flows_from {w0 w : World} {va vb vo : Value} {a b : List (Int × Int)} {own : List Int} (ha : LabAt w0 va a) (hb : LabAt w0 vb b) (ho : IntsAt w0 vo own) (h : Below w0.heap.size w0 w) :
    Calls Try.prog 9 #[va, vb, vo] w fun e w' => e = .returned (.bool (flowsL a b own)) ∧ Below w0.heap.size w0 w' :=
  (flows_any va vb vo a b own w (ha.below h) (hb.below h) (ho.below h)).mono fun _ _ ⟨he, hw⟩ => ⟨he, below_then h hw⟩
theorem good_from {w0 w : World} {va : Value} {a : List (Int × Int)} (ha : LabAt w0 va a) (h : Below w0.heap.size w0 w) :
    Calls Try.prog 13 #[va] w fun e w' => e = .returned (.bool (goodB a)) ∧ Below w0.heap.size w0 w' :=
  (good_any va a w (ha.below h)).mono fun _ _ ⟨he, hw⟩ => ⟨he, below_then h hw⟩
theorem same_from {w0 w : World} {va vb : Value} {a b : List (Int × Int)} (ha : LabAt w0 va a) (hb : LabAt w0 vb b) (h : Below w0.heap.size w0 w) :
    Calls Try.prog 19 #[va, vb] w fun e w' => e = .returned (.bool (sameB a b)) ∧ Below w0.heap.size w0 w' :=
  (same_any va vb a b w (ha.below h) (hb.below h)).mono fun _ _ ⟨he, hw⟩ => ⟨he, below_then h hw⟩

theorem one_level (w : World) : LabAt (w.alloc (.cells #[.int .i64 3, .int .i64 2] 47)) (.slice (some ⟨w.heap.size, 0, none⟩) 1 1) [(3, 2)] := by
  refine ⟨_, 1, rfl, ⟨by simp, fun h => by cases h⟩, by simp, fun _ => ⟨_, _, rfl, ?_⟩⟩
  intro j hj
  match j, hj with
  | 0, _ => exact ⟨by simp, by simp⟩

theorem one_number (w : World) : IntsAt (w.alloc (.cells #[.int .i64 3] 3)) (.slice (some ⟨w.heap.size, 0, none⟩) 1 1) [3] := by
  refine ⟨_, 1, rfl, ⟨by simp, fun h => by cases h⟩, by simp, fun _ => ⟨_, _, rfl, ?_⟩⟩
  intro j hj
  match j, hj with
  | 0, _ => simp

theorem f1 : flowsL [] [(3, 2)] [] = true := (flowsL_iff _ _ _).2 fun c => Or.inr (by simp only [atL]; split <;> omega)
theorem f2 : flowsL [(3, 2)] [] [] = false := by
  cases h : flowsL [(3, 2)] [] [] with
  | false => rfl
  | true => have := (flowsL_iff _ _ _).1 h 3; simp [atL] at this
theorem f3 : flowsL [(3, 2)] [] [3] = true := (flowsL_iff _ _ _).2 fun c => by
  by_cases h : c = 3
  · exact Or.inl (by simp [h])
  · exact Or.inr (by simp only [atL]; rw [if_neg (by omega)]; omega)

set_option maxHeartbeats 400000 in
theorem kflows_any (w : World) : Calls Try.prog 28 #[] w fun e w' => e = .returned (.bool true) ∧ Below w.heap.size w w' := by
  have h1 := f1
  have h2 := f2
  have h3 := f3
  have hl := one_level w
  have hn1 := LabAt.nil (w.alloc (.cells #[.int .i64 3, .int .i64 2] 47)) none 0 (fun _ => rfl)
  have hn2 := IntsAt.nil (w.alloc (.cells #[.int .i64 3, .int .i64 2] 47)) none 0 (fun _ => rfl)
  have hb0 : Below w.heap.size w (w.alloc (.cells #[.int .i64 3, .int .i64 2] 47)) := (Below.refl _ _).alloc (Nat.le_refl _) _
  go_enter Try.func28, Try.ntmps28
  go_wp2_with fail
  refine (flows_from hn1 hl hn2 (Below.refl _ _)).mono ?_
  rintro e w1 ⟨rfl, hw1⟩
  rw [h1]
  go_wp2_with fail
  refine (flows_from hl hn1 hn2 hw1).mono ?_
  rintro e w2 ⟨rfl, hw2⟩
  rw [h2]
  go_wp2_with fail
  have hal : Below w2.heap.size w2 (w2.alloc (.cells #[.int .i64 3] 3)) := (Below.refl _ _).alloc (Nat.le_refl _) _
  refine (flows_from ((hl.below hw2).below hal) ((hn1.below hw2).below hal) (one_number w2) (Below.refl _ _)).mono ?_
  rintro e w3 ⟨rfl, hw3⟩
  rw [h3]
  go_wp2
  go_ret
  exact ⟨rfl, below_then (below_then (below_then hb0 hw2) hal) hw3⟩
end Go.Proofs.Ytcnlfglkfoaocaa
