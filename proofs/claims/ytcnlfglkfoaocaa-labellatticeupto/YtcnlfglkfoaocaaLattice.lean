/- parclosekeep.LabelLattice answers true at every three labels that are not too long, and turns nothing that was there. -/
import Derived.Test.YtcnlfglkfoaocaaCombine
import Derived.Test.YtcnlfglkfoaocaaOrder
namespace Go.Proofs.Ytcnlfglkfoaocaa
open Go.RowKit Go.Proofs.Parclose

theorem flowsL_of {a b : List (Int × Int)} (h : ∀ c, atL a c ≤ atL b c) : flowsL a b [] = true := (flowsL_iff a b []).2 fun c => Or.inr (h c)
theorem flowsL_nil_iff (a b : List (Int × Int)) : flowsL a b [] = true ↔ ∀ c, atL a c ≤ atL b c := by
  rw [flowsL_iff]
  simp
theorem maxcL (a b : List (Int × Int)) (c : Int) : atL (combL max a b) c = max (atL a c) (atL b c) := atL_combL max rfl a b c
theorem mincL (a b : List (Int × Int)) (c : Int) : atL (combL min a b) c = min (atL a c) (atL b c) := atL_combL min rfl a b c

theorem lat1 (a b : List (Int × Int)) : flowsL a (combL max a b) [] = true := flowsL_of fun c => by rw [maxcL]; omega
theorem lat2 (a b : List (Int × Int)) : flowsL b (combL max a b) [] = true := flowsL_of fun c => by rw [maxcL]; omega
theorem lat3 (a b : List (Int × Int)) : flowsL (combL min a b) a [] = true := flowsL_of fun c => by rw [mincL]; omega
theorem lat4 (a b : List (Int × Int)) : flowsL (combL min a b) b [] = true := flowsL_of fun c => by rw [mincL]; omega
theorem lat5 {a b c : List (Int × Int)} (h : flowsL a c [] = true) : flowsL (combL max a b) c [] = flowsL b c [] := by
  have g := (flowsL_nil_iff _ _).1 h
  rw [Bool.eq_iff_iff, flowsL_nil_iff, flowsL_nil_iff]
  constructor
  · intro k x; have := k x; rw [maxcL] at this; omega
  · intro k x; have := k x; have := g x; rw [maxcL]; omega
theorem lat6 {a b c : List (Int × Int)} (h : flowsL c a [] = true) : flowsL c (combL min a b) [] = flowsL c b [] := by
  have g := (flowsL_nil_iff _ _).1 h
  rw [Bool.eq_iff_iff, flowsL_nil_iff, flowsL_nil_iff]
  constructor
  · intro k x; have := k x; rw [mincL] at this; omega
  · intro k x; have := k x; have := g x; rw [mincL]; omega
theorem lat7 (a b : List (Int × Int)) : sameB (combL max a b) (combL max b a) = true := (sameB_iff _ _).2 (canon_ext (canon_combL _ _ _) (canon_combL _ _ _) fun c => by rw [maxcL, maxcL]; omega)
theorem lat8 (a b : List (Int × Int)) : sameB (combL min a b) (combL min b a) = true := (sameB_iff _ _).2 (canon_ext (canon_combL _ _ _) (canon_combL _ _ _) fun c => by rw [mincL, mincL]; omega)
theorem lat9 {a : List (Int × Int)} (b : List (Int × Int)) (h : goodB a = true) : sameB (combL max a (combL min a b)) a = true := (sameB_iff _ _).2 (canon_ext (canon_combL _ _ _) (good_canon ((goodB_iff a).1 h)) fun c => by rw [maxcL, mincL]; omega)
theorem lat10 {a : List (Int × Int)} (b : List (Int × Int)) (h : goodB a = true) : sameB (combL min a (combL max a b)) a = true := (sameB_iff _ _).2 (canon_ext (canon_combL _ _ _) (good_canon ((goodB_iff a).1 h)) fun c => by rw [mincL, maxcL]; omega)
theorem lat11 {a : List (Int × Int)} (h : goodB a = true) : sameB (combL max a a) a = true := (sameB_iff _ _).2 (canon_ext (canon_combL _ _ _) (good_canon ((goodB_iff a).1 h)) fun c => by rw [maxcL]; omega)

theorem join_from {w0 w : World} {va vb : Value} {a b : List (Int × Int)} (ha : LabAt w0 va a) (hb : LabAt w0 vb b) (hab : a.length + b.length ≤ 8796093022208) (h : Below w0.heap.size w0 w) :
    Calls Try.prog 22 #[va, vb] w fun e w' => ∃ v, e = .returned v ∧ LabAt w' v (combL max a b) ∧ Below w0.heap.size w0 w' :=
  (join_any va vb a b w (ha.below h) (hb.below h) hab).mono fun _ _ ⟨v, he, hv, hw⟩ => ⟨v, he, hv, below_then h hw⟩
theorem meet_from {w0 w : World} {va vb : Value} {a b : List (Int × Int)} (ha : LabAt w0 va a) (hb : LabAt w0 vb b) (hab : a.length + b.length ≤ 8796093022208) (h : Below w0.heap.size w0 w) :
    Calls Try.prog 24 #[va, vb] w fun e w' => ∃ v, e = .returned v ∧ LabAt w' v (combL min a b) ∧ Below w0.heap.size w0 w' :=
  (meet_any va vb a b w (ha.below h) (hb.below h) hab).mono fun _ _ ⟨v, he, hv, hw⟩ => ⟨v, he, hv, below_then h hw⟩
theorem same_left {w0 w : World} {va v : Value} {a b : List (Int × Int)} (ha : LabAt w0 va a) (hv : LabAt w v b) (h : Below w0.heap.size w0 w) :
    Calls Try.prog 19 #[va, v] w fun e w' => e = .returned (.bool (sameB a b)) ∧ Below w0.heap.size w0 w' :=
  (same_any va v a b w (ha.below h) hv).mono fun _ _ ⟨he, hw⟩ => ⟨he, below_then h hw⟩
theorem same_right {w0 w : World} {va v : Value} {a b : List (Int × Int)} (ha : LabAt w0 va a) (hv : LabAt w v b) (h : Below w0.heap.size w0 w) :
    Calls Try.prog 19 #[v, va] w fun e w' => e = .returned (.bool (sameB b a)) ∧ Below w0.heap.size w0 w' :=
  (same_any v va b a w hv (ha.below h)).mono fun _ _ ⟨he, hw⟩ => ⟨he, below_then h hw⟩

/-- behind Join and Meet: what is left of the statement -/
structure LatFacts (a b c : List (Int × Int)) : Prop where
  k : (flowsL a c [] = false ∧ flowsL c a [] = false) ∨ (flowsL a c [] = false ∧ flowsL c a [] = true ∧ ∃ y, flowsL c b [] = y ∧ flowsL c (combL min a b) [] = y) ∨
      (flowsL a c [] = true ∧ flowsL c a [] = false ∧ ∃ x, flowsL b c [] = x ∧ flowsL (combL max a b) c [] = x) ∨
      (flowsL a c [] = true ∧ flowsL c a [] = true ∧ (∃ x, flowsL b c [] = x ∧ flowsL (combL max a b) c [] = x) ∧ ∃ y, flowsL c b [] = y ∧ flowsL c (combL min a b) [] = y)

theorem latFacts (a b c : List (Int × Int)) : LatFacts a b c := by
  refine ⟨?_⟩
  cases h1 : flowsL a c [] with
  | false =>
    cases h2 : flowsL c a [] with
    | false => exact Or.inl ⟨rfl, rfl⟩
    | true => exact Or.inr (Or.inl ⟨rfl, rfl, _, rfl, lat6 h2⟩)
  | true =>
    cases h2 : flowsL c a [] with
    | false => exact Or.inr (Or.inr (Or.inl ⟨rfl, rfl, _, rfl, lat5 h1⟩))
    | true => exact Or.inr (Or.inr (Or.inr ⟨rfl, rfl, ⟨_, rfl, lat5 h1⟩, _, rfl, lat6 h2⟩))

set_option maxHeartbeats 8000000 in
theorem lattice_any (va vb vc : Value) (a b c : List (Int × Int)) (w : World) (ha : LabAt w va a) (hb : LabAt w vb b) (hc : LabAt w vc c) (hla : a.length ≤ 1048576) (hlb : b.length ≤ 1048576) :
    Calls Try.prog 7 #[va, vb, vc] w fun e w' => e = .returned (.bool true) ∧ Below w.heap.size w w' := by
  go_enter Try.func7, Try.ntmps7
  go_wp2_with fail
  refine (join_any va vb a b w ha hb (by omega)).mono ?_
  rintro e w1 ⟨vj, rfl, hj1, b1⟩
  go_wp2_with fail
  refine (meet_any va vb a b w1 (ha.below b1) (hb.below b1) (by omega)).mono ?_
  rintro e w2 ⟨vm, rfl, hm, b2'⟩
  have b2 := below_then b1 b2'
  have hj := hj1.below b2'
  have ha2 := ha.below b2
  have hb2 := hb.below b2
  have hc2 := hc.below b2
  have hn2 := IntsAt.nil w2 none 0 (fun _ => rfl)
  have hlj := combL_length max a b
  have hlm := combL_length min a b
  have l1 := lat1 a b
  have l2 := lat2 a b
  have l3 := lat3 a b
  have l4 := lat4 a b
  have l7 := lat7 a b
  have l8 := lat8 a b
  have l9 := fun h => lat9 (a := a) b h
  have l10 := fun h => lat10 (a := a) b h
  have l11 := fun h => lat11 (a := a) h
  have F := (latFacts a b c).k
  generalize combL max a b = j at *
  generalize combL min a b = m at *
  clear hj1 b1 b2' ha hb hc
  have hB0 := Below.refl w2.heap.size w2
  rcases F with ⟨k1, k2⟩ | ⟨k1, k2, y, k3, k4⟩ | ⟨k1, k2, x, k3, k4⟩ | ⟨k1, k2, ⟨x, k3, k4⟩, y, k5, k6⟩
  all_goals
    go_wp2_with (first | (go_at_call 9; refine (flows_from (w0 := w2) (by assumption) (by assumption) (by assumption) (by assumption)).mono ?_; rintro e w' ⟨rfl, hw⟩) | (go_at_call 28; refine (kflows_from (w0 := w2) (by assumption)).mono ?_; rintro e w' ⟨rfl, hw⟩))
    refine (join_from (w0 := w2) hb2 ha2 (by omega) (by assumption)).mono ?_
    rintro e w3 ⟨v3, rfl, hv3, hb3⟩
    go_wp2_with fail
    refine (same_left (w0 := w2) hj hv3 hb3).mono ?_
    rintro e w4 ⟨rfl, hb4⟩
    rw [l7]
    clear hv3 hb3
    go_wp2_with fail
    refine (meet_from (w0 := w2) hb2 ha2 (by omega) hb4).mono ?_
    rintro e w5 ⟨v5, rfl, hv5, hb5⟩
    go_wp2_with fail
    refine (same_left (w0 := w2) hm hv5 hb5).mono ?_
    rintro e w6 ⟨rfl, hb6⟩
    rw [l8]
    clear hv5 hb5 hb4
    go_wp2_with fail
    refine (good_from (w0 := w2) ha2 hb6).mono ?_
    rintro e w7 ⟨rfl, hb7⟩
    cases hga : goodB a with
    | false =>
      clear l9 l10 l11
      go_wp2
      go_ret
      exact ⟨rfl, below_then b2 hb7⟩
    | true =>
      have m9 := l9 hga
      have m10 := l10 hga
      have m11 := l11 hga
      clear l9 l10 l11 l1 l2 l3 l4 l7 l8 hb6
      go_wp2_with fail
      refine (join_from (w0 := w2) ha2 hm (by omega) hb7).mono ?_
      rintro e w8 ⟨v8, rfl, hv8, hb8⟩
      go_wp2_with fail
      refine (same_right (w0 := w2) ha2 hv8 hb8).mono ?_
      rintro e w9 ⟨rfl, hb9⟩
      rw [m9]
      clear hv8 hb8 hb7
      go_wp2_with fail
      refine (meet_from (w0 := w2) ha2 hj (by omega) hb9).mono ?_
      rintro e w10 ⟨v10, rfl, hv10, hb10⟩
      go_wp2_with fail
      refine (same_right (w0 := w2) ha2 hv10 hb10).mono ?_
      rintro e w11 ⟨rfl, hb11⟩
      rw [m10]
      clear hv10 hb10 hb9
      go_wp2_with fail
      refine (join_from (w0 := w2) ha2 ha2 (by omega) hb11).mono ?_
      rintro e w12 ⟨v12, rfl, hv12, hb12⟩
      go_wp2_with fail
      refine (same_right (w0 := w2) ha2 hv12 hb12).mono ?_
      rintro e w13 ⟨rfl, hb13⟩
      rw [m11]
      go_wp2
      go_ret
      exact ⟨rfl, below_then b2 hb13⟩
end Go.Proofs.Ytcnlfglkfoaocaa
