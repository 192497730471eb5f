/- label.Set answers the label with a category at a level, or the error of the document. -/
import Derived.Test.YtichphepfmafjacQSplit
import Derived.Test.YtichphepfmafjacQConcat
import Derived.Test.YtichphepfmafjacQLabelAll
namespace Go.Proofs.Ytichphepfmafjac
open Go.RowKit Go.Proofs.Parclose

theorem three_labels {w : World} {va vb vc : Value} {a b c : List (Int × Int)} (ha : LabAt w va a) (hb : LabAt w vb b) (hc : LabAt w vc c) : LabsAt (w.alloc (.cells #[va, vb, vc] 26)) (.slice (some ⟨w.heap.size, 0, none⟩) 3 3) [a, b, c] := by
  have hal : Below w.heap.size w (w.alloc (.cells #[va, vb, vc] 26)) := (Below.refl _ _).alloc (Nat.le_refl _) _
  refine ⟨_, _, 3, rfl, fun j hj => ?_⟩
  match j, hj with
  | 0, _ => exact ⟨va, by simp, ha.below hal⟩
  | 1, _ => exact ⟨vb, by simp, hb.below hal⟩
  | 2, _ => exact ⟨vc, by simp, hc.below hal⟩

theorem new_level (w : World) (c n : Int) (hn : n ≠ 1) : LabAt (w.alloc (.cells #[.int .i64 c, .int .i64 n] 84)) (.slice (some ⟨w.heap.size, 0, none⟩) 1 1) (newL c n) := by
  unfold newL
  rw [if_neg hn]
  refine ⟨_, 1, rfl, ⟨by simp, fun h => by cases h⟩, by simp, fun _ => ⟨_, _, rfl, ?_⟩⟩
  intro j hj
  match j, hj with
  | 0, _ => exact ⟨by simp, by simp⟩

set_option maxHeartbeats 1000000 in
theorem set_bad (v : Value) (l : List (Int × Int)) (c n : Int) (w : World) (hv : LabAt w v l) (hbad : setB l c n = false) :
    Calls Try.prog 90 #[v, .int .i64 c, .int .i64 n] w fun e w' => e = .returned (.tuple #[.slice none 0 0, .int .i64 2]) ∧ Below w.heap.size w w' := by
  have hg := good_any v l w hv
  unfold setB at hbad
  cases h1 : goodB l with
  | false =>
    rw [h1] at hg
    clear hbad
    go_enter Try.func90, Try.ntmps90
    go_wp2_with (go_at_call 12; refine hg.mono ?_; rintro e w1 ⟨rfl, hw1⟩)
    go_ret2
    exact ⟨rfl, hw1⟩
  | true =>
    rw [h1] at hg
    cases h2 : catB c with
    | false =>
      clear hbad
      go_enter Try.func90, Try.ntmps90
      go_wp2_with (first | (go_at_call 12; refine hg.mono ?_; rintro e w1 ⟨rfl, hw1⟩) | (go_at_call 41; refine (category_any _ _).mono ?_; rintro e w' ⟨rfl, rfl⟩))
      go_ret2
      exact ⟨rfl, by assumption⟩
    | true =>
      have h3 : bndB n = false := by simpa [h1, h2] using hbad
      clear hbad
      go_enter Try.func90, Try.ntmps90
      go_wp2_with (first | (go_at_call 12; refine hg.mono ?_; rintro e w1 ⟨rfl, hw1⟩) | (go_at_call 41; refine (category_any _ _).mono ?_; rintro e w' ⟨rfl, rfl⟩) | (go_at_call 42; refine (inBounds_any _ _).mono ?_; rintro e w' ⟨rfl, rfl⟩))
      go_ret2
      exact ⟨rfl, by assumption⟩

set_option maxHeartbeats 2000000 in
theorem set_new (v : Value) (l : List (Int × Int)) (c n : Int) (w : World) (hv : LabAt w v l) (hok : setB l c n = true) :
    Calls Try.prog 90 #[v, .int .i64 c, .int .i64 n] w fun e w' => ∃ v' x, e = .returned (.tuple #[v', .int .i64 x]) ∧ (if 8 < (setL l c n).length then x = 5 ∧ v' = .slice none 0 0 else x = 0 ∧ LabNew w.heap.size w' v' (setL l c n)) ∧ Below w.heap.size w w' := by
  have hg := good_any v l w hv
  unfold setB at hok
  simp only [Bool.and_eq_true] at hok
  obtain ⟨⟨h1, h2⟩, h3⟩ := hok
  rw [h1] at hg
  obtain ⟨g8, _, gr⟩ := (goodB_iff l).1 h1
  have hfl := frontL_length l c
  have hbl := behindL_length l c
  have hnl := newL_length c n
  have HSL : Hid (setL l c n = [frontL l c, newL c n, behindL l c].flatten) := by
    show _ = _
    unfold setL
    simp
  have HC : ∀ (w3 : World) (v3 : Value), LabsAt w3 v3 [frontL l c, newL c n, behindL l c] → Calls Try.prog 106 #[v3] w3 fun e w' => ∃ v', e = .returned v' ∧ LabNew w3.heap.size w' v' (setL l c n) ∧ Below w3.heap.size w3 w' := fun w3 v3 h => by
    rw [HSL.out]
    refine concat_new v3 _ w3 h (by simp) (fun x hx => ?_)
    simp only [List.mem_cons, List.not_mem_nil, or_false] at hx
    rcases hx with rfl | rfl | rfl <;> omega
  have HSP : ∀ w1, Below w.heap.size w w1 → Calls Try.prog 105 #[v, .int .i64 c] w1 fun e w' => ∃ v1 v2, e = .returned (.tuple #[v1, v2]) ∧ LabAt w' v1 (frontL l c) ∧ LabAt w' v2 (behindL l c) ∧ Below w1.heap.size w1 w' := fun w1 h => split_any v l c w1 (hv.below h) g8 gr
  have HC2 : Hid (∀ (w3 : World) (v3 : Value), LabsAt w3 v3 [frontL l c, newL c n, behindL l c] → Calls Try.prog 106 #[v3] w3 fun e w' => ∃ v', e = .returned v' ∧ LabNew w3.heap.size w' v' (setL l c n) ∧ Below w3.heap.size w3 w') := HC
  have HSP2 : Hid (∀ w1, Below w.heap.size w w1 → Calls Try.prog 105 #[v, .int .i64 c] w1 fun e w' => ∃ v1 v2, e = .returned (.tuple #[v1, v2]) ∧ LabAt w' v1 (frontL l c) ∧ LabAt w' v2 (behindL l c) ∧ Below w1.heap.size w1 w') := HSP
  clear HC HSP HSL g8 gr
  have HN : Hid (∀ h : n = 1, newL c n = []) := fun h => by simp [newL, h]
  have HN2 : Hid (∀ (w : World), n ≠ 1 → LabAt (w.alloc (.cells #[.int .i64 c, .int .i64 n] 84)) (.slice (some ⟨w.heap.size, 0, none⟩) 1 1) (newL c n)) := fun w h => new_level w c n h
  generalize hsl : setL l c n = out at *
  generalize frontL l c = fr at *
  generalize behindL l c = bh at *
  generalize newL c n = nw at *
  clear hsl
  go_enter Try.func90, Try.ntmps90
  go_wp2_with (first | (go_at_call 12; refine hg.mono ?_; rintro e w1 ⟨rfl, hw1⟩) | (go_at_call 41; refine (category_any _ _).mono ?_; rintro e w' ⟨rfl, rfl⟩) | (go_at_call 42; refine (inBounds_any _ _).mono ?_; rintro e w' ⟨rfl, rfl⟩))
  refine (HSP2.out _ hw1).mono ?_
  rintro e w2 ⟨v1, v2, rfl, hf2, hb2, hw2⟩
  obtain ⟨p1, c1, e1, _⟩ := id hf2
  obtain ⟨p2, c2, e2, _⟩ := id hb2
  subst e1
  subst e2
  have b2 := below_then hw1 hw2
  clear hg hw2 hw1 HSP2
  by_cases hn1 : n = 1
  · have hne : (n != 1) = false := by simp [hn1]
    have hnw : LabAt w2 (.slice none 0 0) nw := by rw [HN.out hn1]; exact LabAt.nil w2 none 0 (fun _ => rfl)
    have hls := three_labels hf2 hnw hb2
    have hc3 := HC2.out _ _ hls
    have hal := (Below.refl w2.heap.size w2).alloc (Nat.le_refl _) (.cells #[.slice p1 fr.length c1, .slice none 0 0, .slice p2 bh.length c2] 26)
    clear hls hnw hf2 hb2 hn1 HC2 HN2
    go_wp2_with (go_at_call 106; refine hc3.mono ?_; rintro e w4 ⟨v4, rfl, hv4, hw4⟩; obtain ⟨p4, c4, e4, hrest⟩ := id hv4.1; subst e4)
    all_goals
      have b4 := below_then (below_then b2 hal) hw4
      go_ret2
      refine ⟨_, _, rfl, ?_, b4⟩
      first
      | exact ⟨rfl, hv4.1, fun k hk => Nat.le_trans (by have := (below_then b2 hal).size; first | exact this | simpa using this) (hv4.2 k hk)⟩
      | exact ⟨rfl, rfl⟩
      | (exfalso; omega)
  · have hne : (n != 1) = true := by simp [hn1]
    have hal0 := (Below.refl w2.heap.size w2).alloc (Nat.le_refl _) (.cells #[.int .i64 c, .int .i64 n] 84)
    have hnw := HN2.out w2 hn1
    obtain ⟨w3, hw3⟩ : ∃ w3, w3 = w2.alloc (.cells #[.int .i64 c, .int .i64 n] 84) := ⟨_, rfl⟩
    have hls := three_labels (hf2.below hal0) hnw (hb2.below hal0)
    have hc3 := HC2.out _ _ hls
    have hal := (Below.refl (w2.alloc (.cells #[.int .i64 c, .int .i64 n] 84)).heap.size (w2.alloc (.cells #[.int .i64 c, .int .i64 n] 84))).alloc (Nat.le_refl _) (.cells #[.slice p1 fr.length c1, .slice (some ⟨w2.heap.size, 0, none⟩) 1 1, .slice p2 bh.length c2] 26)
    rw [World.size_alloc] at hc3
    clear hls hnw hf2 hb2 hn1 HC2 HN2 hw3
    go_wp2_with (go_at_call 106; refine hc3.mono ?_; rintro e w4 ⟨v4, rfl, hv4, hw4⟩; obtain ⟨p4, c4, e4, hrest⟩ := id hv4.1; subst e4)
    all_goals
      have b4 := below_then (below_then (below_then b2 hal0) hal) (by first | exact hw4 | simpa using hw4)
      go_ret2
      refine ⟨_, _, rfl, ?_, b4⟩
      first
      | exact ⟨rfl, hv4.1, fun k hk => Nat.le_trans (by have := (below_then (below_then b2 hal0) hal).size; first | exact this | simpa using this) (hv4.2 k hk)⟩
      | exact ⟨rfl, rfl⟩
      | (exfalso; omega)
theorem set_good (v : Value) (l : List (Int × Int)) (c n : Int) (w : World) (hv : LabAt w v l) (hok : setB l c n = true) :
    Calls Try.prog 90 #[v, .int .i64 c, .int .i64 n] w fun e w' => ∃ v' x, e = .returned (.tuple #[v', .int .i64 x]) ∧ (if 8 < (setL l c n).length then x = 5 ∧ v' = .slice none 0 0 else x = 0 ∧ LabAt w' v' (setL l c n)) ∧ Below w.heap.size w w' := by
  refine (set_new v l c n w hv hok).mono ?_
  rintro e w' ⟨v', x, rfl, h1, h2⟩
  refine ⟨v', x, rfl, ?_, h2⟩
  split
  · rename_i hc
    rwa [if_pos hc] at h1
  · rename_i hc
    rw [if_neg hc] at h1
    exact ⟨h1.1, h1.2.1⟩
end Go.Proofs.Ytichphepfmafjac
