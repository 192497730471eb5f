/- label.split answers what stands in a good label in front of a category, and what stands behind it. -/
import Derived.Test.YtgpldlbmjakjhaaGreatQSearch
import Derived.Deep.QuietTactic
import Derived.BigQuiet
import Derived.Test.YtgpldlbmjakjhaaGreatQAt
import Derived.Test.YtgpldlbmjakjhaaGreatQCat
namespace Go.Proofs.YtgpldlbmjakjhaaGreat
open Go.RowKit Go.Proofs.Parclose

theorem Cells2.drop {w : World} {b o : Nat} {l : List (Int × Int)} (h : Cells2 w b o l) (k : Nat) : Cells2 w b (o + k * 2) (l.drop k) := by
  intro j hj
  simp only [List.length_drop] at hj
  obtain ⟨h1, h2⟩ := h (k + j) (by omega)
  rw [List.getElem_drop]
  rw [show o + k * 2 + j * 2 = o + (k + j) * 2 by omega]
  exact ⟨h1, h2⟩
theorem Cells2.take {w : World} {b o : Nat} {l : List (Int × Int)} (h : Cells2 w b o l) (k : Nat) : Cells2 w b o (l.take k) := by
  intro j hj
  simp only [List.length_take] at hj
  obtain ⟨h1, h2⟩ := h j (by omega)
  rw [List.getElem_take]
  exact ⟨h1, h2⟩

theorem lab_front {w : World} {b o cap i : Nat} {l : List (Int × Int)} (hc : Cells2 w b o l) (hi : i ≤ l.length) (hl : l.length ≤ 8) (hcap : i ≤ cap) : LabAt w (.slice (some ⟨b, o, none⟩) i cap) (l.take i) := by
  have e : (l.take i).length = i := by simp; omega
  refine ⟨some ⟨b, o, none⟩, cap, by rw [e], ⟨by omega, fun h => by cases h⟩, by omega, fun _ => ⟨b, o, rfl, hc.take i⟩⟩
theorem lab_behind {w : World} {b o cap k n : Nat} {q : Option Addr} {l : List (Int × Int)} (hc : Cells2 w b o l) (hn : n = l.length - k) (hl : l.length ≤ 8) (h1 : n ≤ cap) (h2 : k < l.length → q = some ⟨b, o + k * 2, none⟩) (h3 : q = none → cap = 0) :
    LabAt w (.slice q n cap) (l.drop k) := by
  have e : (l.drop k).length = n := by simp; omega
  refine ⟨q, cap, by rw [e], ⟨by omega, h3⟩, by omega, fun h => ⟨b, o + k * 2, h2 (by omega), hc.drop k⟩⟩

set_option maxHeartbeats 1000000 in
theorem split_any (v : Value) (l : List (Int × Int)) (c : Int) (w : World) (hv : LabAt w v l) (h8 : l.length ≤ 8) (hr : l.Pairwise fun x y => x.1 < y.1) :
    Calls Tryz.prog 139 #[v, .int .i64 c] w fun e w' => ∃ v1 v2, e = .returned (.tuple #[v1, v2]) ∧ LabAt w' v1 (frontL l c) ∧ LabAt w' v2 (behindL l c) ∧ Below w.heap.size w w' := by
  have hs := bsearch_any v l c w hv h8 hr
  obtain ⟨p, cap, rfl, hlc, hcap, hcells⟩ := hv
  go_enter Tryz.func139, Tryz.ntmps139
  go_wp2_with fail
  refine hs.mono ?_
  rintro e w1 ⟨i, f, rfl, hsp, hb⟩
  have hil := hsp.le
  cases f with
  | true =>
    have hf := hsp.front
    have hbh := hsp.behind_yes hr
    obtain ⟨hi2, _⟩ := hsp.yes rfl
    obtain ⟨b, o, rfl, hc⟩ := hcells (by omega)
    have hc1 := hc.below hb
    have g1 : l.length ≤ cap := hlc.1
    have g2 : ((i : Int)) ≤ (cap : Int) := by omega
    have g3 : ((i : Int)) + 1 ≤ (l.length : Int) := by omega
    have g4 : ((l.length : Int)) ≤ (cap : Int) := by omega
    have g5 : (0 : Int) ≤ (i : Int) := by omega
    have g6 : IntKind.i64.wrap ((i : Int) + 1) = (i : Int) + 1 := by
      simp [IntKind.wrap, IntKind.signed, IntKind.bits]
      omega
    have HF : Hid (l.take i = frontL l c) := hf
    have HB : Hid (l.drop (i + 1) = behindL l c) := hbh
    clear hf hbh hcells hc hs hlc
    go_wp2_with fail
    go_quiet (fail)
    go_wp2
    all_goals go_ret2
    all_goals
      have hd := below_drewN w1 nq
      refine ⟨_, _, rfl, by rw [← HF.out]; exact lab_front (hc1.below hd) (by omega) h8 (by omega), ?_, below_then hb hd⟩
      rw [← HB.out]
      refine lab_behind (hc1.below hd) (by omega) h8 (by omega) (fun h => ?_) (fun h => by first | (cases h; done) | omega)
      first | rfl | (exfalso; omega)
  | false =>
    have hf := hsp.front
    have hbh := hsp.behind_no hr
    have HF : Hid (l.take i = frontL l c) := hf
    have HB : Hid (l.drop i = behindL l c) := hbh
    clear hf hbh hs
    by_cases h0 : 0 < l.length
    · obtain ⟨b, o, rfl, hc⟩ := hcells h0
      have hc1 := hc.below hb
      have g1 : l.length ≤ cap := hlc.1
      have g2 : ((i : Int)) ≤ (cap : Int) := by omega
      have g3 : ((i : Int)) ≤ (l.length : Int) := by omega
      have g4 : ((l.length : Int)) ≤ (cap : Int) := by omega
      have g5 : (0 : Int) ≤ (i : Int) := by omega
      clear hcells hc hlc
      go_wp2_with fail
      go_quiet (fail)
      go_wp2
      all_goals go_ret2
      all_goals
        have hd := below_drewN w1 nq
        refine ⟨_, _, rfl, by rw [← HF.out]; exact lab_front (hc1.below hd) (by omega) h8 (by omega), ?_, below_then hb hd⟩
        rw [← HB.out]
        refine lab_behind (hc1.below hd) (by omega) h8 (by omega) (fun h => ?_) (fun h => by first | (cases h; done) | omega)
        first | rfl | (exfalso; omega)
    · have hz : l = [] := List.length_eq_zero_iff.1 (by omega)
      subst hz
      simp at hil
      subst hil
      clear HF HB hcells hsp
      have gc : (0 : Int) ≤ (cap : Int) := by omega
      cases p with
      | none =>
        have hc0 : cap = 0 := hlc.2 rfl
        subst hc0
        go_wp2_with fail
        go_quiet (fail)
        go_wp2
        all_goals go_ret2
        all_goals exact ⟨_, _, rfl, LabAt.nil _ _ _ (fun _ => rfl), LabAt.nil _ _ _ (fun _ => rfl), below_then hb (below_drewN w1 nq)⟩
      | some ad =>
        clear hlc
        go_wp2_with fail
        go_quiet (fail)
        go_wp2
        all_goals go_ret2
        all_goals exact ⟨_, _, rfl, LabAt.nil _ _ _ (fun h => by cases h), LabAt.nil _ _ _ (fun h => by first | (cases h; done) | omega), below_then hb (below_drewN w1 nq)⟩
end Go.Proofs.YtgpldlbmjakjhaaGreat

namespace Go.Proofs.YtgpldlbmjakjhaaGreat
open Go.RowKit Go.Proofs.Parclose

theorem three_labels {w : World} {va vb vc : Value} {a b c : List (Int × Int)} (ha : LabAt w va a) (hb : LabAt w vb b) (hc : LabAt w vc c) : LabsAt (w.alloc (.cells #[va, vb, vc] 27)) (.slice (some ⟨w.heap.size, 0, none⟩) 3 3) [a, b, c] := by
  have hal : Below w.heap.size w (w.alloc (.cells #[va, vb, vc] 27)) := (Below.refl _ _).alloc (Nat.le_refl _) _
  refine ⟨_, _, 3, rfl, fun j hj => ?_⟩
  match j, hj with
  | 0, _ => exact ⟨va, by simp, ha.below hal⟩
  | 1, _ => exact ⟨vb, by simp, hb.below hal⟩
  | 2, _ => exact ⟨vc, by simp, hc.below hal⟩

theorem new_level (w : World) (c n : Int) (hn : n ≠ 1) : LabAt (w.alloc (.cells #[.int .i64 c, .int .i64 n] 74)) (.slice (some ⟨w.heap.size, 0, none⟩) 1 1) (newL c n) := by
  unfold newL
  rw [if_neg hn]
  refine ⟨_, 1, rfl, ⟨by simp, fun h => by cases h⟩, by simp, fun _ => ⟨_, _, rfl, ?_⟩⟩
  intro j hj
  match j, hj with
  | 0, _ => exact ⟨by simp, by simp⟩

set_option maxHeartbeats 1000000 in
theorem set_bad (v : Value) (l : List (Int × Int)) (c n : Int) (w : World) (hv : LabAt w v l) (hbad : setB l c n = false) :
    Calls Tryz.prog 110 #[v, .int .i64 c, .int .i64 n] w fun e w' => e = .returned (.tuple #[.slice none 0 0, .int .i64 2]) ∧ Below w.heap.size w w' := by
  have hg := good_any v l w hv
  unfold setB at hbad
  cases h1 : goodB l with
  | false =>
    rw [h1] at hg
    clear hbad
    go_enter Tryz.func110, Tryz.ntmps110
    go_wp2_with (go_at_call 14; refine hg.mono ?_; rintro e w1 ⟨rfl, hw1⟩)
    go_ret2
    exact ⟨rfl, hw1⟩
  | true =>
    rw [h1] at hg
    cases h2 : catB c with
    | false =>
      clear hbad
      go_enter Tryz.func110, Tryz.ntmps110
      go_wp2_with (first | (go_at_call 14; refine hg.mono ?_; rintro e w1 ⟨rfl, hw1⟩) | (go_at_call 35; refine (category_any _ _).mono ?_; rintro e w' ⟨rfl, rfl⟩))
      go_ret2
      exact ⟨rfl, by assumption⟩
    | true =>
      have h3 : bndB n = false := by simpa [h1, h2] using hbad
      clear hbad
      go_enter Tryz.func110, Tryz.ntmps110
      go_wp2_with (first | (go_at_call 14; refine hg.mono ?_; rintro e w1 ⟨rfl, hw1⟩) | (go_at_call 35; refine (category_any _ _).mono ?_; rintro e w' ⟨rfl, rfl⟩) | (go_at_call 36; refine (inBounds_any _ _).mono ?_; rintro e w' ⟨rfl, rfl⟩))
      go_ret2
      exact ⟨rfl, by assumption⟩

set_option maxHeartbeats 2000000 in
theorem set_new (v : Value) (l : List (Int × Int)) (c n : Int) (w : World) (hv : LabAt w v l) (hok : setB l c n = true) :
    Calls Tryz.prog 110 #[v, .int .i64 c, .int .i64 n] w fun e w' => ∃ v' x, e = .returned (.tuple #[v', .int .i64 x]) ∧ (if 8 < (setL l c n).length then x = 5 ∧ v' = .slice none 0 0 else x = 0 ∧ LabNew w.heap.size w' v' (setL l c n)) ∧ Below w.heap.size w w' := by
  have hg := good_any v l w hv
  unfold setB at hok
  simp only [Bool.and_eq_true] at hok
  obtain ⟨⟨h1, h2⟩, h3⟩ := hok
  rw [h1] at hg
  obtain ⟨g8, _, gr⟩ := (goodB_iff l).1 h1
  have hfl := frontL_length l c
  have hbl := behindL_length l c
  have hnl := newL_length c n
  have HSL : Hid (setL l c n = [frontL l c, newL c n, behindL l c].flatten) := by
    show _ = _
    unfold setL
    simp
  have HC : ∀ (w3 : World) (v3 : Value), LabsAt w3 v3 [frontL l c, newL c n, behindL l c] → Calls Tryz.prog 140 #[v3] w3 fun e w' => ∃ v', e = .returned v' ∧ LabNew w3.heap.size w' v' (setL l c n) ∧ Below w3.heap.size w3 w' := fun w3 v3 h => by
    rw [HSL.out]
    refine concat_new v3 _ w3 h (by simp) (fun x hx => ?_)
    simp only [List.mem_cons, List.not_mem_nil, or_false] at hx
    rcases hx with rfl | rfl | rfl <;> omega
  have HSP : ∀ w1, Below w.heap.size w w1 → Calls Tryz.prog 139 #[v, .int .i64 c] w1 fun e w' => ∃ v1 v2, e = .returned (.tuple #[v1, v2]) ∧ LabAt w' v1 (frontL l c) ∧ LabAt w' v2 (behindL l c) ∧ Below w1.heap.size w1 w' := fun w1 h => split_any v l c w1 (hv.below h) g8 gr
  have HC2 : Hid (∀ (w3 : World) (v3 : Value), LabsAt w3 v3 [frontL l c, newL c n, behindL l c] → Calls Tryz.prog 140 #[v3] w3 fun e w' => ∃ v', e = .returned v' ∧ LabNew w3.heap.size w' v' (setL l c n) ∧ Below w3.heap.size w3 w') := HC
  have HSP2 : Hid (∀ w1, Below w.heap.size w w1 → Calls Tryz.prog 139 #[v, .int .i64 c] w1 fun e w' => ∃ v1 v2, e = .returned (.tuple #[v1, v2]) ∧ LabAt w' v1 (frontL l c) ∧ LabAt w' v2 (behindL l c) ∧ Below w1.heap.size w1 w') := HSP
  clear HC HSP HSL g8 gr
  have HN : Hid (∀ h : n = 1, newL c n = []) := fun h => by simp [newL, h]
  have HN2 : Hid (∀ (w : World), n ≠ 1 → LabAt (w.alloc (.cells #[.int .i64 c, .int .i64 n] 74)) (.slice (some ⟨w.heap.size, 0, none⟩) 1 1) (newL c n)) := fun w h => new_level w c n h
  generalize hsl : setL l c n = out at *
  generalize frontL l c = fr at *
  generalize behindL l c = bh at *
  generalize newL c n = nw at *
  clear hsl
  go_enter Tryz.func110, Tryz.ntmps110
  go_wp2_with (first | (go_at_call 14; refine hg.mono ?_; rintro e w1 ⟨rfl, hw1⟩) | (go_at_call 35; refine (category_any _ _).mono ?_; rintro e w' ⟨rfl, rfl⟩) | (go_at_call 36; refine (inBounds_any _ _).mono ?_; rintro e w' ⟨rfl, rfl⟩))
  refine (HSP2.out _ hw1).mono ?_
  rintro e w2 ⟨v1, v2, rfl, hf2, hb2, hw2⟩
  obtain ⟨p1, c1, e1, _⟩ := id hf2
  obtain ⟨p2, c2, e2, _⟩ := id hb2
  subst e1
  subst e2
  have b2 := below_then hw1 hw2
  clear hg hw2 hw1 HSP2
  by_cases hn1 : n = 1
  · have hne : (n != 1) = false := by simp [hn1]
    have hnw : LabAt w2 (.slice none 0 0) nw := by rw [HN.out hn1]; exact LabAt.nil w2 none 0 (fun _ => rfl)
    have hls := three_labels hf2 hnw hb2
    have hc3 := HC2.out _ _ hls
    have hal := (Below.refl w2.heap.size w2).alloc (Nat.le_refl _) (.cells #[.slice p1 fr.length c1, .slice none 0 0, .slice p2 bh.length c2] 27)
    clear hls hnw hf2 hb2 hn1 HC2 HN2
    go_wp2_with (go_at_call 140; refine hc3.mono ?_; rintro e w4 ⟨v4, rfl, hv4, hw4⟩; obtain ⟨p4, c4, e4, hrest⟩ := id hv4.1; subst e4)
    all_goals
      have b4 := below_then (below_then b2 hal) hw4
      go_ret2
      refine ⟨_, _, rfl, ?_, b4⟩
      first
      | exact ⟨rfl, hv4.1, fun k hk => Nat.le_trans (by have := (below_then b2 hal).size; first | exact this | simpa using this) (hv4.2 k hk)⟩
      | exact ⟨rfl, rfl⟩
      | (exfalso; omega)
  · have hne : (n != 1) = true := by simp [hn1]
    have hal0 := (Below.refl w2.heap.size w2).alloc (Nat.le_refl _) (.cells #[.int .i64 c, .int .i64 n] 74)
    have hnw := HN2.out w2 hn1
    obtain ⟨w3, hw3⟩ : ∃ w3, w3 = w2.alloc (.cells #[.int .i64 c, .int .i64 n] 74) := ⟨_, rfl⟩
    have hls := three_labels (hf2.below hal0) hnw (hb2.below hal0)
    have hc3 := HC2.out _ _ hls
    have hal := (Below.refl (w2.alloc (.cells #[.int .i64 c, .int .i64 n] 74)).heap.size (w2.alloc (.cells #[.int .i64 c, .int .i64 n] 74))).alloc (Nat.le_refl _) (.cells #[.slice p1 fr.length c1, .slice (some ⟨w2.heap.size, 0, none⟩) 1 1, .slice p2 bh.length c2] 27)
    rw [World.size_alloc] at hc3
    clear hls hnw hf2 hb2 hn1 HC2 HN2 hw3
    go_wp2_with (go_at_call 140; refine hc3.mono ?_; rintro e w4 ⟨v4, rfl, hv4, hw4⟩; obtain ⟨p4, c4, e4, hrest⟩ := id hv4.1; subst e4)
    all_goals
      have b4 := below_then (below_then (below_then b2 hal0) hal) (by first | exact hw4 | simpa using hw4)
      go_ret2
      refine ⟨_, _, rfl, ?_, b4⟩
      first
      | exact ⟨rfl, hv4.1, fun k hk => Nat.le_trans (by have := (below_then (below_then b2 hal0) hal).size; first | exact this | simpa using this) (hv4.2 k hk)⟩
      | exact ⟨rfl, rfl⟩
      | (exfalso; omega)
end Go.Proofs.YtgpldlbmjakjhaaGreat
