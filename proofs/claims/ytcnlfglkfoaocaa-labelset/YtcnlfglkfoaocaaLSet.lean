/- parclosekeep.LabelSet answers true at every label, category, level and other number, and turns nothing that was there. -/
import Derived.Test.YtcnlfglkfoaocaaSet
import Derived.Test.YtcnlfglkfoaocaaOrder
namespace Go.Proofs.Ytcnlfglkfoaocaa
open Go.RowKit Go.Proofs.Parclose

theorem set_ok (v : Value) (l : List (Int × Int)) (c n : Int) (w : World) (hv : LabAt w v l) (hok : setB l c n = true) (h8 : (setL l c n).length ≤ 8) :
    Calls Try.prog 26 #[v, .int .i64 c, .int .i64 n] w fun e w' => ∃ v', e = .returned (.tuple #[v', .int .i64 0]) ∧ LabAt w' v' (setL l c n) ∧ Below w.heap.size w w' :=
  (set_good v l c n w hv hok).mono fun e w' ⟨v', x, he, hx, hw⟩ => by
    rw [if_neg (by omega)] at hx
    obtain ⟨rfl, hl⟩ := hx
    exact ⟨v', he, hl, hw⟩
theorem set_full (v : Value) (l : List (Int × Int)) (c n : Int) (w : World) (hv : LabAt w v l) (hok : setB l c n = true) (h8 : 8 < (setL l c n).length) :
    Calls Try.prog 26 #[v, .int .i64 c, .int .i64 n] w fun e w' => e = .returned (.tuple #[.slice none 0 0, .int .i64 5]) ∧ Below w.heap.size w w' :=
  (set_good v l c n w hv hok).mono fun e w' ⟨v', x, he, hx, hw⟩ => by
    rw [if_pos h8] at hx
    obtain ⟨rfl, rfl⟩ := hx
    exact ⟨he, hw⟩

theorem one_at (w : World) (c : Int) : IntsAt (w.alloc (.cells #[.int .i64 c] 3)) (.slice (some ⟨w.heap.size, 0, none⟩) 1 1) [c] := by
  refine ⟨_, 1, rfl, ⟨by simp, fun h => by cases h⟩, by simp, fun _ => ⟨_, _, rfl, ?_⟩⟩
  intro j hj
  match j, hj with
  | 0, _ => simp

theorem at_from {w0 w : World} {va : Value} {a : List (Int × Int)} {c : Int} (ha : LabAt w0 va a) (h : Below w0.heap.size w0 w) :
    Calls Try.prog 15 #[va, .int .i64 c] w fun e w' => e = .returned (.int .i64 (atL a c)) ∧ Below w0.heap.size w0 w' :=
  (at_any va a c w (ha.below h)).mono fun _ _ ⟨he, hw⟩ => ⟨he, below_then h hw⟩

set_option maxHeartbeats 4000000 in
theorem lawSet_any (v : Value) (l : List (Int × Int)) (c n d : Int) (w : World) (hv : LabAt w v l) :
    Calls Try.prog 8 #[v, .int .i64 c, .int .i64 n, .int .i64 d] w fun e w' => e = .returned (.bool true) ∧ Below w.heap.size w w' := by
  cases hok : setB l c n with
  | false =>
    have hs := set_bad v l c n w hv hok
    clear hok
    go_enter Try.func8, Try.ntmps8
    go_wp2_with (first | (go_at_call 26; refine hs.mono ?_; rintro e w1 ⟨rfl, hw1⟩) | (go_at_call 28; refine (kflows_from (w0 := w) (by assumption)).mono ?_; rintro e w' ⟨rfl, hw⟩))
    go_ret
    exact ⟨rfl, by assumption⟩
  | true =>
    by_cases h8 : 8 < (setL l c n).length
    · have hs := set_full v l c n w hv hok h8
      clear hok h8
      go_enter Try.func8, Try.ntmps8
      go_wp2_with (first | (go_at_call 26; refine hs.mono ?_; rintro e w1 ⟨rfl, hw1⟩) | (go_at_call 28; refine (kflows_from (w0 := w) (by assumption)).mono ?_; rintro e w' ⟨rfl, hw⟩))
      go_ret
      exact ⟨rfl, by assumption⟩
    · have hs := set_ok v l c n w hv hok (by omega)
      unfold setB at hok
      simp only [Bool.and_eq_true] at hok
      obtain ⟨⟨h1, h2⟩, h3⟩ := hok
      have hgl := (goodB_iff l).1 h1
      have hga : goodB (setL l c n) = true := (goodB_iff _).2 (good_setL hgl h2 h3 (by omega))
      have hback := set_back hgl c n
      have hok2 : setB (setL l c n) c (atL l c) = true := by
        unfold setB
        rw [hga, h2, at_bound hgl c]
        rfl
      have hat1 : atL (setL l c n) c = n := by rw [atL_setL, if_pos rfl]
      have hat2 : d ≠ c → atL (setL l c n) d = atL l d := fun h => by rw [atL_setL, if_neg h]
      have hf1 := set_flows l c n
      have hf2 := set_flows_own l c n
      have HB : ∀ (w2 : World) (v2 : Value), LabAt w2 v2 (setL l c n) → Calls Try.prog 26 #[v2, .int .i64 c, .int .i64 (atL l c)] w2 fun e w' => ∃ v', e = .returned (.tuple #[v', .int .i64 0]) ∧ LabAt w' v' l ∧ Below w2.heap.size w2 w' := fun w2 v2 h => by
        have := set_ok v2 (setL l c n) c (atL l c) w2 h hok2 (by rw [hback]; exact hgl.1)
        rw [hback] at this
        exact this
      have HB2 : Hid (∀ (w2 : World) (v2 : Value), LabAt w2 v2 (setL l c n) → Calls Try.prog 26 #[v2, .int .i64 c, .int .i64 (atL l c)] w2 fun e w' => ∃ v', e = .returned (.tuple #[v', .int .i64 0]) ∧ LabAt w' v' l ∧ Below w2.heap.size w2 w') := HB
      have hsame : sameB l l = true := (sameB_iff l l).2 rfl
      have HA2 : Hid (d ≠ c → atL (setL l c n) d = atL l d) := hat2
      have HAT : Hid (atL (setL l c n) c = n) := hat1
      have HF1 : Hid (flowsL l (setL l c n) [] = decide (atL l c ≤ n)) := hf1
      have HF2 : Hid (flowsL l (setL l c n) [c] = true) := hf2
      clear hback hok2 hgl h1 h2 h3 h8 HB hat2 hat1 hf1 hf2
      generalize setL l c n = a at *
      have hn2 := fun w => IntsAt.nil w none 0 (fun _ => rfl)
      go_enter Try.func8, Try.ntmps8
      go_wp2_with fail
      refine hs.mono ?_
      rintro e w1 ⟨va, rfl, ha1, b1⟩
      have hv1 := hv.below b1
      have r1 := Below.refl w1.heap.size w1
      clear hs
      go_wp2_with fail
      refine (kflows_from r1).mono ?_
      rintro e w2 ⟨rfl, b2⟩
      go_wp2_with fail
      refine (at_from hv1 b2).mono ?_
      rintro e w3 ⟨rfl, b3⟩
      go_wp2_with fail
      refine (HB2.out w3 va (ha1.below b3)).mono ?_
      rintro e w4 ⟨vb, rfl, hb4, b4'⟩
      have b4 := below_then b3 b4'
      have ha4 := ha1.below b4
      have hv4 := hv1.below b4
      have r4 := Below.refl w4.heap.size w4
      have bw := below_then b1 b4
      clear b2 b3 b4' HB2 b4 ha1 hv1 r1 b1
      go_wp2_with fail
      refine (good_from ha4 r4).mono ?_
      rintro e w5 ⟨rfl, b5⟩
      rw [hga]
      go_wp2_with fail
      refine (at_from ha4 b5).mono ?_
      rintro e w6 ⟨rfl, b6⟩
      rw [HAT.out]
      have hnn : (n == n) = true := by simp
      have last : ∀ w9, Below w4.heap.size w4 w9 → Calls Try.prog 9 #[v, va, .slice (some ⟨w9.heap.size, 0, none⟩) 1 1] (w9.alloc (.cells #[.int .i64 c] 3)) fun e w' => e = .returned (.bool true) ∧ Below w.heap.size w w' := fun w9 h => by
        have hal := (Below.refl w9.heap.size w9).alloc (Nat.le_refl _) (.cells #[.int .i64 c] 3)
        have := flows_any v va _ l a [c] (w9.alloc (.cells #[.int .i64 c] 3)) ((hv4.below h).below hal) ((ha4.below h).below hal) (one_at w9 c)
        rw [HF2.out] at this
        exact this.mono fun _ _ ⟨he, hw⟩ => ⟨he, below_then (below_then (below_then bw h) hal) hw⟩
      have LAST : Hid (∀ w9, Below w4.heap.size w4 w9 → Calls Try.prog 9 #[v, va, .slice (some ⟨w9.heap.size, 0, none⟩) 1 1] (w9.alloc (.cells #[.int .i64 c] 3)) fun e w' => e = .returned (.bool true) ∧ Below w.heap.size w w') := last
      clear last b5 hnn
      have tail1 : ∀ w7, Below w4.heap.size w4 w7 → Calls Try.prog 19 #[vb, v] w7 fun e w' => e = .returned (.bool true) ∧ Below w4.heap.size w4 w' := fun w7 h => by
        have := same_from hb4 hv4 h
        rw [hsame] at this
        exact this
      have TAIL1 : Hid (∀ w7, Below w4.heap.size w4 w7 → Calls Try.prog 19 #[vb, v] w7 fun e w' => e = .returned (.bool true) ∧ Below w4.heap.size w4 w') := tail1
      have tail2 : ∀ w7, Below w4.heap.size w4 w7 → Calls Try.prog 9 #[v, va, .slice none 0 0] w7 fun e w' => e = .returned (.bool (decide (atL l c ≤ n))) ∧ Below w4.heap.size w4 w' := fun w7 h => by
        have := flows_from hv4 ha4 (hn2 w4) h
        rw [HF1.out] at this
        exact this
      have TAIL2 : Hid (∀ w7, Below w4.heap.size w4 w7 → Calls Try.prog 9 #[v, va, .slice none 0 0] w7 fun e w' => e = .returned (.bool (decide (atL l c ≤ n))) ∧ Below w4.heap.size w4 w') := tail2
      clear tail1 tail2 hn2 hb4
      by_cases hdc : d = c
      · have hd : (d == c) = true := by simp [hdc]
        clear hdc
        go_wp2_with fail
        refine (TAIL1.out _ b6).mono ?_
        rintro e w7 ⟨rfl, b7⟩
        go_wp2_with fail
        refine (TAIL2.out _ b7).mono ?_
        rintro e w8 ⟨rfl, b8⟩
        go_wp2_with fail
        refine (at_from hv4 b8).mono ?_
        rintro e w9 ⟨rfl, b9⟩
        generalize atL l c = t at *
        go_wp2_with fail
        refine (LAST.out _ b9).mono ?_
        rintro e w10 ⟨rfl, b10⟩
        go_wp2
        go_ret
        exact ⟨rfl, b10⟩
      · have hd : (d == c) = false := by simpa using hdc
        have HAD := HA2.out hdc
        have HD2 : Hid (atL a d = atL l d) := HAD
        clear hdc HAD
        go_wp2_with fail
        refine (at_from ha4 b6).mono ?_
        rintro e w6b ⟨rfl, b6b⟩
        rw [HD2.out]
        go_wp2_with fail
        refine (at_from hv4 b6b).mono ?_
        rintro e w6c ⟨rfl, b6c⟩
        go_wp2_with fail
        refine (TAIL1.out _ b6c).mono ?_
        rintro e w7 ⟨rfl, b7⟩
        go_wp2_with fail
        refine (TAIL2.out _ b7).mono ?_
        rintro e w8 ⟨rfl, b8⟩
        go_wp2_with fail
        refine (at_from hv4 b8).mono ?_
        rintro e w9 ⟨rfl, b9⟩
        generalize atL l c = t at *
        go_wp2_with fail
        refine (LAST.out _ b9).mono ?_
        rintro e w10 ⟨rfl, b10⟩
        go_wp2
        go_ret
        exact ⟨rfl, b10⟩
end Go.Proofs.Ytcnlfglkfoaocaa
