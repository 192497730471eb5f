/- parcloselaw.LabelSets answers true at every label, category and level, and turns nothing that was there. -/
import Derived.Test.YtcnlfglkfoaocaaRefSet
import Derived.Test.YtcnlfglkfoaocaaSet
namespace Go.Proofs.Ytcnlfglkfoaocaa
open Go.RowKit Go.Proofs.Parclose

set_option maxHeartbeats 2000000 in
theorem lawSets_any (v : Value) (l : List (Int × Int)) (c n : Int) (w : World) (hv : LabAt w v l) :
    Calls Try.prog 5 #[v, .int .i64 c, .int .i64 n] w fun e w' => e = .returned (.bool true) ∧ Below w.heap.size w w' := by
  have sl : sameB l l = true := (sameB_iff _ _).2 rfl
  have so : sameB (setL l c n) (setL l c n) = true := (sameB_iff _ _).2 rfl
  have sn : sameB [] [] = true := (sameB_iff _ _).2 rfl
  have both : ∀ (w1 : World) (x : Value), LabAt w1 x l → ∃ (out : List (Int × Int)) (k : Int), sameB out out = true ∧
      (Calls Try.prog 26 #[x, .int .i64 c, .int .i64 n] w1 fun e w' => ∃ v', e = .returned (.tuple #[v', .int .i64 k]) ∧ LabAt w' v' out ∧ Below w1.heap.size w1 w') ∧
      (∀ (w2 : World) (y : Value), LabAt w2 y l → Calls Try.prog 27 #[y, .int .i64 c, .int .i64 n] w2 fun e w' => ∃ v', e = .returned (.tuple #[v', .int .i64 k]) ∧ LabAt w' v' out ∧ Below w2.heap.size w2 w') := by
    intro w1 x hx
    cases hok : setB l c n with
    | false =>
      refine ⟨[], 2, sn, (set_bad x l c n w1 hx hok).mono ?_, fun w2 y hy => (rset_bad y l c n w2 hy hok).mono ?_⟩
      · rintro e w' ⟨rfl, hw⟩; exact ⟨_, rfl, LabAt.nil _ none 0 (fun _ => rfl), hw⟩
      · rintro e w' ⟨rfl, hw⟩; exact ⟨_, rfl, LabAt.nil _ none 0 (fun _ => rfl), hw⟩
    | true =>
      by_cases h8 : 8 < (setL l c n).length
      · refine ⟨[], 5, sn, (set_good x l c n w1 hx hok).mono ?_, fun w2 y hy => (rset_good y l c n w2 hy hok).mono ?_⟩
        · rintro e w' ⟨v', k, rfl, hk, hw⟩
          rw [if_pos h8] at hk
          obtain ⟨rfl, rfl⟩ := hk
          exact ⟨_, rfl, LabAt.nil _ none 0 (fun _ => rfl), hw⟩
        · rintro e w' ⟨v', k, rfl, hk, hw⟩
          rw [if_pos h8] at hk
          obtain ⟨rfl, rfl⟩ := hk
          exact ⟨_, rfl, LabAt.nil _ none 0 (fun _ => rfl), hw⟩
      · refine ⟨setL l c n, 0, so, (set_good x l c n w1 hx hok).mono ?_, fun w2 y hy => (rset_good y l c n w2 hy hok).mono ?_⟩
        · rintro e w' ⟨v', k, rfl, hk, hw⟩
          rw [if_neg h8] at hk
          obtain ⟨rfl, hl⟩ := hk
          exact ⟨_, rfl, hl, hw⟩
        · rintro e w' ⟨v', k, rfl, hk, hw⟩
          rw [if_neg h8] at hk
          obtain ⟨rfl, hl⟩ := hk
          exact ⟨_, rfl, hl, hw⟩
  have BOTH : Hid _ := both
  clear both so sn
  go_enter Try.func5, Try.ntmps5
  go_wp2_with fail
  refine (levels_any v l w hv).mono ?_
  rintro e w1 ⟨x, rfl, lx, b1⟩
  obtain ⟨out, k, sout, hs, hr⟩ := BOTH.out w1 x lx
  have HRS : Hid _ := hr
  clear hr BOTH
  go_wp2_with fail
  refine hs.mono ?_
  rintro e w2 ⟨v2, rfl, l2, b2'⟩
  have b2 := below_then b1 b2'
  have lx2 := lx.below b2'
  clear hs lx b1 b2'
  go_wp2_with fail
  refine (HRS.out w2 v (hv.below b2)).mono ?_
  rintro e w3 ⟨v3, rfl, l3, b3'⟩
  have b3 := below_then b2 b3'
  have l2b := l2.below b3'
  have lx3 := lx2.below b3'
  have hkk : (k == k) = true := by simp
  clear HRS l2 lx2 b2 b3'
  go_wp2_with fail
  refine (rsame_any v2 v3 out out w3 l2b l3).mono ?_
  rintro e w4 ⟨rfl, b4'⟩
  rw [sout]
  have b4 := below_then b3 b4'
  go_wp2_with fail
  refine (rsame_any x v l l w4 (lx3.below b4') (hv.below b4)).mono ?_
  rintro e w5 ⟨rfl, b5'⟩
  rw [sl]
  have b5 := below_then b4 b5'
  go_wp2_with fail
  refine (lflows_any w5).mono ?_
  rintro e w6 ⟨rfl, b6⟩
  go_wp2
  go_ret
  exact ⟨rfl, below_then b5 b6⟩
end Go.Proofs.Ytcnlfglkfoaocaa
