/- wire.GoodMail answers the errors number that the document names first, and turns nothing. -/
import Derived.Test.YtagmnfghkfeplaaWGrant
namespace Go.Proofs.Ytagmnfghkfeplaa
open Go.RowKit Go.Proofs.Parclose

set_option maxHeartbeats 1600000 in
theorem goodMail_any (v : Value) (m : Mal) (w : World) (hv : MalAt w v m) :
    Calls Try.prog 13 #[v] w fun e w' => e = .returned (.int .i64 (mailE m)) ∧ Below w.heap.size w w' := by
  obtain ⟨vl, vg, rfl, hl, hg⟩ := hv
  obtain ⟨pl, cl, rfl, _⟩ := id hl
  obtain ⟨pg, cg, rfl, _⟩ := id hg
  unfold malV
  have he : mailE m = if hostB m.host && hostB m.thread && goodB m.label && grantsB m.grants then (if m.text.length ≤ 64 then 0 else 9) else 2 := rfl
  cases h1 : hostB m.host with
  | false =>
    have HE : Hid (mailE m = 2) := hid (by rw [h1] at he; simpa using he)
    clear he
    go_enter Try.func13, Try.ntmps13
    go_wp2_with (go_at_call 37; refine (isHost_any _ _).mono ?_; rintro e w' ⟨rfl, rfl⟩)
    go_ret
    exact ⟨ret_int HE.out.symm, below_box _ _⟩
  | true =>
    cases h2 : hostB m.thread with
    | false =>
      have HE : Hid (mailE m = 2) := hid (by rw [h2] at he; simpa using he)
      clear he
      go_enter Try.func13, Try.ntmps13
      go_wp2_with (first | (go_at_call 37; refine (isHost_any _ _).mono ?_; rintro e w' ⟨rfl, rfl⟩) | (go_at_call 32; refine (isThread_any _ _).mono ?_; rintro e w' ⟨rfl, rfl⟩))
      go_ret
      exact ⟨ret_int HE.out.symm, below_box _ _⟩
    | true =>
      rw [h1, h2] at he
      cases h3 : goodB m.label with
      | false =>
        have HE : Hid (mailE m = 2) := hid (by rw [h3] at he; simpa using he)
        clear he
        go_enter Try.func13, Try.ntmps13
        go_wp2_with (first | (go_at_call 37; refine (isHost_any _ _).mono ?_; rintro e w' ⟨rfl, rfl⟩) | (go_at_call 32; refine (isThread_any _ _).mono ?_; rintro e w' ⟨rfl, rfl⟩) | (go_at_call 38; refine (good_any _ m.label _ (hl.below (below_box _ _))).mono ?_; rintro e w1 ⟨rfl, hw1⟩))
        go_ret
        exact ⟨ret_int HE.out.symm, below_then (below_box _ _) hw1⟩
      | true =>
        rw [h3] at he
        cases h4 : grantsB m.grants with
        | false =>
          have HE : Hid (mailE m = 2) := hid (by rw [h4] at he; simpa using he)
          clear he
          go_enter Try.func13, Try.ntmps13
          go_wp2_with (first | (go_at_call 37; refine (isHost_any _ _).mono ?_; rintro e w' ⟨rfl, rfl⟩) | (go_at_call 32; refine (isThread_any _ _).mono ?_; rintro e w' ⟨rfl, rfl⟩) | (go_at_call 38; refine (good_any _ m.label _ (hl.below (below_box _ _))).mono ?_; rintro e w1 ⟨rfl, hw1⟩; have hc3 := box_cell hw1 (by simp) 3; have hc4 := box_cell hw1 (by simp) 4; have hb1 := below_then (below_box _ _) hw1; clear hw1) | (go_at_call 39; refine (areGrants_any _ m.grants _ (hg.below hb1)).mono ?_; rintro e w' ⟨rfl, rfl⟩))
          go_ret
          exact ⟨ret_int HE.out.symm, hb1⟩
        | true =>
          rw [h4] at he
          by_cases h5 : m.text.length ≤ 64
          · have HE : Hid (mailE m = 0) := hid (by rw [if_pos h5] at he; simpa using he)
            clear he
            go_enter Try.func13, Try.ntmps13
            go_wp2_with (first | (go_at_call 37; refine (isHost_any _ _).mono ?_; rintro e w' ⟨rfl, rfl⟩) | (go_at_call 32; refine (isThread_any _ _).mono ?_; rintro e w' ⟨rfl, rfl⟩) | (go_at_call 38; refine (good_any _ m.label _ (hl.below (below_box _ _))).mono ?_; rintro e w1 ⟨rfl, hw1⟩; have hc3 := box_cell hw1 (by simp) 3; have hc4 := box_cell hw1 (by simp) 4; have hb1 := below_then (below_box _ _) hw1; clear hw1) | (go_at_call 39; refine (areGrants_any _ m.grants _ (hg.below hb1)).mono ?_; rintro e w' ⟨rfl, rfl⟩))
            go_ret
            exact ⟨ret_int HE.out.symm, hb1⟩
          · have HE : Hid (mailE m = 9) := hid (by rw [if_neg h5] at he; simpa using he)
            clear he
            go_enter Try.func13, Try.ntmps13
            go_wp2_with (first | (go_at_call 37; refine (isHost_any _ _).mono ?_; rintro e w' ⟨rfl, rfl⟩) | (go_at_call 32; refine (isThread_any _ _).mono ?_; rintro e w' ⟨rfl, rfl⟩) | (go_at_call 38; refine (good_any _ m.label _ (hl.below (below_box _ _))).mono ?_; rintro e w1 ⟨rfl, hw1⟩; have hc3 := box_cell hw1 (by simp) 3; have hc4 := box_cell hw1 (by simp) 4; have hb1 := below_then (below_box _ _) hw1; clear hw1) | (go_at_call 39; refine (areGrants_any _ m.grants _ (hg.below hb1)).mono ?_; rintro e w' ⟨rfl, rfl⟩))
            go_ret
            exact ⟨ret_int HE.out.symm, hb1⟩

/-- the mail of a frame -/
theorem mal_of_frm {w : World} {f : Frm} {vl vg : Value} (hl : LabAt w vl f.mail.label) (hg : IntsAt w vg f.mail.grants) : MalAt w (.agg #[.int .i64 f.mail.host, .int .i64 f.mail.thread, vl, vg, .string ⟨f.mail.text.toArray⟩]) f.mail := ⟨vl, vg, rfl, hl, hg⟩
end Go.Proofs.Ytagmnfghkfeplaa
