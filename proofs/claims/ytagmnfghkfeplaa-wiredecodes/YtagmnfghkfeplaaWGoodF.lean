/- wire.GoodMail and wire.Good answer the errors number that the document names first, and turn nothing. -/
import Derived.Test.YtagmnfghkfeplaaWGrants
import Derived.Test.YtagmnfghkfeplaaWGoodM
namespace Go.Proofs.Ytagmnfghkfeplaa
open Go.RowKit Go.Proofs.Parclose

set_option maxHeartbeats 1600000 in
theorem goodAnswer_any (v : Value) (f : Frm) (w : World) (hv : FrmAt w v f) :
    Calls Try.prog 33 #[v] w fun e w' => e = .returned (.int .i64 (answerE f)) ∧ Below w.heap.size w w' := by
  obtain ⟨vl, vg, vc, rfl, hl, hg, hc⟩ := hv
  have hm := mal_of_frm hl hg
  obtain ⟨pl, cl, rfl, _⟩ := id hl
  obtain ⟨pg, cg, rfl, _⟩ := id hg
  obtain ⟨pc, cc, rfl, _⟩ := id hc
  unfold frmV
  have ht : (f.thread != 0) = !(f.thread == 0) := rfl
  have he : answerE f = if f.thread == 0 && emptyB f.mail && f.certs.isEmpty then 0 else 1 := rfl
  cases h1 : (f.thread == 0) with
  | false =>
    have HE : Hid (answerE f = 1) := hid (by rw [h1] at he; simpa using he)
    rw [h1] at ht
    clear he
    go_enter Try.func33, Try.ntmps33
    go_wp2
    go_ret
    exact ⟨ret_int HE.out.symm, below_box _ _⟩
  | true =>
    rw [h1] at ht he
    cases h2 : emptyB f.mail with
    | false =>
      have HE : Hid (answerE f = 1) := hid (by rw [h2] at he; simpa using he)
      clear he
      go_enter Try.func33, Try.ntmps33
      go_wp2_with (go_at_call 50; refine (hasAny_any _ f.mail _ (hm.below (below_box _ _))).mono ?_; rintro e w1 ⟨rfl, hw1⟩)
      go_ret
      exact ⟨ret_int HE.out.symm, below_then (below_box _ _) hw1⟩
    | true =>
      rw [h2] at he
      cases h3 : f.certs with
      | nil =>
        have HE : Hid (answerE f = 0) := hid (by rw [h3] at he; simpa using he)
        clear he
        go_enter Try.func33, Try.ntmps33
        go_wp2_with (go_at_call 50; refine (hasAny_any _ f.mail _ (hm.below (below_box _ _))).mono ?_; rintro e w1 ⟨rfl, hw1⟩; have hc10 := box_cell hw1 (by simp) 10; have hb1 := below_then (below_box _ _) hw1; clear hw1)
        go_ret
        exact ⟨ret_int HE.out.symm, hb1⟩
      | cons x r =>
        have HE : Hid (answerE f = 1) := hid (by rw [h3] at he; simpa using he)
        clear he
        go_enter Try.func33, Try.ntmps33
        go_wp2_with (go_at_call 50; refine (hasAny_any _ f.mail _ (hm.below (below_box _ _))).mono ?_; rintro e w1 ⟨rfl, hw1⟩; have hc10 := box_cell hw1 (by simp) 10; have hb1 := below_then (below_box _ _) hw1; clear hw1)
        go_ret
        exact ⟨ret_int HE.out.symm, hb1⟩

theorem certsE_bad {l : List Crt} (h24 : l.length ≤ 24) (k : Nat) (hk : k < l.length) (h : certB l[k] = false) : certsE l = 2 := by
  unfold certsE
  rw [if_pos h24, if_neg]
  intro g
  have := List.all_eq_true.1 g l[k] (List.getElem_mem hk)
  rw [h] at this
  cases this
theorem certsE_all {l : List Crt} (h24 : l.length ≤ 24) (h : ∀ j (hj : j < l.length), certB l[j] = true) : certsE l = 0 := by
  unfold certsE
  rw [if_pos h24, if_pos]
  rw [List.all_eq_true]
  intro x hx
  obtain ⟨j, hj, rfl⟩ := List.mem_iff_getElem.1 hx
  exact h j hj

set_option maxHeartbeats 1600000 in
theorem goodLoad_any (v : Value) (f : Frm) (w : World) (hv : FrmAt w v f) :
    Calls Try.prog 34 #[v] w fun e w' => e = .returned (.int .i64 (loadE f)) ∧ Below w.heap.size w w' := by
  obtain ⟨vl, vg, vc, rfl, hl, hg, hc⟩ := hv
  have hm := mal_of_frm hl hg
  obtain ⟨pl, cl, rfl, _⟩ := id hl
  obtain ⟨pg, cg, rfl, _⟩ := id hg
  obtain ⟨pc, cc, rfl, hlc, hcap, hcells⟩ := id hc
  unfold frmV
  have he : loadE f = if mailE f.mail = 0 then (if f.mail.host = f.fr then certsE f.certs else 1) else mailE f.mail := rfl
  by_cases h1 : mailE f.mail = 0
  rotate_left
  · have HE : Hid (loadE f = mailE f.mail) := hid (by rw [if_neg h1] at he; exact he)
    have hne : (mailE f.mail != 0) = true := by simpa using h1
    clear he
    go_enter Try.func34, Try.ntmps34
    go_wp2_with (go_at_call 13; refine (goodMail_any _ f.mail _ (hm.below (below_box _ _))).mono ?_; rintro e w1 ⟨rfl, hw1⟩)
    go_ret
    exact ⟨ret_int HE.out.symm, below_then (below_box _ _) hw1⟩
  rw [if_pos h1] at he
  by_cases h2 : f.mail.host = f.fr
  rotate_left
  · have HE : Hid (loadE f = 1) := hid (by rw [if_neg h2] at he; exact he)
    have hne : (f.mail.host != f.fr) = true := by simpa using h2
    clear he
    go_enter Try.func34, Try.ntmps34
    go_wp2_with (go_at_call 13; refine (goodMail_any _ f.mail _ (hm.below (below_box _ _))).mono ?_; rintro e w1 ⟨rfl, hw1⟩; have hc5 := box_cell hw1 (by simp) 5; have hc0 := box_cell hw1 (by simp) 0; have hb1 := below_then (below_box _ _) hw1; clear hw1)
    go_ret
    exact ⟨ret_int HE.out.symm, hb1⟩
  rw [if_pos h2] at he
  have hne : (f.mail.host != f.fr) = false := by simpa using h2
  have H2 : Hid (f.mail.host = f.fr) := h2
  clear h2
  by_cases h3 : f.certs.length ≤ 24
  rotate_left
  · have HE : Hid (loadE f = 5) := hid (by unfold certsE at he; rw [if_neg h3] at he; exact he)
    clear he
    go_enter Try.func34, Try.ntmps34
    go_wp2_with (go_at_call 13; refine (goodMail_any _ f.mail _ (hm.below (below_box _ _))).mono ?_; rintro e w1 ⟨rfl, hw1⟩; have hc5 := box_cell hw1 (by simp) 5; have hc0 := box_cell hw1 (by simp) 0; have hc10 := box_cell hw1 (by simp) 10; have hb1 := below_then (below_box _ _) hw1; clear hw1)
    go_ret
    exact ⟨ret_int HE.out.symm, hb1⟩
  have HE : Hid (loadE f = certsE f.certs) := he
  clear he
  go_enter Try.func34, Try.ntmps34
  go_wp2_with (go_at_call 13; refine (goodMail_any _ f.mail _ (hm.below (below_box _ _))).mono ?_; rintro e w1 ⟨rfl, hw1⟩; have hc5 := box_cell hw1 (by simp) 5; have hc0 := box_cell hw1 (by simp) 0; have hc10 := box_cell hw1 (by simp) 10; have hb1 := below_then (below_box _ _) hw1; clear hw1)
  go_loopw [25] (fun i wr => ∃ k : Nat, k ≤ f.certs.length ∧ i = .int .i64 k ∧ (∀ j (hj : j < k) (hj' : j < f.certs.length), certB f.certs[j] = true) ∧ Below w.heap.size w wr) (fun i _ => f.certs.length - (intOf i).toNat)
  case atStart => exact ⟨0, Nat.zero_le _, rfl, fun j hj => absurd hj (Nat.not_lt_zero _), hb1⟩
  case round =>
    clear hc5 hc0 hc10 hb1
    obtain ⟨k, hk, rfl, hlev0, hb⟩ := hrel
    have HL : Hid (∀ j (hj : j < k) (hj' : j < f.certs.length), certB f.certs[j] = true) := hlev0
    clear hlev0
    have hsz := hb.size
    by_cases hlt : k < f.certs.length
    · obtain ⟨b, o, rfl, hc4⟩ := hcells (by omega)
      obtain ⟨g1, g2, g3, g4⟩ := hc4.below hb k hlt
      have hcert := fun wx => goodCert_any f.certs[k] wx
      unfold crtV at hcert
      clear hcells hc4
      cases hcb : certB f.certs[k] with
      | false =>
        have HG : Hid (certsE f.certs = 2) := certsE_bad h3 k hlt hcb
        go_wp2_with (go_at_call 16; refine (hcert _).mono ?_; rintro e w2 ⟨rfl, hw2⟩)
        go_ret
        exact ⟨ret_int (by rw [HE.out, HG.out]), below_then (hb.alloc hsz _) hw2⟩
      | true =>
        have HG : Hid (certB f.certs[k] = true) := hcb
        go_wp2_with (go_at_call 16; refine (hcert _).mono ?_; rintro e w2 ⟨rfl, hw2⟩)
        go_roundw
        case rel => exact ⟨k + 1, hlt, by go_num, fun j hj hj' => by
          by_cases e : j = k
          · subst e; exact HG.out
          · exact HL.out j (by omega) hj', below_then (hb.alloc hsz _) hw2⟩
        case measure => simp [intOf]; omega
    · have HG : Hid (certsE f.certs = 0) := certsE_all h3 (fun j hj => HL.out j (by omega) hj)
      go_wp2
      go_ret
      exact ⟨ret_int (by rw [HE.out, HG.out]), hb⟩

set_option maxHeartbeats 1600000 in
theorem wgood_any (v : Value) (f : Frm) (w : World) (hv : FrmAt w v f) :
    Calls Try.prog 11 #[v] w fun e w' => e = .returned (.int .i64 (frameE f)) ∧ Below w.heap.size w w' := by
  have hv0 := hv
  obtain ⟨vl, vg, vc, rfl, hl, hg, hc⟩ := hv
  obtain ⟨pl, cl, rfl, _⟩ := id hl
  obtain ⟨pg, cg, rfl, _⟩ := id hg
  obtain ⟨pc, cc, rfl, _⟩ := id hc
  have hans := fun wx (h : Below w.heap.size w wx) => goodAnswer_any _ f wx (hv0.below h)
  have hload := fun wx (h : Below w.heap.size w wx) => goodLoad_any _ f wx (hv0.below h)
  unfold frmV at hans hload ⊢
  have he : frameE f = if headB f then (if f.ack then answerE f else loadE f) else 2 := rfl
  have hh : headB f = (twoB f.fr f.to && !(f.seq == 0) && timeB f.seq && hostB f.thread) := rfl
  clear hv0
  cases h1 : twoB f.fr f.to with
  | false =>
    have HE : Hid (frameE f = 2) := hid (by rw [h1] at hh; simp at hh; rw [hh] at he; simpa using he)
    clear he hh
    go_enter Try.func11, Try.ntmps11
    go_wp2_with (go_at_call 30; refine (areTwo_any _ _ _).mono ?_; rintro e w' ⟨rfl, rfl⟩)
    go_ret
    exact ⟨ret_int HE.out.symm, below_box _ _⟩
  | true =>
    rw [h1] at hh
    cases h2 : (f.seq == 0) with
    | true =>
      have HE : Hid (frameE f = 2) := hid (by rw [h2] at hh; simp at hh; rw [hh] at he; simpa using he)
      clear he hh
      go_enter Try.func11, Try.ntmps11
      go_wp2_with (go_at_call 30; refine (areTwo_any _ _ _).mono ?_; rintro e w' ⟨rfl, rfl⟩)
      go_ret
      exact ⟨ret_int HE.out.symm, below_box _ _⟩
    | false =>
      rw [h2] at hh
      cases h3 : timeB f.seq with
      | false =>
        have HE : Hid (frameE f = 2) := hid (by rw [h3] at hh; simp at hh; rw [hh] at he; simpa using he)
        clear he hh
        go_enter Try.func11, Try.ntmps11
        go_wp2_with (first | (go_at_call 30; refine (areTwo_any _ _ _).mono ?_; rintro e w' ⟨rfl, rfl⟩) | (go_at_call 31; refine (isTime_any _ _).mono ?_; rintro e w' ⟨rfl, rfl⟩))
        go_ret
        exact ⟨ret_int HE.out.symm, below_box _ _⟩
      | true =>
        rw [h3] at hh
        cases h4 : hostB f.thread with
        | false =>
          have HE : Hid (frameE f = 2) := hid (by rw [h4] at hh; simp at hh; rw [hh] at he; simpa using he)
          clear he hh
          go_enter Try.func11, Try.ntmps11
          go_wp2_with (first | (go_at_call 30; refine (areTwo_any _ _ _).mono ?_; rintro e w' ⟨rfl, rfl⟩) | (go_at_call 31; refine (isTime_any _ _).mono ?_; rintro e w' ⟨rfl, rfl⟩) | (go_at_call 32; refine (isThread_any _ _).mono ?_; rintro e w' ⟨rfl, rfl⟩))
          go_ret
          exact ⟨ret_int HE.out.symm, below_box _ _⟩
        | true =>
          rw [h4] at hh
          have hh' : headB f = true := by rw [hh]; rfl
          rw [hh', if_pos rfl] at he
          cases h5 : f.ack with
          | true =>
            have HE : Hid (frameE f = answerE f) := hid (by rw [h5] at he; simpa using he)
            rw [h5] at hans
            clear he hh hload hh'
            go_enter Try.func11, Try.ntmps11
            go_wp2_with (first | (go_at_call 30; refine (areTwo_any _ _ _).mono ?_; rintro e w' ⟨rfl, rfl⟩) | (go_at_call 31; refine (isTime_any _ _).mono ?_; rintro e w' ⟨rfl, rfl⟩) | (go_at_call 32; refine (isThread_any _ _).mono ?_; rintro e w' ⟨rfl, rfl⟩) | (go_at_call 33; refine (hans _ (below_box _ _)).mono ?_; rintro e w1 ⟨rfl, hw1⟩))
            go_ret
            exact ⟨ret_int HE.out.symm, below_then (below_box _ _) hw1⟩
          | false =>
            have HE : Hid (frameE f = loadE f) := hid (by rw [h5] at he; simpa using he)
            rw [h5] at hload
            clear he hh hans hh'
            go_enter Try.func11, Try.ntmps11
            go_wp2_with (first | (go_at_call 30; refine (areTwo_any _ _ _).mono ?_; rintro e w' ⟨rfl, rfl⟩) | (go_at_call 31; refine (isTime_any _ _).mono ?_; rintro e w' ⟨rfl, rfl⟩) | (go_at_call 32; refine (isThread_any _ _).mono ?_; rintro e w' ⟨rfl, rfl⟩) | (go_at_call 34; refine (hload _ (below_box _ _)).mono ?_; rintro e w1 ⟨rfl, hw1⟩))
            go_ret
            exact ⟨ret_int HE.out.symm, below_then (below_box _ _) hw1⟩
end Go.Proofs.Ytagmnfghkfeplaa
