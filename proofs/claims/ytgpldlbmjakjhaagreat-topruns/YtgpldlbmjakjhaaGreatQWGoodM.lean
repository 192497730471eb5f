/- wire.GoodMail answers the errors number that the document names first, and turns nothing. -/
import Derived.Test.YtgpldlbmjakjhaaGreatQPlainBack
import Derived.Laws.AppendOwn
import Derived.Laws.AppendOwnNone
import Derived.Maps.AppendAt
import Derived.Lib.AppendStr
import Derived.Laws.BitsLemmas
import Derived.Deep.RegionHeld3
namespace Go.Proofs.YtgpldlbmjakjhaaGreat
open Go.RowKit Go.Proofs.Parclose

set_option maxHeartbeats 1600000 in
theorem goodMail_any (v : Value) (m : Mal) (w : World) (hv : MalAt w v m) :
    Calls Tryz.prog 15 #[v] w fun e w' => e = .returned (.int .i64 (mailE m)) ∧ Below w.heap.size w w' := by
  obtain ⟨vl, vg, rfl, hl, hg⟩ := hv
  obtain ⟨pl, cl, rfl, _⟩ := id hl
  obtain ⟨pg, cg, rfl, _⟩ := id hg
  unfold malV
  have he : mailE m = if hostB m.host && hostB m.thread && goodB m.label && grantsB m.grants then (if m.text.length ≤ 64 then 0 else 9) else 2 := rfl
  cases h1 : hostB m.host with
  | false =>
    have HE : Hid (mailE m = 2) := hid (by rw [h1] at he; simpa using he)
    clear he
    go_enter Tryz.func15, Tryz.ntmps15
    go_wp2_with (go_at_call 37; refine (isHost_any _ _).mono ?_; rintro e w' ⟨rfl, rfl⟩)
    go_ret
    exact ⟨ret_int HE.out.symm, below_box _ _⟩
  | true =>
    cases h2 : hostB m.thread with
    | false =>
      have HE : Hid (mailE m = 2) := hid (by rw [h2] at he; simpa using he)
      clear he
      go_enter Tryz.func15, Tryz.ntmps15
      go_wp2_with (first | (go_at_call 37; refine (isHost_any _ _).mono ?_; rintro e w' ⟨rfl, rfl⟩) | (go_at_call 38; refine (isThread_any _ _).mono ?_; rintro e w' ⟨rfl, rfl⟩))
      go_ret
      exact ⟨ret_int HE.out.symm, below_box _ _⟩
    | true =>
      rw [h1, h2] at he
      cases h3 : goodB m.label with
      | false =>
        have HE : Hid (mailE m = 2) := hid (by rw [h3] at he; simpa using he)
        clear he
        go_enter Tryz.func15, Tryz.ntmps15
        go_wp2_with (first | (go_at_call 37; refine (isHost_any _ _).mono ?_; rintro e w' ⟨rfl, rfl⟩) | (go_at_call 38; refine (isThread_any _ _).mono ?_; rintro e w' ⟨rfl, rfl⟩) | (go_at_call 14; refine (good_any _ m.label _ (hl.below (below_box _ _))).mono ?_; rintro e w1 ⟨rfl, hw1⟩))
        go_ret
        exact ⟨ret_int HE.out.symm, below_then (below_box _ _) hw1⟩
      | true =>
        rw [h3] at he
        cases h4 : grantsB m.grants with
        | false =>
          have HE : Hid (mailE m = 2) := hid (by rw [h4] at he; simpa using he)
          clear he
          go_enter Tryz.func15, Tryz.ntmps15
          go_wp2_with (first | (go_at_call 37; refine (isHost_any _ _).mono ?_; rintro e w' ⟨rfl, rfl⟩) | (go_at_call 38; refine (isThread_any _ _).mono ?_; rintro e w' ⟨rfl, rfl⟩) | (go_at_call 14; refine (good_any _ m.label _ (hl.below (below_box _ _))).mono ?_; rintro e w1 ⟨rfl, hw1⟩; have hc3 := box_cell hw1 (by simp) 3; have hc4 := box_cell hw1 (by simp) 4; have hb1 := below_then (below_box _ _) hw1; clear hw1) | (go_at_call 39; refine (areGrants_any _ m.grants _ (hg.below hb1)).mono ?_; rintro e w' ⟨rfl, rfl⟩))
          go_ret
          exact ⟨ret_int HE.out.symm, hb1⟩
        | true =>
          rw [h4] at he
          by_cases h5 : m.text.length ≤ 64
          · have HE : Hid (mailE m = 0) := hid (by rw [if_pos h5] at he; simpa using he)
            clear he
            go_enter Tryz.func15, Tryz.ntmps15
            go_wp2_with (first | (go_at_call 37; refine (isHost_any _ _).mono ?_; rintro e w' ⟨rfl, rfl⟩) | (go_at_call 38; refine (isThread_any _ _).mono ?_; rintro e w' ⟨rfl, rfl⟩) | (go_at_call 14; refine (good_any _ m.label _ (hl.below (below_box _ _))).mono ?_; rintro e w1 ⟨rfl, hw1⟩; have hc3 := box_cell hw1 (by simp) 3; have hc4 := box_cell hw1 (by simp) 4; have hb1 := below_then (below_box _ _) hw1; clear hw1) | (go_at_call 39; refine (areGrants_any _ m.grants _ (hg.below hb1)).mono ?_; rintro e w' ⟨rfl, rfl⟩))
            go_ret
            exact ⟨ret_int HE.out.symm, hb1⟩
          · have HE : Hid (mailE m = 9) := hid (by rw [if_neg h5] at he; simpa using he)
            clear he
            go_enter Tryz.func15, Tryz.ntmps15
            go_wp2_with (first | (go_at_call 37; refine (isHost_any _ _).mono ?_; rintro e w' ⟨rfl, rfl⟩) | (go_at_call 38; refine (isThread_any _ _).mono ?_; rintro e w' ⟨rfl, rfl⟩) | (go_at_call 14; refine (good_any _ m.label _ (hl.below (below_box _ _))).mono ?_; rintro e w1 ⟨rfl, hw1⟩; have hc3 := box_cell hw1 (by simp) 3; have hc4 := box_cell hw1 (by simp) 4; have hb1 := below_then (below_box _ _) hw1; clear hw1) | (go_at_call 39; refine (areGrants_any _ m.grants _ (hg.below hb1)).mono ?_; rintro e w' ⟨rfl, rfl⟩))
            go_ret
            exact ⟨ret_int HE.out.symm, hb1⟩

/-- the mail of a frame -/
theorem mal_of_frm {w : World} {f : Frm} {vl vg : Value} (hl : LabAt w vl f.mail.label) (hg : IntsAt w vg f.mail.grants) : MalAt w (.agg #[.int .i64 f.mail.host, .int .i64 f.mail.thread, vl, vg, .string ⟨f.mail.text.toArray⟩]) f.mail := ⟨vl, vg, rfl, hl, hg⟩
end Go.Proofs.YtgpldlbmjakjhaaGreat

namespace Go.Proofs.YtgpldlbmjakjhaaGreat
open Go.RowKit Go.Proofs.Parclose

set_option maxHeartbeats 1600000 in
theorem goodAnswer_any (v : Value) (f : Frm) (w : World) (hv : FrmAt w v f) :
    Calls Tryz.prog 45 #[v] w fun e w' => e = .returned (.int .i64 (answerE f)) ∧ Below w.heap.size w w' := by
  obtain ⟨vl, vg, vc, rfl, hl, hg, hc⟩ := hv
  have hm := mal_of_frm hl hg
  obtain ⟨pl, cl, rfl, _⟩ := id hl
  obtain ⟨pg, cg, rfl, _⟩ := id hg
  obtain ⟨pc, cc, rfl, _⟩ := id hc
  unfold frmV
  have ht : (f.thread != 0) = !(f.thread == 0) := rfl
  have he : answerE f = if f.thread == 0 && emptyB f.mail && f.certs.isEmpty then 0 else 1 := rfl
  cases h1 : (f.thread == 0) with
  | false =>
    have HE : Hid (answerE f = 1) := hid (by rw [h1] at he; simpa using he)
    rw [h1] at ht
    clear he
    go_enter Tryz.func45, Tryz.ntmps45
    go_wp2
    go_ret
    exact ⟨ret_int HE.out.symm, below_box _ _⟩
  | true =>
    rw [h1] at ht he
    cases h2 : emptyB f.mail with
    | false =>
      have HE : Hid (answerE f = 1) := hid (by rw [h2] at he; simpa using he)
      clear he
      go_enter Tryz.func45, Tryz.ntmps45
      go_wp2_with (go_at_call 64; refine (hasAny_any _ f.mail _ (hm.below (below_box _ _))).mono ?_; rintro e w1 ⟨rfl, hw1⟩)
      go_ret
      exact ⟨ret_int HE.out.symm, below_then (below_box _ _) hw1⟩
    | true =>
      rw [h2] at he
      cases h3 : f.certs with
      | nil =>
        have HE : Hid (answerE f = 0) := hid (by rw [h3] at he; simpa using he)
        clear he
        go_enter Tryz.func45, Tryz.ntmps45
        go_wp2_with (go_at_call 64; refine (hasAny_any _ f.mail _ (hm.below (below_box _ _))).mono ?_; rintro e w1 ⟨rfl, hw1⟩; have hc10 := box_cell hw1 (by simp) 10; have hb1 := below_then (below_box _ _) hw1; clear hw1)
        go_ret
        exact ⟨ret_int HE.out.symm, hb1⟩
      | cons x r =>
        have HE : Hid (answerE f = 1) := hid (by rw [h3] at he; simpa using he)
        clear he
        go_enter Tryz.func45, Tryz.ntmps45
        go_wp2_with (go_at_call 64; refine (hasAny_any _ f.mail _ (hm.below (below_box _ _))).mono ?_; rintro e w1 ⟨rfl, hw1⟩; have hc10 := box_cell hw1 (by simp) 10; have hb1 := below_then (below_box _ _) hw1; clear hw1)
        go_ret
        exact ⟨ret_int HE.out.symm, hb1⟩

theorem certsE_bad {l : List Crt} (h24 : l.length ≤ 24) (k : Nat) (hk : k < l.length) (h : certB l[k] = false) : certsE l = 2 := by
  unfold certsE
  rw [if_pos h24, if_neg]
  intro g
  have := List.all_eq_true.1 g l[k] (List.getElem_mem hk)
  rw [h] at this
  cases this
theorem certsE_all {l : List Crt} (h24 : l.length ≤ 24) (h : ∀ j (hj : j < l.length), certB l[j] = true) : certsE l = 0 := by
  unfold certsE
  rw [if_pos h24, if_pos]
  rw [List.all_eq_true]
  intro x hx
  obtain ⟨j, hj, rfl⟩ := List.mem_iff_getElem.1 hx
  exact h j hj

set_option maxHeartbeats 1600000 in
theorem goodLoad_any (v : Value) (f : Frm) (w : World) (hv : FrmAt w v f) :
    Calls Tryz.prog 46 #[v] w fun e w' => e = .returned (.int .i64 (loadE f)) ∧ Below w.heap.size w w' := by
  obtain ⟨vl, vg, vc, rfl, hl, hg, hc⟩ := hv
  have hm := mal_of_frm hl hg
  obtain ⟨pl, cl, rfl, _⟩ := id hl
  obtain ⟨pg, cg, rfl, _⟩ := id hg
  obtain ⟨pc, cc, rfl, hlc, hcap, hcells⟩ := id hc
  unfold frmV
  have he : loadE f = if mailE f.mail = 0 then (if f.mail.host = f.fr then certsE f.certs else 1) else mailE f.mail := rfl
  by_cases h1 : mailE f.mail = 0
  rotate_left
  · have HE : Hid (loadE f = mailE f.mail) := hid (by rw [if_neg h1] at he; exact he)
    have hne : (mailE f.mail != 0) = true := by simpa using h1
    clear he
    go_enter Tryz.func46, Tryz.ntmps46
    go_wp2_with (go_at_call 15; refine (goodMail_any _ f.mail _ (hm.below (below_box _ _))).mono ?_; rintro e w1 ⟨rfl, hw1⟩)
    go_ret
    exact ⟨ret_int HE.out.symm, below_then (below_box _ _) hw1⟩
  rw [if_pos h1] at he
  by_cases h2 : f.mail.host = f.fr
  rotate_left
  · have HE : Hid (loadE f = 1) := hid (by rw [if_neg h2] at he; exact he)
    have hne : (f.mail.host != f.fr) = true := by simpa using h2
    clear he
    go_enter Tryz.func46, Tryz.ntmps46
    go_wp2_with (go_at_call 15; refine (goodMail_any _ f.mail _ (hm.below (below_box _ _))).mono ?_; rintro e w1 ⟨rfl, hw1⟩; have hc5 := box_cell hw1 (by simp) 5; have hc0 := box_cell hw1 (by simp) 0; have hb1 := below_then (below_box _ _) hw1; clear hw1)
    go_ret
    exact ⟨ret_int HE.out.symm, hb1⟩
  rw [if_pos h2] at he
  have hne : (f.mail.host != f.fr) = false := by simpa using h2
  have H2 : Hid (f.mail.host = f.fr) := h2
  clear h2
  by_cases h3 : f.certs.length ≤ 24
  rotate_left
  · have HE : Hid (loadE f = 5) := hid (by unfold certsE at he; rw [if_neg h3] at he; exact he)
    clear he
    go_enter Tryz.func46, Tryz.ntmps46
    go_wp2_with (go_at_call 15; refine (goodMail_any _ f.mail _ (hm.below (below_box _ _))).mono ?_; rintro e w1 ⟨rfl, hw1⟩; have hc5 := box_cell hw1 (by simp) 5; have hc0 := box_cell hw1 (by simp) 0; have hc10 := box_cell hw1 (by simp) 10; have hb1 := below_then (below_box _ _) hw1; clear hw1)
    go_ret
    exact ⟨ret_int HE.out.symm, hb1⟩
  have HE : Hid (loadE f = certsE f.certs) := he
  clear he
  go_enter Tryz.func46, Tryz.ntmps46
  go_wp2_with (go_at_call 15; refine (goodMail_any _ f.mail _ (hm.below (below_box _ _))).mono ?_; rintro e w1 ⟨rfl, hw1⟩; have hc5 := box_cell hw1 (by simp) 5; have hc0 := box_cell hw1 (by simp) 0; have hc10 := box_cell hw1 (by simp) 10; have hb1 := below_then (below_box _ _) hw1; clear hw1)
  go_loopw [25] (fun i wr => ∃ k : Nat, k ≤ f.certs.length ∧ i = .int .i64 k ∧ (∀ j (hj : j < k) (hj' : j < f.certs.length), certB f.certs[j] = true) ∧ Below w.heap.size w wr) (fun i _ => f.certs.length - (intOf i).toNat)
  case atStart => exact ⟨0, Nat.zero_le _, rfl, fun j hj => absurd hj (Nat.not_lt_zero _), hb1⟩
  case round =>
    clear hc5 hc0 hc10 hb1
    obtain ⟨k, hk, rfl, hlev0, hb⟩ := hrel
    have HL : Hid (∀ j (hj : j < k) (hj' : j < f.certs.length), certB f.certs[j] = true) := hlev0
    clear hlev0
    have hsz := hb.size
    by_cases hlt : k < f.certs.length
    · obtain ⟨b, o, rfl, hc4⟩ := hcells (by omega)
      obtain ⟨g1, g2, g3, g4⟩ := hc4.below hb k hlt
      have hcert := fun wx => goodCert_any f.certs[k] wx
      unfold crtV at hcert
      clear hcells hc4
      cases hcb : certB f.certs[k] with
      | false =>
        have HG : Hid (certsE f.certs = 2) := certsE_bad h3 k hlt hcb
        go_wp2_with (go_at_call 30; refine (hcert _).mono ?_; rintro e w2 ⟨rfl, hw2⟩)
        go_ret
        exact ⟨ret_int (by rw [HE.out, HG.out]), below_then (hb.alloc hsz _) hw2⟩
      | true =>
        have HG : Hid (certB f.certs[k] = true) := hcb
        go_wp2_with (go_at_call 30; refine (hcert _).mono ?_; rintro e w2 ⟨rfl, hw2⟩)
        go_roundw
        case rel => exact ⟨k + 1, hlt, by go_num, fun j hj hj' => by
          by_cases e : j = k
          · subst e; exact HG.out
          · exact HL.out j (by omega) hj', below_then (hb.alloc hsz _) hw2⟩
        case measure => simp [intOf]; omega
    · have HG : Hid (certsE f.certs = 0) := certsE_all h3 (fun j hj => HL.out j (by omega) hj)
      go_wp2
      go_ret
      exact ⟨ret_int (by rw [HE.out, HG.out]), hb⟩

set_option maxHeartbeats 1600000 in
theorem wgood_any (v : Value) (f : Frm) (w : World) (hv : FrmAt w v f) :
    Calls Tryz.prog 18 #[v] w fun e w' => e = .returned (.int .i64 (frameE f)) ∧ Below w.heap.size w w' := by
  have hv0 := hv
  obtain ⟨vl, vg, vc, rfl, hl, hg, hc⟩ := hv
  obtain ⟨pl, cl, rfl, _⟩ := id hl
  obtain ⟨pg, cg, rfl, _⟩ := id hg
  obtain ⟨pc, cc, rfl, _⟩ := id hc
  have hans := fun wx (h : Below w.heap.size w wx) => goodAnswer_any _ f wx (hv0.below h)
  have hload := fun wx (h : Below w.heap.size w wx) => goodLoad_any _ f wx (hv0.below h)
  unfold frmV at hans hload ⊢
  have he : frameE f = if headB f then (if f.ack then answerE f else loadE f) else 2 := rfl
  have hh : headB f = (twoB f.fr f.to && !(f.seq == 0) && timeB f.seq && hostB f.thread) := rfl
  clear hv0
  cases h1 : twoB f.fr f.to with
  | false =>
    have HE : Hid (frameE f = 2) := hid (by rw [h1] at hh; simp at hh; rw [hh] at he; simpa using he)
    clear he hh
    go_enter Tryz.func18, Tryz.ntmps18
    go_wp2_with (go_at_call 43; refine (areTwo_any _ _ _).mono ?_; rintro e w' ⟨rfl, rfl⟩)
    go_ret
    exact ⟨ret_int HE.out.symm, below_box _ _⟩
  | true =>
    rw [h1] at hh
    cases h2 : (f.seq == 0) with
    | true =>
      have HE : Hid (frameE f = 2) := hid (by rw [h2] at hh; simp at hh; rw [hh] at he; simpa using he)
      clear he hh
      go_enter Tryz.func18, Tryz.ntmps18
      go_wp2_with (go_at_call 43; refine (areTwo_any _ _ _).mono ?_; rintro e w' ⟨rfl, rfl⟩)
      go_ret
      exact ⟨ret_int HE.out.symm, below_box _ _⟩
    | false =>
      rw [h2] at hh
      cases h3 : timeB f.seq with
      | false =>
        have HE : Hid (frameE f = 2) := hid (by rw [h3] at hh; simp at hh; rw [hh] at he; simpa using he)
        clear he hh
        go_enter Tryz.func18, Tryz.ntmps18
        go_wp2_with (first | (go_at_call 43; refine (areTwo_any _ _ _).mono ?_; rintro e w' ⟨rfl, rfl⟩) | (go_at_call 44; refine (isTime_any _ _).mono ?_; rintro e w' ⟨rfl, rfl⟩))
        go_ret
        exact ⟨ret_int HE.out.symm, below_box _ _⟩
      | true =>
        rw [h3] at hh
        cases h4 : hostB f.thread with
        | false =>
          have HE : Hid (frameE f = 2) := hid (by rw [h4] at hh; simp at hh; rw [hh] at he; simpa using he)
          clear he hh
          go_enter Tryz.func18, Tryz.ntmps18
          go_wp2_with (first | (go_at_call 43; refine (areTwo_any _ _ _).mono ?_; rintro e w' ⟨rfl, rfl⟩) | (go_at_call 44; refine (isTime_any _ _).mono ?_; rintro e w' ⟨rfl, rfl⟩) | (go_at_call 38; refine (isThread_any _ _).mono ?_; rintro e w' ⟨rfl, rfl⟩))
          go_ret
          exact ⟨ret_int HE.out.symm, below_box _ _⟩
        | true =>
          rw [h4] at hh
          have hh' : headB f = true := by rw [hh]; rfl
          rw [hh', if_pos rfl] at he
          cases h5 : f.ack with
          | true =>
            have HE : Hid (frameE f = answerE f) := hid (by rw [h5] at he; simpa using he)
            rw [h5] at hans
            clear he hh hload hh'
            go_enter Tryz.func18, Tryz.ntmps18
            go_wp2_with (first | (go_at_call 43; refine (areTwo_any _ _ _).mono ?_; rintro e w' ⟨rfl, rfl⟩) | (go_at_call 44; refine (isTime_any _ _).mono ?_; rintro e w' ⟨rfl, rfl⟩) | (go_at_call 38; refine (isThread_any _ _).mono ?_; rintro e w' ⟨rfl, rfl⟩) | (go_at_call 45; refine (hans _ (below_box _ _)).mono ?_; rintro e w1 ⟨rfl, hw1⟩))
            go_ret
            exact ⟨ret_int HE.out.symm, below_then (below_box _ _) hw1⟩
          | false =>
            have HE : Hid (frameE f = loadE f) := hid (by rw [h5] at he; simpa using he)
            rw [h5] at hload
            clear he hh hans hh'
            go_enter Tryz.func18, Tryz.ntmps18
            go_wp2_with (first | (go_at_call 43; refine (areTwo_any _ _ _).mono ?_; rintro e w' ⟨rfl, rfl⟩) | (go_at_call 44; refine (isTime_any _ _).mono ?_; rintro e w' ⟨rfl, rfl⟩) | (go_at_call 38; refine (isThread_any _ _).mono ?_; rintro e w' ⟨rfl, rfl⟩) | (go_at_call 46; refine (hload _ (below_box _ _)).mono ?_; rintro e w1 ⟨rfl, hw1⟩))
            go_ret
            exact ⟨ret_int HE.out.symm, below_then (below_box _ _) hw1⟩
end Go.Proofs.YtgpldlbmjakjhaaGreat

namespace Go.Proofs.YtgpldlbmjakjhaaGreat
open Go.RowKit Go.Proofs.Parclose

theorem info_split {e : TypeId} {z : Value} {s b : Nat} (h : (Tryz.prog.info? e).map (fun i => (i.zero, i.size, i.bytes)) = some (some z, s, b)) : ∃ i, Tryz.prog.info? e = some i ∧ i.zero = some z ∧ i.size = s ∧ i.bytes = b := by
  obtain ⟨i, h1, h2⟩ := Option.map_eq_some_iff.1 h
  simp only [Prod.mk.injEq] at h2
  exact ⟨i, h1, h2.1, h2.2.1, h2.2.2⟩
theorem info_byte : (Tryz.prog.info? 5).map (fun i => (i.zero, i.size, i.bytes)) = some (some (.int .u8 0), 1, 1) := by kernel_rfl

def byteCell (b : UInt8) : Value := .int .u8 b.toNat
/-- v is a list of bytes of the call, from block base on -/
def BytesAt (base : Nat) (w : World) (v : Value) (bs : List UInt8) : Prop := w.ownsRow base 5 1 v bs.length (bs.map byteCell)

theorem byteCell_byteL (n : Int) : Value.int .u8 (n % 256) = byteCell (byteL n) := by
  unfold byteCell
  rw [toNat_byteL]
def isRow (w : World) (k : Nat) : Prop := ∃ cur, w.heap[k]? = some (.cells cur 5 (0, 0))
/-- below base, and wherever no row of bytes lay, the world is as it was -/
structure Kept (base : Nat) (w w' : World) : Prop where
  os : w'.os = w.os
  tape : w'.tape = w.tape
  output : w'.output = w.output
  size : w.heap.size ≤ w'.heap.size
  block : ∀ k, k < w.heap.size → (k < base ∨ ¬ isRow w k) → w'.heap[k]? = w.heap[k]?

theorem Kept.refl (base : Nat) (w : World) : Kept base w w := ⟨rfl, rfl, rfl, Nat.le_refl _, fun _ _ _ => rfl⟩
theorem Kept.trans {base : Nat} {a b c : World} (h : Kept base a b) (k : Kept base b c) : Kept base a c :=
  ⟨k.os.trans h.os, k.tape.trans h.tape, k.output.trans h.output, Nat.le_trans h.size k.size, fun i hi hr => by
    have e := h.block i hi hr
    rw [k.block i (by have := h.size; omega) (hr.imp id fun hn ⟨cur, hc⟩ => hn ⟨cur, by rw [← e, hc]⟩), e]⟩
theorem Kept.below {base : Nat} {w w' : World} (h : Kept base w w') (hb : base ≤ w.heap.size) : Below base w w' := ⟨h.os, h.tape, h.output, h.size, fun k hk => h.block k (by omega) (Or.inl hk)⟩
theorem Kept.of_below {base : Nat} {w w' : World} (h : Below w.heap.size w w') : Kept base w w' := ⟨h.os, h.tape, h.output, h.size, fun k hk _ => h.block k hk⟩
theorem Kept.alloc {base : Nat} {a w : World} (h : Kept base a w) (o : Obj) : Kept base a (w.alloc o) := h.trans (Kept.of_below (below_box w o))
theorem Kept.grown {base : Nat} {a w w' : World} {v : Value} {bs : List UInt8} (h : Kept base a w) (ho : BytesAt base w v bs) (hg : w.grownBy w' v.ownBlock) : Kept base a w' :=
  h.trans ⟨hg.os, hg.tape, hg.output, hg.size, fun k hk hr => hg.block k hk (fun e => by
    rcases ho.2 with ⟨rfl, _⟩ | ⟨g, cap, cur, rfl, hb, hh, _⟩
    · cases e
    · have e' : k = g := Option.some.inj e
      subst e'
      rcases hr with hr | hr
      · omega
      · exact hr ⟨cur, hh⟩)⟩
/-- a block that is no row of bytes is there still -/
theorem Kept.cell {base : Nat} {w w' : World} (h : Kept base w w') {p : Addr} {C : Array Value} {t : TypeId} {fr : Nat × Nat} (hp : w.heap[p.block]? = some (.cells C t fr)) (ht : t ≠ 5) : w'.cell? p = w.cell? p := by
  have hk : p.block < w.heap.size := by
    by_cases hb : p.block < w.heap.size
    · exact hb
    · rw [Array.getElem?_eq_none (by omega)] at hp
      cases hp
  refine World.cell?_of_block (w := w) (h.block p.block hk (Or.inr ?_))
  rintro ⟨cur, hc⟩
  rw [hp] at hc
  injection hc with hc
  injection hc with _ h2 _
  exact ht h2
theorem kept_box {base : Nat} {w w' : World} {C : Array Value} {t : TypeId} (h : Kept base (w.alloc (.cells C t)) w') (ht : t ≠ 5) (j : Nat) : w'.cell? ⟨w.heap.size, j, none⟩ = C[j]? := by
  rw [h.cell (p := ⟨w.heap.size, j, none⟩) (C := C) (t := t) (fr := (0, 0)) (heap_alloc_new w _) ht]
  exact World.cell?_alloc_mark w C t _ j
theorem BytesAt.alloc {base : Nat} {w : World} {v : Value} {bs : List UInt8} (h : BytesAt base w v bs) (o : Obj) : BytesAt base (w.alloc o) v bs := World.ownsRow.alloc h o
theorem BytesAt.nil (base : Nat) (w : World) : BytesAt base w (.slice none 0 0) [] := World.ownsRow_nil _ _ _ _

/-- append of one byte -/
theorem wpList_append_byte {w : World} {ops : Array Oper} {rest : List Oper} {o : Oper} {a : Act} {Q : Exit → Act → World → Prop} (hgd : o.guard = none) (s x : Operand)
    (ho : o.op = .call { callee := .builtin .append, args := #[s, x], argTypes := #[137, 137] }) (base : Nat) (v : Value) (bs : List UInt8) (hs : a.eval s = v) (hown : BytesAt base w v bs)
    (b : UInt8) (g of c : Nat) (hx : a.eval x = .slice (some ⟨g, of, none⟩) 1 c) (hu : w.cell? ⟨g, of, none⟩ = some (byteCell b)) (hn : bs.length + 1 ≤ 1000000) (hbase : base ≤ w.heap.size)
    (h : ∀ v' w', BytesAt base w' v' (bs ++ [b]) → w.grownBy w' v.ownBlock → wpList Tryz.prog ops Q rest (a.put o.dst v') w') : wpList Tryz.prog ops Q (o :: rest) a w := by
  obtain ⟨i0, hi, hz0, hz1, hz2⟩ := info_split info_byte
  refine wpList_append_own w hgd s x 137 ho base 5 i0 _ 1 1 Tryz.underlying137 hi hz0 hz1 hz2 rfl (by decide) v bs.length (bs.map byteCell) hs hown ⟨g, of, none⟩ 1 c [byteCell b] hx rfl ?_ ?_ (by unfold maxLen; omega) (by omega) hbase
    (fun v' w' h1 h2 _ => h v' w' (by unfold BytesAt; simpa using h1) h2)
  · intro j u hj
    match j, hj with
    | 0, hj =>
      cases hj
      rw [WideShapes.add_plain]
      exact hu
  · intro u hu
    simp only [List.mem_singleton] at hu
    subst hu
    rfl

theorem one_byte (w : World) (v : Value) (t : TypeId) : (w.alloc (.cells #[v] t)).cell? ⟨w.heap.size, 0, none⟩ = some v := by simp

/-- bytes with the first k numbers behind them -/
def bytesTo (bs : List UInt8) (l : List Int) (k : Nat) : List UInt8 := bs ++ (l.take k).map byteL
theorem bytesTo_zero (bs : List UInt8) (l : List Int) : bytesTo bs l 0 = bs := by simp [bytesTo]
theorem bytesTo_succ (bs : List UInt8) (l : List Int) (k : Nat) (hk : k < l.length) : bytesTo bs l (k + 1) = bytesTo bs l k ++ [byteL l[k]] := by
  unfold bytesTo
  rw [List.take_succ_eq_append_getElem hk, List.map_append, List.append_assoc]
  rfl
theorem bytesTo_all (bs : List UInt8) (l : List Int) : bytesTo bs l l.length = bs ++ l.map byteL := by
  unfold bytesTo
  rw [List.take_length]
theorem bytesTo_length (bs : List UInt8) (l : List Int) (k : Nat) : (bytesTo bs l k).length ≤ bs.length + l.length := by
  unfold bytesTo
  simp
  omega

set_option maxHeartbeats 800000 in
theorem put_any (base : Nat) (v vl : Value) (bs : List UInt8) (l : List Int) (w : World) (hown : BytesAt base w v bs) (hbase : base ≤ w.heap.size) (hl : ∀ wr, Kept base w wr → IntsAt wr vl l) (hn : bs.length + l.length ≤ 100000) :
    Calls Tryz.prog 145 #[v, vl] w fun e w' => ∃ v', e = .returned v' ∧ BytesAt base w' v' (bs ++ l.map byteL) ∧ Kept base w w' := by
  obtain ⟨p, cap, rfl, _⟩ := id (hl w (Kept.refl _ _))
  have HL : Hid (∀ wr, Kept base w wr → IntsAt wr (.slice p l.length cap) l) := hl
  clear hl
  go_enter Tryz.func145, Tryz.ntmps145
  go_wp2
  go_loopw [0, 9] (fun v i wr => ∃ k : Nat, k ≤ l.length ∧ i = .int .i64 k ∧ BytesAt base wr v (bytesTo bs l k) ∧ Kept base w wr) (fun _ i _ => l.length - (intOf i).toNat)
  case atStart => exact ⟨0, Nat.zero_le _, rfl, by rw [bytesTo_zero]; exact hown, Kept.refl _ _⟩
  case round =>
    clear hown
    obtain ⟨k, hk, rfl, hown, hb⟩ := hrel
    have hsz := hb.size
    by_cases hlt : k < l.length
    · obtain ⟨b, o, rfl, hc⟩ := (HL.out _ hb).cells (by omega)
      have hc1 := hc k hlt
      have hlen : (bytesTo bs l k).length ≤ 100000 := by have := bytesTo_length bs l k; omega
      have hcb : Hid (Value.int .u8 (l[k] % 256) = byteCell (byteL l[k])) := byteCell_byteL l[k]
      have HS2 : Hid (bytesTo bs l (k + 1) = bytesTo bs l k ++ [byteL l[k]]) := bytesTo_succ bs l k hlt
      clear hc
      generalize hout : bytesTo bs l k = out at hown hlen
      have HO : Hid (bytesTo bs l k = out) := hout
      clear hout
      go_wp2_with (at_builtin; refine wpList_append_byte rfl _ _ rfl base _ out rfl (hown.alloc _) (byteL l[k]) wr.heap.size 0 1 rfl ?_ (by omega) (by simp; omega) ?_; (rw [← hcb.out]; exact one_byte _ _ _); intro v2 w2 hown2 hgrow2)
      go_roundw
      case rel =>
        have hfin : BytesAt base w2 v2 (bytesTo bs l (k + 1)) := by rw [HS2.out, HO.out]; exact hown2
        have hkept : Kept base w w2 := (hb.alloc _).grown (hown.alloc _) hgrow2
        first | exact ⟨k + 1, hlt, by go_num, hfin, hkept⟩ | ((repeat apply Exists.intro); exact ⟨⟨k + 1, hlt, by go_num, hfin, hkept⟩, rfl⟩)
      case measure => simp [intOf]; omega
    · have hkl : k = l.length := by omega
      subst hkl
      go_wp2
      go_ret
      exact ⟨_, rfl, by rw [← bytesTo_all]; exact hown, hb⟩

/-- the bytes of a time that stand ahead of place k -/
def timeFrom (n : Int) (k : Nat) : List UInt8 := (timeL n).take (6 - k)

set_option maxHeartbeats 800000 in
theorem putTime_any (base : Nat) (v : Value) (bs : List UInt8) (n : Int) (w : World) (hown : BytesAt base w v bs) (hbase : base ≤ w.heap.size) (hn : bs.length ≤ 100000) :
    Calls Tryz.prog 163 #[v, .int .i64 n] w fun e w' => ∃ v', e = .returned v' ∧ BytesAt base w' v' (bs ++ timeL n) ∧ Kept base w w' := by
  go_enter Tryz.func163, Tryz.ntmps163
  go_wp2
  go_loopw [0, 5] (fun v i wr => ∃ k : Nat, k ≤ 6 ∧ i = .int .i64 ((k : Int) - 1) ∧ BytesAt base wr v (bs ++ timeFrom n k) ∧ Kept base w wr) (fun _ i _ => ((intOf i) + 1).toNat)
  case atStart => exact ⟨6, Nat.le_refl _, rfl, by simpa [timeFrom] using hown, Kept.refl _ _⟩
  case round =>
    clear hown
    obtain ⟨k, hk, rfl, hown, hb⟩ := hrel
    have hsz := hb.size
    by_cases hlt : k = 0
    · subst hlt
      go_wp2
      go_ret
      exact ⟨_, rfl, hown, hb⟩
    · obtain ⟨m, rfl⟩ : ∃ m, k = m + 1 := ⟨k - 1, by omega⟩
      have e1 : ((m + 1 : Nat) : Int) - 1 = (m : Int) := by omega
      rw [e1]
      have hge : (0 : Int) ≤ (m : Int) := by omega
      have hlen : (bs ++ timeFrom n (m + 1)).length ≤ 100006 := by simp [timeFrom]; omega
      have hw1 : IntKind.i64.wrap (8 * (m : Int)) = 8 * (m : Int) := wrap_small (by omega) (by omega)
      have hw2 : IntKind.i64.wrap ((m : Int) - 1) = (m : Int) - 1 := by simp [IntKind.wrap, IntKind.signed, IntKind.bits]; omega
      have hcb : Hid (Value.int .u8 (n / 2 ^ (8 * m) % 256) = byteCell (byteL (n / 2 ^ (8 * m)))) := byteCell_byteL _
      have HS2 : Hid (timeFrom n m = timeFrom n (m + 1) ++ [byteL (n / 2 ^ (8 * m))]) := hid (by
        have hm : m ≤ 5 := by omega
        clear hcb hw1 hw2 hlen hown hb e1 hge hlt hsz hk
        match m, hm with
        | 0, _ => simp [timeFrom, timeL]
        | 1, _ => simp [timeFrom, timeL]
        | 2, _ => simp [timeFrom, timeL]
        | 3, _ => simp [timeFrom, timeL]
        | 4, _ => simp [timeFrom, timeL]
        | 5, _ => simp [timeFrom, timeL])
      generalize hout : bs ++ timeFrom n (m + 1) = out at hown hlen
      have HO : Hid (bs ++ timeFrom n (m + 1) = out) := hout
      clear hout e1
      go_wp2_with (at_builtin; refine wpList_append_byte rfl _ _ rfl base _ out rfl (hown.alloc _) (byteL (n / 2 ^ (8 * m))) wr.heap.size 0 1 rfl ?_ (by omega) (by simp; omega) ?_; (rw [← hcb.out]; exact one_byte _ _ _); intro v2 w2 hown2 hgrow2)
      go_roundw
      case rel =>
        have hfin : BytesAt base w2 v2 (bs ++ timeFrom n m) := by rw [HS2.out, ← List.append_assoc, HO.out]; exact hown2
        have hkept : Kept base w w2 := (hb.alloc _).grown (hown.alloc _) hgrow2
        first | exact ⟨m, by omega, rfl, hfin, hkept⟩ | ((repeat apply Exists.intro); exact ⟨⟨m, by omega, rfl, hfin, hkept⟩, rfl⟩)
      case measure => simp [intOf]
end Go.Proofs.YtgpldlbmjakjhaaGreat

namespace Go.Proofs.YtgpldlbmjakjhaaGreat
open Go.RowKit Go.Proofs.Parclose

theorem Kept.drew (base : Nat) (w : World) : Kept base w w.drew := ⟨rfl, rfl, rfl, Nat.le_refl _, fun _ _ _ => rfl⟩
theorem BytesAt.drew {base : Nat} {w : World} {v : Value} {bs : List UInt8} (h : BytesAt base w v bs) : BytesAt base w.drew v bs := h

theorem heap2 (w : World) (A B : Obj) : ((w.alloc A).alloc B).drew.heap[w.heap.size + 1]? = some B := by
  have h := heap_alloc_new (w.alloc A) B
  rw [size_box] at h
  exact h
theorem kept2 {base : Nat} {w w1 : World} {A B : Obj} (h : Kept base ((w.alloc A).alloc B).drew w1) : Kept base (w.alloc A) w1 := (((Kept.refl _ _).alloc B).trans (Kept.drew _ _)).trans h
theorem kept2' {base : Nat} {w w1 : World} {A B : Obj} (h : Kept base ((w.alloc A).alloc B) w1) : Kept base (w.alloc A) w1 := ((Kept.refl _ _).alloc B).trans h
theorem kept1 {base : Nat} {w w1 : World} {A : Obj} (h : Kept base (w.alloc A) w1) : Kept base w w1 := ((Kept.refl _ _).alloc A).trans h

/-- put, of numbers that were just laid -/
theorem put_new (base : Nat) (v : Value) (bs : List UInt8) (l : List Int) (n : Nat) (w : World) (hown : BytesAt base w v bs) (hbase : base ≤ w.heap.size) (hC : w.heap[n]? = some (.cells (l.map (Value.int .i64)).toArray 3 (0, 0))) (hn : bs.length + l.length ≤ 100000) :
    Calls Tryz.prog 145 #[v, .slice (some ⟨n, 0, none⟩) l.length l.length] w fun e w' => ∃ v', e = .returned v' ∧ BytesAt base w' v' (bs ++ l.map byteL) ∧ Kept base w w' := by
  refine put_any base v _ bs l w hown hbase (fun wr hk => ⟨_, _, rfl, ⟨Nat.le_refl _, fun h => by cases h⟩, by omega, fun _ => ⟨_, _, rfl, fun j hj => ?_⟩⟩) hn
  rw [Nat.zero_add, hk.cell (p := ⟨n, j, none⟩) hC (by decide)]
  simp [World.cell?, hC, hj]

set_option maxHeartbeats 1600000 in
theorem putHead_any (base : Nat) (v vf : Value) (bs : List UInt8) (k : Int) (f : Frm) (w : World) (hown : BytesAt base w v bs) (hbase : base ≤ w.heap.size) (hv : FrmAt w vf f) (hn : bs.length ≤ 1000) :
    Calls Tryz.prog 144 #[v, .int .i64 k, vf] w fun e w' => ∃ v', e = .returned v' ∧ BytesAt base w' v' (bs ++ headL k f) ∧ Kept base w w' := by
  obtain ⟨vl, vg, vc, rfl, ⟨pl, cl, rfl, _⟩, ⟨pg, cg, rfl, _⟩, ⟨pc, cc, rfl, _⟩⟩ := hv
  unfold frmV
  have HH : Hid (bs ++ [k, f.fr, f.to].map byteL ++ timeL f.seq = bs ++ headL k f) := hid (by simp [headL])
  go_enter Tryz.func144, Tryz.ntmps144
  go_wp2
  go_region_held3 (fun w' => w'.cell? ⟨w.heap.size, 0, none⟩ = some (.int .i64 f.fr) ∧ w'.cell? ⟨w.heap.size, 1, none⟩ = some (.int .i64 f.to) ∧ w'.cell? ⟨w.heap.size, 2, none⟩ = some (.int .i64 f.seq)) (go_keep)
    (first
      | (go_at_call 145; refine (put_new base _ bs [k, f.fr, f.to] _ _ (BytesAt.drew ((hown.alloc _).alloc _)) ?_ (heap2 _ _ _) ?_).mono ?_; (simp; omega); (simp; omega); rintro e w1 ⟨v1, rfl, hown1, hk1⟩; have hk3 := kept2 hk1; have hd0 := kept_box hk3 (by decide) 0; have hd1 := kept_box hk3 (by decide) 1; have hd2 := kept_box hk3 (by decide) 2; clear hk1)
      | (go_at_call 163; refine (putTime_any base _ _ _ _ hown1 ?_ ?_).mono ?_; (have := hk3.size; simp at this; omega); (simp; omega); rintro e w2 ⟨v2, rfl, hown2, hk2⟩; have hk6 := hk3.trans hk2; have hd0 := kept_box hk6 (by decide) 0; have hd1 := kept_box hk6 (by decide) 1; have hd2 := kept_box hk6 (by decide) 2; have hk5 := kept1 hk6; clear hk2 hk3 hk6))
  all_goals
    go_wp2
    go_ret
    exact ⟨_, rfl, by rw [← HH.out]; exact hown2, hk5⟩
end Go.Proofs.YtgpldlbmjakjhaaGreat

namespace Go.Proofs.YtgpldlbmjakjhaaGreat
open Go.RowKit Go.Proofs.Parclose

def certsTo (bs : List UInt8) (l : List Crt) (k : Nat) : List UInt8 := bs ++ [byteL l.length] ++ (l.take k).flatMap certL
theorem certsTo_zero (bs : List UInt8) (l : List Crt) : certsTo bs l 0 = bs ++ [byteL l.length] := by simp [certsTo]
theorem certsTo_succ (bs : List UInt8) (l : List Crt) (k : Nat) (hk : k < l.length) : certsTo bs l (k + 1) = certsTo bs l k ++ [(l[k]).c, (l[k]).b, (l[k]).h].map byteL ++ timeL (l[k]).u := by
  unfold certsTo
  rw [List.take_succ_eq_append_getElem hk, List.flatMap_append]
  simp only [List.flatMap_cons, List.flatMap_nil, certL, List.append_assoc, List.append_nil, List.map_cons, List.map_nil]
theorem certsTo_all (bs : List UInt8) (l : List Crt) : certsTo bs l l.length = bs ++ certsL l := by simp [certsTo, certsL]
theorem certsTo_length (bs : List UInt8) (l : List Crt) (k : Nat) : (certsTo bs l k).length ≤ bs.length + 1 + 9 * l.length := by
  unfold certsTo
  have h : ∀ m : List Crt, (m.flatMap certL).length = 9 * m.length := fun m => by
    induction m with
    | nil => rfl
    | cons x r ih =>
      rw [List.flatMap_cons, List.length_append, ih]
      simp [certL, timeL]
      omega
  simp only [List.length_append, h, List.length_take]
  simp
  omega

set_option maxHeartbeats 3200000 in
theorem putCerts_any (base : Nat) (v vc : Value) (bs : List UInt8) (l : List Crt) (w : World) (hown : BytesAt base w v bs) (hbase : base ≤ w.heap.size) (hv : ∀ wr, Kept base w wr → CrtsAt wr vc l) (hn : bs.length ≤ 1000) (hl : l.length ≤ 24) :
    Calls Tryz.prog 147 #[v, vc] w fun e w' => ∃ v', e = .returned v' ∧ BytesAt base w' v' (bs ++ certsL l) ∧ Kept base w w' := by
  obtain ⟨p, cap, rfl, _⟩ := id (hv w (Kept.refl _ _))
  have HV : Hid (∀ wr, Kept base w wr → CrtsAt wr (.slice p l.length cap) l) := hv
  clear hv
  go_enter Tryz.func147, Tryz.ntmps147
  go_wp2_with (go_at_call 145; refine (put_new base _ bs [(l.length : Int)] _ _ (hown.alloc _) ?_ (heap_alloc_new _ _) ?_).mono ?_; (simp; omega); (simp; omega); rintro e w1 ⟨v1, rfl, hown1, hk1⟩; have hk2 := kept1 hk1; clear hk1 hown)
  go_loopw [0, 14] (fun v i wr => ∃ k : Nat, k ≤ l.length ∧ i = .int .i64 k ∧ BytesAt base wr v (certsTo bs l k) ∧ Kept base w wr) (fun _ i _ => l.length - (intOf i).toNat)
  case atStart => exact ⟨0, Nat.zero_le _, rfl, by rw [certsTo_zero]; simpa using hown1, hk2⟩
  case round =>
    clear hown1 hk2
    obtain ⟨k, hk, rfl, hown, hb⟩ := hrel
    have hsz := hb.size
    by_cases hlt : k < l.length
    · obtain ⟨b, o, rfl, hc⟩ := (HV.out _ hb).cells (by omega)
      obtain ⟨hc1, hc2, hc3, hc4⟩ := hc k hlt
      have HS2 : Hid (certsTo bs l (k + 1) = certsTo bs l k ++ [(l[k]).c, (l[k]).b, (l[k]).h].map byteL ++ timeL (l[k]).u) := certsTo_succ bs l k hlt
      have hlen : (certsTo bs l k).length ≤ 1300 := by have := certsTo_length bs l k; omega
      clear hc
      generalize hout : certsTo bs l k = out at hown hlen
      have HO : Hid (certsTo bs l k = out) := hout
      clear hout
      generalize hcrt : l[k] = c at *
      go_wp2
      go_region_held3 (fun w' => w'.cell? ⟨wr.heap.size, 0, none⟩ = some (.int .i64 c.c) ∧ w'.cell? ⟨wr.heap.size, 1, none⟩ = some (.int .i64 c.b) ∧ w'.cell? ⟨wr.heap.size, 2, none⟩ = some (.int .i64 c.h) ∧ w'.cell? ⟨wr.heap.size, 3, none⟩ = some (.int .i64 c.u)) (go_keep)
        (first
          | (go_at_call 145; refine (put_new base _ out [c.c, c.b, c.h] _ _ (BytesAt.drew ((hown.alloc _).alloc _)) ?_ (heap2 _ _ _) ?_).mono ?_; (simp; omega); (simp; omega); rintro e w1 ⟨v1, rfl, hown1, hk1⟩; have hk3 := kept2 hk1; have hd0 := kept_box hk3 (by decide) 0; have hd1 := kept_box hk3 (by decide) 1; have hd2 := kept_box hk3 (by decide) 2; have hd3 := kept_box hk3 (by decide) 3; clear hk1)
          | (go_at_call 163; refine (putTime_any base _ _ _ _ hown1 ?_ ?_).mono ?_; (have := hk3.size; simp at this; omega); (simp; omega); rintro e w2 ⟨v2, rfl, hown2, hk2⟩; have hk6 := hk3.trans hk2; have hd0 := kept_box hk6 (by decide) 0; have hd1 := kept_box hk6 (by decide) 1; have hd2 := kept_box hk6 (by decide) 2; have hd3 := kept_box hk6 (by decide) 3; have hk7 := hb.trans (kept1 hk6); clear hk2 hk3 hk6))
      all_goals
        go_wp2
        go_roundw
        case rel =>
          have hfin : BytesAt base w2 v2 (certsTo bs l (k + 1)) := by rw [HS2.out, HO.out]; exact hown2
          first | exact ⟨k + 1, hlt, by go_num, hfin, hk7⟩ | ((repeat apply Exists.intro); exact ⟨⟨k + 1, hlt, by go_num, hfin, hk7⟩, rfl⟩)
        case measure => simp [intOf]; omega
    · have hkl : k = l.length := by omega
      subst hkl
      go_wp2
      go_ret
      exact ⟨_, rfl, by rw [← certsTo_all]; exact hown, hb⟩
end Go.Proofs.YtgpldlbmjakjhaaGreat
