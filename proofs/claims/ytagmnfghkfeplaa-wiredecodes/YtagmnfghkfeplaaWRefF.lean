/- The reference: SameNumbers and SameMail with what has nothing, and GoodFrame, answer what the document says. -/
import Derived.Test.YtagmnfghkfeplaaWRefM
namespace Go.Proofs.Ytagmnfghkfeplaa
open Go.RowKit Go.Proofs.Parclose

theorem rsameNumbers_nil (va : Value) (l : List Int) (w : World) (ha : IntsAt w va l) :
    Calls Try.prog 52 #[va, .slice none 0 0] w fun e w' => e = .returned (.bool l.isEmpty) ∧ w' = w := by
  obtain ⟨p, cap, rfl, _⟩ := ha
  cases l with
  | nil =>
    go_enter Try.func52, Try.ntmps52
    go_wp2
    refine wp_loop_rounds 1 ?_
    rw [rounds_succ]
    go_wp2
    go_ret
    exact ⟨rfl, rfl⟩
  | cons x r =>
    have hne : (((x :: r).length : Int) != 0) = true := by rw [bne_iff_ne]; simp; omega
    go_enter Try.func52, Try.ntmps52
    go_wp2
    go_ret
    exact ⟨rfl, rfl⟩

set_option maxHeartbeats 800000 in
theorem rsameMail_zero (va : Value) (m : Mal) (w : World) (ha : MalAt w va m) :
    Calls Try.prog 36 #[va, .agg #[.int .i64 0, .int .i64 0, .slice none 0 0, .slice none 0 0, .string ⟨#[]⟩]] w fun e w' => e = .returned (.bool (emptyB m)) ∧ Below w.heap.size w w' := by
  obtain ⟨vl, vg, rfl, hl, hg⟩ := ha
  obtain ⟨pl, cl, rfl, _⟩ := id hl
  obtain ⟨pg, cg, rfl, _⟩ := id hg
  unfold malV
  have hx : emptyB m = (m.host == 0 && m.thread == 0 && m.label.isEmpty && m.grants.isEmpty && m.text.isEmpty) := rfl
  have HX := hid hx
  have hsl := fun wx (h : Below w.heap.size w wx) => rsame_any _ _ m.label [] wx (hl.below h) (LabAt.nil wx none 0 (fun _ => rfl))
  have hsn := fun wx (h : Below w.heap.size w wx) => rsameNumbers_nil _ m.grants wx (hg.below h)
  have hsb : sameB m.label [] = m.label.isEmpty := by cases h : m.label <;> simp [sameB]
  clear hx
  cases h1 : (m.host == 0) with
  | false =>
    go_enter Try.func36, Try.ntmps36
    go_wp2
    go_ret
    exact ⟨ret_bool (by rw [HX.out, h1]; simp), (below_box w _).alloc (by simp) _⟩
  | true =>
    cases h2 : (m.thread == 0) with
    | false =>
      go_enter Try.func36, Try.ntmps36
      go_wp2
      go_ret
      exact ⟨ret_bool (by rw [HX.out, h2]; simp), (below_box w _).alloc (by simp) _⟩
    | true =>
      cases h3 : m.text with
      | cons x r =>
        go_enter Try.func36, Try.ntmps36
        go_wp2
        go_ret
        exact ⟨ret_bool (by rw [HX.out, h3]; simp), (below_box w _).alloc (by simp) _⟩
      | nil =>
        rw [hsb] at hsl
        cases h4 : m.label.isEmpty with
        | false =>
          rw [h4] at hsl
          go_enter Try.func36, Try.ntmps36
          go_wp2_with (go_at_call 51; refine (hsl _ ((below_box w _).alloc (by simp) _)).mono ?_; rintro e w1 ⟨rfl, hw1⟩)
          go_ret
          exact ⟨ret_bool (by rw [HX.out, h4]; simp), below_then ((below_box w _).alloc (by simp) _) hw1⟩
        | true =>
          rw [h4] at hsl
          go_enter Try.func36, Try.ntmps36
          go_wp2_with fail
          refine (hsl _ ((below_box w _).alloc (by simp) _)).mono ?_
          rintro e w1 ⟨rfl, hw1⟩
          have c3 : w1.cell? ⟨w.heap.size, 3, none⟩ = some (.slice pg m.grants.length cg) := by rw [hw1.cell (p := ⟨w.heap.size, 3, none⟩) (by simp; omega)]; simp
          have d3 : w1.cell? ⟨w.heap.size + 1, 3, none⟩ = some (.slice none 0 0) := by rw [hw1.cell (p := ⟨w.heap.size + 1, 3, none⟩) (by simp)]; simp
          have hb1 := below_then ((below_box w _).alloc (by simp) _) hw1
          clear hw1
          go_wp2_with (go_at_call 52; refine (hsn _ hb1).mono ?_; rintro e w2 ⟨rfl, rfl⟩)
          go_ret
          exact ⟨ret_bool (by rw [HX.out, h1, h2, h4, h3]; simp), hb1⟩

set_option maxHeartbeats 3200000 in
theorem rgoodFrame_any (v : Value) (f : Frm) (w : World) (hv : FrmAt w v f) :
    Calls Try.prog 12 #[v] w fun e w' => e = .returned (.int .i64 (frameE f)) ∧ Below w.heap.size w w' := by
  obtain ⟨vl, vg, vc, rfl, hl, hg, hc⟩ := hv
  have hm := mal_of_frm hl hg
  obtain ⟨pl, cl, rfl, _⟩ := id hl
  obtain ⟨pg, cg, rfl, _⟩ := id hg
  obtain ⟨pc, cc, rfl, _, _, hcells⟩ := id hc
  unfold frmV
  have he : frameE f = if headB f then (if f.ack then answerE f else loadE f) else 2 := rfl
  have hbad : headB f = false → Hid (frameE f = 2) := fun h => hid (by rw [h] at he; simpa using he)
  have HB := hid (headB_iff f)
  have hno : ∀ (P : Prop), (headB f = true → P) → ¬ P → headB f = false := fun P h n => by
    cases hh : headB f with
    | false => rfl
    | true => exact absurd (h hh) n
  have HE := hid he
  clear he
  cases h1 : hostB f.fr with
  | false =>
    have H2 := hbad (hno _ (fun h => (HB.out.1 h).1) (fun h => by rw [(hostB_iff _).2 h] at h1; cases h1))
    clear hbad hno
    go_enter Try.func12, Try.ntmps12
    go_wp2_with (go_at_call 35; refine (rfour_any _ _).mono ?_; rintro e w' ⟨rfl, rfl⟩)
    go_ret
    exact ⟨ret_int H2.out.symm, below_box _ _⟩
  | true =>
  cases h2 : hostB f.to with
  | false =>
    have H2 := hbad (hno _ (fun h => (HB.out.1 h).2.1) (fun h => by rw [(hostB_iff _).2 h] at h2; cases h2))
    clear hbad hno
    go_enter Try.func12, Try.ntmps12
    go_wp2_with (go_at_call 35; refine (rfour_any _ _).mono ?_; rintro e w' ⟨rfl, rfl⟩)
    go_ret
    exact ⟨ret_int H2.out.symm, below_box _ _⟩
  | true =>
  cases h3 : (f.fr == f.to) with
  | true =>
    have H2 := hbad (hno _ (fun h => (HB.out.1 h).2.2.1) (fun h => h (by simpa using h3)))
    clear hbad hno
    go_enter Try.func12, Try.ntmps12
    go_wp2_with (go_at_call 35; refine (rfour_any _ _).mono ?_; rintro e w' ⟨rfl, rfl⟩)
    go_ret
    exact ⟨ret_int H2.out.symm, below_box _ _⟩
  | false =>
  by_cases h4 : f.seq < 1
  · have H2 := hbad (hno _ (fun h => (HB.out.1 h).2.2.2) (fun h => by omega))
    clear hbad hno
    go_enter Try.func12, Try.ntmps12
    go_wp2_with (go_at_call 35; refine (rfour_any _ _).mono ?_; rintro e w' ⟨rfl, rfl⟩)
    go_ret
    exact ⟨ret_int H2.out.symm, below_box _ _⟩
  by_cases h5 : 1099511627776 < f.seq
  · have H2 := hbad (hno _ (fun h => (HB.out.1 h).2.2.2) (fun h => by omega))
    clear hbad hno
    go_enter Try.func12, Try.ntmps12
    go_wp2_with (go_at_call 35; refine (rfour_any _ _).mono ?_; rintro e w' ⟨rfl, rfl⟩)
    go_ret
    exact ⟨ret_int H2.out.symm, below_box _ _⟩
  cases h6 : hostB f.thread with
  | false =>
    have H2 := hbad (hno _ (fun h => (HB.out.1 h).2.2.2.2.2) (fun h => by rw [(hostB_iff _).2 h] at h6; cases h6))
    clear hbad hno
    go_enter Try.func12, Try.ntmps12
    go_wp2_with (go_at_call 35; refine (rfour_any _ _).mono ?_; rintro e w' ⟨rfl, rfl⟩)
    go_ret
    exact ⟨ret_int H2.out.symm, below_box _ _⟩
  | true =>
  have hh : headB f = true := HB.out.2 ⟨(hostB_iff _).1 h1, (hostB_iff _).1 h2, by simpa using h3, by omega, by omega, (hostB_iff _).1 h6⟩
  have HE1 : Hid (frameE f = if f.ack then answerE f else loadE f) := hid (by rw [HE.out, hh]; rfl)
  clear HE HB hbad hno hh
  cases h7 : f.ack with
  | true =>
    have HE2 : Hid (frameE f = answerE f) := hid (by rw [HE1.out, h7]; rfl)
    have he : answerE f = if f.thread == 0 && emptyB f.mail && f.certs.isEmpty then 0 else 1 := rfl
    have HA := hid he
    have hs := fun wx (h : Below w.heap.size w wx) => rsameMail_zero _ f.mail wx (hm.below h)
    clear HE1 he
    cases h8 : (f.thread == 0) with
    | false =>
      go_enter Try.func12, Try.ntmps12
      go_wp2_with (go_at_call 35; refine (rfour_any _ _).mono ?_; rintro e w' ⟨rfl, rfl⟩)
      go_ret
      exact ⟨ret_int (by rw [HE2.out, HA.out, h8]; simp), below_box _ _⟩
    | true =>
      cases h9 : emptyB f.mail with
      | false =>
        go_enter Try.func12, Try.ntmps12
        go_wp2_with (first | (go_at_call 35; refine (rfour_any _ _).mono ?_; rintro e w' ⟨rfl, rfl⟩) | (go_at_call 36; refine (hs _ (below_box _ _)).mono ?_; rintro e w1 ⟨rfl, hw1⟩))
        go_ret
        exact ⟨ret_int (by rw [HE2.out, HA.out, h9]; simp), below_then (below_box _ _) hw1⟩
      | true =>
        cases h10 : f.certs with
        | nil =>
          go_enter Try.func12, Try.ntmps12
          go_wp2_with (first | (go_at_call 35; refine (rfour_any _ _).mono ?_; rintro e w' ⟨rfl, rfl⟩) | (go_at_call 36; refine (hs _ (below_box _ _)).mono ?_; rintro e w1 ⟨rfl, hw1⟩; have c10 := box_cell hw1 (by simp) 10; have hb1 := below_then (below_box _ _) hw1; clear hw1))
          go_ret
          exact ⟨ret_int (by rw [HE2.out, HA.out, h8, h9, h10]; simp), hb1⟩
        | cons x r =>
          have hne : ((((x :: r).length : Nat) : Int) == 0) = false := by rw [beq_eq_false_iff_ne]; simp; omega
          go_enter Try.func12, Try.ntmps12
          go_wp2_with (first | (go_at_call 35; refine (rfour_any _ _).mono ?_; rintro e w' ⟨rfl, rfl⟩) | (go_at_call 36; refine (hs _ (below_box _ _)).mono ?_; rintro e w1 ⟨rfl, hw1⟩; have c10 := box_cell hw1 (by simp) 10; have hb1 := below_then (below_box _ _) hw1; clear hw1))
          go_ret
          exact ⟨ret_int (by rw [HE2.out, HA.out, h10]; simp), hb1⟩
  | false =>
    have HE2 : Hid (frameE f = loadE f) := hid (by rw [HE1.out, h7]; rfl)
    have he : loadE f = if mailE f.mail = 0 then (if f.mail.host = f.fr then certsE f.certs else 1) else mailE f.mail := rfl
    have HA := hid he
    have hgm := fun wx (h : Below w.heap.size w wx) => rgoodMail_any _ f.mail wx (hm.below h)
    clear HE1 he
    by_cases h8 : mailE f.mail = 0
    rotate_left
    · have hne : (mailE f.mail != 0) = true := by simpa using h8
      have H8 := hid h8
      clear h8
      go_enter Try.func12, Try.ntmps12
      go_wp2_with (first | (go_at_call 35; refine (rfour_any _ _).mono ?_; rintro e w' ⟨rfl, rfl⟩) | (go_at_call 15; refine (hgm _ (below_box _ _)).mono ?_; rintro e w1 ⟨rfl, hw1⟩))
      go_ret
      exact ⟨ret_int (by rw [HE2.out, HA.out, if_neg H8.out]), below_then (below_box _ _) hw1⟩
    rw [h8] at hgm
    have H8 := hid h8
    clear h8
    by_cases h9 : f.mail.host = f.fr
    rotate_left
    · have hne : (f.fr != f.mail.host) = true := by rw [bne_iff_ne]; omega
      have H9 := hid h9
      clear h9
      go_enter Try.func12, Try.ntmps12
      go_wp2_with (first | (go_at_call 35; refine (rfour_any _ _).mono ?_; rintro e w' ⟨rfl, rfl⟩) | (go_at_call 15; refine (hgm _ (below_box _ _)).mono ?_; rintro e w1 ⟨rfl, hw1⟩; have c0 := box_cell hw1 (by simp) 0; have c5 := box_cell hw1 (by simp) 5; have c10 := box_cell hw1 (by simp) 10; have hb1 := below_then (below_box _ _) hw1; clear hw1))
      go_ret
      exact ⟨ret_int (by rw [HE2.out, HA.out, if_pos H8.out, if_neg H9.out]), hb1⟩
    have hne : (f.fr != f.mail.host) = false := by rw [bne_eq_false_iff_eq]; omega
    have H9 := hid h9
    clear h9
    by_cases h10 : f.certs.length ≤ 24
    rotate_left
    · go_enter Try.func12, Try.ntmps12
      go_wp2_with (first | (go_at_call 35; refine (rfour_any _ _).mono ?_; rintro e w' ⟨rfl, rfl⟩) | (go_at_call 15; refine (hgm _ (below_box _ _)).mono ?_; rintro e w1 ⟨rfl, hw1⟩; have c0 := box_cell hw1 (by simp) 0; have c5 := box_cell hw1 (by simp) 5; have c10 := box_cell hw1 (by simp) 10; have hb1 := below_then (below_box _ _) hw1; clear hw1))
      go_ret
      exact ⟨ret_int (by rw [HE2.out, HA.out, if_pos H8.out, if_pos H9.out]; unfold certsE; rw [if_neg h10]), hb1⟩
    have HC : Hid (frameE f = certsE f.certs) := hid (by rw [HE2.out, HA.out, if_pos H8.out, if_pos H9.out])
    clear HE2 HA H8 H9
    go_enter Try.func12, Try.ntmps12
    go_wp2_with (first | (go_at_call 35; refine (rfour_any _ _).mono ?_; rintro e w' ⟨rfl, rfl⟩) | (go_at_call 15; refine (hgm _ (below_box _ _)).mono ?_; rintro e w1 ⟨rfl, hw1⟩; have c0 := box_cell hw1 (by simp) 0; have c5 := box_cell hw1 (by simp) 5; have c10 := box_cell hw1 (by simp) 10; have hb1 := below_then (below_box _ _) hw1; clear hw1))
    go_loopw [75] (fun i wr => ∃ k : Nat, k ≤ f.certs.length ∧ i = .int .i64 k ∧ (∀ j (hj : j < k) (hj' : j < f.certs.length), certB f.certs[j] = true) ∧ Below w.heap.size w wr) (fun i _ => f.certs.length - (intOf i).toNat)
    case atStart => exact ⟨0, Nat.zero_le _, rfl, fun j hj => absurd hj (Nat.not_lt_zero _), hb1⟩
    case round =>
      clear c0 c5 c10 hb1 hgm
      obtain ⟨k, hk, rfl, hlev0, hb⟩ := hrel
      have HL := hid hlev0
      clear hlev0
      have hsz := hb.size
      by_cases hlt : k < f.certs.length
      · obtain ⟨b, o, rfl, hc4⟩ := hcells (by omega)
        obtain ⟨g1, g2, g3, g4⟩ := hc4.below hb k hlt
        have hcert := fun wx => rgoodCert_any f.certs[k] wx
        unfold crtV at hcert
        clear hcells hc4
        cases hcb : certB f.certs[k] with
        | false =>
          have HG := hid (certsE_bad h10 k hlt hcb)
          go_wp2_with (go_at_call 17; refine (hcert _).mono ?_; rintro e w2 ⟨rfl, hw2⟩)
          go_ret
          exact ⟨ret_int (by rw [HC.out, HG.out]), below_then (hb.alloc hsz _) hw2⟩
        | true =>
          have HG := hid hcb
          go_wp2_with (go_at_call 17; refine (hcert _).mono ?_; rintro e w2 ⟨rfl, hw2⟩)
          go_roundw
          case rel => exact ⟨k + 1, hlt, by go_num, fun j hj hj' => by
            by_cases e : j = k
            · subst e; exact HG.out
            · exact HL.out j (by omega) hj', below_then (hb.alloc hsz _) hw2⟩
          case measure => simp [intOf]; omega
      · have HG := hid (certsE_all h10 (fun j hj => HL.out j (by omega) hj))
        go_wp2
        go_ret
        exact ⟨ret_int (by rw [HC.out, HG.out]), hb⟩
end Go.Proofs.Ytagmnfghkfeplaa
