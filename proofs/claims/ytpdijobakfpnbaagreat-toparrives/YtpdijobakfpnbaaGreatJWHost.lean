/- wire.isHost and isThread answer what the document says, and turn nothing. -/
import Derived.Test.YtpdijobakfpnbaaGreatJWMem
import Derived.Test.YtpdijobakfpnbaaGreatJCat
import Derived.Test.YtpdijobakfpnbaaGreatJPlain
import Derived.Test.YtpdijobakfpnbaaGreatJSame
import Derived.BigQuiet
namespace Go.Proofs.YtpdijobakfpnbaaGreat
open Go.RowKit Go.Proofs.Parclose
theorem Q7 (c : Int) (w : World) : Calls Tryz.prog 165 #[.int .i64 c] w fun e w' => e = .returned (.bool (hostB c)) ∧ w' = w := by
 unfold hostB
 by_cases h1 : 0 ≤ c
 · by_cases h2 : c < 4
   · go_enter Tryz.func165, Tryz.ntmps165
     go_wp2
     go_ret
     exact ⟨Qm (by simp [h1, h2]), rfl⟩
   · go_enter Tryz.func165, Tryz.ntmps165
     go_wp2
     go_ret
     exact ⟨Qm (by simp [h2]), rfl⟩
 · go_enter Tryz.func165, Tryz.ntmps165
   go_wp2
   go_ret
   exact ⟨Qm (by simp; omega), rfl⟩
theorem QfK {l : List Int} (h : 8 < l.length) : grantsB l = false := by
 unfold grantsB
 exact decide_eq_false fun g => by omega
theorem QgG {l : List Int} (k : Nat) (hk : k < l.length) (h : catB l[k] = false) : grantsB l = false := by
 unfold grantsB
 refine decide_eq_false fun g => ?_
 have := g.2.1 l[k] (List.getElem_mem hk)
 exact absurd ((QdX _).2 this) (by simp [h])
theorem QfJ {l : List Int} (k : Nat) (hk : k + 1 < l.length) (h : l[k + 1] ≤ l[k]) : grantsB l = false := by
 unfold grantsB
 refine decide_eq_false fun g => ?_
 have := List.pairwise_iff_getElem.1 g.2.2 k (k + 1) (by omega) hk (by omega)
 omega
theorem QdE {l : List Int} (h : ∀ j (hj : j + 1 < l.length), l[j] < l[j + 1]) : l.Pairwise (· < ·) := by
 rw [List.pairwise_iff_getElem]
 intro i j hi hj hij
 induction j with
 | zero => omega
 | succ j ih =>
  have h1 := h j hj
  by_cases e : i = j
  · subst e; exact h1
  · have := ih (by omega) (by omega)
    omega
theorem QgH {l : List Int} (h8 : l.length ≤ 8) (h1 : ∀ j (hj : j < l.length), catB l[j] = true) (h2 : ∀ j (hj : j + 1 < l.length), l[j] < l[j + 1]) : grantsB l = true := by
 refine (QbS l).2 ⟨h8, fun x hx => ?_, QdE h2⟩
 obtain ⟨j, hj, rfl⟩ := List.mem_iff_getElem.1 hx
 exact (QdX _).1 (h1 j hj)
set_option maxHeartbeats 800000 in
theorem Qbf (v : Value) (l : List Int) (w : World) (hv : IntsAt w v l) :
 Calls Tryz.prog 166 #[v] w fun e w' => e = .returned (.bool (grantsB l)) ∧ w' = w := by
 obtain ⟨p, cap, rfl, hlc, hcap, hcells⟩ := hv
 by_cases h8 : l.length ≤ 8
 rotate_left
 · have HG : Hid (grantsB l = false) := QfK (l := l) (by omega)
   go_enter Tryz.func166, Tryz.ntmps166
   go_wp2
   go_ret
   exact ⟨Qm HG.out.symm, rfl⟩
 go_enter Tryz.func166, Tryz.ntmps166
 go_wp2
 go_loopw [10] (fun i wr => ∃ k : Nat, k ≤ l.length ∧ i = .int .i64 k ∧ (∀ j (hj : j < k) (hj' : j < l.length), catB l[j] = true) ∧ (∀ j (hj : j + 1 < k) (hj' : j + 1 < l.length), l[j] < l[j + 1]) ∧ w = wr) (fun i _ => l.length - (intOf i).toNat)
 case atStart => exact ⟨0, Nat.zero_le _, rfl, fun j hj => absurd hj (Nat.not_lt_zero _), fun j hj => absurd hj (Nat.not_lt_zero _), rfl⟩
 case round =>
  obtain ⟨k, hk, rfl, hlev0, hup0, rfl⟩ := hrel
  have HL : Hid (∀ j (hj : j < k) (hj' : j < l.length), catB l[j] = true) := hlev0
  have HU : Hid (∀ j (hj : j + 1 < k) (hj' : j + 1 < l.length), l[j] < l[j + 1]) := hup0
  clear hlev0 hup0
  by_cases hlt : k < l.length
  · obtain ⟨b, o, rfl, hc⟩ := hcells (by omega)
    have hc1 := hc k hlt
    cases hcat : catB l[k] with
    | false =>
     have HG : Hid (grantsB l = false) := QgG k hlt hcat
     clear hcells hc
     go_wp2_with (go_at_call 175; refine (QG _ _).mono ?_; rintro e w' ⟨rfl, rfl⟩)
     go_ret
     exact ⟨Qm HG.out.symm, rfl⟩
    | true =>
     have HY : Hid (catB l[k] = true) := hcat
     clear hcells
     by_cases h0 : k = 0
     · have hd : decide ((k : Int) > 0) = false := by simp; omega
       have hd2 : ¬ (0 < (k : Int)) := by omega
       have hd3 : ¬ (0 < k) := by omega
       have hd4 : decide (0 < k) = false := decide_eq_false hd3
       have H0 : Hid (k = 0) := h0
       clear hc h0
       go_wp2_with (go_at_call 175; refine (QG _ _).mono ?_; rintro e w' ⟨rfl, rfl⟩)
       go_roundw
       case rel => exact ⟨k + 1, hlt, by go_num, fun j hj hj' => by
        by_cases e : j = k
        · subst e; exact HY.out
        · exact HL.out j (by omega) hj', fun j hj hj' => absurd hj (by have := H0.out; omega), by first | rfl | trivial⟩
       case measure => simp [intOf]; omega
     · have hd : 0 < k := by omega
       obtain ⟨m, hm⟩ : ∃ m, k = m + 1 := ⟨k - 1, by omega⟩
       have hml : m < l.length := by omega
       have hw : IntKind.i64.wrap ((k : Int) - 1) = (m : Int) := by
        rw [hm, show ((m + 1 : Nat) : Int) - 1 = (m : Int) by omega]
        exact wrap_small (by omega) (by omega)
       have hp1 := hc m hml
       have HM : Hid (k = m + 1) := hm
       clear hc hm h0
       by_cases hge : l[k] ≤ l[m]
       · have HG : Hid (grantsB l = false) := by
          have e := HM.out
          subst e
          exact QfJ m hlt hge
         go_wp2_with (go_at_call 175; refine (QG _ _).mono ?_; rintro e w' ⟨rfl, rfl⟩)
         go_ret
         exact ⟨Qm HG.out.symm, rfl⟩
       · go_wp2_with (go_at_call 175; refine (QG _ _).mono ?_; rintro e w' ⟨rfl, rfl⟩)
         go_roundw
         case rel => exact ⟨k + 1, hlt, by go_num, fun j hj hj' => by
          by_cases e : j = k
          · subst e; exact HY.out
          · exact HL.out j (by omega) hj', fun j hj hj' => by
          by_cases e : j = m
          · subst e
            have e := HM.out
            subst e
            omega
          · exact HU.out j (by have := HM.out; omega) hj', by first | rfl | trivial⟩
         case measure => simp [intOf]; omega
  · go_wp2
    go_ret
    have e : grantsB l = true := QgH h8 (fun j hj => HL.out j (by omega) hj) (fun j hj => HU.out j (by omega) hj)
    exact ⟨Qm e.symm, rfl⟩
set_option maxHeartbeats 1600000 in
theorem QZ (v : Value) (m : Mal) (w : World) (hv : MalAt w v m) :
 Calls Tryz.prog 127 #[v] w fun e w' => e = .returned (.int .i64 (mailE m)) ∧ Below w.heap.size w w' := by
 obtain ⟨vl, vg, rfl, hl, hg⟩ := hv
 obtain ⟨pl, cl, rfl, _⟩ := id hl
 obtain ⟨pg, cg, rfl, _⟩ := id hg
 unfold malV
 have he : mailE m = if hostB m.host && hostB m.thread && goodB m.label && grantsB m.grants then (if m.text.length ≤ 64 then 0 else 9) else 2 := rfl
 cases h1 : hostB m.host with
 | false =>
  have HE : Hid (mailE m = 2) := hid (by rw [h1] at he; simpa using he)
  clear he
  go_enter Tryz.func127, Tryz.ntmps127
  go_wp2_with (go_at_call 164; refine (Qas _ _).mono ?_; rintro e w' ⟨rfl, rfl⟩)
  go_ret
  exact ⟨QE HE.out.symm, Qd _ _⟩
 | true =>
  cases h2 : hostB m.thread with
  | false =>
   have HE : Hid (mailE m = 2) := hid (by rw [h2] at he; simpa using he)
   clear he
   go_enter Tryz.func127, Tryz.ntmps127
   go_wp2_with (first | (go_at_call 164; refine (Qas _ _).mono ?_; rintro e w' ⟨rfl, rfl⟩) | (go_at_call 165; refine (Q7 _ _).mono ?_; rintro e w' ⟨rfl, rfl⟩))
   go_ret
   exact ⟨QE HE.out.symm, Qd _ _⟩
  | true =>
   rw [h1, h2] at he
   cases h3 : goodB m.label with
   | false =>
    have HE : Hid (mailE m = 2) := hid (by rw [h3] at he; simpa using he)
    clear he
    go_enter Tryz.func127, Tryz.ntmps127
    go_wp2_with (first | (go_at_call 164; refine (Qas _ _).mono ?_; rintro e w' ⟨rfl, rfl⟩) | (go_at_call 165; refine (Q7 _ _).mono ?_; rintro e w' ⟨rfl, rfl⟩) | (go_at_call 133; refine (Qa1 _ m.label _ (hl.below (Qd _ _))).mono ?_; rintro e w1 ⟨rfl, hw1⟩))
    go_ret
    exact ⟨QE HE.out.symm, Qc (Qd _ _) hw1⟩
   | true =>
    rw [h3] at he
    cases h4 : grantsB m.grants with
    | false =>
     have HE : Hid (mailE m = 2) := hid (by rw [h4] at he; simpa using he)
     clear he
     go_enter Tryz.func127, Tryz.ntmps127
     go_wp2_with (first | (go_at_call 164; refine (Qas _ _).mono ?_; rintro e w' ⟨rfl, rfl⟩) | (go_at_call 165; refine (Q7 _ _).mono ?_; rintro e w' ⟨rfl, rfl⟩) | (go_at_call 133; refine (Qa1 _ m.label _ (hl.below (Qd _ _))).mono ?_; rintro e w1 ⟨rfl, hw1⟩; have hc3 := Qi hw1 (by simp) 3; have hc4 := Qi hw1 (by simp) 4; have hb1 := Qc (Qd _ _) hw1; clear hw1) | (go_at_call 166; refine (Qbf _ m.grants _ (hg.below hb1)).mono ?_; rintro e w' ⟨rfl, rfl⟩))
     go_ret
     exact ⟨QE HE.out.symm, hb1⟩
    | true =>
     rw [h4] at he
     by_cases h5 : m.text.length ≤ 64
     · have HE : Hid (mailE m = 0) := hid (by rw [if_pos h5] at he; simpa using he)
       clear he
       go_enter Tryz.func127, Tryz.ntmps127
       go_wp2_with (first | (go_at_call 164; refine (Qas _ _).mono ?_; rintro e w' ⟨rfl, rfl⟩) | (go_at_call 165; refine (Q7 _ _).mono ?_; rintro e w' ⟨rfl, rfl⟩) | (go_at_call 133; refine (Qa1 _ m.label _ (hl.below (Qd _ _))).mono ?_; rintro e w1 ⟨rfl, hw1⟩; have hc3 := Qi hw1 (by simp) 3; have hc4 := Qi hw1 (by simp) 4; have hb1 := Qc (Qd _ _) hw1; clear hw1) | (go_at_call 166; refine (Qbf _ m.grants _ (hg.below hb1)).mono ?_; rintro e w' ⟨rfl, rfl⟩))
       go_ret
       exact ⟨QE HE.out.symm, hb1⟩
     · have HE : Hid (mailE m = 9) := hid (by rw [if_neg h5] at he; simpa using he)
       clear he
       go_enter Tryz.func127, Tryz.ntmps127
       go_wp2_with (first | (go_at_call 164; refine (Qas _ _).mono ?_; rintro e w' ⟨rfl, rfl⟩) | (go_at_call 165; refine (Q7 _ _).mono ?_; rintro e w' ⟨rfl, rfl⟩) | (go_at_call 133; refine (Qa1 _ m.label _ (hl.below (Qd _ _))).mono ?_; rintro e w1 ⟨rfl, hw1⟩; have hc3 := Qi hw1 (by simp) 3; have hc4 := Qi hw1 (by simp) 4; have hb1 := Qc (Qd _ _) hw1; clear hw1) | (go_at_call 166; refine (Qbf _ m.grants _ (hg.below hb1)).mono ?_; rintro e w' ⟨rfl, rfl⟩))
       go_ret
       exact ⟨QE HE.out.symm, hb1⟩
theorem Qcs {w : World} {f : Frm} {vl vg : Value} (hl : LabAt w vl f.mail.label) (hg : IntsAt w vg f.mail.grants) : MalAt w (.agg #[.int .i64 f.mail.host, .int .i64 f.mail.thread, vl, vg, .string ⟨f.mail.text.toArray⟩]) f.mail := ⟨vl, vg, rfl, hl, hg⟩
set_option maxHeartbeats 1600000 in
theorem Qcv (v : Value) (m : Mal) (w : World) (hv : MalAt w v m) :
 Calls Tryz.prog 210 #[v] w fun e w' => e = .returned (.bool (!emptyB m)) ∧ Below w.heap.size w w' := by
 obtain ⟨vl, vg, rfl, ⟨pl, cl, rfl, _⟩, ⟨pg, cg, rfl, _⟩⟩ := hv
 unfold emptyB malV
 obtain ⟨mh, mt, ml, mg, mx⟩ := m
 have hh : (mh != 0) = !(mh == 0) := rfl
 have ht : (mt != 0) = !(mt == 0) := rfl
 cases h1 : (mh == 0) with
 | false =>
  rw [h1] at hh
  go_enter Tryz.func210, Tryz.ntmps210
  go_wp2
  go_ret
  exact ⟨Qm (by simp), Qd _ _⟩
 | true =>
  rw [h1] at hh
  cases h2 : (mt == 0) with
  | false =>
   rw [h2] at ht
   go_enter Tryz.func210, Tryz.ntmps210
   go_wp2
   go_ret
   exact ⟨Qm (by simp), Qd _ _⟩
  | true =>
   rw [h2] at ht
   cases ml with
   | cons x r =>
    go_enter Tryz.func210, Tryz.ntmps210
    go_wp2
    go_ret
    exact ⟨Qm (by simp), Qd _ _⟩
   | nil =>
    cases mg with
    | cons x r =>
     go_enter Tryz.func210, Tryz.ntmps210
     go_wp2
     go_ret
     exact ⟨Qm (by simp), Qd _ _⟩
    | nil =>
     cases mx with
     | cons x r =>
      go_enter Tryz.func210, Tryz.ntmps210
      go_wp2
      go_ret
      exact ⟨Qm (by simp), Qd _ _⟩
     | nil =>
      go_enter Tryz.func210, Tryz.ntmps210
      go_wp2
      go_ret
      exact ⟨Qm (by simp), Qd _ _⟩
set_option maxHeartbeats 1600000 in
theorem QeB (v : Value) (f : Frm) (w : World) (hv : FrmAt w v f) :
 Calls Tryz.prog 185 #[v] w fun e w' => e = .returned (.int .i64 (answerE f)) ∧ Below w.heap.size w w' := by
 obtain ⟨vl, vg, vc, rfl, hl, hg, hc⟩ := hv
 have hm := Qcs hl hg
 obtain ⟨pl, cl, rfl, _⟩ := id hl
 obtain ⟨pg, cg, rfl, _⟩ := id hg
 obtain ⟨pc, cc, rfl, _⟩ := id hc
 unfold frmV
 have ht : (f.thread != 0) = !(f.thread == 0) := rfl
 have he : answerE f = if f.thread == 0 && emptyB f.mail && f.certs.isEmpty then 0 else 1 := rfl
 cases h1 : (f.thread == 0) with
 | false =>
  have HE : Hid (answerE f = 1) := hid (by rw [h1] at he; simpa using he)
  rw [h1] at ht
  clear he
  go_enter Tryz.func185, Tryz.ntmps185
  go_wp2
  go_ret
  exact ⟨QE HE.out.symm, Qd _ _⟩
 | true =>
  rw [h1] at ht he
  cases h2 : emptyB f.mail with
  | false =>
   have HE : Hid (answerE f = 1) := hid (by rw [h2] at he; simpa using he)
   clear he
   go_enter Tryz.func185, Tryz.ntmps185
   go_wp2_with (go_at_call 210; refine (Qcv _ f.mail _ (hm.below (Qd _ _))).mono ?_; rintro e w1 ⟨rfl, hw1⟩)
   go_ret
   exact ⟨QE HE.out.symm, Qc (Qd _ _) hw1⟩
  | true =>
   rw [h2] at he
   cases h3 : f.certs with
   | nil =>
    have HE : Hid (answerE f = 0) := hid (by rw [h3] at he; simpa using he)
    clear he
    go_enter Tryz.func185, Tryz.ntmps185
    go_wp2_with (go_at_call 210; refine (Qcv _ f.mail _ (hm.below (Qd _ _))).mono ?_; rintro e w1 ⟨rfl, hw1⟩; have hc10 := Qi hw1 (by simp) 10; have hb1 := Qc (Qd _ _) hw1; clear hw1)
    go_ret
    exact ⟨QE HE.out.symm, hb1⟩
   | cons x r =>
    have HE : Hid (answerE f = 1) := hid (by rw [h3] at he; simpa using he)
    clear he
    go_enter Tryz.func185, Tryz.ntmps185
    go_wp2_with (go_at_call 210; refine (Qcv _ f.mail _ (hm.below (Qd _ _))).mono ?_; rintro e w1 ⟨rfl, hw1⟩; have hc10 := Qi hw1 (by simp) 10; have hb1 := Qc (Qd _ _) hw1; clear hw1)
    go_ret
    exact ⟨QE HE.out.symm, hb1⟩
theorem QiJ {l : List Crt} (h24 : l.length ≤ 24) (k : Nat) (hk : k < l.length) (h : certB l[k] = false) : certsE l = 2 := by
 unfold certsE
 rw [if_pos h24, if_neg]
 intro g
 have := List.all_eq_true.1 g l[k] (List.getElem_mem hk)
 rw [h] at this
 cases this
theorem QiK {l : List Crt} (h24 : l.length ≤ 24) (h : ∀ j (hj : j < l.length), certB l[j] = true) : certsE l = 0 := by
 unfold certsE
 rw [if_pos h24, if_pos]
 rw [List.all_eq_true]
 intro x hx
 obtain ⟨j, hj, rfl⟩ := List.mem_iff_getElem.1 hx
 exact h j hj
set_option maxHeartbeats 1600000 in
theorem QfL (v : Value) (f : Frm) (w : World) (hv : FrmAt w v f) :
 Calls Tryz.prog 186 #[v] w fun e w' => e = .returned (.int .i64 (loadE f)) ∧ Below w.heap.size w w' := by
 obtain ⟨vl, vg, vc, rfl, hl, hg, hc⟩ := hv
 have hm := Qcs hl hg
 obtain ⟨pl, cl, rfl, _⟩ := id hl
 obtain ⟨pg, cg, rfl, _⟩ := id hg
 obtain ⟨pc, cc, rfl, hlc, hcap, hcells⟩ := id hc
 unfold frmV
 have he : loadE f = if mailE f.mail = 0 then (if f.mail.host = f.fr then certsE f.certs else 1) else mailE f.mail := rfl
 by_cases h1 : mailE f.mail = 0
 rotate_left
 · have HE : Hid (loadE f = mailE f.mail) := hid (by rw [if_neg h1] at he; exact he)
   have hne : (mailE f.mail != 0) = true := by simpa using h1
   clear he
   go_enter Tryz.func186, Tryz.ntmps186
   go_wp2_with (go_at_call 127; refine (QZ _ f.mail _ (hm.below (Qd _ _))).mono ?_; rintro e w1 ⟨rfl, hw1⟩)
   go_ret
   exact ⟨QE HE.out.symm, Qc (Qd _ _) hw1⟩
 rw [if_pos h1] at he
 by_cases h2 : f.mail.host = f.fr
 rotate_left
 · have HE : Hid (loadE f = 1) := hid (by rw [if_neg h2] at he; exact he)
   have hne : (f.mail.host != f.fr) = true := by simpa using h2
   clear he
   go_enter Tryz.func186, Tryz.ntmps186
   go_wp2_with (go_at_call 127; refine (QZ _ f.mail _ (hm.below (Qd _ _))).mono ?_; rintro e w1 ⟨rfl, hw1⟩; have hc5 := Qi hw1 (by simp) 5; have hc0 := Qi hw1 (by simp) 0; have hb1 := Qc (Qd _ _) hw1; clear hw1)
   go_ret
   exact ⟨QE HE.out.symm, hb1⟩
 rw [if_pos h2] at he
 have hne : (f.mail.host != f.fr) = false := by simpa using h2
 have H2 : Hid (f.mail.host = f.fr) := h2
 clear h2
 by_cases h3 : f.certs.length ≤ 24
 rotate_left
 · have HE : Hid (loadE f = 5) := hid (by unfold certsE at he; rw [if_neg h3] at he; exact he)
   clear he
   go_enter Tryz.func186, Tryz.ntmps186
   go_wp2_with (go_at_call 127; refine (QZ _ f.mail _ (hm.below (Qd _ _))).mono ?_; rintro e w1 ⟨rfl, hw1⟩; have hc5 := Qi hw1 (by simp) 5; have hc0 := Qi hw1 (by simp) 0; have hc10 := Qi hw1 (by simp) 10; have hb1 := Qc (Qd _ _) hw1; clear hw1)
   go_ret
   exact ⟨QE HE.out.symm, hb1⟩
 have HE : Hid (loadE f = certsE f.certs) := he
 clear he
 go_enter Tryz.func186, Tryz.ntmps186
 go_wp2_with (go_at_call 127; refine (QZ _ f.mail _ (hm.below (Qd _ _))).mono ?_; rintro e w1 ⟨rfl, hw1⟩; have hc5 := Qi hw1 (by simp) 5; have hc0 := Qi hw1 (by simp) 0; have hc10 := Qi hw1 (by simp) 10; have hb1 := Qc (Qd _ _) hw1; clear hw1)
 go_loopw [25] (fun i wr => ∃ k : Nat, k ≤ f.certs.length ∧ i = .int .i64 k ∧ (∀ j (hj : j < k) (hj' : j < f.certs.length), certB f.certs[j] = true) ∧ Below w.heap.size w wr) (fun i _ => f.certs.length - (intOf i).toNat)
 case atStart => exact ⟨0, Nat.zero_le _, rfl, fun j hj => absurd hj (Nat.not_lt_zero _), hb1⟩
 case round =>
  clear hc5 hc0 hc10 hb1
  obtain ⟨k, hk, rfl, hlev0, hb⟩ := hrel
  have HL : Hid (∀ j (hj : j < k) (hj' : j < f.certs.length), certB f.certs[j] = true) := hlev0
  clear hlev0
  have hsz := hb.size
  by_cases hlt : k < f.certs.length
  · obtain ⟨b, o, rfl, hc4⟩ := hcells (by omega)
    obtain ⟨g1, g2, g3, g4⟩ := hc4.below hb k hlt
    have hcert := fun wx => QbD f.certs[k] wx
    unfold crtV at hcert
    clear hcells hc4
    cases hcb : certB f.certs[k] with
    | false =>
     have HG : Hid (certsE f.certs = 2) := QiJ h3 k hlt hcb
     go_wp2_with (go_at_call 171; refine (hcert _).mono ?_; rintro e w2 ⟨rfl, hw2⟩)
     go_ret
     exact ⟨QE (by rw [HE.out, HG.out]), Qc (hb.alloc hsz _) hw2⟩
    | true =>
     have HG : Hid (certB f.certs[k] = true) := hcb
     go_wp2_with (go_at_call 171; refine (hcert _).mono ?_; rintro e w2 ⟨rfl, hw2⟩)
     go_roundw
     case rel => exact ⟨k + 1, hlt, by go_num, fun j hj hj' => by
      by_cases e : j = k
      · subst e; exact HG.out
      · exact HL.out j (by omega) hj', Qc (hb.alloc hsz _) hw2⟩
     case measure => simp [intOf]; omega
  · have HG : Hid (certsE f.certs = 0) := QiK h3 (fun j hj => HL.out j (by omega) hj)
    go_wp2
    go_ret
    exact ⟨QE (by rw [HE.out, HG.out]), hb⟩
set_option maxHeartbeats 1600000 in
theorem QeV (v : Value) (f : Frm) (w : World) (hv : FrmAt w v f) :
 Calls Tryz.prog 141 #[v] w fun e w' => e = .returned (.int .i64 (frameE f)) ∧ Below w.heap.size w w' := by
 have hv0 := hv
 obtain ⟨vl, vg, vc, rfl, hl, hg, hc⟩ := hv
 obtain ⟨pl, cl, rfl, _⟩ := id hl
 obtain ⟨pg, cg, rfl, _⟩ := id hg
 obtain ⟨pc, cc, rfl, _⟩ := id hc
 have hans := fun wx (h : Below w.heap.size w wx) => QeB _ f wx (hv0.below h)
 have hload := fun wx (h : Below w.heap.size w wx) => QfL _ f wx (hv0.below h)
 unfold frmV at hans hload ⊢
 have he : frameE f = if headB f then (if f.ack then answerE f else loadE f) else 2 := rfl
 have hh : headB f = (twoB f.fr f.to && !(f.seq == 0) && timeB f.seq && hostB f.thread) := rfl
 clear hv0
 cases h1 : twoB f.fr f.to with
 | false =>
  have HE : Hid (frameE f = 2) := hid (by rw [h1] at hh; simp at hh; rw [hh] at he; simpa using he)
  clear he hh
  go_enter Tryz.func141, Tryz.ntmps141
  go_wp2_with (go_at_call 183; refine (Qau _ _ _).mono ?_; rintro e w' ⟨rfl, rfl⟩)
  go_ret
  exact ⟨QE HE.out.symm, Qd _ _⟩
 | true =>
  rw [h1] at hh
  cases h2 : (f.seq == 0) with
  | true =>
   have HE : Hid (frameE f = 2) := hid (by rw [h2] at hh; simp at hh; rw [hh] at he; simpa using he)
   clear he hh
   go_enter Tryz.func141, Tryz.ntmps141
   go_wp2_with (go_at_call 183; refine (Qau _ _ _).mono ?_; rintro e w' ⟨rfl, rfl⟩)
   go_ret
   exact ⟨QE HE.out.symm, Qd _ _⟩
  | false =>
   rw [h2] at hh
   cases h3 : timeB f.seq with
   | false =>
    have HE : Hid (frameE f = 2) := hid (by rw [h3] at hh; simp at hh; rw [hh] at he; simpa using he)
    clear he hh
    go_enter Tryz.func141, Tryz.ntmps141
    go_wp2_with (first | (go_at_call 183; refine (Qau _ _ _).mono ?_; rintro e w' ⟨rfl, rfl⟩) | (go_at_call 184; refine (Qa3 _ _).mono ?_; rintro e w' ⟨rfl, rfl⟩))
    go_ret
    exact ⟨QE HE.out.symm, Qd _ _⟩
   | true =>
    rw [h3] at hh
    cases h4 : hostB f.thread with
    | false =>
     have HE : Hid (frameE f = 2) := hid (by rw [h4] at hh; simp at hh; rw [hh] at he; simpa using he)
     clear he hh
     go_enter Tryz.func141, Tryz.ntmps141
     go_wp2_with (first | (go_at_call 183; refine (Qau _ _ _).mono ?_; rintro e w' ⟨rfl, rfl⟩) | (go_at_call 184; refine (Qa3 _ _).mono ?_; rintro e w' ⟨rfl, rfl⟩) | (go_at_call 165; refine (Q7 _ _).mono ?_; rintro e w' ⟨rfl, rfl⟩))
     go_ret
     exact ⟨QE HE.out.symm, Qd _ _⟩
    | true =>
     rw [h4] at hh
     have hh' : headB f = true := by rw [hh]; rfl
     rw [hh', if_pos rfl] at he
     cases h5 : f.ack with
     | true =>
      have HE : Hid (frameE f = answerE f) := hid (by rw [h5] at he; simpa using he)
      rw [h5] at hans
      clear he hh hload hh'
      go_enter Tryz.func141, Tryz.ntmps141
      go_wp2_with (first | (go_at_call 183; refine (Qau _ _ _).mono ?_; rintro e w' ⟨rfl, rfl⟩) | (go_at_call 184; refine (Qa3 _ _).mono ?_; rintro e w' ⟨rfl, rfl⟩) | (go_at_call 165; refine (Q7 _ _).mono ?_; rintro e w' ⟨rfl, rfl⟩) | (go_at_call 185; refine (hans _ (Qd _ _)).mono ?_; rintro e w1 ⟨rfl, hw1⟩))
      go_ret
      exact ⟨QE HE.out.symm, Qc (Qd _ _) hw1⟩
     | false =>
      have HE : Hid (frameE f = loadE f) := hid (by rw [h5] at he; simpa using he)
      rw [h5] at hload
      clear he hh hans hh'
      go_enter Tryz.func141, Tryz.ntmps141
      go_wp2_with (first | (go_at_call 183; refine (Qau _ _ _).mono ?_; rintro e w' ⟨rfl, rfl⟩) | (go_at_call 184; refine (Qa3 _ _).mono ?_; rintro e w' ⟨rfl, rfl⟩) | (go_at_call 165; refine (Q7 _ _).mono ?_; rintro e w' ⟨rfl, rfl⟩) | (go_at_call 186; refine (hload _ (Qd _ _)).mono ?_; rintro e w1 ⟨rfl, hw1⟩))
      go_ret
      exact ⟨QE HE.out.symm, Qc (Qd _ _) hw1⟩
set_option maxHeartbeats 800000 in
theorem QbG (va vb : Value) (l : List Int) (w : World) (ha : IntsAt w va l) (hb : IntsAt w vb l) :
 Calls Tryz.prog 37 #[va, vb] w fun e w' => e = .returned (.bool true) ∧ Below w.heap.size w w' := by
 obtain ⟨p, cap, rfl, _, _, hca⟩ := ha
 obtain ⟨q, cap', rfl, _, _, hcb⟩ := hb
 go_enter Tryz.func37, Tryz.ntmps37
 go_wp2
 go_loopw [5] (fun i wr => ∃ k n : Nat, k ≤ l.length ∧ i = .int .i64 k ∧ wr = w.drewN n) (fun i _ => l.length - (intOf i).toNat)
 case atStart => exact ⟨0, 0, Nat.zero_le _, rfl, rfl⟩
 case round =>
  obtain ⟨k, n, hk, rfl, rfl⟩ := hrel
  by_cases hlt : k < l.length
  · obtain ⟨ba, oa, rfl, hcA⟩ := hca (by omega)
    obtain ⟨bb, ob, rfl, hcB⟩ := hcb (by omega)
    have ga := hcA k hlt
    have gb := hcB k hlt
    have hI : (k : Int) < (l.length : Int) := by omega
    clear hca hcb hcA hcB
    go_wp2_with fail
    go_quiet (fail)
    go_wp2
    go_roundw
    case rel => exact ⟨k + 1, _, hlt, by go_num, by first | rfl | (rw [World.drewN_drewN])⟩
    case measure => simp [intOf]; omega
  · go_wp2
    go_ret
    exact ⟨rfl, Qt _ _⟩
theorem Qft (va vb : Value) (m : Mal) (w : World) (ha : MalAt w va m) (hb : MalAt w vb m) :
 Calls Tryz.prog 38 #[va, vb] w fun e w' => e = .returned (.bool true) ∧ Below w.heap.size w w' := by
 obtain ⟨vl, vg, rfl, hl, hg⟩ := ha
 obtain ⟨vl', vg', rfl, hl', hg'⟩ := hb
 obtain ⟨pl, cl, rfl, _⟩ := id hl
 obtain ⟨pg, cg, rfl, _⟩ := id hg
 obtain ⟨pl', cl', rfl, _⟩ := id hl'
 obtain ⟨pg', cg', rfl, _⟩ := id hg'
 unfold malV
 have hsame : sameB m.label m.label = true := (Qc5 _ _).2 rfl
 have hsl := fun wx (h : Below w.heap.size w wx) => QdQ _ _ m.label m.label wx (hl.below h) (hl'.below h)
 rw [hsame] at hsl
 have hsn := fun wx (h : Below w.heap.size w wx) => QbG _ _ m.grants wx (hg.below h) (hg'.below h)
 go_enter Tryz.func38, Tryz.ntmps38
 go_wp2_with fail
 refine (hsl _ ((Qd w _).alloc (by simp) _)).mono ?_
 rintro e w1 ⟨rfl, hw1⟩
 have c3 : w1.cell? ⟨w.heap.size, 3, none⟩ = some (.slice pg m.grants.length cg) := by rw [hw1.cell (p := ⟨w.heap.size, 3, none⟩) (by simp; omega)]; simp
 have d3 : w1.cell? ⟨w.heap.size + 1, 3, none⟩ = some (.slice pg' m.grants.length cg') := by rw [hw1.cell (p := ⟨w.heap.size + 1, 3, none⟩) (by simp)]; simp
 have hb1 := Qc ((Qd w _).alloc (by simp) _) hw1
 clear hw1
 go_wp2_with fail
 refine (hsn _ hb1).mono ?_
 rintro e w2 ⟨rfl, hw2⟩
 go_wp2
 go_ret
 exact ⟨rfl, Qc hb1 hw2⟩
end Go.Proofs.YtpdijobakfpnbaaGreat
