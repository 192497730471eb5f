/- wire.isHost and GoodCert answer what the document says, and turn nothing. -/
import Derived.Test.YtlbdaklmlknmbaaGreatYWMem
import Derived.Test.YtlbdaklmlknmbaaGreatYCat
import Derived.Test.YtlbdaklmlknmbaaGreatYPlain
import Derived.Test.YtlbdaklmlknmbaaGreatYSame
import Derived.BigQuiet
namespace Go.Proofs.YtlbdaklmlknmbaaGreat
open Go.RowKit Go.Proofs.Parclose
theorem Qaq (c : Int) (w : World) : Calls Tryz.prog 126 #[.int .i64 c] w fun e w' => e = .returned (.bool (hostB c)) ∧ w' = w := by
 unfold hostB
 by_cases h1 : 0 ≤ c
 · by_cases h2 : c < 4
   · go_enter Tryz.func126, Tryz.ntmps126
     go_wp2
     go_ret
     exact ⟨Qn (by simp [h1, h2]), rfl⟩
   · go_enter Tryz.func126, Tryz.ntmps126
     go_wp2
     go_ret
     exact ⟨Qn (by simp [h2]), rfl⟩
 · go_enter Tryz.func126, Tryz.ntmps126
   go_wp2
   go_ret
   exact ⟨Qn (by simp; omega), rfl⟩
theorem QaZ (c : Int) (w : World) : Calls Tryz.prog 125 #[.int .i64 c] w fun e w' => e = .returned (.bool (timeB c)) ∧ w' = w := by
 unfold timeB
 by_cases h1 : 0 ≤ c
 · by_cases h2 : c ≤ 1099511627776
   · go_enter Tryz.func125, Tryz.ntmps125
     go_wp2
     go_ret
     exact ⟨Qn (by simp [h1, h2]), rfl⟩
   · go_enter Tryz.func125, Tryz.ntmps125
     go_wp2
     go_ret
     exact ⟨Qn (by simp [h2]), rfl⟩
 · go_enter Tryz.func125, Tryz.ntmps125
   go_wp2
   go_ret
   exact ⟨Qn (by simp; omega), rfl⟩
theorem Qas (a b : Int) (w : World) : Calls Tryz.prog 124 #[.int .i64 a, .int .i64 b] w fun e w' => e = .returned (.bool (twoB a b)) ∧ w' = w := by
 unfold twoB
 cases h1 : hostB a <;> cases h2 : hostB b <;> cases h3 : (a == b)
 all_goals
  have h4 : (a != b) = !(a == b) := rfl
  go_enter Tryz.func124, Tryz.ntmps124
  go_wp2_with (go_at_call 126; refine (Qaq _ _).mono ?_; rintro e w' ⟨rfl, rfl⟩)
  go_ret
  exact ⟨Qn (by simp [*]), rfl⟩
theorem Qbu (x : Crt) (w : World) : Calls Tryz.prog 86 #[crtV x] w fun e w' => e = .returned (.bool (certB x)) ∧ Below w.heap.size w w' := by
 unfold certB crtV
 cases h1 : catB x.c <;> cases h2 : twoB x.b x.h <;> cases h3 : timeB x.u
 all_goals
  go_enter Tryz.func86, Tryz.ntmps86
  go_wp2_with (first | (go_at_call 57; refine (QI _ _).mono ?_; rintro e w' ⟨rfl, rfl⟩) | (go_at_call 124; refine (Qas _ _ _).mono ?_; rintro e w' ⟨rfl, rfl⟩) | (go_at_call 125; refine (QaZ _ _).mono ?_; rintro e w' ⟨rfl, rfl⟩))
  go_ret
  exact ⟨Qn (by simp), Qd _ _⟩
theorem Qaa (c : Int) (w : World) : Calls Tryz.prog 127 #[.int .i64 c] w fun e w' => e = .returned (.bool (hostB c)) ∧ w' = w := by
 unfold hostB
 by_cases h1 : 0 ≤ c
 · by_cases h2 : c < 4
   · go_enter Tryz.func127, Tryz.ntmps127
     go_wp2
     go_ret
     exact ⟨Qn (by simp [h1, h2]), rfl⟩
   · go_enter Tryz.func127, Tryz.ntmps127
     go_wp2
     go_ret
     exact ⟨Qn (by simp [h2]), rfl⟩
 · go_enter Tryz.func127, Tryz.ntmps127
   go_wp2
   go_ret
   exact ⟨Qn (by simp; omega), rfl⟩
theorem Qe9 {l : List Int} (h : 8 < l.length) : grantsB l = false := by
 unfold grantsB
 exact decide_eq_false fun g => by omega
theorem Qf3 {l : List Int} (k : Nat) (hk : k < l.length) (h : catB l[k] = false) : grantsB l = false := by
 unfold grantsB
 refine decide_eq_false fun g => ?_
 have := g.2.1 l[k] (List.getElem_mem hk)
 exact absurd ((Qdx _).2 this) (by simp [h])
theorem Qe8 {l : List Int} (k : Nat) (hk : k + 1 < l.length) (h : l[k + 1] ≤ l[k]) : grantsB l = false := by
 unfold grantsB
 refine decide_eq_false fun g => ?_
 have := List.pairwise_iff_getElem.1 g.2.2 k (k + 1) (by omega) hk (by omega)
 omega
theorem Qde {l : List Int} (h : ∀ j (hj : j + 1 < l.length), l[j] < l[j + 1]) : l.Pairwise (· < ·) := by
 rw [List.pairwise_iff_getElem]
 intro i j hi hj hij
 induction j with
 | zero => omega
 | succ j ih =>
  have h1 := h j hj
  by_cases e : i = j
  · subst e; exact h1
  · have := ih (by omega) (by omega)
    omega
theorem Qf4 {l : List Int} (h8 : l.length ≤ 8) (h1 : ∀ j (hj : j < l.length), catB l[j] = true) (h2 : ∀ j (hj : j + 1 < l.length), l[j] < l[j + 1]) : grantsB l = true := by
 refine (QbG l).2 ⟨h8, fun x hx => ?_, Qde h2⟩
 obtain ⟨j, hj, rfl⟩ := List.mem_iff_getElem.1 hx
 exact (Qdx _).1 (h1 j hj)
set_option maxHeartbeats 800000 in
theorem Qbb (v : Value) (l : List Int) (w : World) (hv : IntsAt w v l) :
 Calls Tryz.prog 128 #[v] w fun e w' => e = .returned (.bool (grantsB l)) ∧ w' = w := by
 obtain ⟨p, cap, rfl, hlc, hcap, hcells⟩ := hv
 by_cases h8 : l.length ≤ 8
 rotate_left
 · have HG : Hid (grantsB l = false) := Qe9 (l := l) (by omega)
   go_enter Tryz.func128, Tryz.ntmps128
   go_wp2
   go_ret
   exact ⟨Qn HG.out.symm, rfl⟩
 go_enter Tryz.func128, Tryz.ntmps128
 go_wp2
 go_loopw [10] (fun i wr => ∃ k : Nat, k ≤ l.length ∧ i = .int .i64 k ∧ (∀ j (hj : j < k) (hj' : j < l.length), catB l[j] = true) ∧ (∀ j (hj : j + 1 < k) (hj' : j + 1 < l.length), l[j] < l[j + 1]) ∧ w = wr) (fun i _ => l.length - (intOf i).toNat)
 case atStart => exact ⟨0, Nat.zero_le _, rfl, fun j hj => absurd hj (Nat.not_lt_zero _), fun j hj => absurd hj (Nat.not_lt_zero _), rfl⟩
 case round =>
  obtain ⟨k, hk, rfl, hlev0, hup0, rfl⟩ := hrel
  have HL : Hid (∀ j (hj : j < k) (hj' : j < l.length), catB l[j] = true) := hlev0
  have HU : Hid (∀ j (hj : j + 1 < k) (hj' : j + 1 < l.length), l[j] < l[j + 1]) := hup0
  clear hlev0 hup0
  by_cases hlt : k < l.length
  · obtain ⟨b, o, rfl, hc⟩ := hcells (by omega)
    have hc1 := hc k hlt
    cases hcat : catB l[k] with
    | false =>
     have HG : Hid (grantsB l = false) := Qf3 k hlt hcat
     clear hcells hc
     go_wp2_with (go_at_call 57; refine (QI _ _).mono ?_; rintro e w' ⟨rfl, rfl⟩)
     go_ret
     exact ⟨Qn HG.out.symm, rfl⟩
    | true =>
     have HY : Hid (catB l[k] = true) := hcat
     clear hcells
     by_cases h0 : k = 0
     · have hd : decide ((k : Int) > 0) = false := by simp; omega
       have hd2 : ¬ (0 < (k : Int)) := by omega
       have hd3 : ¬ (0 < k) := by omega
       have hd4 : decide (0 < k) = false := decide_eq_false hd3
       have H0 : Hid (k = 0) := h0
       clear hc h0
       go_wp2_with (go_at_call 57; refine (QI _ _).mono ?_; rintro e w' ⟨rfl, rfl⟩)
       go_roundw
       case rel => exact ⟨k + 1, hlt, by go_num, fun j hj hj' => by
        by_cases e : j = k
        · subst e; exact HY.out
        · exact HL.out j (by omega) hj', fun j hj hj' => absurd hj (by have := H0.out; omega), by first | rfl | trivial⟩
       case measure => simp [intOf]; omega
     · have hd : 0 < k := by omega
       obtain ⟨m, hm⟩ : ∃ m, k = m + 1 := ⟨k - 1, by omega⟩
       have hml : m < l.length := by omega
       have hw : IntKind.i64.wrap ((k : Int) - 1) = (m : Int) := by
        rw [hm, show ((m + 1 : Nat) : Int) - 1 = (m : Int) by omega]
        exact wrap_small (by omega) (by omega)
       have hp1 := hc m hml
       have HM : Hid (k = m + 1) := hm
       clear hc hm h0
       by_cases hge : l[k] ≤ l[m]
       · have HG : Hid (grantsB l = false) := by
          have e := HM.out
          subst e
          exact Qe8 m hlt hge
         go_wp2_with (go_at_call 57; refine (QI _ _).mono ?_; rintro e w' ⟨rfl, rfl⟩)
         go_ret
         exact ⟨Qn HG.out.symm, rfl⟩
       · go_wp2_with (go_at_call 57; refine (QI _ _).mono ?_; rintro e w' ⟨rfl, rfl⟩)
         go_roundw
         case rel => exact ⟨k + 1, hlt, by go_num, fun j hj hj' => by
          by_cases e : j = k
          · subst e; exact HY.out
          · exact HL.out j (by omega) hj', fun j hj hj' => by
          by_cases e : j = m
          · subst e
            have e := HM.out
            subst e
            omega
          · exact HU.out j (by have := HM.out; omega) hj', by first | rfl | trivial⟩
         case measure => simp [intOf]; omega
  · go_wp2
    go_ret
    have e : grantsB l = true := Qf4 h8 (fun j hj => HL.out j (by omega) hj) (fun j hj => HU.out j (by omega) hj)
    exact ⟨Qn e.symm, rfl⟩
set_option maxHeartbeats 1600000 in
theorem Q0 (v : Value) (m : Mal) (w : World) (hv : MalAt w v m) :
 Calls Tryz.prog 89 #[v] w fun e w' => e = .returned (.int .i64 (mailE m)) ∧ Below w.heap.size w w' := by
 obtain ⟨vl, vg, rfl, hl, hg⟩ := hv
 obtain ⟨pl, cl, rfl, _⟩ := id hl
 obtain ⟨pg, cg, rfl, _⟩ := id hg
 unfold malV
 have he : mailE m = if hostB m.host && hostB m.thread && goodB m.label && grantsB m.grants then (if m.text.length ≤ 64 then 0 else 9) else 2 := rfl
 cases h1 : hostB m.host with
 | false =>
  have HE : Hid (mailE m = 2) := hid (by rw [h1] at he; simpa using he)
  clear he
  go_enter Tryz.func89, Tryz.ntmps89
  go_wp2_with (go_at_call 126; refine (Qaq _ _).mono ?_; rintro e w' ⟨rfl, rfl⟩)
  go_ret
  exact ⟨QH HE.out.symm, Qd _ _⟩
 | true =>
  cases h2 : hostB m.thread with
  | false =>
   have HE : Hid (mailE m = 2) := hid (by rw [h2] at he; simpa using he)
   clear he
   go_enter Tryz.func89, Tryz.ntmps89
   go_wp2_with (first | (go_at_call 126; refine (Qaq _ _).mono ?_; rintro e w' ⟨rfl, rfl⟩) | (go_at_call 127; refine (Qaa _ _).mono ?_; rintro e w' ⟨rfl, rfl⟩))
   go_ret
   exact ⟨QH HE.out.symm, Qd _ _⟩
  | true =>
   rw [h1, h2] at he
   cases h3 : goodB m.label with
   | false =>
    have HE : Hid (mailE m = 2) := hid (by rw [h3] at he; simpa using he)
    clear he
    go_enter Tryz.func89, Tryz.ntmps89
    go_wp2_with (first | (go_at_call 126; refine (Qaq _ _).mono ?_; rintro e w' ⟨rfl, rfl⟩) | (go_at_call 127; refine (Qaa _ _).mono ?_; rintro e w' ⟨rfl, rfl⟩) | (go_at_call 94; refine (QaX _ m.label _ (hl.below (Qd _ _))).mono ?_; rintro e w1 ⟨rfl, hw1⟩))
    go_ret
    exact ⟨QH HE.out.symm, Qc (Qd _ _) hw1⟩
   | true =>
    rw [h3] at he
    cases h4 : grantsB m.grants with
    | false =>
     have HE : Hid (mailE m = 2) := hid (by rw [h4] at he; simpa using he)
     clear he
     go_enter Tryz.func89, Tryz.ntmps89
     go_wp2_with (first | (go_at_call 126; refine (Qaq _ _).mono ?_; rintro e w' ⟨rfl, rfl⟩) | (go_at_call 127; refine (Qaa _ _).mono ?_; rintro e w' ⟨rfl, rfl⟩) | (go_at_call 94; refine (QaX _ m.label _ (hl.below (Qd _ _))).mono ?_; rintro e w1 ⟨rfl, hw1⟩; have hc3 := Qi hw1 (by simp) 3; have hc4 := Qi hw1 (by simp) 4; have hb1 := Qc (Qd _ _) hw1; clear hw1) | (go_at_call 128; refine (Qbb _ m.grants _ (hg.below hb1)).mono ?_; rintro e w' ⟨rfl, rfl⟩))
     go_ret
     exact ⟨QH HE.out.symm, hb1⟩
    | true =>
     rw [h4] at he
     by_cases h5 : m.text.length ≤ 64
     · have HE : Hid (mailE m = 0) := hid (by rw [if_pos h5] at he; simpa using he)
       clear he
       go_enter Tryz.func89, Tryz.ntmps89
       go_wp2_with (first | (go_at_call 126; refine (Qaq _ _).mono ?_; rintro e w' ⟨rfl, rfl⟩) | (go_at_call 127; refine (Qaa _ _).mono ?_; rintro e w' ⟨rfl, rfl⟩) | (go_at_call 94; refine (QaX _ m.label _ (hl.below (Qd _ _))).mono ?_; rintro e w1 ⟨rfl, hw1⟩; have hc3 := Qi hw1 (by simp) 3; have hc4 := Qi hw1 (by simp) 4; have hb1 := Qc (Qd _ _) hw1; clear hw1) | (go_at_call 128; refine (Qbb _ m.grants _ (hg.below hb1)).mono ?_; rintro e w' ⟨rfl, rfl⟩))
       go_ret
       exact ⟨QH HE.out.symm, hb1⟩
     · have HE : Hid (mailE m = 9) := hid (by rw [if_neg h5] at he; simpa using he)
       clear he
       go_enter Tryz.func89, Tryz.ntmps89
       go_wp2_with (first | (go_at_call 126; refine (Qaq _ _).mono ?_; rintro e w' ⟨rfl, rfl⟩) | (go_at_call 127; refine (Qaa _ _).mono ?_; rintro e w' ⟨rfl, rfl⟩) | (go_at_call 94; refine (QaX _ m.label _ (hl.below (Qd _ _))).mono ?_; rintro e w1 ⟨rfl, hw1⟩; have hc3 := Qi hw1 (by simp) 3; have hc4 := Qi hw1 (by simp) 4; have hb1 := Qc (Qd _ _) hw1; clear hw1) | (go_at_call 128; refine (Qbb _ m.grants _ (hg.below hb1)).mono ?_; rintro e w' ⟨rfl, rfl⟩))
       go_ret
       exact ⟨QH HE.out.symm, hb1⟩
theorem Qca {w : World} {f : Frm} {vl vg : Value} (hl : LabAt w vl f.mail.label) (hg : IntsAt w vg f.mail.grants) : MalAt w (.agg #[.int .i64 f.mail.host, .int .i64 f.mail.thread, vl, vg, .string ⟨f.mail.text.toArray⟩]) f.mail := ⟨vl, vg, rfl, hl, hg⟩
set_option maxHeartbeats 1600000 in
theorem Qcd (v : Value) (m : Mal) (w : World) (hv : MalAt w v m) :
 Calls Tryz.prog 163 #[v] w fun e w' => e = .returned (.bool (!emptyB m)) ∧ Below w.heap.size w w' := by
 obtain ⟨vl, vg, rfl, ⟨pl, cl, rfl, _⟩, ⟨pg, cg, rfl, _⟩⟩ := hv
 unfold emptyB malV
 obtain ⟨mh, mt, ml, mg, mx⟩ := m
 have hh : (mh != 0) = !(mh == 0) := rfl
 have ht : (mt != 0) = !(mt == 0) := rfl
 cases h1 : (mh == 0) with
 | false =>
  rw [h1] at hh
  go_enter Tryz.func163, Tryz.ntmps163
  go_wp2
  go_ret
  exact ⟨Qn (by simp), Qd _ _⟩
 | true =>
  rw [h1] at hh
  cases h2 : (mt == 0) with
  | false =>
   rw [h2] at ht
   go_enter Tryz.func163, Tryz.ntmps163
   go_wp2
   go_ret
   exact ⟨Qn (by simp), Qd _ _⟩
  | true =>
   rw [h2] at ht
   cases ml with
   | cons x r =>
    go_enter Tryz.func163, Tryz.ntmps163
    go_wp2
    go_ret
    exact ⟨Qn (by simp), Qd _ _⟩
   | nil =>
    cases mg with
    | cons x r =>
     go_enter Tryz.func163, Tryz.ntmps163
     go_wp2
     go_ret
     exact ⟨Qn (by simp), Qd _ _⟩
    | nil =>
     cases mx with
     | cons x r =>
      go_enter Tryz.func163, Tryz.ntmps163
      go_wp2
      go_ret
      exact ⟨Qn (by simp), Qd _ _⟩
     | nil =>
      go_enter Tryz.func163, Tryz.ntmps163
      go_wp2
      go_ret
      exact ⟨Qn (by simp), Qd _ _⟩
set_option maxHeartbeats 1600000 in
theorem Qd2 (v : Value) (f : Frm) (w : World) (hv : FrmAt w v f) :
 Calls Tryz.prog 139 #[v] w fun e w' => e = .returned (.int .i64 (answerE f)) ∧ Below w.heap.size w w' := by
 obtain ⟨vl, vg, vc, rfl, hl, hg, hc⟩ := hv
 have hm := Qca hl hg
 obtain ⟨pl, cl, rfl, _⟩ := id hl
 obtain ⟨pg, cg, rfl, _⟩ := id hg
 obtain ⟨pc, cc, rfl, _⟩ := id hc
 unfold frmV
 have ht : (f.thread != 0) = !(f.thread == 0) := rfl
 have he : answerE f = if f.thread == 0 && emptyB f.mail && f.certs.isEmpty then 0 else 1 := rfl
 cases h1 : (f.thread == 0) with
 | false =>
  have HE : Hid (answerE f = 1) := hid (by rw [h1] at he; simpa using he)
  rw [h1] at ht
  clear he
  go_enter Tryz.func139, Tryz.ntmps139
  go_wp2
  go_ret
  exact ⟨QH HE.out.symm, Qd _ _⟩
 | true =>
  rw [h1] at ht he
  cases h2 : emptyB f.mail with
  | false =>
   have HE : Hid (answerE f = 1) := hid (by rw [h2] at he; simpa using he)
   clear he
   go_enter Tryz.func139, Tryz.ntmps139
   go_wp2_with (go_at_call 163; refine (Qcd _ f.mail _ (hm.below (Qd _ _))).mono ?_; rintro e w1 ⟨rfl, hw1⟩)
   go_ret
   exact ⟨QH HE.out.symm, Qc (Qd _ _) hw1⟩
  | true =>
   rw [h2] at he
   cases h3 : f.certs with
   | nil =>
    have HE : Hid (answerE f = 0) := hid (by rw [h3] at he; simpa using he)
    clear he
    go_enter Tryz.func139, Tryz.ntmps139
    go_wp2_with (go_at_call 163; refine (Qcd _ f.mail _ (hm.below (Qd _ _))).mono ?_; rintro e w1 ⟨rfl, hw1⟩; have hc10 := Qi hw1 (by simp) 10; have hb1 := Qc (Qd _ _) hw1; clear hw1)
    go_ret
    exact ⟨QH HE.out.symm, hb1⟩
   | cons x r =>
    have HE : Hid (answerE f = 1) := hid (by rw [h3] at he; simpa using he)
    clear he
    go_enter Tryz.func139, Tryz.ntmps139
    go_wp2_with (go_at_call 163; refine (Qcd _ f.mail _ (hm.below (Qd _ _))).mono ?_; rintro e w1 ⟨rfl, hw1⟩; have hc10 := Qi hw1 (by simp) 10; have hb1 := Qc (Qd _ _) hw1; clear hw1)
    go_ret
    exact ⟨QH HE.out.symm, hb1⟩
theorem QhV {l : List Crt} (h24 : l.length ≤ 24) (k : Nat) (hk : k < l.length) (h : certB l[k] = false) : certsE l = 2 := by
 unfold certsE
 rw [if_pos h24, if_neg]
 intro g
 have := List.all_eq_true.1 g l[k] (List.getElem_mem hk)
 rw [h] at this
 cases this
theorem QhW {l : List Crt} (h24 : l.length ≤ 24) (h : ∀ j (hj : j < l.length), certB l[j] = true) : certsE l = 0 := by
 unfold certsE
 rw [if_pos h24, if_pos]
 rw [List.all_eq_true]
 intro x hx
 obtain ⟨j, hj, rfl⟩ := List.mem_iff_getElem.1 hx
 exact h j hj
set_option maxHeartbeats 1600000 in
theorem Qfa (v : Value) (f : Frm) (w : World) (hv : FrmAt w v f) :
 Calls Tryz.prog 140 #[v] w fun e w' => e = .returned (.int .i64 (loadE f)) ∧ Below w.heap.size w w' := by
 obtain ⟨vl, vg, vc, rfl, hl, hg, hc⟩ := hv
 have hm := Qca hl hg
 obtain ⟨pl, cl, rfl, _⟩ := id hl
 obtain ⟨pg, cg, rfl, _⟩ := id hg
 obtain ⟨pc, cc, rfl, hlc, hcap, hcells⟩ := id hc
 unfold frmV
 have he : loadE f = if mailE f.mail = 0 then (if f.mail.host = f.fr then certsE f.certs else 1) else mailE f.mail := rfl
 by_cases h1 : mailE f.mail = 0
 rotate_left
 · have HE : Hid (loadE f = mailE f.mail) := hid (by rw [if_neg h1] at he; exact he)
   have hne : (mailE f.mail != 0) = true := by simpa using h1
   clear he
   go_enter Tryz.func140, Tryz.ntmps140
   go_wp2_with (go_at_call 89; refine (Q0 _ f.mail _ (hm.below (Qd _ _))).mono ?_; rintro e w1 ⟨rfl, hw1⟩)
   go_ret
   exact ⟨QH HE.out.symm, Qc (Qd _ _) hw1⟩
 rw [if_pos h1] at he
 by_cases h2 : f.mail.host = f.fr
 rotate_left
 · have HE : Hid (loadE f = 1) := hid (by rw [if_neg h2] at he; exact he)
   have hne : (f.mail.host != f.fr) = true := by simpa using h2
   clear he
   go_enter Tryz.func140, Tryz.ntmps140
   go_wp2_with (go_at_call 89; refine (Q0 _ f.mail _ (hm.below (Qd _ _))).mono ?_; rintro e w1 ⟨rfl, hw1⟩; have hc5 := Qi hw1 (by simp) 5; have hc0 := Qi hw1 (by simp) 0; have hb1 := Qc (Qd _ _) hw1; clear hw1)
   go_ret
   exact ⟨QH HE.out.symm, hb1⟩
 rw [if_pos h2] at he
 have hne : (f.mail.host != f.fr) = false := by simpa using h2
 have H2 : Hid (f.mail.host = f.fr) := h2
 clear h2
 by_cases h3 : f.certs.length ≤ 24
 rotate_left
 · have HE : Hid (loadE f = 5) := hid (by unfold certsE at he; rw [if_neg h3] at he; exact he)
   clear he
   go_enter Tryz.func140, Tryz.ntmps140
   go_wp2_with (go_at_call 89; refine (Q0 _ f.mail _ (hm.below (Qd _ _))).mono ?_; rintro e w1 ⟨rfl, hw1⟩; have hc5 := Qi hw1 (by simp) 5; have hc0 := Qi hw1 (by simp) 0; have hc10 := Qi hw1 (by simp) 10; have hb1 := Qc (Qd _ _) hw1; clear hw1)
   go_ret
   exact ⟨QH HE.out.symm, hb1⟩
 have HE : Hid (loadE f = certsE f.certs) := he
 clear he
 go_enter Tryz.func140, Tryz.ntmps140
 go_wp2_with (go_at_call 89; refine (Q0 _ f.mail _ (hm.below (Qd _ _))).mono ?_; rintro e w1 ⟨rfl, hw1⟩; have hc5 := Qi hw1 (by simp) 5; have hc0 := Qi hw1 (by simp) 0; have hc10 := Qi hw1 (by simp) 10; have hb1 := Qc (Qd _ _) hw1; clear hw1)
 go_loopw [25] (fun i wr => ∃ k : Nat, k ≤ f.certs.length ∧ i = .int .i64 k ∧ (∀ j (hj : j < k) (hj' : j < f.certs.length), certB f.certs[j] = true) ∧ Below w.heap.size w wr) (fun i _ => f.certs.length - (intOf i).toNat)
 case atStart => exact ⟨0, Nat.zero_le _, rfl, fun j hj => absurd hj (Nat.not_lt_zero _), hb1⟩
 case round =>
  clear hc5 hc0 hc10 hb1
  obtain ⟨k, hk, rfl, hlev0, hb⟩ := hrel
  have HL : Hid (∀ j (hj : j < k) (hj' : j < f.certs.length), certB f.certs[j] = true) := hlev0
  clear hlev0
  have hsz := hb.size
  by_cases hlt : k < f.certs.length
  · obtain ⟨b, o, rfl, hc4⟩ := hcells (by omega)
    obtain ⟨g1, g2, g3, g4⟩ := hc4.below hb k hlt
    have hcert := fun wx => Qbu f.certs[k] wx
    unfold crtV at hcert
    clear hcells hc4
    cases hcb : certB f.certs[k] with
    | false =>
     have HG : Hid (certsE f.certs = 2) := QhV h3 k hlt hcb
     go_wp2_with (go_at_call 86; refine (hcert _).mono ?_; rintro e w2 ⟨rfl, hw2⟩)
     go_ret
     exact ⟨QH (by rw [HE.out, HG.out]), Qc (hb.alloc hsz _) hw2⟩
    | true =>
     have HG : Hid (certB f.certs[k] = true) := hcb
     go_wp2_with (go_at_call 86; refine (hcert _).mono ?_; rintro e w2 ⟨rfl, hw2⟩)
     go_roundw
     case rel => exact ⟨k + 1, hlt, by go_num, fun j hj hj' => by
      by_cases e : j = k
      · subst e; exact HG.out
      · exact HL.out j (by omega) hj', Qc (hb.alloc hsz _) hw2⟩
     case measure => simp [intOf]; omega
  · have HG : Hid (certsE f.certs = 0) := QhW h3 (fun j hj => HL.out j (by omega) hj)
    go_wp2
    go_ret
    exact ⟨QH (by rw [HE.out, HG.out]), hb⟩
set_option maxHeartbeats 1600000 in
theorem Qel (v : Value) (f : Frm) (w : World) (hv : FrmAt w v f) :
 Calls Tryz.prog 102 #[v] w fun e w' => e = .returned (.int .i64 (frameE f)) ∧ Below w.heap.size w w' := by
 have hv0 := hv
 obtain ⟨vl, vg, vc, rfl, hl, hg, hc⟩ := hv
 obtain ⟨pl, cl, rfl, _⟩ := id hl
 obtain ⟨pg, cg, rfl, _⟩ := id hg
 obtain ⟨pc, cc, rfl, _⟩ := id hc
 have hans := fun wx (h : Below w.heap.size w wx) => Qd2 _ f wx (hv0.below h)
 have hload := fun wx (h : Below w.heap.size w wx) => Qfa _ f wx (hv0.below h)
 unfold frmV at hans hload ⊢
 have he : frameE f = if headB f then (if f.ack then answerE f else loadE f) else 2 := rfl
 have hh : headB f = (twoB f.fr f.to && !(f.seq == 0) && timeB f.seq && hostB f.thread) := rfl
 clear hv0
 cases h1 : twoB f.fr f.to with
 | false =>
  have HE : Hid (frameE f = 2) := hid (by rw [h1] at hh; simp at hh; rw [hh] at he; simpa using he)
  clear he hh
  go_enter Tryz.func102, Tryz.ntmps102
  go_wp2_with (go_at_call 124; refine (Qas _ _ _).mono ?_; rintro e w' ⟨rfl, rfl⟩)
  go_ret
  exact ⟨QH HE.out.symm, Qd _ _⟩
 | true =>
  rw [h1] at hh
  cases h2 : (f.seq == 0) with
  | true =>
   have HE : Hid (frameE f = 2) := hid (by rw [h2] at hh; simp at hh; rw [hh] at he; simpa using he)
   clear he hh
   go_enter Tryz.func102, Tryz.ntmps102
   go_wp2_with (go_at_call 124; refine (Qas _ _ _).mono ?_; rintro e w' ⟨rfl, rfl⟩)
   go_ret
   exact ⟨QH HE.out.symm, Qd _ _⟩
  | false =>
   rw [h2] at hh
   cases h3 : timeB f.seq with
   | false =>
    have HE : Hid (frameE f = 2) := hid (by rw [h3] at hh; simp at hh; rw [hh] at he; simpa using he)
    clear he hh
    go_enter Tryz.func102, Tryz.ntmps102
    go_wp2_with (first | (go_at_call 124; refine (Qas _ _ _).mono ?_; rintro e w' ⟨rfl, rfl⟩) | (go_at_call 125; refine (QaZ _ _).mono ?_; rintro e w' ⟨rfl, rfl⟩))
    go_ret
    exact ⟨QH HE.out.symm, Qd _ _⟩
   | true =>
    rw [h3] at hh
    cases h4 : hostB f.thread with
    | false =>
     have HE : Hid (frameE f = 2) := hid (by rw [h4] at hh; simp at hh; rw [hh] at he; simpa using he)
     clear he hh
     go_enter Tryz.func102, Tryz.ntmps102
     go_wp2_with (first | (go_at_call 124; refine (Qas _ _ _).mono ?_; rintro e w' ⟨rfl, rfl⟩) | (go_at_call 125; refine (QaZ _ _).mono ?_; rintro e w' ⟨rfl, rfl⟩) | (go_at_call 127; refine (Qaa _ _).mono ?_; rintro e w' ⟨rfl, rfl⟩))
     go_ret
     exact ⟨QH HE.out.symm, Qd _ _⟩
    | true =>
     rw [h4] at hh
     have hh' : headB f = true := by rw [hh]; rfl
     rw [hh', if_pos rfl] at he
     cases h5 : f.ack with
     | true =>
      have HE : Hid (frameE f = answerE f) := hid (by rw [h5] at he; simpa using he)
      rw [h5] at hans
      clear he hh hload hh'
      go_enter Tryz.func102, Tryz.ntmps102
      go_wp2_with (first | (go_at_call 124; refine (Qas _ _ _).mono ?_; rintro e w' ⟨rfl, rfl⟩) | (go_at_call 125; refine (QaZ _ _).mono ?_; rintro e w' ⟨rfl, rfl⟩) | (go_at_call 127; refine (Qaa _ _).mono ?_; rintro e w' ⟨rfl, rfl⟩) | (go_at_call 139; refine (hans _ (Qd _ _)).mono ?_; rintro e w1 ⟨rfl, hw1⟩))
      go_ret
      exact ⟨QH HE.out.symm, Qc (Qd _ _) hw1⟩
     | false =>
      have HE : Hid (frameE f = loadE f) := hid (by rw [h5] at he; simpa using he)
      rw [h5] at hload
      clear he hh hans hh'
      go_enter Tryz.func102, Tryz.ntmps102
      go_wp2_with (first | (go_at_call 124; refine (Qas _ _ _).mono ?_; rintro e w' ⟨rfl, rfl⟩) | (go_at_call 125; refine (QaZ _ _).mono ?_; rintro e w' ⟨rfl, rfl⟩) | (go_at_call 127; refine (Qaa _ _).mono ?_; rintro e w' ⟨rfl, rfl⟩) | (go_at_call 140; refine (hload _ (Qd _ _)).mono ?_; rintro e w1 ⟨rfl, hw1⟩))
      go_ret
      exact ⟨QH HE.out.symm, Qc (Qd _ _) hw1⟩
set_option maxHeartbeats 800000 in
theorem Qdd (va vb : Value) (l : List Int) (w : World) (ha : IntsAt w va l) (hb : IntsAt w vb l) :
 Calls Tryz.prog 17 #[va, vb] w fun e w' => e = .returned (.bool true) ∧ Below w.heap.size w w' := by
 obtain ⟨p, cap, rfl, _, _, hca⟩ := ha
 obtain ⟨q, cap', rfl, _, _, hcb⟩ := hb
 go_enter Tryz.func17, Tryz.ntmps17
 go_wp2
 go_loopw [5] (fun i wr => ∃ k n : Nat, k ≤ l.length ∧ i = .int .i64 k ∧ wr = w.drewN n) (fun i _ => l.length - (intOf i).toNat)
 case atStart => exact ⟨0, 0, Nat.zero_le _, rfl, rfl⟩
 case round =>
  obtain ⟨k, n, hk, rfl, rfl⟩ := hrel
  by_cases hlt : k < l.length
  · obtain ⟨ba, oa, rfl, hcA⟩ := hca (by omega)
    obtain ⟨bb, ob, rfl, hcB⟩ := hcb (by omega)
    have ga := hcA k hlt
    have gb := hcB k hlt
    have hI : (k : Int) < (l.length : Int) := by omega
    clear hca hcb hcA hcB
    go_wp2_with fail
    go_quiet (fail)
    go_wp2
    go_roundw
    case rel => exact ⟨k + 1, _, hlt, by go_num, by first | rfl | (rw [World.drewN_drewN])⟩
    case measure => simp [intOf]; omega
  · go_wp2
    go_ret
    exact ⟨rfl, Qv _ _⟩
end Go.Proofs.YtlbdaklmlknmbaaGreat
