/- wire.isHost and isThread answer what the document says, and turn nothing. -/
import Derived.Test.YtpdijobakfpnbaaQWMem
import Derived.Test.YtpdijobakfpnbaaQGood
import Derived.Test.YtpdijobakfpnbaaQPlain
import Derived.Test.YtpdijobakfpnbaaQCat
namespace Go.Proofs.Ytpdijobakfpnbaa
open Go.RowKit Go.Proofs.Parclose
theorem Qan (c : Int) (w : World) : Calls Try.prog 50 #[.int .i64 c] w fun e w' => e = .returned (.bool (hostB c)) ∧ w' = w := by
 unfold hostB
 by_cases h1 : 0 ≤ c
 · by_cases h2 : c < 4
   · go_enter Try.func50, Try.ntmps50
     go_wp2
     go_ret
     exact ⟨Qm (by simp [h1, h2]), rfl⟩
   · go_enter Try.func50, Try.ntmps50
     go_wp2
     go_ret
     exact ⟨Qm (by simp [h2]), rfl⟩
 · go_enter Try.func50, Try.ntmps50
   go_wp2
   go_ret
   exact ⟨Qm (by simp; omega), rfl⟩
theorem QbD {l : List Int} (h : 8 < l.length) : grantsB l = false := by
 unfold grantsB
 exact decide_eq_false fun g => by omega
theorem Qa6 {l : List Int} (k : Nat) (hk : k < l.length) (h : catB l[k] = false) : grantsB l = false := by
 unfold grantsB
 refine decide_eq_false fun g => ?_
 have := g.2.1 l[k] (List.getElem_mem hk)
 exact absurd ((Qcw _).2 this) (by simp [h])
theorem QbC {l : List Int} (k : Nat) (hk : k + 1 < l.length) (h : l[k + 1] ≤ l[k]) : grantsB l = false := by
 unfold grantsB
 refine decide_eq_false fun g => ?_
 have := List.pairwise_iff_getElem.1 g.2.2 k (k + 1) (by omega) hk (by omega)
 omega
theorem Qcg {l : List Int} (h : ∀ j (hj : j + 1 < l.length), l[j] < l[j + 1]) : l.Pairwise (· < ·) := by
 rw [List.pairwise_iff_getElem]
 intro i j hi hj hij
 induction j with
 | zero => omega
 | succ j ih =>
  have h1 := h j hj
  by_cases e : i = j
  · subst e; exact h1
  · have := ih (by omega) (by omega)
    omega
theorem Qb5 {l : List Int} (h8 : l.length ≤ 8) (h1 : ∀ j (hj : j < l.length), catB l[j] = true) (h2 : ∀ j (hj : j + 1 < l.length), l[j] < l[j + 1]) : grantsB l = true := by
 refine (Qb4 l).2 ⟨h8, fun x hx => ?_, Qcg h2⟩
 obtain ⟨j, hj, rfl⟩ := List.mem_iff_getElem.1 hx
 exact (Qcw _).1 (h1 j hj)
set_option maxHeartbeats 800000 in
theorem QaJ (v : Value) (l : List Int) (w : World) (hv : IntsAt w v l) :
 Calls Try.prog 52 #[v] w fun e w' => e = .returned (.bool (grantsB l)) ∧ w' = w := by
 obtain ⟨p, cap, rfl, hlc, hcap, hcells⟩ := hv
 by_cases h8 : l.length ≤ 8
 rotate_left
 · have HG : Hid (grantsB l = false) := QbD (l := l) (by omega)
   go_enter Try.func52, Try.ntmps52
   go_wp2
   go_ret
   exact ⟨Qm HG.out.symm, rfl⟩
 go_enter Try.func52, Try.ntmps52
 go_wp2
 go_loopw [10] (fun i wr => ∃ k : Nat, k ≤ l.length ∧ i = .int .i64 k ∧ (∀ j (hj : j < k) (hj' : j < l.length), catB l[j] = true) ∧ (∀ j (hj : j + 1 < k) (hj' : j + 1 < l.length), l[j] < l[j + 1]) ∧ w = wr) (fun i _ => l.length - (intOf i).toNat)
 case atStart => exact ⟨0, Nat.zero_le _, rfl, fun j hj => absurd hj (Nat.not_lt_zero _), fun j hj => absurd hj (Nat.not_lt_zero _), rfl⟩
 case round =>
  obtain ⟨k, hk, rfl, hlev0, hup0, rfl⟩ := hrel
  have HL : Hid (∀ j (hj : j < k) (hj' : j < l.length), catB l[j] = true) := hlev0
  have HU : Hid (∀ j (hj : j + 1 < k) (hj' : j + 1 < l.length), l[j] < l[j + 1]) := hup0
  clear hlev0 hup0
  by_cases hlt : k < l.length
  · obtain ⟨b, o, rfl, hc⟩ := hcells (by omega)
    have hc1 := hc k hlt
    cases hcat : catB l[k] with
    | false =>
     have HG : Hid (grantsB l = false) := Qa6 k hlt hcat
     clear hcells hc
     go_wp2_with (go_at_call 66; refine (QG _ _).mono ?_; rintro e w' ⟨rfl, rfl⟩)
     go_ret
     exact ⟨Qm HG.out.symm, rfl⟩
    | true =>
     have HY : Hid (catB l[k] = true) := hcat
     clear hcells
     by_cases h0 : k = 0
     · have hd : decide ((k : Int) > 0) = false := by simp; omega
       have hd2 : ¬ (0 < (k : Int)) := by omega
       have hd3 : ¬ (0 < k) := by omega
       have hd4 : decide (0 < k) = false := decide_eq_false hd3
       have H0 : Hid (k = 0) := h0
       clear hc h0
       go_wp2_with (go_at_call 66; refine (QG _ _).mono ?_; rintro e w' ⟨rfl, rfl⟩)
       go_roundw
       case rel => exact ⟨k + 1, hlt, by go_num, fun j hj hj' => by
        by_cases e : j = k
        · subst e; exact HY.out
        · exact HL.out j (by omega) hj', fun j hj hj' => absurd hj (by have := H0.out; omega), by first | rfl | trivial⟩
       case measure => simp [intOf]; omega
     · have hd : 0 < k := by omega
       obtain ⟨m, hm⟩ : ∃ m, k = m + 1 := ⟨k - 1, by omega⟩
       have hml : m < l.length := by omega
       have hw : IntKind.i64.wrap ((k : Int) - 1) = (m : Int) := by
        rw [hm, show ((m + 1 : Nat) : Int) - 1 = (m : Int) by omega]
        exact wrap_small (by omega) (by omega)
       have hp1 := hc m hml
       have HM : Hid (k = m + 1) := hm
       clear hc hm h0
       by_cases hge : l[k] ≤ l[m]
       · have HG : Hid (grantsB l = false) := by
          have e := HM.out
          subst e
          exact QbC m hlt hge
         go_wp2_with (go_at_call 66; refine (QG _ _).mono ?_; rintro e w' ⟨rfl, rfl⟩)
         go_ret
         exact ⟨Qm HG.out.symm, rfl⟩
       · go_wp2_with (go_at_call 66; refine (QG _ _).mono ?_; rintro e w' ⟨rfl, rfl⟩)
         go_roundw
         case rel => exact ⟨k + 1, hlt, by go_num, fun j hj hj' => by
          by_cases e : j = k
          · subst e; exact HY.out
          · exact HL.out j (by omega) hj', fun j hj hj' => by
          by_cases e : j = m
          · subst e
            have e := HM.out
            subst e
            omega
          · exact HU.out j (by have := HM.out; omega) hj', by first | rfl | trivial⟩
         case measure => simp [intOf]; omega
  · go_wp2
    go_ret
    have e : grantsB l = true := Qb5 h8 (fun j hj => HL.out j (by omega) hj) (fun j hj => HU.out j (by omega) hj)
    exact ⟨Qm e.symm, rfl⟩
set_option maxHeartbeats 1600000 in
theorem Qao (v : Value) (m : Mal) (w : World) (hv : MalAt w v m) :
 Calls Try.prog 30 #[v] w fun e w' => e = .returned (.int .i64 (mailE m)) ∧ Below w.heap.size w w' := by
 obtain ⟨vl, vg, rfl, hl, hg⟩ := hv
 obtain ⟨pl, cl, rfl, _⟩ := id hl
 obtain ⟨pg, cg, rfl, _⟩ := id hg
 unfold malV
 have he : mailE m = if hostB m.host && hostB m.thread && goodB m.label && grantsB m.grants then (if m.text.length ≤ 64 then 0 else 9) else 2 := rfl
 cases h1 : hostB m.host with
 | false =>
  have HE : Hid (mailE m = 2) := hid (by rw [h1] at he; simpa using he)
  clear he
  go_enter Try.func30, Try.ntmps30
  go_wp2_with (go_at_call 49; refine (Qaq _ _).mono ?_; rintro e w' ⟨rfl, rfl⟩)
  go_ret
  exact ⟨QH HE.out.symm, Qe _ _⟩
 | true =>
  cases h2 : hostB m.thread with
  | false =>
   have HE : Hid (mailE m = 2) := hid (by rw [h2] at he; simpa using he)
   clear he
   go_enter Try.func30, Try.ntmps30
   go_wp2_with (first | (go_at_call 49; refine (Qaq _ _).mono ?_; rintro e w' ⟨rfl, rfl⟩) | (go_at_call 50; refine (Qan _ _).mono ?_; rintro e w' ⟨rfl, rfl⟩))
   go_ret
   exact ⟨QH HE.out.symm, Qe _ _⟩
  | true =>
   rw [h1, h2] at he
   cases h3 : goodB m.label with
   | false =>
    have HE : Hid (mailE m = 2) := hid (by rw [h3] at he; simpa using he)
    clear he
    go_enter Try.func30, Try.ntmps30
    go_wp2_with (first | (go_at_call 49; refine (Qaq _ _).mono ?_; rintro e w' ⟨rfl, rfl⟩) | (go_at_call 50; refine (Qan _ _).mono ?_; rintro e w' ⟨rfl, rfl⟩) | (go_at_call 51; refine (QaD _ m.label _ (hl.below (Qe _ _))).mono ?_; rintro e w1 ⟨rfl, hw1⟩))
    go_ret
    exact ⟨QH HE.out.symm, Qd (Qe _ _) hw1⟩
   | true =>
    rw [h3] at he
    cases h4 : grantsB m.grants with
    | false =>
     have HE : Hid (mailE m = 2) := hid (by rw [h4] at he; simpa using he)
     clear he
     go_enter Try.func30, Try.ntmps30
     go_wp2_with (first | (go_at_call 49; refine (Qaq _ _).mono ?_; rintro e w' ⟨rfl, rfl⟩) | (go_at_call 50; refine (Qan _ _).mono ?_; rintro e w' ⟨rfl, rfl⟩) | (go_at_call 51; refine (QaD _ m.label _ (hl.below (Qe _ _))).mono ?_; rintro e w1 ⟨rfl, hw1⟩; have hc3 := QW hw1 (by simp) 3; have hc4 := QW hw1 (by simp) 4; have hb1 := Qd (Qe _ _) hw1; clear hw1) | (go_at_call 52; refine (QaJ _ m.grants _ (hg.below hb1)).mono ?_; rintro e w' ⟨rfl, rfl⟩))
     go_ret
     exact ⟨QH HE.out.symm, hb1⟩
    | true =>
     rw [h4] at he
     by_cases h5 : m.text.length ≤ 64
     · have HE : Hid (mailE m = 0) := hid (by rw [if_pos h5] at he; simpa using he)
       clear he
       go_enter Try.func30, Try.ntmps30
       go_wp2_with (first | (go_at_call 49; refine (Qaq _ _).mono ?_; rintro e w' ⟨rfl, rfl⟩) | (go_at_call 50; refine (Qan _ _).mono ?_; rintro e w' ⟨rfl, rfl⟩) | (go_at_call 51; refine (QaD _ m.label _ (hl.below (Qe _ _))).mono ?_; rintro e w1 ⟨rfl, hw1⟩; have hc3 := QW hw1 (by simp) 3; have hc4 := QW hw1 (by simp) 4; have hb1 := Qd (Qe _ _) hw1; clear hw1) | (go_at_call 52; refine (QaJ _ m.grants _ (hg.below hb1)).mono ?_; rintro e w' ⟨rfl, rfl⟩))
       go_ret
       exact ⟨QH HE.out.symm, hb1⟩
     · have HE : Hid (mailE m = 9) := hid (by rw [if_neg h5] at he; simpa using he)
       clear he
       go_enter Try.func30, Try.ntmps30
       go_wp2_with (first | (go_at_call 49; refine (Qaq _ _).mono ?_; rintro e w' ⟨rfl, rfl⟩) | (go_at_call 50; refine (Qan _ _).mono ?_; rintro e w' ⟨rfl, rfl⟩) | (go_at_call 51; refine (QaD _ m.label _ (hl.below (Qe _ _))).mono ?_; rintro e w1 ⟨rfl, hw1⟩; have hc3 := QW hw1 (by simp) 3; have hc4 := QW hw1 (by simp) 4; have hb1 := Qd (Qe _ _) hw1; clear hw1) | (go_at_call 52; refine (QaJ _ m.grants _ (hg.below hb1)).mono ?_; rintro e w' ⟨rfl, rfl⟩))
       go_ret
       exact ⟨QH HE.out.symm, hb1⟩
end Go.Proofs.Ytpdijobakfpnbaa
