/- Plain facts on frames and bytes: a good frame is read back from its bytes, bytes that are read are the bytes of what is read, and a beginning of them is no frame; no program is named here. -/
import Derived.Test.YtgpldlbmjakjhaaGreatQPlainWire
import Derived.Test.YtgpldlbmjakjhaaGreatQCat
namespace Go.Proofs.Parclose

theorem hostB_iff (h : Int) : hostB h = true ↔ 0 ≤ h ∧ h < 4 := by unfold hostB; exact decide_eq_true_iff
theorem catB_iff (h : Int) : catB h = true ↔ 0 ≤ h ∧ h < 80 := by unfold catB; exact decide_eq_true_iff

theorem grantsB_iff (l : List Int) : grantsB l = true ↔ l.length ≤ 8 ∧ (∀ x ∈ l, 0 ≤ x ∧ x < 80) ∧ l.Pairwise (· < ·) := by unfold grantsB; exact decide_eq_true_iff

theorem mailE_zero {m : Mal} (h : mailE m = 0) : (0 ≤ m.host ∧ m.host < 4) ∧ (0 ≤ m.thread ∧ m.thread < 4) ∧ goodB m.label = true ∧ grantsB m.grants = true ∧ m.text.length ≤ 64 := by
  unfold mailE at h
  split at h
  · rename_i h1
    simp only [Bool.and_eq_true, hostB_iff] at h1
    split at h
    · exact ⟨h1.1.1.1, h1.1.1.2, h1.1.2, h1.2, by assumption⟩
    · simp at h
  · simp at h

theorem certsE_zero {l : List Crt} (h : certsE l = 0) : l.length ≤ 24 ∧ ∀ x ∈ l, certB x = true := by
  unfold certsE at h
  split at h
  · split at h
    · rename_i h1 h2
      exact ⟨h1, List.all_eq_true.1 h2⟩
    · simp at h
  · simp at h

theorem loadE_zero {f : Frm} (h : loadE f = 0) : mailE f.mail = 0 ∧ f.mail.host = f.fr ∧ certsE f.certs = 0 := by
  unfold loadE at h
  split at h
  · split at h
    · exact ⟨by assumption, by assumption, h⟩
    · simp at h
  · exact absurd h (by assumption)

theorem only {s : List UInt8} (h : (decL s).2 = 0) : encL (decL s).1 = s ∧ frameE (decL s).1 = 0 := by
  unfold decL at h ⊢
  by_cases hd : doneB (frameT (s, false)).2 = true
  · rw [if_pos hd] at h ⊢
    by_cases he : frameE (frameT (s, false)).1 = 0
    · rw [if_pos he]
      refine ⟨?_, he⟩
      simp only [doneB, Bool.and_eq_true, Bool.not_eq_true', List.isEmpty_iff] at hd
      have e := congrArg Prod.fst (frame1 hd.1)
      simp only [hd.2, List.append_nil] at e
      exact e.symm
    · rw [if_neg he] at h
      exact absurd h he
  · rw [if_neg hd] at h
    simp at h

end Go.Proofs.Parclose

namespace Go.Proofs.YtgpldlbmjakjhaaGreat
open Go.RowKit Go.Proofs.Parclose

theorem isThread_any (c : Int) (w : World) : Calls Tryz.prog 38 #[.int .i64 c] w fun e w' => e = .returned (.bool (hostB c)) ∧ w' = w := by
  unfold hostB
  by_cases h1 : 0 ≤ c
  · by_cases h2 : c < 4
    · go_enter Tryz.func38, Tryz.ntmps38
      go_wp2
      go_ret
      exact ⟨ret_bool (by simp [h1, h2]), rfl⟩
    · go_enter Tryz.func38, Tryz.ntmps38
      go_wp2
      go_ret
      exact ⟨ret_bool (by simp [h2]), rfl⟩
  · go_enter Tryz.func38, Tryz.ntmps38
    go_wp2
    go_ret
    exact ⟨ret_bool (by simp; omega), rfl⟩
end Go.Proofs.YtgpldlbmjakjhaaGreat

namespace Go.Proofs.YtgpldlbmjakjhaaGreat
open Go.RowKit Go.Proofs.Parclose

theorem grantsB_long {l : List Int} (h : 8 < l.length) : grantsB l = false := by
  unfold grantsB
  exact decide_eq_false fun g => by omega
theorem grantsB_cat {l : List Int} (k : Nat) (hk : k < l.length) (h : catB l[k] = false) : grantsB l = false := by
  unfold grantsB
  refine decide_eq_false fun g => ?_
  have := g.2.1 l[k] (List.getElem_mem hk)
  exact absurd ((catB_iff _).2 this) (by simp [h])
theorem grantsB_turn {l : List Int} (k : Nat) (hk : k + 1 < l.length) (h : l[k + 1] ≤ l[k]) : grantsB l = false := by
  unfold grantsB
  refine decide_eq_false fun g => ?_
  have := List.pairwise_iff_getElem.1 g.2.2 k (k + 1) (by omega) hk (by omega)
  omega
theorem rising_pairwise {l : List Int} (h : ∀ j (hj : j + 1 < l.length), l[j] < l[j + 1]) : l.Pairwise (· < ·) := by
  rw [List.pairwise_iff_getElem]
  intro i j hi hj hij
  induction j with
  | zero => omega
  | succ j ih =>
    have h1 := h j hj
    by_cases e : i = j
    · subst e; exact h1
    · have := ih (by omega) (by omega)
      omega
theorem grantsB_all {l : List Int} (h8 : l.length ≤ 8) (h1 : ∀ j (hj : j < l.length), catB l[j] = true) (h2 : ∀ j (hj : j + 1 < l.length), l[j] < l[j + 1]) : grantsB l = true := by
  refine (grantsB_iff l).2 ⟨h8, fun x hx => ?_, rising_pairwise h2⟩
  obtain ⟨j, hj, rfl⟩ := List.mem_iff_getElem.1 hx
  exact (catB_iff _).1 (h1 j hj)

set_option maxHeartbeats 800000 in
theorem areGrants_any (v : Value) (l : List Int) (w : World) (hv : IntsAt w v l) :
    Calls Tryz.prog 39 #[v] w fun e w' => e = .returned (.bool (grantsB l)) ∧ w' = w := by
  obtain ⟨p, cap, rfl, hlc, hcap, hcells⟩ := hv
  by_cases h8 : l.length ≤ 8
  rotate_left
  · have HG : Hid (grantsB l = false) := grantsB_long (l := l) (by omega)
    go_enter Tryz.func39, Tryz.ntmps39
    go_wp2
    go_ret
    exact ⟨ret_bool HG.out.symm, rfl⟩
  go_enter Tryz.func39, Tryz.ntmps39
  go_wp2
  go_loopw [10] (fun i wr => ∃ k : Nat, k ≤ l.length ∧ i = .int .i64 k ∧ (∀ j (hj : j < k) (hj' : j < l.length), catB l[j] = true) ∧ (∀ j (hj : j + 1 < k) (hj' : j + 1 < l.length), l[j] < l[j + 1]) ∧ w = wr) (fun i _ => l.length - (intOf i).toNat)
  case atStart => exact ⟨0, Nat.zero_le _, rfl, fun j hj => absurd hj (Nat.not_lt_zero _), fun j hj => absurd hj (Nat.not_lt_zero _), rfl⟩
  case round =>
    obtain ⟨k, hk, rfl, hlev0, hup0, rfl⟩ := hrel
    have HL : Hid (∀ j (hj : j < k) (hj' : j < l.length), catB l[j] = true) := hlev0
    have HU : Hid (∀ j (hj : j + 1 < k) (hj' : j + 1 < l.length), l[j] < l[j + 1]) := hup0
    clear hlev0 hup0
    by_cases hlt : k < l.length
    · obtain ⟨b, o, rfl, hc⟩ := hcells (by omega)
      have hc1 := hc k hlt
      cases hcat : catB l[k] with
      | false =>
        have HG : Hid (grantsB l = false) := grantsB_cat k hlt hcat
        clear hcells hc
        go_wp2_with (go_at_call 35; refine (category_any _ _).mono ?_; rintro e w' ⟨rfl, rfl⟩)
        go_ret
        exact ⟨ret_bool HG.out.symm, rfl⟩
      | true =>
        have HY : Hid (catB l[k] = true) := hcat
        clear hcells
        by_cases h0 : k = 0
        · have hd : decide ((k : Int) > 0) = false := by simp; omega
          have hd2 : ¬ (0 < (k : Int)) := by omega
          have hd3 : ¬ (0 < k) := by omega
          have hd4 : decide (0 < k) = false := decide_eq_false hd3
          have H0 : Hid (k = 0) := h0
          clear hc h0
          go_wp2_with (go_at_call 35; refine (category_any _ _).mono ?_; rintro e w' ⟨rfl, rfl⟩)
          go_roundw
          case rel => exact ⟨k + 1, hlt, by go_num, fun j hj hj' => by
            by_cases e : j = k
            · subst e; exact HY.out
            · exact HL.out j (by omega) hj', fun j hj hj' => absurd hj (by have := H0.out; omega), by first | rfl | trivial⟩
          case measure => simp [intOf]; omega
        · have hd : 0 < k := by omega
          obtain ⟨m, hm⟩ : ∃ m, k = m + 1 := ⟨k - 1, by omega⟩
          have hml : m < l.length := by omega
          have hw : IntKind.i64.wrap ((k : Int) - 1) = (m : Int) := by
            rw [hm, show ((m + 1 : Nat) : Int) - 1 = (m : Int) by omega]
            exact wrap_small (by omega) (by omega)
          have hp1 := hc m hml
          have HM : Hid (k = m + 1) := hm
          clear hc hm h0
          by_cases hge : l[k] ≤ l[m]
          · have HG : Hid (grantsB l = false) := by
              have e := HM.out
              subst e
              exact grantsB_turn m hlt hge
            go_wp2_with (go_at_call 35; refine (category_any _ _).mono ?_; rintro e w' ⟨rfl, rfl⟩)
            go_ret
            exact ⟨ret_bool HG.out.symm, rfl⟩
          · go_wp2_with (go_at_call 35; refine (category_any _ _).mono ?_; rintro e w' ⟨rfl, rfl⟩)
            go_roundw
            case rel => exact ⟨k + 1, hlt, by go_num, fun j hj hj' => by
              by_cases e : j = k
              · subst e; exact HY.out
              · exact HL.out j (by omega) hj', fun j hj hj' => by
              by_cases e : j = m
              · subst e
                have e := HM.out
                subst e
                omega
              · exact HU.out j (by have := HM.out; omega) hj', by first | rfl | trivial⟩
            case measure => simp [intOf]; omega
    · go_wp2
      go_ret
      have e : grantsB l = true := grantsB_all h8 (fun j hj => HL.out j (by omega) hj) (fun j hj => HU.out j (by omega) hj)
      exact ⟨ret_bool e.symm, rfl⟩
end Go.Proofs.YtgpldlbmjakjhaaGreat

namespace Go.Proofs.YtgpldlbmjakjhaaGreat
open Go.RowKit Go.Proofs.Parclose

set_option maxHeartbeats 1600000 in
theorem hasAny_any (v : Value) (m : Mal) (w : World) (hv : MalAt w v m) :
    Calls Tryz.prog 64 #[v] w fun e w' => e = .returned (.bool (!emptyB m)) ∧ Below w.heap.size w w' := by
  obtain ⟨vl, vg, rfl, ⟨pl, cl, rfl, _⟩, ⟨pg, cg, rfl, _⟩⟩ := hv
  unfold emptyB malV
  obtain ⟨mh, mt, ml, mg, mx⟩ := m
  have hh : (mh != 0) = !(mh == 0) := rfl
  have ht : (mt != 0) = !(mt == 0) := rfl
  cases h1 : (mh == 0) with
  | false =>
    rw [h1] at hh
    go_enter Tryz.func64, Tryz.ntmps64
    go_wp2
    go_ret
    exact ⟨ret_bool (by simp), below_box _ _⟩
  | true =>
    rw [h1] at hh
    cases h2 : (mt == 0) with
    | false =>
      rw [h2] at ht
      go_enter Tryz.func64, Tryz.ntmps64
      go_wp2
      go_ret
      exact ⟨ret_bool (by simp), below_box _ _⟩
    | true =>
      rw [h2] at ht
      cases ml with
      | cons x r =>
        go_enter Tryz.func64, Tryz.ntmps64
        go_wp2
        go_ret
        exact ⟨ret_bool (by simp), below_box _ _⟩
      | nil =>
        cases mg with
        | cons x r =>
          go_enter Tryz.func64, Tryz.ntmps64
          go_wp2
          go_ret
          exact ⟨ret_bool (by simp), below_box _ _⟩
        | nil =>
          cases mx with
          | cons x r =>
            go_enter Tryz.func64, Tryz.ntmps64
            go_wp2
            go_ret
            exact ⟨ret_bool (by simp), below_box _ _⟩
          | nil =>
            go_enter Tryz.func64, Tryz.ntmps64
            go_wp2
            go_ret
            exact ⟨ret_bool (by simp), below_box _ _⟩
end Go.Proofs.YtgpldlbmjakjhaaGreat
