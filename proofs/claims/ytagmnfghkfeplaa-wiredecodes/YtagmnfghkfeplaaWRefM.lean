/- The reference: GoodCert, GoodMail, and SameMail with mail that has nothing, answer what the document says. -/
import Derived.Test.YtagmnfghkfeplaaWRef
import Derived.Test.YtagmnfghkfeplaaWTakeM
namespace Go.Proofs.Ytagmnfghkfeplaa
open Go.RowKit Go.Proofs.Parclose

theorem heap_keep' {w w' : World} {b : Nat} {o : Obj} (h : w.heap[b]? = some o) (hb : Below w.heap.size w w') : w'.heap[b]? = some o := by rw [hb.block b (heap_lt h), h]

theorem grantsB_of {l : List Int} (h1 : ∀ j (hj : j < l.length), catB l[j] = true) (h2 : ∀ j (hj : j + 1 < l.length), l[j] < l[j + 1]) : grantsB l = decide (l.length ≤ 8) := by
  by_cases h8 : l.length ≤ 8
  · rw [grantsB_all h8 h1 h2]; simp [h8]
  · rw [grantsB_long (by omega)]; simp [h8]

set_option maxHeartbeats 1600000 in
theorem rgoodMail_any (v : Value) (m : Mal) (w : World) (hv : MalAt w v m) :
    Calls Try.prog 15 #[v] w fun e w' => e = .returned (.int .i64 (mailE m)) ∧ Below w.heap.size w w' := by
  obtain ⟨vl, vg, rfl, hl, hg⟩ := hv
  obtain ⟨pl, cl, rfl, _⟩ := id hl
  obtain ⟨pg, cg, rfl, _, _, hcells⟩ := id hg
  unfold malV
  have he : mailE m = if hostB m.host && hostB m.thread && goodB m.label && grantsB m.grants then (if m.text.length ≤ 64 then 0 else 9) else 2 := rfl
  have hbad : grantsB m.grants = false → Hid (mailE m = 2) := fun h => hid (by rw [h] at he; simpa using he)
  have HE := hid he
  clear he
  go_enter Try.func15, Try.ntmps15
  go_wp2
  go_loopw [3, 9] (fun s i wr => ∃ (k : Nat) (last : Int), k ≤ m.grants.length ∧ i = .int .i64 k ∧ s = .int .i64 last ∧ -1 ≤ last ∧ (k = 0 → last = -1) ∧ (∀ q (hq : q < m.grants.length), k = q + 1 → last = m.grants[q]) ∧
      (∀ j (hj : j < k) (hj' : j < m.grants.length), catB m.grants[j] = true) ∧ (∀ j (hj : j + 1 < k) (hj' : j + 1 < m.grants.length), m.grants[j] < m.grants[j + 1]) ∧ wr.heap[w.heap.size]? = some (.cells #[.int .i64 m.host, .int .i64 m.thread, .slice pl m.label.length cl, .slice pg m.grants.length cg, .string ⟨m.text.toArray⟩] 26 (0, 0)) ∧ Below w.heap.size w wr) (fun _ i _ => m.grants.length - (intOf i).toNat)
  case atStart => exact ⟨0, -1, Nat.zero_le _, rfl, rfl, by omega, fun _ => rfl, fun q hq h => by omega, fun j hj => absurd hj (Nat.not_lt_zero _), fun j hj => absurd hj (Nat.not_lt_zero _), heap_alloc_new w _, below_box _ _⟩
  case round =>
    obtain ⟨k, last, hk, rfl, rfl, hge, hz0, hm0, hlev0, hup0, hA, hb⟩ := hrel
    have HZ := hid hz0
    have HM := hid hm0
    have HL := hid hlev0
    have HU := hid hup0
    clear hlev0 hup0 hz0 hm0
    by_cases hlt : k < m.grants.length
    · obtain ⟨b, o, rfl, hc⟩ := hcells (by omega)
      have hc1 := (hc.below hb) k hlt
      have HA := hid hA
      clear hcells hc hA
      by_cases hle : m.grants[k] ≤ last
      · have HG := hbad (by
          cases k with
          | zero => exact grantsB_cat 0 hlt (by have := HZ.out rfl; unfold catB; simp; omega)
          | succ q => exact grantsB_turn q hlt (by have := HM.out q (by omega) rfl; omega))
        clear hbad
        go_wp2
        go_ret
        exact ⟨ret_int HG.out.symm, hb⟩
      · by_cases h79 : m.grants[k] ≤ 79
        · have hcat : catB m.grants[k] = true := by unfold catB; simp; omega
          have HC := hid hcat
          have HN : Hid (∀ q, k = q + 1 → ∀ hq : q < m.grants.length, m.grants[q] < m.grants[k]) := hid (fun q hq hq' => by have := HM.out q hq' hq; omega)
          have h80 : ¬ (79 < m.grants[k]) := by omega
          have HQ : Hid (∀ q (hq : q < m.grants.length), k + 1 = q + 1 → m.grants[k] = m.grants[q]) := hid (fun q hq h => by
            have e : k = q := by omega
            subst e
            rfl)
          clear hbad hcat
          go_wp2
          go_roundw
          case rel => exact ⟨k + 1, m.grants[k], hlt, by go_num, rfl, by omega, fun h => by omega, HQ.out, fun j hj hj' => by
            by_cases e : j = k
            · subst e; exact HC.out
            · exact HL.out j (by omega) hj', fun j hj hj' => by
            by_cases e : j + 1 = k
            · subst e; exact HN.out j rfl (by omega)
            · exact HU.out j (by omega) hj', HA.out, hb⟩
          case measure => simp [intOf]; omega
        · have HG := hbad (grantsB_cat k hlt (by unfold catB; simp; omega))
          have h80 : 79 < m.grants[k] := by omega
          clear hbad
          go_wp2
          go_ret
          exact ⟨ret_int HG.out.symm, hb⟩
    · have hgr := grantsB_of (l := m.grants) (fun j hj => HL.out j (by omega) hj) (fun j hj => HU.out j (by omega) hj)
      have HGR := hid hgr
      have hgood := rgood_any _ m.label wr (hl.below hb)
      have c0 := heap_cell hA 0
      have c1 := heap_cell hA 1
      have c2 := heap_cell hA 2
      have c3 := heap_cell hA 3
      have c4 := heap_cell hA 4
      have HA := hid hA
      clear hcells hbad hgr hA
      cases h1 : hostB m.host with
      | false =>
        have H2 : Hid (mailE m = 2) := hid (by rw [HE.out, h1]; simp)
        go_wp2_with (go_at_call 35; refine (rfour_any _ _).mono ?_; rintro e w' ⟨rfl, rfl⟩)
        go_ret
        exact ⟨ret_int H2.out.symm, hb⟩
      | true =>
        cases h2 : hostB m.thread with
        | false =>
          have H2 : Hid (mailE m = 2) := hid (by rw [HE.out, h2]; simp)
          go_wp2_with (go_at_call 35; refine (rfour_any _ _).mono ?_; rintro e w' ⟨rfl, rfl⟩)
          go_ret
          exact ⟨ret_int H2.out.symm, hb⟩
        | true =>
          cases h3 : goodB m.label with
          | false =>
            have H2 : Hid (mailE m = 2) := hid (by rw [HE.out, h3]; simp)
            go_wp2_with (first | (go_at_call 35; refine (rfour_any _ _).mono ?_; rintro e w' ⟨rfl, rfl⟩) | (go_at_call 40; refine hgood.mono ?_; rintro e w1 ⟨rfl, hw1⟩))
            go_ret
            exact ⟨ret_int H2.out.symm, below_then hb hw1⟩
          | true =>
            by_cases h8 : m.grants.length ≤ 8
            · have h8' : ¬ (8 < m.grants.length) := by omega
              by_cases h64 : m.text.length ≤ 64
              · have H2 : Hid (mailE m = 0) := hid (by rw [HE.out, h1, h2, h3, HGR.out, if_pos h64]; simp [h8])
                go_wp2_with (first | (go_at_call 35; refine (rfour_any _ _).mono ?_; rintro e w' ⟨rfl, rfl⟩) | (go_at_call 40; refine hgood.mono ?_; rintro e w1 ⟨rfl, hw1⟩; have hA1 := heap_keep' HA.out hw1; have c3 := heap_cell hA1 3; have c4 := heap_cell hA1 4; clear hA1))
                go_ret
                exact ⟨ret_int H2.out.symm, below_then hb hw1⟩
              · have H2 : Hid (mailE m = 9) := hid (by rw [HE.out, h1, h2, h3, HGR.out, if_neg h64]; simp [h8])
                go_wp2_with (first | (go_at_call 35; refine (rfour_any _ _).mono ?_; rintro e w' ⟨rfl, rfl⟩) | (go_at_call 40; refine hgood.mono ?_; rintro e w1 ⟨rfl, hw1⟩; have hA1 := heap_keep' HA.out hw1; have c3 := heap_cell hA1 3; have c4 := heap_cell hA1 4; clear hA1))
                go_ret
                exact ⟨ret_int H2.out.symm, below_then hb hw1⟩
            · have H2 : Hid (mailE m = 2) := hid (by rw [HE.out, HGR.out]; simp [h8])
              go_wp2_with (first | (go_at_call 35; refine (rfour_any _ _).mono ?_; rintro e w' ⟨rfl, rfl⟩) | (go_at_call 40; refine hgood.mono ?_; rintro e w1 ⟨rfl, hw1⟩; have hA1 := heap_keep' HA.out hw1; have c3 := heap_cell hA1 3; have c4 := heap_cell hA1 4; clear hA1))
              go_ret
              exact ⟨ret_int H2.out.symm, below_then hb hw1⟩
end Go.Proofs.Ytagmnfghkfeplaa
