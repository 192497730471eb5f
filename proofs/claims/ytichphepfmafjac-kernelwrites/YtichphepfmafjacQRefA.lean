/- The answers of the reference: At, in, IsCategory, GoodLabel, SameLabel, the copies, and that parcloselaw.flows answers true. -/
import Derived.Test.YtichphepfmafjacQFromA
import Derived.Laws.AppendOwnNone
namespace Go.Proofs.Ytichphepfmafjac
open Go.RowKit Go.Proofs.Parclose

set_option maxHeartbeats 400000 in
theorem rat_any (v : Value) (l : List (Int × Int)) (c : Int) (w : World) (hv : LabAt w v l) :
    Calls Try.prog 94 #[v, .int .i64 c] w fun e w' => e = .returned (.int .i64 (atL l c)) ∧ Below w.heap.size w w' := by
  obtain ⟨p, cap, rfl, hlc, hcap, hcells⟩ := hv
  go_enter Try.func94, Try.ntmps94
  go_wp2
  go_loopw [9] (fun i wr => ∃ k : Nat, k ≤ l.length ∧ i = .int .i64 k ∧ (∀ j (hj : j < k) (hj' : j < l.length), l[j].1 ≠ c) ∧ Below w.heap.size w wr) (fun i _ => l.length - (intOf i).toNat)
  case atStart => exact ⟨0, Nat.zero_le _, rfl, fun j hj => absurd hj (Nat.not_lt_zero _), Below.refl _ _⟩
  case round =>
    obtain ⟨k, hk, rfl, hno, hb⟩ := hrel
    by_cases hlt : k < l.length
    · obtain ⟨b, o, rfl, hc⟩ := hcells (by omega)
      obtain ⟨hc1, hc2⟩ := (hc.below hb) k hlt
      have hsz := hb.size
      have HN : Hid (∀ j (hj : j < k) (hj' : j < l.length), l[j].1 ≠ c) := hno
      clear hno hcells
      by_cases heq : l[k].1 = c
      · have he : (l[k].1 == c) = true := by simpa using heq
        have HE := atL_some l c k hlt (fun j hj => HN.out j hj (by omega)) heq
        have HH : Hid (atL l c = l[k].2) := HE
        clear HE heq
        go_wp2
        go_ret
        exact ⟨ret_int HH.out.symm, hb.alloc hsz _⟩
      · have he : (l[k].1 == c) = false := by simpa using heq
        have HH : Hid (l[k].1 ≠ c) := heq
        clear heq
        go_wp2
        go_roundw
        case rel => exact ⟨k + 1, hlt, by go_num, fun j hj hj' => by
          by_cases e : j = k
          · subst e; exact HH.out
          · exact HN.out j (by omega) hj', hb.alloc hsz _⟩
        case measure => simp [intOf]; omega
    · go_wp2
      go_ret
      have e : atL l c = 1 := atL_none l c fun j hj => hno j (by omega) hj
      exact ⟨ret_int e.symm, hb⟩

set_option maxHeartbeats 800000 in
theorem rsame_any (va vb : Value) (a b : List (Int × Int)) (w : World) (ha : LabAt w va a) (hb : LabAt w vb b) :
    Calls Try.prog 65 #[va, vb] w fun e w' => e = .returned (.bool (sameB a b)) ∧ Below w.heap.size w w' := by
  obtain ⟨p, cap, rfl, hlc, hcap, hca⟩ := ha
  obtain ⟨q, cap', rfl, hlc', hcap', hcb⟩ := hb
  by_cases hl : a.length = b.length
  rotate_left
  · have HS : Hid (sameB a b = false) := sameB_len hl
    have hl' : ((a.length : Int) != (b.length : Int)) = true := by rw [bne_iff_ne]; omega
    go_enter Try.func65, Try.ntmps65
    go_wp2
    go_ret
    exact ⟨ret_bool HS.out.symm, Below.refl _ _⟩
  have hl' : ((a.length : Int) != (b.length : Int)) = false := by rw [bne_eq_false_iff_eq]; omega
  have HL : Hid (a.length = b.length) := hl
  have hlb : b.length ≤ a.length := by omega
  have hla : a.length ≤ b.length := by omega
  clear hl
  have hgd := guard_level
  go_enter Try.func65, Try.ntmps65
  go_wp2
  go_loopw [13] (fun i wr => ∃ k n : Nat, k ≤ a.length ∧ i = .int .i64 k ∧ (∀ j (hj : j < k) (hja : j < a.length) (hjb : j < b.length), a[j] = b[j]) ∧ wr = w.drewN n) (fun i _ => a.length - (intOf i).toNat)
  case atStart => exact ⟨0, 0, Nat.zero_le _, rfl, fun j hj => absurd hj (Nat.not_lt_zero _), rfl⟩
  case round =>
    obtain ⟨k, n, hk, rfl, heq0, rfl⟩ := hrel
    have HE : Hid (∀ j (hj : j < k) (hja : j < a.length) (hjb : j < b.length), a[j] = b[j]) := heq0
    clear heq0
    by_cases hlt : k < a.length
    · obtain ⟨ba, oa, rfl, hcA⟩ := hca (by omega)
      obtain ⟨bb, ob, rfl, hcB⟩ := hcb (by omega)
      have hkb : k < b.length := by omega
      obtain ⟨ga1, ga2⟩ := hcA k hlt
      obtain ⟨gb1, gb2⟩ := hcB k hkb
      have hne := fun w => neq_level a[k] b[k] w
      clear hca hcb hcA hcB
      cases hd : decide (a[k] = b[k]) with
      | true =>
        rw [hd] at hne
        have hk2 : a[k] = b[k] := of_decide_eq_true hd
        have HK : Hid (a[k] = b[k]) := hk2
        clear hk2
        clear hd
        go_wp2_with fail
        go_quiet (fail)
        go_wp2
        go_roundw
        case rel => exact ⟨k + 1, n + nq, hlt, by go_num, fun j hj hja hjb => by
          by_cases e : j = k
          · subst e; exact HK.out
          · exact HE.out j (by omega) hja hjb, rfl⟩
        case measure => simp [intOf]; omega
      | false =>
        rw [hd] at hne
        have HS : Hid (sameB a b = false) := sameB_elem k hlt hkb (of_decide_eq_false hd)
        clear hd
        go_wp2_with fail
        go_quiet (fail)
        go_wp2
        go_ret
        exact ⟨ret_bool HS.out.symm, by rw [World.drewN_drewN]; exact below_drewN _ _⟩
    · go_wp2
      go_ret
      have e : sameB a b = true := sameB_all HL.out fun j hja hjb => HE.out j (by omega) hja hjb
      exact ⟨ret_bool e.symm, below_drewN _ _⟩

theorem rcat_any (c : Int) (w : World) : Calls Try.prog 95 #[.int .i64 c] w fun e w' => e = .returned (.bool (catB c)) ∧ w' = w := by
  unfold catB
  by_cases h1 : 0 ≤ c
  · by_cases h2 : c ≤ 79
    · go_enter Try.func95, Try.ntmps95
      go_wp2
      go_ret
      exact ⟨ret_bool (by simp; omega), rfl⟩
    · go_enter Try.func95, Try.ntmps95
      go_wp2
      go_ret
      exact ⟨ret_bool (by simp; omega), rfl⟩
  · go_enter Try.func95, Try.ntmps95
    go_wp2
    go_ret
    exact ⟨ret_bool (by simp; omega), rfl⟩

set_option maxHeartbeats 400000 in
theorem rin_any (v : Value) (zs : List Int) (c : Int) (w : World) (hv : IntsAt w v zs) :
    Calls Try.prog 63 #[v, .int .i64 c] w fun e w' => e = .returned (.bool (hasB zs c)) ∧ w' = w := by
  obtain ⟨p, cap, rfl, hlc, hcap, hcells⟩ := hv
  go_enter Try.func63, Try.ntmps63
  go_wp2
  go_loop [9] (fun i => ∃ k : Nat, k ≤ zs.length ∧ i = .int .i64 k ∧ (∀ j (hj : j < k) (hj' : j < zs.length), zs[j] ≠ c)) (fun i => zs.length - (intOf i).toNat)
  case atStart => exact ⟨0, Nat.zero_le _, rfl, fun j hj => absurd hj (Nat.not_lt_zero _)⟩
  case round =>
    obtain ⟨k, hk, rfl, hno⟩ := hrel
    by_cases hlt : k < zs.length
    · obtain ⟨b, o, rfl, hc⟩ := hcells (by omega)
      have hc1 := hc k hlt
      have HN : Hid (∀ j (hj : j < k) (hj' : j < zs.length), zs[j] ≠ c) := hno
      clear hno hcells hc
      by_cases heq : zs[k] = c
      · have he : (zs[k] == c) = true := by simpa using heq
        have HH : Hid (hasB zs c = true) := by
          subst heq
          have : zs[k] ∈ zs := List.getElem_mem hlt
          simp [Hid, hasB]
        clear heq
        go_wp2
        go_ret
        exact ⟨ret_bool HH.out.symm, rfl⟩
      · have he : (zs[k] == c) = false := by simpa using heq
        have HH : Hid (zs[k] ≠ c) := heq
        clear heq
        go_wp2
        go_round
        case rel => exact ⟨k + 1, hlt, by go_num, fun j hj hj' => by
          by_cases e : j = k
          · subst e; exact HH.out
          · exact HN.out j (by omega) hj'⟩
        case measure => simp [intOf]; omega
    · go_wp2
      go_ret
      have e : hasB zs c = false := by
        cases h : hasB zs c with
        | false => rfl
        | true =>
          have hm : c ∈ zs := by simpa [hasB] using h
          obtain ⟨j, hj, e⟩ := List.mem_iff_getElem.1 hm
          exact absurd e (hno j (by omega) hj)
      exact ⟨ret_bool e.symm, rfl⟩

end Go.Proofs.Ytichphepfmafjac
