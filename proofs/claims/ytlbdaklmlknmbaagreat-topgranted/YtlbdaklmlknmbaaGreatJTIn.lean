/- parclosetop.in: is a number in a list? -/
import Derived.Test.YtlbdaklmlknmbaaGreatJWMem
namespace Go.Proofs.YtlbdaklmlknmbaaGreat
open Go.RowKit Go.Proofs.Parclose
set_option maxHeartbeats 800000 in
theorem Qcz (v : Value) (l : List Int) (x : Int) (w : World) (hv : IntsAt w v l) :
 Calls Tryz.prog 12 #[v, .int .i64 x] w fun e w' => e = .returned (.bool (decide (x ∈ l))) ∧ w' = w := by
 obtain ⟨p, cap, rfl, _, _, hca⟩ := hv
 go_enter Tryz.func12, Tryz.ntmps12
 go_wp2
 go_loopw [9] (fun i wr => ∃ k : Nat, k ≤ l.length ∧ i = .int .i64 k ∧ wr = w ∧ ∀ j (hj : j < k) (hl : j < l.length), l[j] ≠ x) (fun i _ => l.length - (intOf i).toNat)
 case atStart => exact ⟨0, Nat.zero_le _, rfl, rfl, fun j hj => absurd hj (Nat.not_lt_zero _)⟩
 case round =>
  obtain ⟨k, hk, rfl, hwr, hno⟩ := hrel
  rw [hwr]
  clear hwr
  by_cases hlt : k < l.length
  · obtain ⟨ba, oa, rfl, hcA⟩ := hca (by omega)
    have ga := hcA k hlt
    have hI : (k : Int) < (l.length : Int) := by omega
    by_cases e : l[k] = x
    · have HM : Hid (x ∈ l) := hid (e ▸ List.getElem_mem hlt)
      rw [e] at ga
      clear hca hcA hno e
      go_wp2
      go_ret
      exact ⟨by rw [decide_eq_true HM.out]; rfl, rfl⟩
    · have HNO := hid hno
      have HE := hid e
      generalize hy : l[k] = y at *
      have HY := hid hy
      have hne : ¬ (y = x) := e
      clear hca hcA hno e hy
      go_wp2
      go_roundw
      case rel => exact ⟨k + 1, hlt, by go_num, by first | rfl | trivial, fun j hj hl => by
       by_cases ej : j = k
       · subst ej; rw [HY.out]; exact HE.out
       · exact HNO.out j (by omega) hl⟩
      case measure => simp [intOf]; omega
  · have HM : Hid (¬ (x ∈ l)) := hid (fun hm => by
     obtain ⟨j, hj, e⟩ := List.getElem_of_mem hm
     exact hno j (by omega) hj e)
    clear hno hca
    go_wp2
    go_ret
    exact ⟨by rw [decide_eq_false HM.out]; rfl, rfl⟩
end Go.Proofs.YtlbdaklmlknmbaaGreat
