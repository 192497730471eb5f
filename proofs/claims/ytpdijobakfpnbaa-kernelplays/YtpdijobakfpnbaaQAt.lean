/- label.At answers the level of a category in a label, and turns nothing that was there. -/
import Derived.Test.YtpdijobakfpnbaaQMem
namespace Go.Proofs.Ytpdijobakfpnbaa
open Go.RowKit Go.Proofs.Parclose
set_option maxHeartbeats 400000 in
theorem Qgg (v : Value) (l : List (Int × Int)) (c : Int) (w : World) (hv : LabAt w v l) :
 Calls Try.prog 54 #[v, .int .i64 c] w fun e w' => e = .returned (.int .i64 (atL l c)) ∧ Below w.heap.size w w' := by
 obtain ⟨p, cap, rfl, hlc, hcap, hcells⟩ := hv
 go_enter Try.func54, Try.ntmps54
 go_wp2
 go_loopw [9] (fun i wr => ∃ k : Nat, k ≤ l.length ∧ i = .int .i64 k ∧ (∀ j (hj : j < k) (hj' : j < l.length), l[j].1 ≠ c) ∧ Below w.heap.size w wr) (fun i _ => l.length - (intOf i).toNat)
 case atStart => exact ⟨0, Nat.zero_le _, rfl, fun j hj => absurd hj (Nat.not_lt_zero _), Below.refl _ _⟩
 case round =>
  obtain ⟨k, hk, rfl, hno, hb⟩ := hrel
  by_cases hlt : k < l.length
  · obtain ⟨b, o, rfl, hc⟩ := hcells (by omega)
    obtain ⟨hc1, hc2⟩ := (hc.below hb) k hlt
    have hsz := hb.size
    have HN : Hid (∀ j (hj : j < k) (hj' : j < l.length), l[j].1 ≠ c) := hno
    clear hno hcells
    by_cases heq : l[k].1 = c
    · have he : (l[k].1 == c) = true := by simpa using heq
      have HE := Qbz l c k hlt (fun j hj => HN.out j hj (by omega)) heq
      have HH : Hid (atL l c = l[k].2) := HE
      clear HE heq
      go_wp2
      go_ret
      exact ⟨QH HH.out.symm, hb.alloc hsz _⟩
    · have he : (l[k].1 == c) = false := by simpa using heq
      have HH : Hid (l[k].1 ≠ c) := heq
      clear heq
      go_wp2
      go_roundw
      case rel => exact ⟨k + 1, hlt, by go_num, fun j hj hj' => by
       by_cases e : j = k
       · subst e; exact HH.out
       · exact HN.out j (by omega) hj', hb.alloc hsz _⟩
      case measure => simp [intOf]; omega
  · go_wp2
    go_ret
    have e : atL l c = 1 := QdS l c fun j hj => hno j (by omega) hj
    exact ⟨QH e.symm, hb⟩
end Go.Proofs.Ytpdijobakfpnbaa
