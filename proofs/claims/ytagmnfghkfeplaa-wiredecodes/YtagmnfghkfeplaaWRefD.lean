/- The reference: numberOf answers the number of a text of up to six bytes, and cut the first bytes and the rest. -/
import Derived.Test.YtagmnfghkfeplaaWTaker
import Derived.Deep.QuietTactic
import Derived.BigQuiet
namespace Go.Proofs.Ytagmnfghkfeplaa
open Go.RowKit Go.Proofs.Parclose

theorem mul_256 (n : Int) (b : UInt8) (h0 : 0 ≤ n) (h1 : n < 1099511627776) : wrap64 (256 * n) = 256 * n ∧ wrap64 (256 * n + (b.toNat : Int)) = n * 256 + (b.toNat : Int) := by
  have := uint8_lt b
  unfold wrap64
  omega

set_option maxHeartbeats 800000 in
theorem rnumberOf_any (x : List UInt8) (w : World) (hx : x.length ≤ 6) : Calls Try.prog 45 #[.string ⟨x.toArray⟩] w fun e w' => e = .returned (.int .i64 (numL x)) ∧ Below w.heap.size w w' := by
  have hcv := fun wx s => run_bytes_of_string (P := Try.prog) wx 9 48 5 s Try.underlying9 Try.underlying48 Try.underlying5
  go_enter Try.func45, Try.ntmps45
  go_wp2
  clear hcv
  go_loopw [3, 9] (fun v i wr => ∃ k : Nat, k ≤ x.length ∧ i = .int .i64 k ∧ v = .int .i64 (numTo x k) ∧ (∀ j (hj : j < x.length), wr.cell? ⟨w.heap.size, j, none⟩ = some (.int .u8 (x[j].toNat : Int))) ∧ Below w.heap.size w wr) (fun _ i _ => x.length - (intOf i).toNat)
  case atStart =>
    have hb : Below w.heap.size w (w.drew.alloc (.cells (bytesRow ⟨x.toArray⟩ (grownCap w (⟨x.toArray⟩ : ByteArray).size 0 5)) 5 ((bytesRow ⟨x.toArray⟩ (grownCap w (⟨x.toArray⟩ : ByteArray).size 0 5)).size, (bytesRow ⟨x.toArray⟩ (grownCap w (⟨x.toArray⟩ : ByteArray).size 0 5)).size + 1))) := (Below.refl _ w).drew.alloc (Nat.le_refl _) _
    exact ⟨0, Nat.zero_le _, rfl, rfl, fun j hj => bytes_made x _ _ j hj, hb⟩
  case round =>
    obtain ⟨k, hk, rfl, rfl, hcells, hg⟩ := hrel
    by_cases hlt : k < x.length
    · have hc := hcells k hlt
      have HC := hid hcells
      have hb := numTo_bound x k hk (by omega)
      obtain ⟨hw1, hw2⟩ := mul_256 (numTo x k) x[k] hb.1 hb.2
      have hw8 : wrap64 (x[k].toNat : Int) = (x[k].toNat : Int) := by have := uint8_lt x[k]; unfold wrap64; omega
      have HS : Hid (numTo x (k + 1) = numTo x k * 256 + (x[k].toNat : Int)) := numTo_succ x k hlt
      have HW2 := hid hw2
      clear hcells hw2
      go_wp2
      go_roundw
      case rel =>
        refine ⟨k + 1, hlt, by go_num, ?_, HC.out, hg⟩
        rw [HS.out, HW2.out]
      case measure => simp [intOf]; omega
    · have hkl : k = x.length := by omega
      subst hkl
      have HS : Hid (numTo x x.length = numL x) := hid (by unfold numTo; rw [List.take_length])
      clear hcells
      go_wp2
      go_ret
      exact ⟨ret_int HS.out, hg⟩

set_option maxHeartbeats 800000 in
theorem rnumberOf_x (x : List UInt8) (w : World) (hx : x.length ≤ 6) : Calls Try.prog 45 #[.string ⟨x.toArray⟩] w fun e w' => e = .returned (.int .i64 (numL x)) ∧ ∃ cs fr, w' = (w.alloc (.cells cs 5 fr)).drew := by
  have hcv := fun wx s => run_bytes_of_string (P := Try.prog) wx 9 48 5 s Try.underlying9 Try.underlying48 Try.underlying5
  go_enter Try.func45, Try.ntmps45
  go_wp2
  clear hcv
  go_loopw [3, 9] (fun v i wr => ∃ k : Nat, k ≤ x.length ∧ i = .int .i64 k ∧ v = .int .i64 (numTo x k) ∧ (∀ j (hj : j < x.length), wr.cell? ⟨w.heap.size, j, none⟩ = some (.int .u8 (x[j].toNat : Int))) ∧ ∃ cs fr, wr = (w.alloc (.cells cs 5 fr)).drew) (fun _ i _ => x.length - (intOf i).toNat)
  case atStart => exact ⟨0, Nat.zero_le _, rfl, rfl, fun j hj => bytes_made x _ _ j hj, _, _, rfl⟩
  case round =>
    obtain ⟨k, hk, rfl, rfl, hcells, cs, fr, hwr⟩ := hrel
    have HW := hid hwr
    clear hwr
    by_cases hlt : k < x.length
    · have hc := hcells k hlt
      have HC := hid hcells
      have hb := numTo_bound x k hk (by omega)
      obtain ⟨hw1, hw2⟩ := mul_256 (numTo x k) x[k] hb.1 hb.2
      have hw8 : wrap64 (x[k].toNat : Int) = (x[k].toNat : Int) := by have := uint8_lt x[k]; unfold wrap64; omega
      have HS : Hid (numTo x (k + 1) = numTo x k * 256 + (x[k].toNat : Int)) := numTo_succ x k hlt
      have HW2 := hid hw2
      clear hcells hw2
      go_wp2
      go_roundw
      case rel =>
        refine ⟨k + 1, hlt, by go_num, ?_, HC.out, cs, fr, HW.out⟩
        rw [HS.out, HW2.out]
      case measure => simp [intOf]; omega
    · have hkl : k = x.length := by omega
      subst hkl
      have HS : Hid (numTo x x.length = numL x) := hid (by unfold numTo; rw [List.take_length])
      clear hcells
      go_wp2
      go_ret
      exact ⟨ret_int HS.out, cs, fr, HW.out⟩

theorem rcut_no (x : List UInt8) (n : Nat) (w : World) (hlt : x.length < n) : Calls Try.prog 58 #[.string ⟨x.toArray⟩, .int .i64 n] w fun e w' => e = .returned (.tuple #[.string ⟨#[]⟩, .string ⟨#[]⟩, .bool false]) ∧ Below w.heap.size w w' := by
  go_enter Try.func58, Try.ntmps58
  go_wp2
  go_ret3
  exact ⟨rfl, Below.refl _ _⟩

theorem rcut_ok (x : List UInt8) (n : Nat) (w : World) (hle : n ≤ x.length) : Calls Try.prog 58 #[.string ⟨x.toArray⟩, .int .i64 n] w fun e w' => e = .returned (.tuple #[.string ⟨(x.take n).toArray⟩, .string ⟨(x.drop n).toArray⟩, .bool true]) ∧ Below w.heap.size w w' := by
  have e1 : (⟨x.toArray⟩ : ByteArray).extract 0 n = ⟨(x.take n).toArray⟩ := by rw [ByteArray.extract_mk]; simp
  have e2 : (⟨x.toArray⟩ : ByteArray).extract n x.length = ⟨(x.drop n).toArray⟩ := by
    rw [ByteArray.extract_mk, List.take_of_length_le (by simp)]
  have hI : (n : Int) ≤ (x.length : Int) := by omega
  go_enter Try.func58, Try.ntmps58
  go_wp2_with fail
  go_quiet (fail)
  go_wp2
  go_ret3
  exact ⟨rfl, below_drewN _ _⟩
end Go.Proofs.Ytagmnfghkfeplaa
