/- The reference: bytesOf answers the bytes of a number, the highest first. -/
import Derived.Test.YtaeikpiinpmecabWRefF
import Derived.Test.YtaeikpiinpmecabWEncode
import Derived.Laws.Concat
namespace Go.Proofs.Ytaeikpiinpmecab
open Go.RowKit Go.Proofs.Parclose

theorem str_join (x y : List UInt8) : (⟨x.toArray⟩ : ByteArray) ++ ⟨y.toArray⟩ = ⟨(x ++ y).toArray⟩ := ByteArray.mk_append_mk x y

/-- the lowest k bytes of a number, the highest of them first -/
def lowB (n : Int) : Nat → List UInt8
  | 0 => []
  | k + 1 => byteL (n / 256 ^ k) :: lowB n k
theorem lowB_length (n : Int) (k : Nat) : (lowB n k).length = k := by
  induction k with
  | zero => rfl
  | succ k ih => simp [lowB, ih]
theorem lowB_one (n : Int) : lowB n 1 = [byteL n] := by simp [lowB]
theorem lowB_six (n : Int) : lowB n 6 = timeL n := by simp [lowB, timeL]

theorem div_pow (n : Int) (k : Nat) : n / 256 ^ k / 256 = n / 256 ^ (k + 1) := by
  rw [Int.ediv_ediv_of_nonneg (Int.pow_nonneg (by decide)), Int.pow_succ]

theorem convert_one (w : World) (b : UInt8) : (convert 48 9 (.slice (some ⟨w.heap.size, 0, none⟩) 1 1)).run Try.prog (w.alloc (.cells #[.int .u8 b.toNat] 5)) = .ok (.string ⟨#[b]⟩) (w.alloc (.cells #[.int .u8 b.toNat] 5)) :=
  run_convert_bytes_back _ 48 9 5 ⟨w.heap.size, 0, none⟩ 1 [b] Try.underlying48 Try.underlying5 Try.underlying9 (fun j hj => by
    have e : j = 0 := by simpa using hj
    subst e
    rw [WideShapes.add_plain]
    simp)

theorem wrap_c (c : Nat) (h : c ≤ 6) : wrap64 (c : Int) = (c : Int) := by unfold wrap64; omega
theorem meas (c : Nat) : (intOf (.int .i64 (c : Int))).toNat < (intOf (.int .i64 ((c + 1 : Nat) : Int))).toNat := by
  simp [intOf]

set_option maxHeartbeats 800000 in
theorem rbytes_any (n : Int) (k : Nat) (w : World) (h0 : 0 ≤ n) (h1 : n < 4611686018427387904) (hk : k ≤ 6) : Calls Try.prog 29 #[.int .i64 n, .int .i64 k] w fun e w' => e = .returned (.string ⟨(lowB n k).toArray⟩) ∧ Below w.heap.size w w' := by
  go_enter Try.func29, Try.ntmps29
  go_wp2
  go_loopw [0, 1, 5] (fun v c s wr => ∃ i : Nat, i ≤ k ∧ v = .int .i64 (n / 256 ^ i) ∧ c = .int .i64 ((k - i : Nat) : Int) ∧ s = .string ⟨(lowB n i).toArray⟩ ∧ Below w.heap.size w wr) (fun _ c _ _ => (intOf c).toNat)
  case atStart => exact ⟨0, Nat.zero_le _, by simp, by simp, rfl, Below.refl _ _⟩
  case round =>
    obtain ⟨i, hi, rfl, rfl, rfl, hb⟩ := hrel
    by_cases hlt : i < k
    · obtain ⟨c, hc⟩ : ∃ c, k - i = c + 1 := ⟨k - i - 1, by omega⟩
      have HW := hid (wrap_c c (by omega))
      have hv0 : 0 ≤ n / 256 ^ i := Int.ediv_nonneg h0 (Int.pow_nonneg (by decide))
      have hv1 : n / 256 ^ i < 4611686018427387904 := Int.lt_of_le_of_lt (Int.ediv_le_self _ h0) h1
      have HD := hid (div_pow n i)
      have HL : Hid (lowB n (i + 1) = byteL (n / 256 ^ i) :: lowB n i) := hid rfl
      have hll := lowB_length n i
      have hcv := convert_one wr (byteL (n / 256 ^ i))
      rw [toNat_byteL] at hcv
      rw [hc]
      have HC : Hid (k - (i + 1) = c) := hid (by omega)
      have HCI : Hid (k - i = c + 1) := hid hc
      generalize n / 256 ^ i = v at *
      generalize lowB n i = x at *
      have hr : v.tmod 256 = v % 256 := Int.tmod_eq_emod_of_nonneg hv0
      have hq : v.tdiv 256 = v / 256 := Int.tdiv_eq_ediv_of_nonneg hv0
      have hm : v % 256 % 256 = v % 256 := by omega
      have hgt : (0 : Int) < ((c + 1 : Nat) : Int) := by omega
      have hxl : x.length ≤ 6 := by omega
      have hsz := hb.size
      clear hc hll
      go_wp2
      go_roundw
      case rel => exact ⟨i + 1, hlt, by rw [HD.out], by rw [HC.out, HW.out], by rw [HL.out, str_join]; rfl, hb.alloc hsz _⟩
      case measure =>
        rw [HW.out]
        exact meas c
    · have hki : i = k := by omega
      subst hki
      go_wp2
      go_ret
      exact ⟨rfl, hb⟩
theorem rbytes1 (n : Int) (w : World) (h : 0 ≤ n ∧ n < 4611686018427387904) : Calls Try.prog 29 #[.int .i64 n, .int .i64 1] w fun e w' => e = .returned (.string ⟨[byteL n].toArray⟩) ∧ Below w.heap.size w w' := by
  have := rbytes_any n 1 w h.1 h.2 (by omega)
  rwa [lowB_one] at this
theorem rbytes6 (n : Int) (w : World) (h : 0 ≤ n ∧ n < 4611686018427387904) : Calls Try.prog 29 #[.int .i64 n, .int .i64 6] w fun e w' => e = .returned (.string ⟨(timeL n).toArray⟩) ∧ Below w.heap.size w w' := by
  have := rbytes_any n 6 w h.1 h.2 (by omega)
  rwa [lowB_six] at this
end Go.Proofs.Ytaeikpiinpmecab
