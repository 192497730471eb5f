/- The reference: rows of a size, as lists; of no bytes there are none. -/
import Derived.Test.YtagmnfghkfeplaaWRefD
import Derived.Test.YtagmnfghkfeplaaWRows
import Derived.Test.YtagmnfghkfeplaaPlainRef
namespace Go.Proofs.Ytagmnfghkfeplaa
open Go.RowKit Go.Proofs.Parclose

theorem info_string : (Try.prog.info? 9).map (fun i => (i.zero, i.size, i.bytes)) = some (some (.string ⟨#[]⟩), 1, 16) := by kernel_rfl

def rowsV (x : List UInt8) (sz k : Nat) : List Value := (List.range k).map fun i => .string ⟨(rowL x sz i).toArray⟩
theorem rowsV_succ (x : List UInt8) (sz k : Nat) : rowsV x sz (k + 1) = rowsV x sz k ++ [.string ⟨(rowL x sz k).toArray⟩] := by
  unfold rowsV
  rw [List.range_succ, List.map_append]
  rfl

theorem rrows_empty (sz : Nat) (w : World) : Calls Try.prog 46 #[.string ⟨#[]⟩, .int .i64 sz] w fun e w' => e = .returned (.tuple #[.slice none 0 0, .string ⟨#[]⟩, .bool false]) ∧ Below w.heap.size w w' := by
  go_enter Try.func46, Try.ntmps46
  go_wp2
  go_ret3
  exact ⟨rfl, Below.refl _ _⟩

theorem wrap_mul (b sz : Nat) (h : b * sz ≤ 2295) : wrap64 ((b : Int) * (sz : Int)) = ((b * sz : Nat) : Int) := by
  rw [← Int.natCast_mul]
  generalize b * sz = q at *
  unfold wrap64
  omega
theorem cons_tail (b : UInt8) (r : List UInt8) : (⟨(b :: r).toArray⟩ : ByteArray).extract 1 (r.length + 1) = ⟨r.toArray⟩ := by
  rw [ByteArray.extract_mk]
  simp

theorem first_byte (b : UInt8) (r : List UInt8) : ∀ h : 0 < (⟨(b :: r).toArray⟩ : ByteArray).size, (⟨(b :: r).toArray⟩ : ByteArray)[0]'h = b := fun _ => rfl

set_option maxHeartbeats 400000 in
theorem rrows_no (b : UInt8) (r : List UInt8) (sz : Nat) (w : World) (hs : sz ≤ 9) (hlt : r.length < b.toNat * sz) : Calls Try.prog 46 #[.string ⟨(b :: r).toArray⟩, .int .i64 sz] w fun e w' => e = .returned (.tuple #[.slice none 0 0, .string ⟨#[]⟩, .bool false]) ∧ Below w.heap.size w w' := by
  have hb := b.toNat_lt
  have hle : b.toNat * sz ≤ 255 * 9 := Nat.mul_le_mul (by omega) hs
  have e1 := cons_tail b r
  have hix := first_byte b r
  have hw : wrap64 (b.toNat : Int) = (b.toNat : Int) := by unfold wrap64; omega
  have HM := hid (wrap_mul b.toNat sz (by omega))
  have HCUT := hid (rcut_no r (b.toNat * sz) w hlt)
  clear hlt hle
  go_enter Try.func46, Try.ntmps46
  go_wp2_with fail
  rw [HM.out]
  refine HCUT.out.mono ?_
  rintro e w1 ⟨rfl, hw1⟩
  go_wp2
  refine wp_loop_rounds 1 ?_
  rw [rounds_succ]
  go_wp2
  go_ret3
  exact ⟨rfl, hw1⟩
end Go.Proofs.Ytagmnfghkfeplaa
