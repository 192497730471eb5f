/- The reference: rows of a size, where there are enough bytes. -/
import Derived.Test.YtagmnfghkfeplaaWRefR
namespace Go.Proofs.Ytagmnfghkfeplaa
open Go.RowKit Go.Proofs.Parclose

theorem wrap64_nat (a : Nat) (h : a ≤ 100000) : wrap64 (a : Int) = (a : Int) := by unfold wrap64; omega
theorem rowsV_len (x : List UInt8) (sz k : Nat) : (rowsV x sz k).length = k := by simp [rowsV]
theorem str_one (x : List UInt8) : ∀ u ∈ [Value.string ⟨x.toArray⟩], u.oneCell' = true := by
  intro u hu
  simp at hu
  subst hu
  rfl

theorem row_extract (x : List UInt8) (sz q k : Nat) (hq : q = k * sz) : (⟨x.toArray⟩ : ByteArray).extract q (q + sz) = ⟨(rowL x sz k).toArray⟩ := by
  subst hq
  rw [ByteArray.extract_mk]
  unfold rowL
  rw [Nat.add_sub_cancel_left]

theorem row_facts {x : List UInt8} {k n sz : Nat} (hlt : k < n) (hX : x.length = n * sz) (hB : n * sz ≤ 255 * 9) : ∃ q : Nat, q + sz ≤ x.length ∧ x.length ≤ 2295 ∧ wrap64 ((k : Int) * (sz : Int)) = (q : Int) ∧ wrap64 ((q : Int) + (sz : Int)) = ((q + sz : Nat) : Int) ∧ (⟨x.toArray⟩ : ByteArray).extract q (q + sz) = ⟨(rowL x sz k).toArray⟩ := by
  have hk1 : (k + 1) * sz ≤ n * sz := Nat.mul_le_mul_right _ hlt
  rw [Nat.add_mul, Nat.one_mul] at hk1
  refine ⟨k * sz, by omega, by omega, wrap_mul k sz (by omega), ?_, row_extract x sz _ k rfl⟩
  rw [← Int.natCast_add]
  exact wrap64_nat _ (by omega)

set_option maxRecDepth 100000 in
set_option maxHeartbeats 1600000 in
theorem rrows_ok (b : UInt8) (r : List UInt8) (sz : Nat) (w : World) (hs : sz ≤ 9) (hle : b.toNat * sz ≤ r.length) : Calls Try.prog 46 #[.string ⟨(b :: r).toArray⟩, .int .i64 sz] w fun e w' => ∃ v', e = .returned (.tuple #[v', .string ⟨(r.drop (b.toNat * sz)).toArray⟩, .bool true]) ∧ w'.ownsRow w.heap.size 9 1 v' b.toNat (rowsV (r.take (b.toNat * sz)) sz b.toNat) ∧ Below w.heap.size w w' := by
  obtain ⟨i0, hi, hz0, hz1, hz2⟩ := info_parts info_string
  have hb := b.toNat_lt
  have hm : b.toNat * sz ≤ 255 * 9 := Nat.mul_le_mul (by omega) hs
  have e1 := cons_tail b r
  have hix := first_byte b r
  have hw : wrap64 (b.toNat : Int) = (b.toNat : Int) := by unfold wrap64; omega
  have HM := hid (wrap_mul b.toNat sz (by omega))
  have HCUT := hid (rcut_ok r (b.toNat * sz) w hle)
  have HX : Hid ((r.take (b.toNat * sz)).length = b.toNat * sz) := hid (by rw [List.length_take]; omega)
  have HL := hid hle
  have HB := hid hm
  clear hle hm
  go_enter Try.func46, Try.ntmps46
  go_wp2_with fail
  rw [HM.out]
  refine HCUT.out.mono ?_
  rintro e w1 ⟨rfl, hw1⟩
  clear HCUT
  generalize hxe : r.take (b.toNat * sz) = x at *
  generalize hre : r.drop (b.toNat * sz) = rest at *
  have HRE := hid hre
  clear hre
  have HXE := hid hxe
  clear hxe e1 hix
  generalize hn : b.toNat = n at *
  have HN := hid hn
  clear hn
  go_wp2
  go_loopw [11, 12] (fun v i wr => ∃ k : Nat, k ≤ n ∧ i = .int .i64 k ∧ wr.ownsRow w.heap.size 9 1 v k (rowsV x sz k) ∧ Below w.heap.size w wr) (fun _ i _ => n - (intOf i).toNat)
  case atStart => exact ⟨0, Nat.zero_le _, rfl, World.ownsRow_nil _ _ _ _, hw1⟩
  case round =>
    clear hw1
    obtain ⟨k, hk, rfl, hown, hbw⟩ := hrel
    by_cases hlt : k < n
    · obtain ⟨q, hqx, hx3, hmul, hadd, hex⟩ := row_facts hlt HX.out HB.out
      have HE := hid hex
      clear hex HX HB HL HM
      have hsz := hbw.size
      have hkn : k ≤ 255 := by omega
      go_wp2_with (at_builtin; refine wpList_append_own _ rfl _ _ 66 rfl w.heap.size 9 i0 _ 1 16 Try.underlying66 hi hz0 hz1 hz2 rfl (by decide) _ k (rowsV x sz k) rfl (hown.alloc _) ⟨wr.heap.size, 0, none⟩ 1 1 [.string ((⟨x.toArray⟩ : ByteArray).extract q (q + sz))] rfl rfl (laid1 wr _ _) (by rw [HE.out]; exact str_one _) (by unfold maxLen; omega) (by omega) (by simp; omega) ?_; intro v6 w6 hown6 hgrow6 hnil6)
      go_roundw
      case rel =>
        have hfin : w6.ownsRow w.heap.size 9 1 v6 (k + 1) (rowsV x sz (k + 1)) := by
          rw [HE.out] at hown6
          rw [rowsV_succ]
          exact hown6
        have hgf : Below w.heap.size w w6 := Below.grown (hbw.alloc hsz _) hgrow6 (by simp; omega) (fun j hj => own_base hown hj)
        first | exact ⟨k + 1, hlt, by go_num, hfin, hgf⟩ | ((repeat apply Exists.intro); exact ⟨⟨k + 1, hlt, by go_num, hfin, hgf⟩, rfl⟩)
      case measure => simp [intOf]; omega
    · have hkl : k = n := by omega
      subst hkl
      clear HX HB HL HM
      go_wp2
      go_ret3
      refine ⟨u11, ?_, ?_, hbw⟩
      · rw [HN.out, HRE.out]
        rfl
      · rw [HN.out, HXE.out]
        exact hown
end Go.Proofs.Ytagmnfghkfeplaa
