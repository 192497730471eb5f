/- lines of both folders of statements answers true; pick answers a number below. -/
import Derived.Test.YtmpjddnbdidleaaLSend
namespace Go.Proofs.Ytmpjddnbdidleaa
open Go.RowKit Go.Proofs.Parclose

theorem zero_lne (w : World) : LneAt w (.agg #[.int .i64 0, .slice none 0 0, .int .i64 0, .bool false, .bool false, .bool false, .bool false, .bool false, .bool false, .bool false, .bool false]) zeroLne := lne_of (SntsAt.nil _ _ _ (fun _ => rfl)) 0 0 false false false false false false false false
theorem send_zero : sendLn zeroLne zeroFrm 3 = (⟨1, [⟨{ zeroFrm with seq := 1 }, 1, 5⟩], 0, [false, false, false, false, false, false, false, false]⟩, { zeroFrm with seq := 1 }, 0) := by
  unfold sendLn
  rw [if_pos (by decide), if_neg (by decide)]
  rfl

theorem lpick_any (k n : Int) (w : World) (hn : 0 < n) (hn2 : n ≤ 1099511627776) : Calls Try.prog 24 #[.int .i64 k, .int .i64 n] w fun e w' => ∃ p : Nat, e = .returned (.int .i64 p) ∧ (p : Int) < n ∧ w' = w := by
  have hne : n ≠ 0 := by omega
  have h1 := Int.tmod_lt_of_pos k hn
  have h2 : -n < k.tmod n := by have := Int.lt_tmod_of_pos k hn; omega
  by_cases hneg : k.tmod n < 0
  · go_enter Try.func24, Try.ntmps24
    go_wp2
    go_ret
    refine ⟨(k.tmod n + n).toNat, ret_int ?_, by omega, rfl⟩
    omega
  · go_enter Try.func24, Try.ntmps24
    go_wp2
    go_ret
    refine ⟨(k.tmod n).toNat, ret_int ?_, by omega, rfl⟩
    omega

set_option maxRecDepth 100000 in
set_option maxHeartbeats 1600000 in
theorem klines_any (w : World) : Calls Try.prog 25 #[] w fun e w' => e = .returned (.bool true) ∧ Below w.heap.size w w' := by
  have hsend := fun wx => lsend_any (.agg #[.int .i64 0, .slice none 0 0, .int .i64 0, .bool false, .bool false, .bool false, .bool false, .bool false, .bool false, .bool false, .bool false]) (.agg #[.int .i64 0, .int .i64 0, .int .i64 0, .bool false, .int .i64 0, .int .i64 0, .int .i64 0, .slice none 0 0, .slice none 0 0, .string ⟨#[]⟩, .slice none 0 0]) zeroLne zeroFrm 3 wx (zero_lne wx) (zero_frm wx)
  rw [send_zero] at hsend
  go_enter Try.func25, Try.ntmps25
  go_wp2_with fail
  refine (hsend _).mono ?_
  rintro e w1 ⟨v', vf', rfl, hl, hf, hw1⟩
  obtain ⟨nx, st, hi, b0, b1, b2, b3, b4, b5, b6, b7, p, cap, hL, rfl, hs⟩ := hl.at.spell
  simp only [Lne.mk.injEq] at hL
  obtain ⟨h1, h2, h3, h4⟩ := hL
  subst h1 h2 h3
  clear h4
  obtain ⟨vl, vg, vc, rfl, ⟨pl, cl, rfl, _⟩, ⟨pg, cg, rfl, _⟩, ⟨pc, cc, rfl, _⟩⟩ := hf _ (Since.refl _ _)
  obtain ⟨b, o, pl', cl', pg', cg', pc', cc', rfl, hat⟩ := hs.get 0 (by simp)
  have c12 : w1.cell? ⟨b, o + 12, none⟩ = some (.int .i64 5) := by have := hat.c12; rwa [Nat.zero_mul, Nat.add_zero] at this
  have hbl := cell_block c12
  simp only at hbl
  have ne1 : b ≠ w1.heap.size := by omega
  have ne2 : b ≠ w1.heap.size + 1 := by omega
  have hb2 : ∀ o1 o2, Below w.heap.size w ((w1.alloc o1).alloc o2) := fun o1 o2 => below_then hw1 ((below_box w1 o1).alloc (by simp) o2)
  clear hs hat hsend hl
  unfold frmV
  go_wp2
  go_ret
  exact ⟨ret_bool (by simp), hb2 _ _⟩

set_option maxRecDepth 100000 in
set_option maxHeartbeats 1600000 in
theorem llines_any (w : World) : Calls Try.prog 17 #[] w fun e w' => e = .returned (.bool true) ∧ Below w.heap.size w w' := by
  have hsend := fun wx => lsend_any (.agg #[.int .i64 0, .slice none 0 0, .int .i64 0, .bool false, .bool false, .bool false, .bool false, .bool false, .bool false, .bool false, .bool false]) (.agg #[.int .i64 0, .int .i64 0, .int .i64 0, .bool false, .int .i64 0, .int .i64 0, .int .i64 0, .slice none 0 0, .slice none 0 0, .string ⟨#[]⟩, .slice none 0 0]) zeroLne zeroFrm 3 wx (zero_lne wx) (zero_frm wx)
  rw [send_zero] at hsend
  go_enter Try.func17, Try.ntmps17
  go_wp2_with fail
  refine (hsend _).mono ?_
  rintro e w1 ⟨v', vf', rfl, hl, hf, hw1⟩
  obtain ⟨nx, st, hi, b0, b1, b2, b3, b4, b5, b6, b7, p, cap, hL, rfl, hs⟩ := hl.at.spell
  simp only [Lne.mk.injEq] at hL
  obtain ⟨h1, h2, h3, h4⟩ := hL
  subst h1 h2 h3
  clear h4
  obtain ⟨vl, vg, vc, rfl, ⟨pl, cl, rfl, _⟩, ⟨pg, cg, rfl, _⟩, ⟨pc, cc, rfl, _⟩⟩ := hf _ (Since.refl _ _)
  obtain ⟨b, o, pl', cl', pg', cg', pc', cc', rfl, hat⟩ := hs.get 0 (by simp)
  have c12 : w1.cell? ⟨b, o + 12, none⟩ = some (.int .i64 5) := by have := hat.c12; rwa [Nat.zero_mul, Nat.add_zero] at this
  have hbl := cell_block c12
  simp only at hbl
  have ne1 : b ≠ w1.heap.size := by omega
  have ne2 : b ≠ w1.heap.size + 1 := by omega
  have hb2 : ∀ o1 o2, Below w.heap.size w ((w1.alloc o1).alloc o2) := fun o1 o2 => below_then hw1 ((below_box w1 o1).alloc (by simp) o2)
  clear hs hat hsend hl
  unfold frmV
  go_wp2
  go_ret
  exact ⟨ret_bool (by simp), hb2 _ _⟩
end Go.Proofs.Ytmpjddnbdidleaa
