/- label.Same (and slices.Equal beneath it) answers whether two labels are one list, and turns nothing that was there. -/
import Derived.Test.YtpdijobakfpnbaaGreatJMem
import Derived.Laws.StructEq
import Derived.Deep.QuietTactic
import Derived.BigQuiet
namespace Go.Proofs.YtpdijobakfpnbaaGreat
open Go.RowKit Go.Proofs.Parclose
theorem QjN (x y : Int × Int) (w : World) : (binOp .neq 54 (.agg #[.int .i64 x.1, .int .i64 x.2]) (.agg #[.int .i64 y.1, .int .i64 y.2])).run Tryz.prog w = .ok (.bool (!decide (x = y))) w := by
 have u3 := Tryz.underlying3
 have hS : Tryz.prog.underlying 54 = some (.struct (Tryz.prog.fieldsOf 54)) := by kernel_rfl
 have hp : Tryz.prog.stoodInHeld 54 = false := by kernel_rfl
 rw [run_neq_struct, show (10000 : Nat) = 9999 + 1 from rfl, run_equalIn_agg w 9999 54 _ _ hS hp]
 simp only [Program.fieldsOf, Tryz.underlying54]
 go_simp
 by_cases h1 : x.fst = y.fst <;> by_cases h2 : x.snd = y.snd <;> simp [h1, h2, Prod.ext_iff]
theorem QgF (op : BinOp) (a b : Operand) (x y : Array Value) (w : World) : (eqGuard op 54 a b (.agg x) (.agg y)).run Tryz.prog w = .ok () w :=
 run_eqGuard_agg w op 54 a b x y (by kernel_rfl)
set_option maxHeartbeats 800000 in
theorem Qkh (va vb : Value) (a b : List (Int × Int)) (w : World) (ha : LabAt w va a) (hb : LabAt w vb b) :
 Calls Tryz.prog 64 #[va, vb] w fun e w' => e = .returned (.bool (sameB a b)) ∧ Below w.heap.size w w' := by
 obtain ⟨p, cap, rfl, hlc, hcap, hca⟩ := ha
 obtain ⟨q, cap', rfl, hlc', hcap', hcb⟩ := hb
 by_cases hl : a.length = b.length
 rotate_left
 · have HS : Hid (sameB a b = false) := Qjv hl
   have hl' : ((a.length : Int) != (b.length : Int)) = true := by rw [bne_iff_ne]; omega
   go_enter Tryz.func64, Tryz.ntmps64
   go_wp2
   go_ret
   exact ⟨Qm HS.out.symm, Below.refl _ _⟩
 have hl' : ((a.length : Int) != (b.length : Int)) = false := by rw [bne_eq_false_iff_eq]; omega
 have HL : Hid (a.length = b.length) := hl
 have hlb : b.length ≤ a.length := by omega
 have hla : a.length ≤ b.length := by omega
 clear hl
 have hgd := QgF
 go_enter Tryz.func64, Tryz.ntmps64
 go_wp2
 go_loopw [13] (fun i wr => ∃ k n : Nat, k ≤ a.length ∧ i = .int .i64 k ∧ (∀ j (hj : j < k) (hja : j < a.length) (hjb : j < b.length), a[j] = b[j]) ∧ wr = w.drewN n) (fun i _ => a.length - (intOf i).toNat)
 case atStart => exact ⟨0, 0, Nat.zero_le _, rfl, fun j hj => absurd hj (Nat.not_lt_zero _), rfl⟩
 case round =>
  obtain ⟨k, n, hk, rfl, heq0, rfl⟩ := hrel
  have HE : Hid (∀ j (hj : j < k) (hja : j < a.length) (hjb : j < b.length), a[j] = b[j]) := heq0
  clear heq0
  by_cases hlt : k < a.length
  · obtain ⟨ba, oa, rfl, hcA⟩ := hca (by omega)
    obtain ⟨bb, ob, rfl, hcB⟩ := hcb (by omega)
    have hkb : k < b.length := by omega
    obtain ⟨ga1, ga2⟩ := hcA k hlt
    obtain ⟨gb1, gb2⟩ := hcB k hkb
    have hne := fun w => QjN a[k] b[k] w
    clear hca hcb hcA hcB
    cases hd : decide (a[k] = b[k]) with
    | true =>
     rw [hd] at hne
     have hk2 : a[k] = b[k] := of_decide_eq_true hd
     have HK : Hid (a[k] = b[k]) := hk2
     clear hk2
     clear hd
     go_wp2_with fail
     go_quiet (fail)
     go_wp2
     go_roundw
     case rel => exact ⟨k + 1, n + nq, hlt, by go_num, fun j hj hja hjb => by
      by_cases e : j = k
      · subst e; exact HK.out
      · exact HE.out j (by omega) hja hjb, rfl⟩
     case measure => simp [intOf]; omega
    | false =>
     rw [hd] at hne
     have HS : Hid (sameB a b = false) := QhM k hlt hkb (of_decide_eq_false hd)
     clear hd
     go_wp2_with fail
     go_quiet (fail)
     go_wp2
     go_ret
     exact ⟨Qm HS.out.symm, by rw [World.drewN_drewN]; exact Qt _ _⟩
  · go_wp2
    go_ret
    have e : sameB a b = true := Qjw HL.out fun j hja hjb => HE.out j (by omega) hja hjb
    exact ⟨Qm e.symm, Qt _ _⟩
theorem QdQ (va vb : Value) (a b : List (Int × Int)) (w : World) (ha : LabAt w va a) (hb : LabAt w vb b) :
 Calls Tryz.prog 36 #[va, vb] w fun e w' => e = .returned (.bool (sameB a b)) ∧ Below w.heap.size w w' := by
 go_enter Tryz.func36, Tryz.ntmps36
 go_wp2_with (go_at_call 64; refine (Qkh _ _ a b _ ha hb).mono ?_; rintro e w' ⟨rfl, hw⟩)
 go_ret
 exact ⟨rfl, hw⟩
end Go.Proofs.YtpdijobakfpnbaaGreat
