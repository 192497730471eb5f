/- label.Category answers what the document says, and turns nothing. -/
import Derived.Test.YtichphepfmafjacQMem
import Derived.Laws.StructEq
import Derived.Deep.QuietTactic
import Derived.BigQuiet
namespace Go.Proofs.Ytichphepfmafjac
open Go.RowKit Go.Proofs.Parclose

theorem category_any (c : Int) (w : World) : Calls Try.prog 41 #[.int .i64 c] w fun e w' => e = .returned (.bool (catB c)) ∧ w' = w := by
  unfold catB
  by_cases h1 : 0 ≤ c
  · by_cases h2 : c < 80
    · go_enter Try.func41, Try.ntmps41
      go_wp2
      go_ret
      exact ⟨ret_bool (by simp [h1, h2]), rfl⟩
    · go_enter Try.func41, Try.ntmps41
      go_wp2
      go_ret
      exact ⟨ret_bool (by simp [h2]), rfl⟩
  · go_enter Try.func41, Try.ntmps41
    go_wp2
    go_ret
    exact ⟨ret_bool (by simp; omega), rfl⟩
end Go.Proofs.Ytichphepfmafjac

namespace Go.Proofs.Ytichphepfmafjac
open Go.RowKit Go.Proofs.Parclose

theorem inBounds_any (c : Int) (w : World) : Calls Try.prog 42 #[.int .i64 c] w fun e w' => e = .returned (.bool (bndB c)) ∧ w' = w := by
  unfold bndB
  by_cases h1 : 0 ≤ c
  · by_cases h2 : c ≤ 3
    · go_enter Try.func42, Try.ntmps42
      go_wp2
      go_ret
      exact ⟨ret_bool (by simp [h1, h2]), rfl⟩
    · go_enter Try.func42, Try.ntmps42
      go_wp2
      go_ret
      exact ⟨ret_bool (by simp [h2]), rfl⟩
  · go_enter Try.func42, Try.ntmps42
    go_wp2
    go_ret
    exact ⟨ret_bool (by simp; omega), rfl⟩

theorem wrap_small {x : Int} (h0 : 0 ≤ x) (h1 : x ≤ 1000000) : IntKind.i64.wrap x = x := by
  simp [IntKind.wrap, IntKind.signed, IntKind.bits]
  omega

set_option maxHeartbeats 800000 in
theorem good_any (v : Value) (l : List (Int × Int)) (w : World) (hv : LabAt w v l) :
    Calls Try.prog 12 #[v] w fun e w' => e = .returned (.bool (goodB l)) ∧ Below w.heap.size w w' := by
  obtain ⟨p, cap, rfl, hlc, hcap, hcells⟩ := hv
  by_cases h8 : l.length ≤ 8
  rotate_left
  · have hg := goodB_long (l := l) (by omega)
    have HG : Hid (goodB l = false) := hg
    clear hg
    go_enter Try.func12, Try.ntmps12
    go_wp2
    go_ret
    exact ⟨ret_bool HG.out.symm, Below.refl _ _⟩
  go_enter Try.func12, Try.ntmps12
  go_wp2
  go_loopw [10] (fun i wr => ∃ k : Nat, k ≤ l.length ∧ i = .int .i64 k ∧ (∀ j (hj : j < k) (hj' : j < l.length), levB l[j] = true) ∧ (∀ j (hj : j + 1 < k) (hj' : j + 1 < l.length), l[j].1 < l[j + 1].1) ∧ Below w.heap.size w wr) (fun i _ => l.length - (intOf i).toNat)
  case atStart => exact ⟨0, Nat.zero_le _, rfl, fun j hj => absurd hj (Nat.not_lt_zero _), fun j hj => absurd hj (Nat.not_lt_zero _), Below.refl _ _⟩
  case round =>
    obtain ⟨k, hk, rfl, hlev0, hup0, hb⟩ := hrel
    have HL : Hid (∀ j (hj : j < k) (hj' : j < l.length), levB l[j] = true) := hlev0
    have HU : Hid (∀ j (hj : j + 1 < k) (hj' : j + 1 < l.length), l[j].1 < l[j + 1].1) := hup0
    clear hlev0 hup0
    by_cases hlt : k < l.length
    · obtain ⟨b, o, rfl, hc⟩ := hcells (by omega)
      have hcr := hc.below hb
      obtain ⟨hc1, hc2⟩ := hcr k hlt
      have hsz := hb.size
      have hno : ∀ hx : levB l[k] = false, Hid (goodB l = false) := fun hx => goodB_lev k hlt hx
      have hyes : ∀ hx : levB l[k] = true, Hid (levB l[k] = true) := fun hx => hx
      have hlv : levB l[k] = (catB l[k].1 && bndB l[k].2 && !(l[k].2 == 1)) := rfl
      cases hcat : catB l[k].1 with
      | false =>
        have HG := hno (by rw [hlv, hcat]; rfl)
        clear hno hyes hlv hcells hcr hc
        go_wp2_with (first | (go_at_call 41; refine (category_any _ _).mono ?_; rintro e w' ⟨rfl, rfl⟩) | (go_at_call 42; refine (inBounds_any _ _).mono ?_; rintro e w' ⟨rfl, rfl⟩))
        go_ret
        exact ⟨ret_bool HG.out.symm, hb.alloc hsz _⟩
      | true =>
        cases hbnd : bndB l[k].2 with
        | false =>
          have HG := hno (by rw [hlv, hcat, hbnd]; rfl)
          clear hno hyes hlv hcells hcr hc
          go_wp2_with (first | (go_at_call 41; refine (category_any _ _).mono ?_; rintro e w' ⟨rfl, rfl⟩) | (go_at_call 42; refine (inBounds_any _ _).mono ?_; rintro e w' ⟨rfl, rfl⟩))
          go_ret
          exact ⟨ret_bool HG.out.symm, hb.alloc hsz _⟩
        | true =>
          cases hpl : (l[k].2 == 1) with
          | true =>
            have HG := hno (by rw [hlv, hcat, hbnd, hpl]; rfl)
            clear hno hyes hlv hcells hcr hc
            go_wp2_with (first | (go_at_call 41; refine (category_any _ _).mono ?_; rintro e w' ⟨rfl, rfl⟩) | (go_at_call 42; refine (inBounds_any _ _).mono ?_; rintro e w' ⟨rfl, rfl⟩))
            go_ret
            exact ⟨ret_bool HG.out.symm, hb.alloc hsz _⟩
          | false =>
            have HY := hyes (by rw [hlv, hcat, hbnd, hpl]; rfl)
            clear hno hyes hlv hcells hc
            go_wp2_with (first | (go_at_call 41; refine (category_any _ _).mono ?_; rintro e w' ⟨rfl, rfl⟩) | (go_at_call 42; refine (inBounds_any _ _).mono ?_; rintro e w' ⟨rfl, rfl⟩))
            by_cases h0 : k = 0
            · have hd : decide (0 < k) = false := by simp; omega
              go_quiet (fail)
              go_wp2
              go_roundw
              case rel => exact ⟨k + 1, hlt, by go_num, fun j hj hj' => by
                by_cases e : j = k
                · subst e; exact HY.out
                · exact HL.out j (by omega) hj', fun j hj hj' => absurd hj (by omega), below_then (hb.alloc hsz _) (below_drewN _ _)⟩
              case measure => simp [intOf]; omega
            · have hd : 0 < k := by omega
              obtain ⟨m, hm⟩ : ∃ m, k = m + 1 := ⟨k - 1, by omega⟩
              have hml : m < l.length := by omega
              have hbb : b < wr.heap.size := cell_block hc1
              have hw : IntKind.i64.wrap ((k : Int) - 1) = (m : Int) := by
                rw [hm, show ((m + 1 : Nat) : Int) - 1 = (m : Int) by omega]
                exact wrap_small (by omega) (by omega)
              obtain ⟨hp1, hp2⟩ := hcr m hml
              have HM : Hid (k = m + 1) := hm
              clear hp2 hcr hm h0
              by_cases hge : l[k].1 ≤ l[m].1
              · have HG : Hid (goodB l = false) := by
                  have e := HM.out
                  subst e
                  exact goodB_turn m hlt hge
                go_quiet (fail)
                go_wp2
                go_ret
                exact ⟨ret_bool HG.out.symm, below_then (hb.alloc hsz _) (below_drewN _ _)⟩
              · go_quiet (fail)
                go_wp2
                go_roundw
                case rel => exact ⟨k + 1, hlt, by go_num, fun j hj hj' => by
                  by_cases e : j = k
                  · subst e; exact HY.out
                  · exact HL.out j (by omega) hj', fun j hj hj' => by
                  by_cases e : j = m
                  · subst e
                    have e := HM.out
                    subst e
                    omega
                  · exact HU.out j (by have := HM.out; omega) hj', below_then (hb.alloc hsz _) (below_drewN _ _)⟩
                case measure => simp [intOf]; omega
    · go_wp2
      go_ret
      have e : goodB l = true := goodB_all h8 (fun j hj => HL.out j (by omega) hj) (fun j hj => HU.out j (by omega) hj)
      exact ⟨ret_bool e.symm, hb⟩

end Go.Proofs.Ytichphepfmafjac

namespace Go.Proofs.Ytichphepfmafjac
open Go.RowKit Go.Proofs.Parclose

set_option maxHeartbeats 400000 in
theorem at_any (v : Value) (l : List (Int × Int)) (c : Int) (w : World) (hv : LabAt w v l) :
    Calls Try.prog 44 #[v, .int .i64 c] w fun e w' => e = .returned (.int .i64 (atL l c)) ∧ Below w.heap.size w w' := by
  obtain ⟨p, cap, rfl, hlc, hcap, hcells⟩ := hv
  go_enter Try.func44, Try.ntmps44
  go_wp2
  go_loopw [9] (fun i wr => ∃ k : Nat, k ≤ l.length ∧ i = .int .i64 k ∧ (∀ j (hj : j < k) (hj' : j < l.length), l[j].1 ≠ c) ∧ Below w.heap.size w wr) (fun i _ => l.length - (intOf i).toNat)
  case atStart => exact ⟨0, Nat.zero_le _, rfl, fun j hj => absurd hj (Nat.not_lt_zero _), Below.refl _ _⟩
  case round =>
    obtain ⟨k, hk, rfl, hno, hb⟩ := hrel
    by_cases hlt : k < l.length
    · obtain ⟨b, o, rfl, hc⟩ := hcells (by omega)
      obtain ⟨hc1, hc2⟩ := (hc.below hb) k hlt
      have hsz := hb.size
      have HN : Hid (∀ j (hj : j < k) (hj' : j < l.length), l[j].1 ≠ c) := hno
      clear hno hcells
      by_cases heq : l[k].1 = c
      · have he : (l[k].1 == c) = true := by simpa using heq
        have HE := atL_some l c k hlt (fun j hj => HN.out j hj (by omega)) heq
        have HH : Hid (atL l c = l[k].2) := HE
        clear HE heq
        go_wp2
        go_ret
        exact ⟨ret_int HH.out.symm, hb.alloc hsz _⟩
      · have he : (l[k].1 == c) = false := by simpa using heq
        have HH : Hid (l[k].1 ≠ c) := heq
        clear heq
        go_wp2
        go_roundw
        case rel => exact ⟨k + 1, hlt, by go_num, fun j hj hj' => by
          by_cases e : j = k
          · subst e; exact HH.out
          · exact HN.out j (by omega) hj', hb.alloc hsz _⟩
        case measure => simp [intOf]; omega
    · go_wp2
      go_ret
      have e : atL l c = 1 := atL_none l c fun j hj => hno j (by omega) hj
      exact ⟨ret_int e.symm, hb⟩
end Go.Proofs.Ytichphepfmafjac

namespace Go.Proofs.Ytichphepfmafjac
open Go.RowKit Go.Proofs.Parclose

theorem neq_level (x y : Int × Int) (w : World) : (binOp .neq 84 (.agg #[.int .i64 x.1, .int .i64 x.2]) (.agg #[.int .i64 y.1, .int .i64 y.2])).run Try.prog w = .ok (.bool (!decide (x = y))) w := by
  have u3 := Try.underlying3
  have hS : Try.prog.underlying 84 = some (.struct (Try.prog.fieldsOf 84)) := by kernel_rfl
  have hp : Try.prog.stoodInHeld 84 = false := by kernel_rfl
  rw [run_neq_struct, show (10000 : Nat) = 9999 + 1 from rfl, run_equalIn_agg w 9999 84 _ _ hS hp]
  simp only [Program.fieldsOf, Try.underlying84]
  go_simp
  by_cases h1 : x.fst = y.fst <;> by_cases h2 : x.snd = y.snd <;> simp [h1, h2, Prod.ext_iff]

theorem guard_level (op : BinOp) (a b : Operand) (x y : Array Value) (w : World) : (eqGuard op 84 a b (.agg x) (.agg y)).run Try.prog w = .ok () w :=
  run_eqGuard_agg w op 84 a b x y (by kernel_rfl)

set_option maxHeartbeats 800000 in
theorem equal_any (va vb : Value) (a b : List (Int × Int)) (w : World) (ha : LabAt w va a) (hb : LabAt w vb b) :
    Calls Try.prog 46 #[va, vb] w fun e w' => e = .returned (.bool (sameB a b)) ∧ Below w.heap.size w w' := by
  obtain ⟨p, cap, rfl, hlc, hcap, hca⟩ := ha
  obtain ⟨q, cap', rfl, hlc', hcap', hcb⟩ := hb
  by_cases hl : a.length = b.length
  rotate_left
  · have HS : Hid (sameB a b = false) := sameB_len hl
    have hl' : ((a.length : Int) != (b.length : Int)) = true := by rw [bne_iff_ne]; omega
    go_enter Try.func46, Try.ntmps46
    go_wp2
    go_ret
    exact ⟨ret_bool HS.out.symm, Below.refl _ _⟩
  have hl' : ((a.length : Int) != (b.length : Int)) = false := by rw [bne_eq_false_iff_eq]; omega
  have HL : Hid (a.length = b.length) := hl
  have hlb : b.length ≤ a.length := by omega
  have hla : a.length ≤ b.length := by omega
  clear hl
  have hgd := guard_level
  go_enter Try.func46, Try.ntmps46
  go_wp2
  go_loopw [13] (fun i wr => ∃ k n : Nat, k ≤ a.length ∧ i = .int .i64 k ∧ (∀ j (hj : j < k) (hja : j < a.length) (hjb : j < b.length), a[j] = b[j]) ∧ wr = w.drewN n) (fun i _ => a.length - (intOf i).toNat)
  case atStart => exact ⟨0, 0, Nat.zero_le _, rfl, fun j hj => absurd hj (Nat.not_lt_zero _), rfl⟩
  case round =>
    obtain ⟨k, n, hk, rfl, heq0, rfl⟩ := hrel
    have HE : Hid (∀ j (hj : j < k) (hja : j < a.length) (hjb : j < b.length), a[j] = b[j]) := heq0
    clear heq0
    by_cases hlt : k < a.length
    · obtain ⟨ba, oa, rfl, hcA⟩ := hca (by omega)
      obtain ⟨bb, ob, rfl, hcB⟩ := hcb (by omega)
      have hkb : k < b.length := by omega
      obtain ⟨ga1, ga2⟩ := hcA k hlt
      obtain ⟨gb1, gb2⟩ := hcB k hkb
      have hne := fun w => neq_level a[k] b[k] w
      clear hca hcb hcA hcB
      cases hd : decide (a[k] = b[k]) with
      | true =>
        rw [hd] at hne
        have hk2 : a[k] = b[k] := of_decide_eq_true hd
        have HK : Hid (a[k] = b[k]) := hk2
        clear hk2
        clear hd
        go_wp2_with fail
        go_quiet (fail)
        go_wp2
        go_roundw
        case rel => exact ⟨k + 1, n + nq, hlt, by go_num, fun j hj hja hjb => by
          by_cases e : j = k
          · subst e; exact HK.out
          · exact HE.out j (by omega) hja hjb, rfl⟩
        case measure => simp [intOf]; omega
      | false =>
        rw [hd] at hne
        have HS : Hid (sameB a b = false) := sameB_elem k hlt hkb (of_decide_eq_false hd)
        clear hd
        go_wp2_with fail
        go_quiet (fail)
        go_wp2
        go_ret
        exact ⟨ret_bool HS.out.symm, by rw [World.drewN_drewN]; exact below_drewN _ _⟩
    · go_wp2
      go_ret
      have e : sameB a b = true := sameB_all HL.out fun j hja hjb => HE.out j (by omega) hja hjb
      exact ⟨ret_bool e.symm, below_drewN _ _⟩

theorem same_any (va vb : Value) (a b : List (Int × Int)) (w : World) (ha : LabAt w va a) (hb : LabAt w vb b) :
    Calls Try.prog 14 #[va, vb] w fun e w' => e = .returned (.bool (sameB a b)) ∧ Below w.heap.size w w' := by
  go_enter Try.func14, Try.ntmps14
  go_wp2_with (go_at_call 46; refine (equal_any _ _ a b _ ha hb).mono ?_; rintro e w' ⟨rfl, hw⟩)
  go_ret
  exact ⟨rfl, hw⟩

end Go.Proofs.Ytichphepfmafjac
