/- slices.Clone at labels, lists of numbers, certs and what was sent: a copy in memory of its own. -/
import Derived.Test.YtgpldlbmjakjhaaGreatSTConcat
import Derived.Test.YtgpldlbmjakjhaaGreatSKRow
import Derived.Test.YtgpldlbmjakjhaaGreatSKClone
import Derived.Test.YtgpldlbmjakjhaaGreatSHeap0
import Derived.Lib.SliceRun
import Derived.Laws.ResultCell
import Derived.Deep.RegionHeld3
import Derived.Deep.QuietTactic
import Derived.BigQuiet
namespace Go.Proofs.YtgpldlbmjakjhaaGreat
open Go.RowKit Go.Proofs.Parclose
theorem info_sent : (Tryz.prog.info? 176).map (fun i => (i.zero, i.size, i.bytes)) = some (some (.agg #[.int .i64 0, .int .i64 0, .int .i64 0, .bool false, .int .i64 0, .int .i64 0, .int .i64 0, .slice none 0 0, .slice none 0 0, .string ⟨#[]⟩, .slice none 0 0, .int .i64 0, .int .i64 0]), 13, 160) := by kernel_rfl
set_option maxRecDepth 100000 in
set_option maxHeartbeats 400000 in
theorem cloneK_some (a : Addr) (n cap : Nat) (xs : List Value) (w : World) (hl : xs.length = n * 4) (hn : n ≤ 4398046511104) (hc : ∀ j u, xs[j]? = some u → w.cell? (a.add j) = some u) (h1 : ∀ u ∈ xs, u.oneCell' = true) :
    Calls Tryz.prog 33 #[.slice (some a) n cap] w fun e w' => ∃ v', e = .returned v' ∧ w'.ownsRow w.heap.size 78 4 v' n xs ∧ Below w.heap.size w w' := by
  obtain ⟨i0, hi, hz0, hz1, hz2⟩ := info_parts info_cert
  have q : ∀ (wx : World) (p : Option Addr) (n c n' c' : Nat), (binOp .eql 37 (.slice p n c) (.slice none n' c')).run Tryz.prog wx = .ok (.bool p.isNone) wx := fun wx p n c n' c' => Lib.run_eql_slice_nil wx _ _ p n c n' c' Tryz.underlying37
  have HC := hid hc
  clear hc
  go_enter Tryz.func33, Tryz.ntmps33
  go_wp2_with (at_builtin; refine wpList_append_own _ rfl _ _ 37 rfl w.heap.size 78 i0 _ 4 32 Tryz.underlying37 hi hz0 hz1 hz2 rfl (by decide) _ 0 [] rfl (own_empty w _ _ _ (Nat.le_refl _)) a n cap xs rfl hl (fun j u hu => by have := HC.out j u hu; rw [(below_box w _).cell (cell_block this), this]) h1 (by unfold maxLen; omega) (by omega) (by simp) ?_; intro v6 w6 hown6 hgrow6 hnil6)
  have hb6 : Below w.heap.size w w6 := (below_box w (.cells #[] 78)).grown hgrow6 (by simp) (fun k hk => by cases hk; exact Nat.le_refl _)
  clear hgrow6 hnil6
  rw [Nat.zero_add, List.nil_append] at hown6
  go_ret
  exact ⟨v6, rfl, hown6, hb6⟩
theorem cloneK_none (n cap : Nat) (w : World) : Calls Tryz.prog 33 #[.slice none n cap] w fun e w' => e = .returned (.slice none 0 0) ∧ w' = w := by
  have q : ∀ (wx : World) (p : Option Addr) (n c n' c' : Nat), (binOp .eql 37 (.slice p n c) (.slice none n' c')).run Tryz.prog wx = .ok (.bool p.isNone) wx := fun wx p n c n' c' => Lib.run_eql_slice_nil wx _ _ p n c n' c' Tryz.underlying37
  go_enter Tryz.func33, Tryz.ntmps33
  go_wp2
  go_ret
  exact ⟨rfl, rfl⟩
set_option maxRecDepth 100000 in
set_option maxHeartbeats 400000 in
theorem cloneS_some (a : Addr) (n cap : Nat) (xs : List Value) (w : World) (hl : xs.length = n * 13) (hn : n ≤ 879609302220) (hc : ∀ j u, xs[j]? = some u → w.cell? (a.add j) = some u) (h1 : ∀ u ∈ xs, u.oneCell' = true) :
    Calls Tryz.prog 141 #[.slice (some a) n cap] w fun e w' => ∃ v', e = .returned v' ∧ w'.ownsRow w.heap.size 176 13 v' n xs ∧ Below w.heap.size w w' := by
  obtain ⟨i0, hi, hz0, hz1, hz2⟩ := info_parts info_sent
  have q : ∀ (wx : World) (p : Option Addr) (n c n' c' : Nat), (binOp .eql 86 (.slice p n c) (.slice none n' c')).run Tryz.prog wx = .ok (.bool p.isNone) wx := fun wx p n c n' c' => Lib.run_eql_slice_nil wx _ _ p n c n' c' Tryz.underlying86
  have HC := hid hc
  clear hc
  go_enter Tryz.func141, Tryz.ntmps141
  go_wp2_with (at_builtin; refine wpList_append_own _ rfl _ _ 86 rfl w.heap.size 176 i0 _ 13 160 Tryz.underlying86 hi hz0 hz1 hz2 rfl (by decide) _ 0 [] rfl (own_empty w _ _ _ (Nat.le_refl _)) a n cap xs rfl hl (fun j u hu => by have := HC.out j u hu; rw [(below_box w _).cell (cell_block this), this]) h1 (by unfold maxLen; omega) (by omega) (by simp) ?_; intro v6 w6 hown6 hgrow6 hnil6)
  have hb6 : Below w.heap.size w w6 := (below_box w (.cells #[] 176)).grown hgrow6 (by simp) (fun k hk => by cases hk; exact Nat.le_refl _)
  clear hgrow6 hnil6
  rw [Nat.zero_add, List.nil_append] at hown6
  go_ret
  exact ⟨v6, rfl, hown6, hb6⟩
theorem cloneS_none (n cap : Nat) (w : World) : Calls Tryz.prog 141 #[.slice none n cap] w fun e w' => e = .returned (.slice none 0 0) ∧ w' = w := by
  have q : ∀ (wx : World) (p : Option Addr) (n c n' c' : Nat), (binOp .eql 86 (.slice p n c) (.slice none n' c')).run Tryz.prog wx = .ok (.bool p.isNone) wx := fun wx p n c n' c' => Lib.run_eql_slice_nil wx _ _ p n c n' c' Tryz.underlying86
  go_enter Tryz.func141, Tryz.ntmps141
  go_wp2
  go_ret
  exact ⟨rfl, rfl⟩
theorem cloneK_any (v : Value) (l : List Crt) (w : World) (hv : CrtsAt w v l) :
    Calls Tryz.prog 33 #[v] w fun e w' => ∃ v', e = .returned v' ∧ w'.ownsRow w.heap.size 78 4 v' l.length (flat4 l) ∧ Below w.heap.size w w' := by
  obtain ⟨p, cap, rfl, hlc, hcap, hcells⟩ := hv
  have hlen := flat4_len l
  cases p with
  | none =>
    have h0 : l = [] := by
      have := hlc.2 rfl
      exact List.length_eq_zero_iff.1 (by omega)
    subst h0
    refine (cloneK_none 0 cap w).mono ?_
    rintro e w' ⟨rfl, rfl⟩
    exact ⟨_, rfl, World.ownsRow_nil _ _ _ _, Below.refl _ _⟩
  | some a =>
    refine cloneK_some a l.length cap (flat4 l) w hlen hcap (fun j u hu => ?_) (flat4_one l)
    have hj := (List.getElem?_eq_some_iff.1 hu).1
    obtain ⟨b, o, e, hc⟩ := hcells (by omega)
    cases e
    rw [WideShapes.add_plain]
    have hj2 : j / 4 < l.length := by omega
    obtain ⟨g1, g2, g3, g4⟩ := flat4_get l (j / 4) hj2
    obtain ⟨k1, k2, k3, k4⟩ := hc (j / 4) hj2
    have hm : j % 4 = 0 ∨ j % 4 = 1 ∨ j % 4 = 2 ∨ j % 4 = 3 := by omega
    rcases hm with hm | hm | hm | hm
    · rw [show j / 4 * 4 = j by omega] at g1 k1
      rw [k1, ← g1, hu]
    · rw [show j / 4 * 4 + 1 = j by omega] at g2
      rw [show o + j / 4 * 4 + 1 = o + j by omega] at k2
      rw [k2, ← g2, hu]
    · rw [show j / 4 * 4 + 2 = j by omega] at g3
      rw [show o + j / 4 * 4 + 2 = o + j by omega] at k3
      rw [k3, ← g3, hu]
    · rw [show j / 4 * 4 + 3 = j by omega] at g4
      rw [show o + j / 4 * 4 + 3 = o + j by omega] at k4
      rw [k4, ← g4, hu]
theorem cloneS_any (v : Value) (q : List SntV) (w : World) (hv : RowAt w v q) (hok : ∀ x ∈ q, x.Ok w) :
    Calls Tryz.prog 141 #[v] w fun e w' => ∃ v', e = .returned v' ∧ w'.ownsRow w.heap.size 176 13 v' q.length (flatS q) ∧ Below w.heap.size w w' := by
  obtain ⟨p, cap, rfl, hlc, hcap, hcells⟩ := hv
  have hlen := flatS_len q
  cases p with
  | none =>
    have h0 : q = [] := by
      have := hlc.2 rfl
      exact List.length_eq_zero_iff.1 (by omega)
    subst h0
    refine (cloneS_none 0 cap w).mono ?_
    rintro e w' ⟨rfl, rfl⟩
    exact ⟨_, rfl, World.ownsRow_nil _ _ _ _, Below.refl _ _⟩
  | some a =>
    refine cloneS_some a q.length cap (flatS q) w hlen hcap (fun j u hu => ?_) (flatS_one hok)
    have hj := (List.getElem?_eq_some_iff.1 hu).1
    obtain ⟨b, o, e, hc⟩ := hcells (by omega)
    cases e
    rw [WideShapes.add_plain]
    exact hc j u hu
end Go.Proofs.YtgpldlbmjakjhaaGreat
