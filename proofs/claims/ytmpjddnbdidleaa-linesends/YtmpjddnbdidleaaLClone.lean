/- slices.Clone at labels, lists of numbers, certs and what was sent: a copy in memory of its own. -/
import Derived.Test.YtmpjddnbdidleaaLMem
import Derived.Lib.SliceRun
import Derived.Laws.ResultCell
import Derived.Deep.RegionHeld3
import Derived.Deep.QuietTactic
import Derived.BigQuiet
namespace Go.Proofs.Ytmpjddnbdidleaa
open Go.RowKit Go.Proofs.Parclose

theorem info_sent : (Try.prog.info? 56).map (fun i => (i.zero, i.size, i.bytes)) = some (some (.agg #[.int .i64 0, .int .i64 0, .int .i64 0, .bool false, .int .i64 0, .int .i64 0, .int .i64 0, .slice none 0 0, .slice none 0 0, .string ⟨#[]⟩, .slice none 0 0, .int .i64 0, .int .i64 0]), 13, 160) := by kernel_rfl
theorem flat1_len (l : List Int) : (flat1 l).length = l.length := by simp [flat1]
theorem own_empty (w : World) (base : Nat) (e : TypeId) (size : Nat) (hb : base ≤ w.heap.size) : (w.alloc (.cells #[] e)).ownsRow base e size (.slice (some ⟨w.heap.size, 0, none⟩) 0 0) 0 [] :=
  ⟨by simp, .inr ⟨w.heap.size, 0, #[], rfl, hb, heap_alloc_new w _, Nat.le_refl _, Nat.zero_le _, by simp, by simp⟩⟩

set_option maxRecDepth 100000 in
set_option maxHeartbeats 400000 in
theorem cloneL_some (a : Addr) (n cap : Nat) (xs : List Value) (w : World) (hl : xs.length = n * 2) (hn : n ≤ 8796093022208) (hc : ∀ j u, xs[j]? = some u → w.cell? (a.add j) = some u) (h1 : ∀ u ∈ xs, u.oneCell' = true) :
    Calls Try.prog 42 #[.slice (some a) n cap] w fun e w' => ∃ v', e = .returned v' ∧ w'.ownsRow w.heap.size 72 2 v' n xs ∧ Below w.heap.size w w' := by
  obtain ⟨i0, hi, hz0, hz1, hz2⟩ := info_parts info_level
  have q : ∀ (wx : World) (p : Option Addr) (n c n' c' : Nat), (binOp .eql 27 (.slice p n c) (.slice none n' c')).run Try.prog wx = .ok (.bool p.isNone) wx := fun wx p n c n' c' => Lib.run_eql_slice_nil wx _ _ p n c n' c' Try.underlying27
  have HC := hid hc
  clear hc
  go_enter Try.func42, Try.ntmps42
  go_wp2_with (at_builtin; refine wpList_append_own _ rfl _ _ 27 rfl w.heap.size 72 i0 _ 2 16 Try.underlying27 hi hz0 hz1 hz2 rfl (by decide) _ 0 [] rfl (own_empty w _ _ _ (Nat.le_refl _)) a n cap xs rfl hl (fun j u hu => by have := HC.out j u hu; rw [(below_box w _).cell (cell_block this), this]) h1 (by unfold maxLen; omega) (by omega) (by simp) ?_; intro v6 w6 hown6 hgrow6 hnil6)
  have hb6 : Below w.heap.size w w6 := (below_box w (.cells #[] 72)).grown hgrow6 (by simp) (fun k hk => by cases hk; exact Nat.le_refl _)
  clear hgrow6 hnil6
  rw [Nat.zero_add, List.nil_append] at hown6
  go_ret
  exact ⟨v6, rfl, hown6, hb6⟩
theorem cloneL_none (n cap : Nat) (w : World) : Calls Try.prog 42 #[.slice none n cap] w fun e w' => e = .returned (.slice none 0 0) ∧ w' = w := by
  have q : ∀ (wx : World) (p : Option Addr) (n c n' c' : Nat), (binOp .eql 27 (.slice p n c) (.slice none n' c')).run Try.prog wx = .ok (.bool p.isNone) wx := fun wx p n c n' c' => Lib.run_eql_slice_nil wx _ _ p n c n' c' Try.underlying27
  go_enter Try.func42, Try.ntmps42
  go_wp2
  go_ret
  exact ⟨rfl, rfl⟩

set_option maxRecDepth 100000 in
set_option maxHeartbeats 400000 in
theorem cloneI_some (a : Addr) (n cap : Nat) (xs : List Value) (w : World) (hl : xs.length = n * 1) (hn : n ≤ 17592186044416) (hc : ∀ j u, xs[j]? = some u → w.cell? (a.add j) = some u) (h1 : ∀ u ∈ xs, u.oneCell' = true) :
    Calls Try.prog 43 #[.slice (some a) n cap] w fun e w' => ∃ v', e = .returned v' ∧ w'.ownsRow w.heap.size 3 1 v' n xs ∧ Below w.heap.size w w' := by
  obtain ⟨i0, hi, hz0, hz1, hz2⟩ := info_parts info_int
  have q : ∀ (wx : World) (p : Option Addr) (n c n' c' : Nat), (binOp .eql 28 (.slice p n c) (.slice none n' c')).run Try.prog wx = .ok (.bool p.isNone) wx := fun wx p n c n' c' => Lib.run_eql_slice_nil wx _ _ p n c n' c' Try.underlying28
  have HC := hid hc
  clear hc
  go_enter Try.func43, Try.ntmps43
  go_wp2_with (at_builtin; refine wpList_append_own _ rfl _ _ 28 rfl w.heap.size 3 i0 _ 1 8 Try.underlying28 hi hz0 hz1 hz2 rfl (by decide) _ 0 [] rfl (own_empty w _ _ _ (Nat.le_refl _)) a n cap xs rfl hl (fun j u hu => by have := HC.out j u hu; rw [(below_box w _).cell (cell_block this), this]) h1 (by unfold maxLen; omega) (by omega) (by simp) ?_; intro v6 w6 hown6 hgrow6 hnil6)
  have hb6 : Below w.heap.size w w6 := (below_box w (.cells #[] 3)).grown hgrow6 (by simp) (fun k hk => by cases hk; exact Nat.le_refl _)
  clear hgrow6 hnil6
  rw [Nat.zero_add, List.nil_append] at hown6
  go_ret
  exact ⟨v6, rfl, hown6, hb6⟩
theorem cloneI_none (n cap : Nat) (w : World) : Calls Try.prog 43 #[.slice none n cap] w fun e w' => e = .returned (.slice none 0 0) ∧ w' = w := by
  have q : ∀ (wx : World) (p : Option Addr) (n c n' c' : Nat), (binOp .eql 28 (.slice p n c) (.slice none n' c')).run Try.prog wx = .ok (.bool p.isNone) wx := fun wx p n c n' c' => Lib.run_eql_slice_nil wx _ _ p n c n' c' Try.underlying28
  go_enter Try.func43, Try.ntmps43
  go_wp2
  go_ret
  exact ⟨rfl, rfl⟩

set_option maxRecDepth 100000 in
set_option maxHeartbeats 400000 in
theorem cloneC_some (a : Addr) (n cap : Nat) (xs : List Value) (w : World) (hl : xs.length = n * 4) (hn : n ≤ 4398046511104) (hc : ∀ j u, xs[j]? = some u → w.cell? (a.add j) = some u) (h1 : ∀ u ∈ xs, u.oneCell' = true) :
    Calls Try.prog 44 #[.slice (some a) n cap] w fun e w' => ∃ v', e = .returned v' ∧ w'.ownsRow w.heap.size 68 4 v' n xs ∧ Below w.heap.size w w' := by
  obtain ⟨i0, hi, hz0, hz1, hz2⟩ := info_parts info_cert
  have q : ∀ (wx : World) (p : Option Addr) (n c n' c' : Nat), (binOp .eql 31 (.slice p n c) (.slice none n' c')).run Try.prog wx = .ok (.bool p.isNone) wx := fun wx p n c n' c' => Lib.run_eql_slice_nil wx _ _ p n c n' c' Try.underlying31
  have HC := hid hc
  clear hc
  go_enter Try.func44, Try.ntmps44
  go_wp2_with (at_builtin; refine wpList_append_own _ rfl _ _ 31 rfl w.heap.size 68 i0 _ 4 32 Try.underlying31 hi hz0 hz1 hz2 rfl (by decide) _ 0 [] rfl (own_empty w _ _ _ (Nat.le_refl _)) a n cap xs rfl hl (fun j u hu => by have := HC.out j u hu; rw [(below_box w _).cell (cell_block this), this]) h1 (by unfold maxLen; omega) (by omega) (by simp) ?_; intro v6 w6 hown6 hgrow6 hnil6)
  have hb6 : Below w.heap.size w w6 := (below_box w (.cells #[] 68)).grown hgrow6 (by simp) (fun k hk => by cases hk; exact Nat.le_refl _)
  clear hgrow6 hnil6
  rw [Nat.zero_add, List.nil_append] at hown6
  go_ret
  exact ⟨v6, rfl, hown6, hb6⟩
theorem cloneC_none (n cap : Nat) (w : World) : Calls Try.prog 44 #[.slice none n cap] w fun e w' => e = .returned (.slice none 0 0) ∧ w' = w := by
  have q : ∀ (wx : World) (p : Option Addr) (n c n' c' : Nat), (binOp .eql 31 (.slice p n c) (.slice none n' c')).run Try.prog wx = .ok (.bool p.isNone) wx := fun wx p n c n' c' => Lib.run_eql_slice_nil wx _ _ p n c n' c' Try.underlying31
  go_enter Try.func44, Try.ntmps44
  go_wp2
  go_ret
  exact ⟨rfl, rfl⟩

set_option maxRecDepth 100000 in
set_option maxHeartbeats 400000 in
theorem cloneS_some (a : Addr) (n cap : Nat) (xs : List Value) (w : World) (hl : xs.length = n * 13) (hn : n ≤ 879609302220) (hc : ∀ j u, xs[j]? = some u → w.cell? (a.add j) = some u) (h1 : ∀ u ∈ xs, u.oneCell' = true) :
    Calls Try.prog 41 #[.slice (some a) n cap] w fun e w' => ∃ v', e = .returned v' ∧ w'.ownsRow w.heap.size 56 13 v' n xs ∧ Below w.heap.size w w' := by
  obtain ⟨i0, hi, hz0, hz1, hz2⟩ := info_parts info_sent
  have q : ∀ (wx : World) (p : Option Addr) (n c n' c' : Nat), (binOp .eql 22 (.slice p n c) (.slice none n' c')).run Try.prog wx = .ok (.bool p.isNone) wx := fun wx p n c n' c' => Lib.run_eql_slice_nil wx _ _ p n c n' c' Try.underlying22
  have HC := hid hc
  clear hc
  go_enter Try.func41, Try.ntmps41
  go_wp2_with (at_builtin; refine wpList_append_own _ rfl _ _ 22 rfl w.heap.size 56 i0 _ 13 160 Try.underlying22 hi hz0 hz1 hz2 rfl (by decide) _ 0 [] rfl (own_empty w _ _ _ (Nat.le_refl _)) a n cap xs rfl hl (fun j u hu => by have := HC.out j u hu; rw [(below_box w _).cell (cell_block this), this]) h1 (by unfold maxLen; omega) (by omega) (by simp) ?_; intro v6 w6 hown6 hgrow6 hnil6)
  have hb6 : Below w.heap.size w w6 := (below_box w (.cells #[] 56)).grown hgrow6 (by simp) (fun k hk => by cases hk; exact Nat.le_refl _)
  clear hgrow6 hnil6
  rw [Nat.zero_add, List.nil_append] at hown6
  go_ret
  exact ⟨v6, rfl, hown6, hb6⟩
theorem cloneS_none (n cap : Nat) (w : World) : Calls Try.prog 41 #[.slice none n cap] w fun e w' => e = .returned (.slice none 0 0) ∧ w' = w := by
  have q : ∀ (wx : World) (p : Option Addr) (n c n' c' : Nat), (binOp .eql 22 (.slice p n c) (.slice none n' c')).run Try.prog wx = .ok (.bool p.isNone) wx := fun wx p n c n' c' => Lib.run_eql_slice_nil wx _ _ p n c n' c' Try.underlying22
  go_enter Try.func41, Try.ntmps41
  go_wp2
  go_ret
  exact ⟨rfl, rfl⟩

theorem flat2_len (l : List (Int × Int)) : (flat2 l).length = l.length * 2 := by
  induction l with
  | nil => rfl
  | cons x r ih =>
    have e : flat2 (x :: r) = .int .i64 x.1 :: .int .i64 x.2 :: flat2 r := rfl
    rw [e, List.length_cons, List.length_cons, List.length_cons, ih]
    omega
theorem cloneL_any (v : Value) (l : List (Int × Int)) (w : World) (hv : LabAt w v l) :
    Calls Try.prog 42 #[v] w fun e w' => ∃ v', e = .returned v' ∧ w'.ownsRow w.heap.size 72 2 v' l.length (flat2 l) ∧ Below w.heap.size w w' := by
  obtain ⟨p, cap, rfl, hlc, hcap, hcells⟩ := hv
  have hlen := flat2_len l
  cases p with
  | none =>
    have h0 : l = [] := by
      have := hlc.2 rfl
      exact List.length_eq_zero_iff.1 (by omega)
    subst h0
    refine (cloneL_none 0 cap w).mono ?_
    rintro e w' ⟨rfl, rfl⟩
    exact ⟨_, rfl, World.ownsRow_nil _ _ _ _, Below.refl _ _⟩
  | some a =>
    refine cloneL_some a l.length cap (flat2 l) w hlen hcap (fun j u hu => ?_) (flat2_one l)
    have hj := (List.getElem?_eq_some_iff.1 hu).1
    have h0 : 0 < l.length := by omega
    obtain ⟨b, o, e, hc⟩ := hcells h0
    cases e
    rw [WideShapes.add_plain]
    have hj2 : j / 2 < l.length := by omega
    obtain ⟨g1, g2⟩ := flat2_get l (j / 2) hj2
    obtain ⟨k1, k2⟩ := hc (j / 2) hj2
    by_cases hm : j % 2 = 0
    · rw [show j / 2 * 2 = j by omega] at g1 k1
      rw [k1, ← g1, hu]
    · rw [show j / 2 * 2 + 1 = j by omega] at g2
      rw [show o + j / 2 * 2 + 1 = o + j by omega] at k2
      rw [k2, ← g2, hu]

theorem cloneI_any (v : Value) (l : List Int) (w : World) (hv : IntsAt w v l) :
    Calls Try.prog 43 #[v] w fun e w' => ∃ v', e = .returned v' ∧ w'.ownsRow w.heap.size 3 1 v' l.length (flat1 l) ∧ Below w.heap.size w w' := by
  obtain ⟨p, cap, rfl, hlc, hcap, hcells⟩ := hv
  cases p with
  | none =>
    have h0 : l = [] := by
      have := hlc.2 rfl
      exact List.length_eq_zero_iff.1 (by omega)
    subst h0
    refine (cloneI_none 0 cap w).mono ?_
    rintro e w' ⟨rfl, rfl⟩
    exact ⟨_, rfl, World.ownsRow_nil _ _ _ _, Below.refl _ _⟩
  | some a =>
    refine cloneI_some a l.length cap (flat1 l) w (by rw [flat1_len]; omega) hcap (fun j u hu => ?_) (flat1_one l)
    have hj := (List.getElem?_eq_some_iff.1 hu).1
    rw [flat1_len] at hj
    obtain ⟨b, o, e, hc⟩ := hcells (by omega)
    cases e
    rw [WideShapes.add_plain, hc j hj, ← hu]
    simp [flat1, hj]

theorem flat4_len (l : List Crt) : (flat4 l).length = l.length * 4 := by
  induction l with
  | nil => rfl
  | cons x r ih =>
    have e : flat4 (x :: r) = .int .i64 x.c :: .int .i64 x.b :: .int .i64 x.h :: .int .i64 x.u :: flat4 r := rfl
    rw [e]
    simp only [List.length_cons, ih]
    omega
theorem cloneC_any (v : Value) (l : List Crt) (w : World) (hv : CrtsAt w v l) :
    Calls Try.prog 44 #[v] w fun e w' => ∃ v', e = .returned v' ∧ w'.ownsRow w.heap.size 68 4 v' l.length (flat4 l) ∧ Below w.heap.size w w' := by
  obtain ⟨p, cap, rfl, hlc, hcap, hcells⟩ := hv
  have hlen := flat4_len l
  cases p with
  | none =>
    have h0 : l = [] := by
      have := hlc.2 rfl
      exact List.length_eq_zero_iff.1 (by omega)
    subst h0
    refine (cloneC_none 0 cap w).mono ?_
    rintro e w' ⟨rfl, rfl⟩
    exact ⟨_, rfl, World.ownsRow_nil _ _ _ _, Below.refl _ _⟩
  | some a =>
    refine cloneC_some a l.length cap (flat4 l) w hlen hcap (fun j u hu => ?_) (flat4_one l)
    have hj := (List.getElem?_eq_some_iff.1 hu).1
    obtain ⟨b, o, e, hc⟩ := hcells (by omega)
    cases e
    rw [WideShapes.add_plain]
    have hj2 : j / 4 < l.length := by omega
    obtain ⟨g1, g2, g3, g4⟩ := flat4_get l (j / 4) hj2
    obtain ⟨k1, k2, k3, k4⟩ := hc (j / 4) hj2
    have hm : j % 4 = 0 ∨ j % 4 = 1 ∨ j % 4 = 2 ∨ j % 4 = 3 := by omega
    rcases hm with hm | hm | hm | hm
    · rw [show j / 4 * 4 = j by omega] at g1 k1
      rw [k1, ← g1, hu]
    · rw [show j / 4 * 4 + 1 = j by omega] at g2
      rw [show o + j / 4 * 4 + 1 = o + j by omega] at k2
      rw [k2, ← g2, hu]
    · rw [show j / 4 * 4 + 2 = j by omega] at g3
      rw [show o + j / 4 * 4 + 2 = o + j by omega] at k3
      rw [k3, ← g3, hu]
    · rw [show j / 4 * 4 + 3 = j by omega] at g4
      rw [show o + j / 4 * 4 + 3 = o + j by omega] at k4
      rw [k4, ← g4, hu]
theorem cloneS_any (v : Value) (q : List SntV) (w : World) (hv : RowAt w v q) (hok : ∀ x ∈ q, x.Ok w) :
    Calls Try.prog 41 #[v] w fun e w' => ∃ v', e = .returned v' ∧ w'.ownsRow w.heap.size 56 13 v' q.length (flatS q) ∧ Below w.heap.size w w' := by
  obtain ⟨p, cap, rfl, hlc, hcap, hcells⟩ := hv
  have hlen := flatS_len q
  cases p with
  | none =>
    have h0 : q = [] := by
      have := hlc.2 rfl
      exact List.length_eq_zero_iff.1 (by omega)
    subst h0
    refine (cloneS_none 0 cap w).mono ?_
    rintro e w' ⟨rfl, rfl⟩
    exact ⟨_, rfl, World.ownsRow_nil _ _ _ _, Below.refl _ _⟩
  | some a =>
    refine cloneS_some a q.length cap (flatS q) w hlen hcap (fun j u hu => ?_) (flatS_one hok)
    have hj := (List.getElem?_eq_some_iff.1 hu).1
    obtain ⟨b, o, e, hc⟩ := hcells (by omega)
    cases e
    rw [WideShapes.add_plain]
    exact hc j u hu
end Go.Proofs.Ytmpjddnbdidleaa
