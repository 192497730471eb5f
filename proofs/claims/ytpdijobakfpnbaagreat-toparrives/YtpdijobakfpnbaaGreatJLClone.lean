/- slices.Clone at labels, lists of numbers, certs and what was sent: a copy in memory of its own. -/
import Derived.Test.YtpdijobakfpnbaaGreatJLMem
import Derived.Lib.SliceRun
import Derived.Laws.ResultCell
import Derived.Deep.RegionHeld3
import Derived.Deep.QuietTactic
import Derived.BigQuiet
namespace Go.Proofs.YtpdijobakfpnbaaGreat
open Go.RowKit Go.Proofs.Parclose
theorem Qbs : (Tryz.prog.info? 146).map (fun i => (i.zero, i.size, i.bytes)) = some (some (.agg #[.int .i64 0, .int .i64 0, .int .i64 0, .bool false, .int .i64 0, .int .i64 0, .int .i64 0, .slice none 0 0, .slice none 0 0, .string ⟨#[]⟩, .slice none 0 0, .int .i64 0, .int .i64 0]), 13, 160) := by kernel_rfl
theorem QX (l : List Int) : (flat1 l).length = l.length := by simp [flat1]
theorem QaU (w : World) (base : Nat) (e : TypeId) (size : Nat) (hb : base ≤ w.heap.size) : (w.alloc (.cells #[] e)).ownsRow base e size (.slice (some ⟨w.heap.size, 0, none⟩) 0 0) 0 [] :=
 ⟨by simp, .inr ⟨w.heap.size, 0, #[], rfl, hb, heap_alloc_new w _, Nat.le_refl _, Nat.zero_le _, by simp, by simp⟩⟩
set_option maxRecDepth 100000 in
set_option maxHeartbeats 400000 in
theorem Qg1 (a : Addr) (n cap : Nat) (xs : List Value) (w : World) (hl : xs.length = n * 2) (hn : n ≤ 8796093022208) (hc : ∀ j u, xs[j]? = some u → w.cell? (a.add j) = some u) (h1 : ∀ u ∈ xs, u.oneCell' = true) :
 Calls Tryz.prog 104 #[.slice (some a) n cap] w fun e w' => ∃ v', e = .returned v' ∧ w'.ownsRow w.heap.size 54 2 v' n xs ∧ Below w.heap.size w w' := by
 obtain ⟨i0, hi, hz0, hz1, hz2⟩ := info_parts QbB
 have q : ∀ (wx : World) (p : Option Addr) (n c n' c' : Nat), (binOp .eql 34 (.slice p n c) (.slice none n' c')).run Tryz.prog wx = .ok (.bool p.isNone) wx := fun wx p n c n' c' => Lib.run_eql_slice_nil wx _ _ p n c n' c' Tryz.underlying34
 have HC := hid hc
 clear hc
 go_enter Tryz.func104, Tryz.ntmps104
 go_wp2_with (at_builtin; refine wpList_append_own _ rfl _ _ 34 rfl w.heap.size 54 i0 _ 2 16 Tryz.underlying34 hi hz0 hz1 hz2 rfl (by decide) _ 0 [] rfl (QaU w _ _ _ (Nat.le_refl _)) a n cap xs rfl hl (fun j u hu => by have := HC.out j u hu; rw [(Qd w _).cell (Qf this), this]) h1 (by unfold maxLen; omega) (by omega) (by simp) ?_; intro v6 w6 hown6 hgrow6 hnil6)
 have hb6 : Below w.heap.size w w6 := (Qd w (.cells #[] 54)).grown hgrow6 (by simp) (fun k hk => by cases hk; exact Nat.le_refl _)
 clear hgrow6 hnil6
 rw [Nat.zero_add, List.nil_append] at hown6
 go_ret
 exact ⟨v6, rfl, hown6, hb6⟩
theorem Qg2 (n cap : Nat) (w : World) : Calls Tryz.prog 104 #[.slice none n cap] w fun e w' => e = .returned (.slice none 0 0) ∧ w' = w := by
 have q : ∀ (wx : World) (p : Option Addr) (n c n' c' : Nat), (binOp .eql 34 (.slice p n c) (.slice none n' c')).run Tryz.prog wx = .ok (.bool p.isNone) wx := fun wx p n c n' c' => Lib.run_eql_slice_nil wx _ _ p n c n' c' Tryz.underlying34
 go_enter Tryz.func104, Tryz.ntmps104
 go_wp2
 go_ret
 exact ⟨rfl, rfl⟩
set_option maxRecDepth 100000 in
set_option maxHeartbeats 400000 in
theorem Qg5 (a : Addr) (n cap : Nat) (xs : List Value) (w : World) (hl : xs.length = n * 1) (hn : n ≤ 17592186044416) (hc : ∀ j u, xs[j]? = some u → w.cell? (a.add j) = some u) (h1 : ∀ u ∈ xs, u.oneCell' = true) :
 Calls Tryz.prog 105 #[.slice (some a) n cap] w fun e w' => ∃ v', e = .returned v' ∧ w'.ownsRow w.heap.size 3 1 v' n xs ∧ Below w.heap.size w w' := by
 obtain ⟨i0, hi, hz0, hz1, hz2⟩ := info_parts QbL
 have q : ∀ (wx : World) (p : Option Addr) (n c n' c' : Nat), (binOp .eql 35 (.slice p n c) (.slice none n' c')).run Tryz.prog wx = .ok (.bool p.isNone) wx := fun wx p n c n' c' => Lib.run_eql_slice_nil wx _ _ p n c n' c' Tryz.underlying35
 have HC := hid hc
 clear hc
 go_enter Tryz.func105, Tryz.ntmps105
 go_wp2_with (at_builtin; refine wpList_append_own _ rfl _ _ 35 rfl w.heap.size 3 i0 _ 1 8 Tryz.underlying35 hi hz0 hz1 hz2 rfl (by decide) _ 0 [] rfl (QaU w _ _ _ (Nat.le_refl _)) a n cap xs rfl hl (fun j u hu => by have := HC.out j u hu; rw [(Qd w _).cell (Qf this), this]) h1 (by unfold maxLen; omega) (by omega) (by simp) ?_; intro v6 w6 hown6 hgrow6 hnil6)
 have hb6 : Below w.heap.size w w6 := (Qd w (.cells #[] 3)).grown hgrow6 (by simp) (fun k hk => by cases hk; exact Nat.le_refl _)
 clear hgrow6 hnil6
 rw [Nat.zero_add, List.nil_append] at hown6
 go_ret
 exact ⟨v6, rfl, hown6, hb6⟩
theorem Qg6 (n cap : Nat) (w : World) : Calls Tryz.prog 105 #[.slice none n cap] w fun e w' => e = .returned (.slice none 0 0) ∧ w' = w := by
 have q : ∀ (wx : World) (p : Option Addr) (n c n' c' : Nat), (binOp .eql 35 (.slice p n c) (.slice none n' c')).run Tryz.prog wx = .ok (.bool p.isNone) wx := fun wx p n c n' c' => Lib.run_eql_slice_nil wx _ _ p n c n' c' Tryz.underlying35
 go_enter Tryz.func105, Tryz.ntmps105
 go_wp2
 go_ret
 exact ⟨rfl, rfl⟩
set_option maxRecDepth 100000 in
set_option maxHeartbeats 400000 in
theorem Qg3 (a : Addr) (n cap : Nat) (xs : List Value) (w : World) (hl : xs.length = n * 4) (hn : n ≤ 4398046511104) (hc : ∀ j u, xs[j]? = some u → w.cell? (a.add j) = some u) (h1 : ∀ u ∈ xs, u.oneCell' = true) :
 Calls Tryz.prog 40 #[.slice (some a) n cap] w fun e w' => ∃ v', e = .returned v' ∧ w'.ownsRow w.heap.size 60 4 v' n xs ∧ Below w.heap.size w w' := by
 obtain ⟨i0, hi, hz0, hz1, hz2⟩ := info_parts QaV
 have q : ∀ (wx : World) (p : Option Addr) (n c n' c' : Nat), (binOp .eql 57 (.slice p n c) (.slice none n' c')).run Tryz.prog wx = .ok (.bool p.isNone) wx := fun wx p n c n' c' => Lib.run_eql_slice_nil wx _ _ p n c n' c' Tryz.underlying57
 have HC := hid hc
 clear hc
 go_enter Tryz.func40, Tryz.ntmps40
 go_wp2_with (at_builtin; refine wpList_append_own _ rfl _ _ 57 rfl w.heap.size 60 i0 _ 4 32 Tryz.underlying57 hi hz0 hz1 hz2 rfl (by decide) _ 0 [] rfl (QaU w _ _ _ (Nat.le_refl _)) a n cap xs rfl hl (fun j u hu => by have := HC.out j u hu; rw [(Qd w _).cell (Qf this), this]) h1 (by unfold maxLen; omega) (by omega) (by simp) ?_; intro v6 w6 hown6 hgrow6 hnil6)
 have hb6 : Below w.heap.size w w6 := (Qd w (.cells #[] 60)).grown hgrow6 (by simp) (fun k hk => by cases hk; exact Nat.le_refl _)
 clear hgrow6 hnil6
 rw [Nat.zero_add, List.nil_append] at hown6
 go_ret
 exact ⟨v6, rfl, hown6, hb6⟩
theorem Qg4 (n cap : Nat) (w : World) : Calls Tryz.prog 40 #[.slice none n cap] w fun e w' => e = .returned (.slice none 0 0) ∧ w' = w := by
 have q : ∀ (wx : World) (p : Option Addr) (n c n' c' : Nat), (binOp .eql 57 (.slice p n c) (.slice none n' c')).run Tryz.prog wx = .ok (.bool p.isNone) wx := fun wx p n c n' c' => Lib.run_eql_slice_nil wx _ _ p n c n' c' Tryz.underlying57
 go_enter Tryz.func40, Tryz.ntmps40
 go_wp2
 go_ret
 exact ⟨rfl, rfl⟩
set_option maxRecDepth 100000 in
set_option maxHeartbeats 400000 in
theorem QgV (a : Addr) (n cap : Nat) (xs : List Value) (w : World) (hl : xs.length = n * 13) (hn : n ≤ 879609302220) (hc : ∀ j u, xs[j]? = some u → w.cell? (a.add j) = some u) (h1 : ∀ u ∈ xs, u.oneCell' = true) :
 Calls Tryz.prog 187 #[.slice (some a) n cap] w fun e w' => ∃ v', e = .returned v' ∧ w'.ownsRow w.heap.size 146 13 v' n xs ∧ Below w.heap.size w w' := by
 obtain ⟨i0, hi, hz0, hz1, hz2⟩ := info_parts Qbs
 have q : ∀ (wx : World) (p : Option Addr) (n c n' c' : Nat), (binOp .eql 68 (.slice p n c) (.slice none n' c')).run Tryz.prog wx = .ok (.bool p.isNone) wx := fun wx p n c n' c' => Lib.run_eql_slice_nil wx _ _ p n c n' c' Tryz.underlying68
 have HC := hid hc
 clear hc
 go_enter Tryz.func187, Tryz.ntmps187
 go_wp2_with (at_builtin; refine wpList_append_own _ rfl _ _ 68 rfl w.heap.size 146 i0 _ 13 160 Tryz.underlying68 hi hz0 hz1 hz2 rfl (by decide) _ 0 [] rfl (QaU w _ _ _ (Nat.le_refl _)) a n cap xs rfl hl (fun j u hu => by have := HC.out j u hu; rw [(Qd w _).cell (Qf this), this]) h1 (by unfold maxLen; omega) (by omega) (by simp) ?_; intro v6 w6 hown6 hgrow6 hnil6)
 have hb6 : Below w.heap.size w w6 := (Qd w (.cells #[] 146)).grown hgrow6 (by simp) (fun k hk => by cases hk; exact Nat.le_refl _)
 clear hgrow6 hnil6
 rw [Nat.zero_add, List.nil_append] at hown6
 go_ret
 exact ⟨v6, rfl, hown6, hb6⟩
theorem QgW (n cap : Nat) (w : World) : Calls Tryz.prog 187 #[.slice none n cap] w fun e w' => e = .returned (.slice none 0 0) ∧ w' = w := by
 have q : ∀ (wx : World) (p : Option Addr) (n c n' c' : Nat), (binOp .eql 68 (.slice p n c) (.slice none n' c')).run Tryz.prog wx = .ok (.bool p.isNone) wx := fun wx p n c n' c' => Lib.run_eql_slice_nil wx _ _ p n c n' c' Tryz.underlying68
 go_enter Tryz.func187, Tryz.ntmps187
 go_wp2
 go_ret
 exact ⟨rfl, rfl⟩
theorem Qkf (l : List (Int × Int)) : (flat2 l).length = l.length * 2 := by
 induction l with
 | nil => rfl
 | cons x r ih =>
  have e : flat2 (x :: r) = .int .i64 x.1 :: .int .i64 x.2 :: flat2 r := rfl
  rw [e, List.length_cons, List.length_cons, List.length_cons, ih]
  omega
theorem Qa6 (v : Value) (l : List (Int × Int)) (w : World) (hv : LabAt w v l) :
 Calls Tryz.prog 104 #[v] w fun e w' => ∃ v', e = .returned v' ∧ w'.ownsRow w.heap.size 54 2 v' l.length (flat2 l) ∧ Below w.heap.size w w' := by
 obtain ⟨p, cap, rfl, hlc, hcap, hcells⟩ := hv
 have hlen := Qkf l
 cases p with
 | none =>
  have h0 : l = [] := by
   have := hlc.2 rfl
   exact List.length_eq_zero_iff.1 (by omega)
  subst h0
  refine (Qg2 0 cap w).mono ?_
  rintro e w' ⟨rfl, rfl⟩
  exact ⟨_, rfl, World.ownsRow_nil _ _ _ _, Below.refl _ _⟩
 | some a =>
  refine Qg1 a l.length cap (flat2 l) w hlen hcap (fun j u hu => ?_) (Qfj l)
  have hj := (List.getElem?_eq_some_iff.1 hu).1
  have h0 : 0 < l.length := by omega
  obtain ⟨b, o, e, hc⟩ := hcells h0
  cases e
  rw [WideShapes.add_plain]
  have hj2 : j / 2 < l.length := by omega
  obtain ⟨g1, g2⟩ := Qfk l (j / 2) hj2
  obtain ⟨k1, k2⟩ := hc (j / 2) hj2
  by_cases hm : j % 2 = 0
  · rw [show j / 2 * 2 = j by omega] at g1 k1
    rw [k1, ← g1, hu]
  · rw [show j / 2 * 2 + 1 = j by omega] at g2
    rw [show o + j / 2 * 2 + 1 = o + j by omega] at k2
    rw [k2, ← g2, hu]
theorem Qcw (v : Value) (l : List Int) (w : World) (hv : IntsAt w v l) :
 Calls Tryz.prog 105 #[v] w fun e w' => ∃ v', e = .returned v' ∧ w'.ownsRow w.heap.size 3 1 v' l.length (flat1 l) ∧ Below w.heap.size w w' := by
 obtain ⟨p, cap, rfl, hlc, hcap, hcells⟩ := hv
 cases p with
 | none =>
  have h0 : l = [] := by
   have := hlc.2 rfl
   exact List.length_eq_zero_iff.1 (by omega)
  subst h0
  refine (Qg6 0 cap w).mono ?_
  rintro e w' ⟨rfl, rfl⟩
  exact ⟨_, rfl, World.ownsRow_nil _ _ _ _, Below.refl _ _⟩
 | some a =>
  refine Qg5 a l.length cap (flat1 l) w (by rw [QX]; omega) hcap (fun j u hu => ?_) (QaW l)
  have hj := (List.getElem?_eq_some_iff.1 hu).1
  rw [QX] at hj
  obtain ⟨b, o, e, hc⟩ := hcells (by omega)
  cases e
  rw [WideShapes.add_plain, hc j hj, ← hu]
  simp [flat1, hj]
theorem Qbu (l : List Crt) : (flat4 l).length = l.length * 4 := by
 induction l with
 | nil => rfl
 | cons x r ih =>
  have e : flat4 (x :: r) = .int .i64 x.c :: .int .i64 x.b :: .int .i64 x.h :: .int .i64 x.u :: flat4 r := rfl
  rw [e]
  simp only [List.length_cons, ih]
  omega
theorem QiH (v : Value) (l : List Crt) (w : World) (hv : CrtsAt w v l) :
 Calls Tryz.prog 40 #[v] w fun e w' => ∃ v', e = .returned v' ∧ w'.ownsRow w.heap.size 60 4 v' l.length (flat4 l) ∧ Below w.heap.size w w' := by
 obtain ⟨p, cap, rfl, hlc, hcap, hcells⟩ := hv
 have hlen := Qbu l
 cases p with
 | none =>
  have h0 : l = [] := by
   have := hlc.2 rfl
   exact List.length_eq_zero_iff.1 (by omega)
  subst h0
  refine (Qg4 0 cap w).mono ?_
  rintro e w' ⟨rfl, rfl⟩
  exact ⟨_, rfl, World.ownsRow_nil _ _ _ _, Below.refl _ _⟩
 | some a =>
  refine Qg3 a l.length cap (flat4 l) w hlen hcap (fun j u hu => ?_) (Qcc l)
  have hj := (List.getElem?_eq_some_iff.1 hu).1
  obtain ⟨b, o, e, hc⟩ := hcells (by omega)
  cases e
  rw [WideShapes.add_plain]
  have hj2 : j / 4 < l.length := by omega
  obtain ⟨g1, g2, g3, g4⟩ := Qdh l (j / 4) hj2
  obtain ⟨k1, k2, k3, k4⟩ := hc (j / 4) hj2
  have hm : j % 4 = 0 ∨ j % 4 = 1 ∨ j % 4 = 2 ∨ j % 4 = 3 := by omega
  rcases hm with hm | hm | hm | hm
  · rw [show j / 4 * 4 = j by omega] at g1 k1
    rw [k1, ← g1, hu]
  · rw [show j / 4 * 4 + 1 = j by omega] at g2
    rw [show o + j / 4 * 4 + 1 = o + j by omega] at k2
    rw [k2, ← g2, hu]
  · rw [show j / 4 * 4 + 2 = j by omega] at g3
    rw [show o + j / 4 * 4 + 2 = o + j by omega] at k3
    rw [k3, ← g3, hu]
  · rw [show j / 4 * 4 + 3 = j by omega] at g4
    rw [show o + j / 4 * 4 + 3 = o + j by omega] at k4
    rw [k4, ← g4, hu]
theorem QiE (v : Value) (q : List SntV) (w : World) (hv : RowAt w v q) (hok : ∀ x ∈ q, x.Ok w) :
 Calls Tryz.prog 187 #[v] w fun e w' => ∃ v', e = .returned v' ∧ w'.ownsRow w.heap.size 146 13 v' q.length (flatS q) ∧ Below w.heap.size w w' := by
 obtain ⟨p, cap, rfl, hlc, hcap, hcells⟩ := hv
 have hlen := Qbt q
 cases p with
 | none =>
  have h0 : q = [] := by
   have := hlc.2 rfl
   exact List.length_eq_zero_iff.1 (by omega)
  subst h0
  refine (QgW 0 cap w).mono ?_
  rintro e w' ⟨rfl, rfl⟩
  exact ⟨_, rfl, World.ownsRow_nil _ _ _ _, Below.refl _ _⟩
 | some a =>
  refine QgV a q.length cap (flatS q) w hlen hcap (fun j u hu => ?_) (QaD hok)
  have hj := (List.getElem?_eq_some_iff.1 hu).1
  obtain ⟨b, o, e, hc⟩ := hcells (by omega)
  cases e
  rw [WideShapes.add_plain]
  exact hc j u hu
abbrev st11 (w : World) (b : Nat) (x0 x1 x2 x3 x4 x5 x6 x7 x8 x9 x10 : Value) : World := ((((((((((w.setCell ⟨b, 0, none⟩ x0).setCell ⟨b, 1, none⟩ x1).setCell ⟨b, 2, none⟩ x2).setCell ⟨b, 3, none⟩ x3).setCell ⟨b, 4, none⟩ x4).setCell ⟨b, 5, none⟩ x5).setCell ⟨b, 6, none⟩ x6).setCell ⟨b, 7, none⟩ x7).setCell ⟨b, 8, none⟩ x8).setCell ⟨b, 9, none⟩ x9).setCell ⟨b, 10, none⟩ x10
theorem Ql {w : World} {b : Nat} {t : TypeId} {y0 y1 y2 y3 y4 y5 y6 y7 y8 y9 y10 : Value} (x0 x1 x2 x3 x4 x5 x6 x7 x8 x9 x10 : Value) (h : w.heap[b]? = some (.cells #[y0, y1, y2, y3, y4, y5, y6, y7, y8, y9, y10] t (0, 0))) : (st11 w b x0 x1 x2 x3 x4 x5 x6 x7 x8 x9 x10).heap[b]? = some (.cells #[x0, x1, x2, x3, x4, x5, x6, x7, x8, x9, x10] t (0, 0)) := by
 have h0 : (w.setCell ⟨b, 0, none⟩ x0).heap[b]? = some (.cells #[x0, y1, y2, y3, y4, y5, y6, y7, y8, y9, y10] t (0, 0)) := by rw [heap_setCell h x0]; rfl
 have h1 : ((w.setCell ⟨b, 0, none⟩ x0).setCell ⟨b, 1, none⟩ x1).heap[b]? = some (.cells #[x0, x1, y2, y3, y4, y5, y6, y7, y8, y9, y10] t (0, 0)) := by rw [heap_setCell h0 x1]; rfl
 have h2 : (((w.setCell ⟨b, 0, none⟩ x0).setCell ⟨b, 1, none⟩ x1).setCell ⟨b, 2, none⟩ x2).heap[b]? = some (.cells #[x0, x1, x2, y3, y4, y5, y6, y7, y8, y9, y10] t (0, 0)) := by rw [heap_setCell h1 x2]; rfl
 have h3 : ((((w.setCell ⟨b, 0, none⟩ x0).setCell ⟨b, 1, none⟩ x1).setCell ⟨b, 2, none⟩ x2).setCell ⟨b, 3, none⟩ x3).heap[b]? = some (.cells #[x0, x1, x2, x3, y4, y5, y6, y7, y8, y9, y10] t (0, 0)) := by rw [heap_setCell h2 x3]; rfl
 have h4 : (((((w.setCell ⟨b, 0, none⟩ x0).setCell ⟨b, 1, none⟩ x1).setCell ⟨b, 2, none⟩ x2).setCell ⟨b, 3, none⟩ x3).setCell ⟨b, 4, none⟩ x4).heap[b]? = some (.cells #[x0, x1, x2, x3, x4, y5, y6, y7, y8, y9, y10] t (0, 0)) := by rw [heap_setCell h3 x4]; rfl
 have h5 : ((((((w.setCell ⟨b, 0, none⟩ x0).setCell ⟨b, 1, none⟩ x1).setCell ⟨b, 2, none⟩ x2).setCell ⟨b, 3, none⟩ x3).setCell ⟨b, 4, none⟩ x4).setCell ⟨b, 5, none⟩ x5).heap[b]? = some (.cells #[x0, x1, x2, x3, x4, x5, y6, y7, y8, y9, y10] t (0, 0)) := by rw [heap_setCell h4 x5]; rfl
 have h6 : (((((((w.setCell ⟨b, 0, none⟩ x0).setCell ⟨b, 1, none⟩ x1).setCell ⟨b, 2, none⟩ x2).setCell ⟨b, 3, none⟩ x3).setCell ⟨b, 4, none⟩ x4).setCell ⟨b, 5, none⟩ x5).setCell ⟨b, 6, none⟩ x6).heap[b]? = some (.cells #[x0, x1, x2, x3, x4, x5, x6, y7, y8, y9, y10] t (0, 0)) := by rw [heap_setCell h5 x6]; rfl
 have h7 : ((((((((w.setCell ⟨b, 0, none⟩ x0).setCell ⟨b, 1, none⟩ x1).setCell ⟨b, 2, none⟩ x2).setCell ⟨b, 3, none⟩ x3).setCell ⟨b, 4, none⟩ x4).setCell ⟨b, 5, none⟩ x5).setCell ⟨b, 6, none⟩ x6).setCell ⟨b, 7, none⟩ x7).heap[b]? = some (.cells #[x0, x1, x2, x3, x4, x5, x6, x7, y8, y9, y10] t (0, 0)) := by rw [heap_setCell h6 x7]; rfl
 have h8 : (((((((((w.setCell ⟨b, 0, none⟩ x0).setCell ⟨b, 1, none⟩ x1).setCell ⟨b, 2, none⟩ x2).setCell ⟨b, 3, none⟩ x3).setCell ⟨b, 4, none⟩ x4).setCell ⟨b, 5, none⟩ x5).setCell ⟨b, 6, none⟩ x6).setCell ⟨b, 7, none⟩ x7).setCell ⟨b, 8, none⟩ x8).heap[b]? = some (.cells #[x0, x1, x2, x3, x4, x5, x6, x7, x8, y9, y10] t (0, 0)) := by rw [heap_setCell h7 x8]; rfl
 have h9 : ((((((((((w.setCell ⟨b, 0, none⟩ x0).setCell ⟨b, 1, none⟩ x1).setCell ⟨b, 2, none⟩ x2).setCell ⟨b, 3, none⟩ x3).setCell ⟨b, 4, none⟩ x4).setCell ⟨b, 5, none⟩ x5).setCell ⟨b, 6, none⟩ x6).setCell ⟨b, 7, none⟩ x7).setCell ⟨b, 8, none⟩ x8).setCell ⟨b, 9, none⟩ x9).heap[b]? = some (.cells #[x0, x1, x2, x3, x4, x5, x6, x7, x8, x9, y10] t (0, 0)) := by rw [heap_setCell h8 x9]; rfl
 have h10 : (((((((((((w.setCell ⟨b, 0, none⟩ x0).setCell ⟨b, 1, none⟩ x1).setCell ⟨b, 2, none⟩ x2).setCell ⟨b, 3, none⟩ x3).setCell ⟨b, 4, none⟩ x4).setCell ⟨b, 5, none⟩ x5).setCell ⟨b, 6, none⟩ x6).setCell ⟨b, 7, none⟩ x7).setCell ⟨b, 8, none⟩ x8).setCell ⟨b, 9, none⟩ x9).setCell ⟨b, 10, none⟩ x10).heap[b]? = some (.cells #[x0, x1, x2, x3, x4, x5, x6, x7, x8, x9, x10] t (0, 0)) := by rw [heap_setCell h9 x10]; rfl
 exact h10
theorem Qj (w : World) (b : Nat) (x0 x1 x2 x3 x4 x5 x6 x7 x8 x9 x10 : Value) : w.grownBy (st11 w b x0 x1 x2 x3 x4 x5 x6 x7 x8 x9 x10) (some b) := Qh (Qh (Qh (Qh (Qh (Qh (Qh (Qh (Qh (Qh (Qg w b 0 x0) (Qg _ b 1 x1)) (Qg _ b 2 x2)) (Qg _ b 3 x3)) (Qg _ b 4 x4)) (Qg _ b 5 x5)) (Qg _ b 6 x6)) (Qg _ b 7 x7)) (Qg _ b 8 x8)) (Qg _ b 9 x9)) (Qg _ b 10 x10)
theorem Qo {w : World} {base : Nat} {e : TypeId} {s : Nat} {v : Value} {n : Nat} {xs : List Value} (h : w.ownsRow base e s v n xs) : ∃ p cap, v = .slice p n cap := by
 obtain ⟨p, cap, rfl, _⟩ := Qad h
 exact ⟨p, cap, rfl⟩
theorem Qk {w w' : World} {base : Nat} {e : TypeId} {s : Nat} {v : Value} {n : Nat} {xs : List Value} (h : w.ownsRow base e s v n xs) (hb : Below w.heap.size w w') : w'.ownsRow base e s v n xs := by
 refine ⟨h.1, ?_⟩
 rcases h.2 with hn | ⟨g, cap, cur, rfl, hbg, hgg, rest⟩
 · exact .inl hn
 · exact .inr ⟨g, cap, cur, rfl, hbg, Qe hgg hb, rest⟩
theorem Qp {w : World} {base base' : Nat} {e : TypeId} {s : Nat} {v : Value} {n : Nat} {xs : List Value} (h : w.ownsRow base e s v n xs) (hb : base' ≤ base) : w.ownsRow base' e s v n xs := by
 refine ⟨h.1, ?_⟩
 rcases h.2 with hn | ⟨g, cap, cur, rfl, hbg, rest⟩
 · exact .inl hn
 · exact .inr ⟨g, cap, cur, rfl, by omega, rest⟩
set_option maxRecDepth 100000 in
set_option maxHeartbeats 1600000 in
theorem QbY (v : Value) (f : Frm) (w : World) (hv : FrmAt w v f) :
 Calls Tryz.prog 151 #[v] w fun e w' => ∃ pl cl pg cg pc cc, e = .returned (.agg #[.int .i64 f.fr, .int .i64 f.to, .int .i64 f.seq, .bool f.ack, .int .i64 f.thread, .int .i64 f.mail.host, .int .i64 f.mail.thread, .slice pl f.mail.label.length cl, .slice pg f.mail.grants.length cg, .string ⟨f.mail.text.toArray⟩, .slice pc f.certs.length cc]) ∧ (∀ w'', Since w.heap.size w' w'' → LabAt w'' (.slice pl f.mail.label.length cl) f.mail.label ∧ IntsAt w'' (.slice pg f.mail.grants.length cg) f.mail.grants ∧ CrtsAt w'' (.slice pc f.certs.length cc) f.certs) ∧ Below w.heap.size w w' := by
 obtain ⟨vl, vg, vc, rfl, hl, hg, hc⟩ := hv
 have HL := hid hl
 have HG := hid hg
 have HC := hid hc
 obtain ⟨pl, cl, rfl, _⟩ := id hl
 obtain ⟨pg, cg, rfl, _⟩ := id hg
 obtain ⟨pc, cc, rfl, _⟩ := id hc
 have hll := hl.len
 have hgl := hg.len
 have hcl := hc.len
 unfold frmV
 clear hl hg hc
 have hb0 : Below w.heap.size w ((w.alloc (.cells #[.int .i64 f.fr, .int .i64 f.to, .int .i64 f.seq, .bool f.ack, .int .i64 f.thread, .int .i64 f.mail.host, .int .i64 f.mail.thread, .slice pl f.mail.label.length cl, .slice pg f.mail.grants.length cg, .string ⟨f.mail.text.toArray⟩, .slice pc f.certs.length cc] 111)).alloc (.cells #[.int .i64 0, .int .i64 0, .int .i64 0, .bool false, .int .i64 0, .int .i64 0, .int .i64 0, .slice none 0 0, .slice none 0 0, .string ⟨#[]⟩, .slice none 0 0] 111)) := (Qd w _).alloc (by simp) _
 go_enter Tryz.func151, Tryz.ntmps151
 go_wp2_with fail
 refine (Qa6 _ f.mail.label _ (HL.out.below hb0)).mono ?_
 rintro e w1 ⟨v1, rfl, hown1, hw1⟩
 have hbx1 := Qe (heap_alloc2_old w _ _) hw1
 have hrs1 := Qe (heap_alloc2_new w _ _) hw1
 have hbw1 := Qc hb0 hw1
 obtain ⟨p1, q1, rfl⟩ := Qo hown1
 have hown1 := Qp (base' := w.heap.size) hown1 hb0.size
 have c7 := Qa hbx1 7
 have k7 := Qb hbx1 7
 have c8 := Qa hbx1 8
 go_wp2_with fail
 have hbx1' := heap_setCell (j := 7) hbx1 (.slice p1 f.mail.label.length q1)
 have hrs1' := Qr hrs1 (show w.heap.size + 1 ≠ w.heap.size by omega) 7 (.slice p1 f.mail.label.length q1)
 have hown1 := QA hown1 hbx1 (by decide) 7 (.slice p1 f.mail.label.length q1)
 have hbw1' := hbw1.grown (Qg w1 w.heap.size 7 (.slice p1 f.mail.label.length q1)) hbw1.size (fun k hk => by cases hk; exact Nat.le_refl _)
 clear hbx1 hrs1 hbw1 c7 k7 c8 hw1
 generalize w1.setCell ⟨w.heap.size, 7, none⟩ (.slice p1 f.mail.label.length q1) = w1' at *
 refine (Qcw _ f.mail.grants _ (HG.out.below hbw1')).mono ?_
 rintro e w2 ⟨v2, rfl, hown2, hw2⟩
 have hbx2 := Qe hbx1' hw2
 have hrs2 := Qe hrs1' hw2
 have hbw2 := Qc hbw1' hw2
 obtain ⟨p2, q2, rfl⟩ := Qo hown2
 have hown2 := Qp (base' := w.heap.size) hown2 hbw1'.size
 have hown1 := Qk hown1 hw2
 have c8 := Qa hbx2 8
 have k8 := Qb hbx2 8
 have c10 := Qa hbx2 10
 go_wp2_with fail
 have hbx2' := heap_setCell (j := 8) hbx2 (.slice p2 f.mail.grants.length q2)
 have hrs2' := Qr hrs2 (show w.heap.size + 1 ≠ w.heap.size by omega) 8 (.slice p2 f.mail.grants.length q2)
 have hown1 := QA hown1 hbx2 (by decide) 8 (.slice p2 f.mail.grants.length q2)
 have hown2 := QA hown2 hbx2 (by decide) 8 (.slice p2 f.mail.grants.length q2)
 have hbw2' := hbw2.grown (Qg w2 w.heap.size 8 (.slice p2 f.mail.grants.length q2)) hbw2.size (fun k hk => by cases hk; exact Nat.le_refl _)
 clear hbx2 hrs2 hbw2 c8 k8 c10 hw2
 generalize w2.setCell ⟨w.heap.size, 8, none⟩ (.slice p2 f.mail.grants.length q2) = w2' at *
 refine (QiH _ f.certs _ (HC.out.below hbw2')).mono ?_
 rintro e w3 ⟨v3, rfl, hown3, hw3⟩
 have hbx3 := Qe hbx2' hw3
 have hrs3 := Qe hrs2' hw3
 have hbw3 := Qc hbw2' hw3
 obtain ⟨p3, q3, rfl⟩ := Qo hown3
 have hown3 := Qp (base' := w.heap.size) hown3 hbw2'.size
 have hown1 := Qk hown1 hw3
 have hown2 := Qk hown2 hw3
 have c10 := Qa hbx3 10
 have k10 := Qb hbx3 10
 have c0 := Qa hbx3 0
 have c1 := Qa hbx3 1
 have c2 := Qa hbx3 2
 have c3 := Qa hbx3 3
 have c4 := Qa hbx3 4
 have c5 := Qa hbx3 5
 have c6 := Qa hbx3 6
 have c7 := Qa hbx3 7
 have c8 := Qa hbx3 8
 have c9 := Qa hbx3 9
 have d0 := Qa hrs3 0
 have e0 := Qb hrs3 0
 have d1 := Qa hrs3 1
 have e1 := Qb hrs3 1
 have d2 := Qa hrs3 2
 have e2 := Qb hrs3 2
 have d3 := Qa hrs3 3
 have e3 := Qb hrs3 3
 have d4 := Qa hrs3 4
 have e4 := Qb hrs3 4
 have d5 := Qa hrs3 5
 have e5 := Qb hrs3 5
 have d6 := Qa hrs3 6
 have e6 := Qb hrs3 6
 have d7 := Qa hrs3 7
 have e7 := Qb hrs3 7
 have d8 := Qa hrs3 8
 have e8 := Qb hrs3 8
 have d9 := Qa hrs3 9
 have e9 := Qb hrs3 9
 have d10 := Qa hrs3 10
 have e10 := Qb hrs3 10
 have hne : w.heap.size ≠ w.heap.size + 1 := by omega
 have hne2 : w.heap.size + 1 ≠ w.heap.size := by omega
 have HB := hid hbx3
 have HR := hid hrs3
 clear hbx3 hrs3 hw3
 go_wp2
 have A0 := Qr HR.out hne2 10 (.slice p3 f.certs.length q3)
 have hown1 := QA hown1 HB.out (by decide) 10 (.slice p3 f.certs.length q3)
 have hown2 := QA hown2 HB.out (by decide) 10 (.slice p3 f.certs.length q3)
 have hown3 := QA hown3 HB.out (by decide) 10 (.slice p3 f.certs.length q3)
 have hb6 := hbw3.grown (Qg w3 w.heap.size 10 (.slice p3 f.certs.length q3)) hbw3.size (fun k hk => by cases hk; exact Nat.le_refl _)
 clear c0 c1 c2 c3 c4 c5 c6 c7 c8 c9 c10 k10 d0 e0 d1 e1 d2 e2 d3 e3 d4 e4 d5 e5 d6 e6 d7 e7 d8 e8 d9 e9 d10 e10
 generalize w3.setCell ⟨w.heap.size, 10, none⟩ (.slice p3 f.certs.length q3) = w6 at *
 have hW := Ql (.int .i64 f.fr) (.int .i64 f.to) (.int .i64 f.seq) (.bool f.ack) (.int .i64 f.thread) (.int .i64 f.mail.host) (.int .i64 f.mail.thread) (.slice p1 f.mail.label.length q1) (.slice p2 f.mail.grants.length q2) (.string ⟨f.mail.text.toArray⟩) (.slice p3 f.certs.length q3) A0
 have hS := Qj w6 (w.heap.size + 1) (.int .i64 f.fr) (.int .i64 f.to) (.int .i64 f.seq) (.bool f.ack) (.int .i64 f.thread) (.int .i64 f.mail.host) (.int .i64 f.mail.thread) (.slice p1 f.mail.label.length q1) (.slice p2 f.mail.grants.length q2) (.string ⟨f.mail.text.toArray⟩) (.slice p3 f.certs.length q3)
 have hown1 := Qav hown1 A0 (by decide) hS
 have hown2 := Qav hown2 A0 (by decide) hS
 have hown3 := Qav hown3 A0 (by decide) hS
 have hb7 := hb6.grown hS hb6.size (fun k hk => by cases hk; omega)
 refine bodyPost_ret (results_cell_row rfl _ _ (w.heap.size + 1) 111 _ (0, 0) _ rfl hW Tryz.underlying111 rfl (by kernel_rfl)) rfl ⟨p1, q1, p2, q2, p3, q3, rfl, fun w'' hs => ?_, hb7⟩
 exact ⟨QR (Q3 hown1 hs) hll, QV (Q3 hown2 hs) hgl, QaO (Q3 hown3 hs) hcl⟩
theorem Qaf {w : World} {g : Nat} {e : TypeId} {size n cap : Nat} {cur : Array Value} {xs : List Value} (h : w.heap[g]? = some (.cells cur e (0, 0))) (hn : n ≤ cap) (hm : cap ≤ maxLen) (hs : cur.size = cap * size) (hx : xs.length = n * size) (hc : ∀ j, j < n * size → cur[j]? = xs[j]?) :
 w.ownsRow 0 e size (.slice (some ⟨g, 0, none⟩) n cap) n xs := by
 refine ⟨hx, .inr ⟨g, cap, cur, rfl, Nat.zero_le _, h, hn, hm, hs, ?_⟩⟩
 refine List.ext_getElem? fun j => ?_
 rw [List.getElem?_take]
 split
 · rename_i hj
   rw [Array.getElem?_toList]
   exact hc j hj
 · rename_i hj
   rw [List.getElem?_eq_none (by omega)]
theorem QaI {w : World} {g : Nat} {e : TypeId} {size n cap : Nat} {xs : List Value} (h : w.ownsRow 0 e size (.slice (some ⟨g, 0, none⟩) n cap) n xs) : ∃ cur, w.heap[g]? = some (.cells cur e (0, 0)) ∧ n ≤ cap ∧ cap ≤ maxLen ∧ cur.size = cap * size ∧ ∀ j, j < n * size → cur[j]? = xs[j]? := by
 rcases h.2 with ⟨h1, _⟩ | ⟨g', cap', cur, h1, _, hh, h2, h3, h4, h5⟩
 · cases h1
 · cases h1
   refine ⟨cur, hh, h2, h3, h4, fun j hj => ?_⟩
   rw [← h5, List.getElem?_take, if_pos hj, Array.getElem?_toList]
theorem Qi8 {w : World} {e : TypeId} {sz n g cap j : Nat} {xs : List Value} (h : w.ownsRow 0 e sz (.slice (some ⟨g, 0, none⟩) n cap) n xs) (hj : j < n * sz) (u : Value) : (w.setCell ⟨g, j, none⟩ u).ownsRow 0 e sz (.slice (some ⟨g, 0, none⟩) n cap) n (xs.set j u) := by
 have hx := h.1
 obtain ⟨cur, hg, h1, h2, h3, h4⟩ := QaI h
 refine Qaf (heap_setCell hg u) h1 h2 (by simpa using h3) (by simpa using hx) fun k hk => ?_
 by_cases e : j = k
 · subst e
   have hc : j < cur.size := by rw [h3]; exact Nat.lt_of_lt_of_le hj (Nat.mul_le_mul_right _ h1)
   rw [Array.getElem?_setIfInBounds_self, if_pos hc, List.getElem?_set_self (by omega)]
 · rw [Array.getElem?_setIfInBounds_ne e, List.getElem?_set_ne e, h4 k hk]
theorem Qak {w : World} {b B : Nat} {e : TypeId} {s : Nat} {v : Value} {n : Nat} {xs : List Value} (h : w.ownsRow b e s v n xs) (hB : ∀ k, v.ownBlock = some k → B ≤ k) : w.ownsRow B e s v n xs := by
 refine ⟨h.1, ?_⟩
 rcases h.2 with hn | ⟨g, cap, cur, rfl, _, rest⟩
 · exact .inl hn
 · exact .inr ⟨g, cap, cur, rfl, hB g rfl, rest⟩
theorem QT {w : World} {B : Nat} {e : TypeId} {sz n g cap j : Nat} {xs : List Value} (h : w.ownsRow B e sz (.slice (some ⟨g, 0, none⟩) n cap) n xs) (hj : j < n * sz) (u : Value) : (w.setCell ⟨g, j, none⟩ u).ownsRow B e sz (.slice (some ⟨g, 0, none⟩) n cap) n (xs.set j u) :=
 Qak (Qi8 (Qp h (Nat.zero_le _)) hj u) fun _ hk => Qs h hk
theorem Qax (a x b : List Value) (i : Nat) (v : Value) (hi : i < x.length) : (a ++ x ++ b).set (a.length + i) v = a ++ x.set i v ++ b := by
 rw [List.append_assoc, List.set_append_right _ _ (by omega), List.append_assoc, Nat.add_sub_cancel_left, List.set_append_left _ _ hi]
theorem QgK (q : List SntV) (k : Nat) (hk : k < q.length) : flatS q = flatS (q.take k) ++ (q[k]).cells ++ flatS (q.drop (k + 1)) := by
 conv => lhs; rw [← List.take_append_drop k q, List.drop_eq_getElem_cons hk]
 rw [QaE, Qa4, List.append_assoc]
theorem Qka (q : List SntV) (k : Nat) (hk : k < q.length) (x : SntV) : flatS (q.set k x) = flatS (q.take k) ++ x.cells ++ flatS (q.drop (k + 1)) := by
 rw [List.set_eq_take_append_cons_drop, if_pos hk, QaE, Qa4, List.append_assoc]
theorem Qim (q : List SntV) (k : Nat) (hk : k < q.length) (u1 u2 u3 : Value) (s : Snt) (hs : (q[k]).s = s) :
 (((((((((((flatS q).set (k * 13) (.int .i64 s.f.fr)).set (k * 13 + 1) (.int .i64 s.f.to)).set (k * 13 + 2) (.int .i64 s.f.seq)).set (k * 13 + 3) (.bool s.f.ack)).set (k * 13 + 4) (.int .i64 s.f.thread)).set (k * 13 + 5) (.int .i64 s.f.mail.host)).set (k * 13 + 6) (.int .i64 s.f.mail.thread)).set (k * 13 + 7) (u1)).set (k * 13 + 8) (u2)).set (k * 13 + 9) (.string ⟨s.f.mail.text.toArray⟩)).set (k * 13 + 10) (u3) = flatS (q.set k ⟨s, u1, u2, u3⟩) := by
 rw [Qka q k hk, QgK q k hk]
 have ha : (flatS (q.take k)).length = k * 13 := by rw [Qbt, List.length_take]; omega
 generalize flatS (q.take k) = a at *
 generalize flatS (q.drop (k + 1)) = b
 generalize q[k] = x at *
 subst hs
 rw [← ha]
 have h0 : a.length = a.length + 0 := rfl
 have e0 : ∀ v, (a ++ x.cells ++ b).set a.length v = a ++ x.cells.set 0 v ++ b := fun v => Qax a x.cells b 0 v (show 0 < 13 by omega)
 rw [e0]
 rw [Qax a _ b 1 _ (by simp [SntV.cells])]
 rw [Qax a _ b 2 _ (by simp [SntV.cells])]
 rw [Qax a _ b 3 _ (by simp [SntV.cells])]
 rw [Qax a _ b 4 _ (by simp [SntV.cells])]
 rw [Qax a _ b 5 _ (by simp [SntV.cells])]
 rw [Qax a _ b 6 _ (by simp [SntV.cells])]
 rw [Qax a _ b 7 _ (by simp [SntV.cells])]
 rw [Qax a _ b 8 _ (by simp [SntV.cells])]
 rw [Qax a _ b 9 _ (by simp [SntV.cells])]
 rw [Qax a _ b 10 _ (by simp [SntV.cells])]
 rfl
def Off (B : Nat) (r : Option Nat) (w w' : World) : Prop := ∀ k, B ≤ k → k < w.heap.size → r ≠ some k → w'.heap[k]? = w.heap[k]?
theorem Qat {w w' : World} {a : Addr} {v : Value} (h : ∀ k, k < w.heap.size → w'.heap[k]? = w.heap[k]?) (hc : w.cell? a = some v) : w'.cell? a = some v := by
 have hb := Qf hc
 simp only [World.cell?] at hc ⊢
 rw [h _ hb]
 exact hc
theorem LabAt.agree {w w' : World} {v : Value} {l : List (Int × Int)} (h : LabAt w v l) (ha : ∀ k, k < w.heap.size → w'.heap[k]? = w.heap[k]?) : LabAt w' v l := by
 obtain ⟨p, cap, h1, h2, h3, h4⟩ := h
 refine ⟨p, cap, h1, h2, h3, fun g => ?_⟩
 obtain ⟨b, o, h5, h6⟩ := h4 g
 exact ⟨b, o, h5, fun j hj => ⟨Qat ha (h6 j hj).1, Qat ha (h6 j hj).2⟩⟩
theorem IntsAt.agree {w w' : World} {v : Value} {l : List Int} (h : IntsAt w v l) (ha : ∀ k, k < w.heap.size → w'.heap[k]? = w.heap[k]?) : IntsAt w' v l := by
 obtain ⟨p, cap, h1, h2, h3, h4⟩ := h
 refine ⟨p, cap, h1, h2, h3, fun g => ?_⟩
 obtain ⟨b, o, h5, h6⟩ := h4 g
 exact ⟨b, o, h5, fun j hj => Qat ha (h6 j hj)⟩
theorem CrtsAt.agree {w w' : World} {v : Value} {l : List Crt} (h : CrtsAt w v l) (ha : ∀ k, k < w.heap.size → w'.heap[k]? = w.heap[k]?) : CrtsAt w' v l := by
 obtain ⟨p, cap, h1, h2, h3, h4⟩ := h
 refine ⟨p, cap, h1, h2, h3, fun g => ?_⟩
 obtain ⟨b, o, h5, h6⟩ := h4 g
 exact ⟨b, o, h5, fun j hj => ⟨Qat ha (h6 j hj).1, Qat ha (h6 j hj).2.1, Qat ha (h6 j hj).2.2.1, Qat ha (h6 j hj).2.2.2⟩⟩
theorem SntV.Ok.agree {w w' : World} {x : SntV} (h : x.Ok w) (ha : ∀ k, k < w.heap.size → w'.heap[k]? = w.heap[k]?) : x.Ok w' := ⟨h.lab.agree ha, h.nums.agree ha, h.crts.agree ha⟩
structure OwnRow (B : Nat) (w : World) (v : Value) (q : List SntV) : Prop where
 own : w.ownsRow B 146 13 v q.length (flatS q)
 ok : ∀ x ∈ q, ∀ w', Off B v.ownBlock w w' → x.Ok w'
theorem Off.refl (B : Nat) (r : Option Nat) (w : World) : Off B r w w := fun _ _ _ _ => rfl
theorem Qbq {B : Nat} {r : Option Nat} {w w1 w2 : World} (hb : Below w.heap.size w w1) (h : Off B r w1 w2) : Off B r w w2 := fun k hB hk hr => by rw [h k hB (Nat.lt_of_lt_of_le hk hb.size) hr, hb.block k hk]
theorem QjH {B : Nat} {r : Option Nat} {w w1 w2 : World} (hg : w.grownBy w1 r) (h : Off B r w1 w2) : Off B r w w2 := fun k hB hk hr => by rw [h k hB (Nat.lt_of_lt_of_le hk hg.size) hr, hg.block k hk (Ne.symm hr)]
theorem Qja {B b : Nat} {r : Option Nat} {w w1 w2 : World} (hg : w.grownBy w1 (some b)) (hb : b < B) (h : Off B r w1 w2) : Off B r w w2 := fun k hB hk hr => by rw [h k hB (Nat.lt_of_lt_of_le hk hg.size) hr, hg.block k hk (fun e => by have := Option.some.inj e; omega)]
theorem OwnRow.below {B : Nat} {w w1 : World} {v : Value} {q : List SntV} (h : OwnRow B w v q) (hb : Below w.heap.size w w1) : OwnRow B w1 v q :=
 ⟨Qk h.own hb, fun x hx w' ho => h.ok x hx w' (Qbq hb ho)⟩
theorem OwnRow.box {B b : Nat} {w w1 : World} {v : Value} {q : List SntV} (h : OwnRow B w v q) (hg : w.grownBy w1 (some b)) (hb : b < B) : OwnRow B w1 v q :=
 ⟨h.own.kept hg (Or.inr fun e => by have := Qs h.own e; omega), fun x hx w' ho => h.ok x hx w' (Qja hg hb ho)⟩
theorem OwnRow.low {B B' : Nat} {w : World} {v : Value} {q : List SntV} (h : OwnRow B w v q) (hB : B' ≤ B) : OwnRow B' w v q :=
 ⟨Qp h.own hB, fun x hx w' ho => h.ok x hx w' fun k hk => ho k (by omega)⟩
theorem OwnRow.snts {B : Nat} {w : World} {v : Value} {q : List SntV} (h : OwnRow B w v q) (hl : q.length ≤ 879609302220) : SntsAt w v (q.map (·.s)) := by
 refine ⟨q, rfl, fun x hx => h.ok x hx w (Off.refl _ _ _), ?_⟩
 have hx := h.own.1
 rcases h.own.2 with ⟨hn, h0⟩ | ⟨g, cap, cur, rfl, hbg, hgg, h1, h2, h3, h4⟩
 · rw [hn]
   refine ⟨none, 0, by rw [h0], ⟨by omega, fun _ => rfl⟩, hl, fun h => by omega⟩
 · refine ⟨some ⟨g, 0, none⟩, cap, rfl, ⟨h1, fun e => by cases e⟩, hl, fun _ => ⟨g, 0, rfl, fun j u hu => ?_⟩⟩
   have := World.ownsRow.cells h.own (g := g) rfl _ _ hu
   rwa [WideShapes.add_plain] at this
def Off3 (B : Nat) (r : Option Nat) (w w' : World) : Prop := ∀ k, k < w.heap.size → r ≠ some k → k ≠ B → k ≠ B + 1 → w'.heap[k]? = w.heap[k]?
theorem QhW {B : Nat} {r : Option Nat} {w w1 w2 : World} (hb : Below w.heap.size w w1) (h : Off3 B r w1 w2) : Off3 B r w w2 := fun k hk hr h1 h2 => by rw [h k (Nat.lt_of_lt_of_le hk hb.size) hr h1 h2, hb.block k hk]
theorem QhV {B : Nat} {r : Option Nat} {w w1 w2 : World} (hg : w.grownBy w1 r) (h : Off3 B r w1 w2) : Off3 B r w w2 := fun k hk hr h1 h2 => by rw [h k (Nat.lt_of_lt_of_le hk hg.size) hr h1 h2, hg.block k hk (Ne.symm hr)]
abbrev zeroL : Array Value := #[.int .i64 0, .slice none 0 0, .int .i64 0, .bool false, .bool false, .bool false, .bool false, .bool false, .bool false, .bool false, .bool false]
structure CpL (w : World) (C : Array Value) (v : Value) (st : List Snt) (k : Nat) (wr : World) : Prop where
 box : wr.heap[w.heap.size]? = some (.cells C 71 (0, 0))
 res : wr.heap[w.heap.size + 1]? = some (.cells zeroL 71 (0, 0))
 below : Below w.heap.size w wr
 row : ∃ q : List SntV, q.map (·.s) = st ∧ wr.ownsRow w.heap.size 146 13 v q.length (flatS q) ∧ (∀ x ∈ q, ∀ w', Off3 w.heap.size v.ownBlock wr w' → x.Ok w') ∧ ∀ j (hj : j < q.length), j < k → ∀ w', Off (w.heap.size + 2) v.ownBlock wr w' → (q[j]).Ok w'
theorem CpL.below' {w wr w1 : World} {C : Array Value} {v : Value} {st : List Snt} {k : Nat} (h : CpL w C v st k wr) (hb : Below wr.heap.size wr w1) : CpL w C v st k w1 := by
 obtain ⟨q, r1, r2, r3, r4⟩ := h.row
 exact ⟨Qe h.box hb, Qe h.res hb, Qc h.below hb, q, r1, Qk r2 hb, fun x hx w' ho => r3 x hx w' (QhW hb ho), fun j hj hk w' ho => r4 j hj hk w' (Qbq hb ho)⟩
theorem CpL.step {w w1 : World} {C : Array Value} {g n cap : Nat} {st : List Snt} {u1 u2 u3 : Value} {k : Nat} {s : Snt} (h : CpL w C (.slice (some ⟨g, 0, none⟩) n cap) st k w1) (hn : n = st.length) (hk : k < st.length) (hs : st[k] = s)
 (hu : ∀ w', Off (w.heap.size + 2) (some g) w1 w' → LabAt w' u1 s.f.mail.label ∧ IntsAt w' u2 s.f.mail.grants ∧ CrtsAt w' u3 s.f.certs) :
 CpL w C (.slice (some ⟨g, 0, none⟩) n cap) st (k + 1) (((((((((((w1.setCell ⟨g, k * 13, none⟩ (.int .i64 s.f.fr)).setCell ⟨g, k * 13 + 1, none⟩ (.int .i64 s.f.to)).setCell ⟨g, k * 13 + 2, none⟩ (.int .i64 s.f.seq)).setCell ⟨g, k * 13 + 3, none⟩ (.bool s.f.ack)).setCell ⟨g, k * 13 + 4, none⟩ (.int .i64 s.f.thread)).setCell ⟨g, k * 13 + 5, none⟩ (.int .i64 s.f.mail.host)).setCell ⟨g, k * 13 + 6, none⟩ (.int .i64 s.f.mail.thread)).setCell ⟨g, k * 13 + 7, none⟩ (u1)).setCell ⟨g, k * 13 + 8, none⟩ (u2)).setCell ⟨g, k * 13 + 9, none⟩ (.string ⟨s.f.mail.text.toArray⟩)).setCell ⟨g, k * 13 + 10, none⟩ (u3)) := by
 obtain ⟨q, r1, r2, r3, r4⟩ := h.row
 have hq : q.length = st.length := by rw [← r1, List.length_map]
 have hkq : k < q.length := by omega
 have hsq : (q[k]).s = s := by rw [← hs]; simp only [← r1, List.getElem_map]
 rw [show n = q.length by omega] at r2 r3 r4 h ⊢
 have hg11 := Qh (Qh (Qh (Qh (Qh (Qh (Qh (Qh (Qh (Qh (Qg w1 g (k * 13) (.int .i64 s.f.fr)) (Qg _ g (k * 13 + 1) (.int .i64 s.f.to))) (Qg _ g (k * 13 + 2) (.int .i64 s.f.seq))) (Qg _ g (k * 13 + 3) (.bool s.f.ack))) (Qg _ g (k * 13 + 4) (.int .i64 s.f.thread))) (Qg _ g (k * 13 + 5) (.int .i64 s.f.mail.host))) (Qg _ g (k * 13 + 6) (.int .i64 s.f.mail.thread))) (Qg _ g (k * 13 + 7) (u1))) (Qg _ g (k * 13 + 8) (u2))) (Qg _ g (k * 13 + 9) (.string ⟨s.f.mail.text.toArray⟩))) (Qg _ g (k * 13 + 10) (u3))
 have hrow := QT (j := k * 13 + 10) (QT (j := k * 13 + 9) (QT (j := k * 13 + 8) (QT (j := k * 13 + 7) (QT (j := k * 13 + 6) (QT (j := k * 13 + 5) (QT (j := k * 13 + 4) (QT (j := k * 13 + 3) (QT (j := k * 13 + 2) (QT (j := k * 13 + 1) (QT (j := k * 13) (r2) (by omega) (.int .i64 s.f.fr)) (by omega) (.int .i64 s.f.to)) (by omega) (.int .i64 s.f.seq)) (by omega) (.bool s.f.ack)) (by omega) (.int .i64 s.f.thread)) (by omega) (.int .i64 s.f.mail.host)) (by omega) (.int .i64 s.f.mail.thread)) (by omega) (u1)) (by omega) (u2)) (by omega) (.string ⟨s.f.mail.text.toArray⟩)) (by omega) (u3)
 rw [Qim q k hkq u1 u2 u3 s hsq] at hrow
 generalize ((((((((((w1.setCell ⟨g, k * 13, none⟩ (.int .i64 s.f.fr)).setCell ⟨g, k * 13 + 1, none⟩ (.int .i64 s.f.to)).setCell ⟨g, k * 13 + 2, none⟩ (.int .i64 s.f.seq)).setCell ⟨g, k * 13 + 3, none⟩ (.bool s.f.ack)).setCell ⟨g, k * 13 + 4, none⟩ (.int .i64 s.f.thread)).setCell ⟨g, k * 13 + 5, none⟩ (.int .i64 s.f.mail.host)).setCell ⟨g, k * 13 + 6, none⟩ (.int .i64 s.f.mail.thread)).setCell ⟨g, k * 13 + 7, none⟩ (u1)).setCell ⟨g, k * 13 + 8, none⟩ (u2)).setCell ⟨g, k * 13 + 9, none⟩ (.string ⟨s.f.mail.text.toArray⟩)).setCell ⟨g, k * 13 + 10, none⟩ (u3) = w2 at *
 have hgB := Qs r2 (k := g) rfl
 refine ⟨Qa0 h.box r2 (by decide) hg11, Qa0 h.res r2 (by decide) hg11, h.below.grown hg11 h.below.size (fun i hi => by have := Option.some.inj hi; omega), q.set k ⟨s, u1, u2, u3⟩, ?_, by rw [List.length_set]; exact hrow, ?_, ?_⟩
 · rw [List.map_set, r1]
   show st.set k s = st
   rw [← hs]
   exact List.set_getElem_self hk
 · intro x hx w' ho
   rw [List.mem_iff_getElem] at hx
   obtain ⟨j, hj, rfl⟩ := hx
   rw [List.length_set] at hj
   have ho1 : Off3 w.heap.size (some g) w1 w' := QhV hg11 ho
   by_cases e : k = j
   · subst e
     rw [List.getElem_set_self]
     obtain ⟨a1, a2, a3⟩ := hu w' (fun i hi his hir => ho1 i his hir (by omega) (by omega))
     exact ⟨a1, a2, a3⟩
   · rw [List.getElem_set_ne e]
     exact r3 _ (List.getElem_mem hj) w' ho1
 · intro j hj hjk w' ho
   rw [List.length_set] at hj
   have ho1 : Off (w.heap.size + 2) (some g) w1 w' := QjH hg11 ho
   by_cases e : k = j
   · subst e
     rw [List.getElem_set_self]
     obtain ⟨a1, a2, a3⟩ := hu w' ho1
     exact ⟨a1, a2, a3⟩
   · rw [List.getElem_set_ne e]
     exact r4 j hj (by omega) w' ho1
end Go.Proofs.YtpdijobakfpnbaaGreat
