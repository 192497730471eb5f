/- parcloselaw.levels and numbers answer a list of their own with the same elements. -/
import Derived.Test.YtichphepfmafjacQRefA
import Derived.Test.YtichphepfmafjacQNamed
namespace Go.Proofs.Ytichphepfmafjac
open Go.RowKit Go.Proofs.Parclose

theorem info_level : (Try.prog.info? 84).map (fun i => (i.zero, i.size, i.bytes)) = some (some (.agg #[.int .i64 0, .int .i64 0]), 2, 16) := by kernel_rfl

/-- the cells of a label -/
def flat (l : List (Int × Int)) : List Value := l.flatMap fun x => [.int .i64 x.1, .int .i64 x.2]

theorem flat_length (l : List (Int × Int)) : (flat l).length = l.length * 2 := by
  induction l with
  | nil => rfl
  | cons x r ih =>
    have e : flat (x :: r) = .int .i64 x.1 :: .int .i64 x.2 :: flat r := rfl
    rw [e]
    simp only [List.length_cons, ih]
    omega

theorem flat_get (l : List (Int × Int)) (i : Nat) (hi : i < l.length) : (flat l)[i * 2]? = some (.int .i64 l[i].1) ∧ (flat l)[i * 2 + 1]? = some (.int .i64 l[i].2) := by
  induction l generalizing i with
  | nil => simp at hi
  | cons x r ih =>
    have e : flat (x :: r) = .int .i64 x.1 :: .int .i64 x.2 :: flat r := rfl
    cases i with
    | zero => rw [e]; exact ⟨rfl, rfl⟩
    | succ i =>
      obtain ⟨h1, h2⟩ := ih i (by simpa using hi)
      rw [e, show (i + 1) * 2 = i * 2 + 1 + 1 by omega]
      simp only [List.getElem?_cons_succ, List.getElem_cons_succ]
      exact ⟨h1, h2⟩

theorem flat_append (a b : List (Int × Int)) : flat (a ++ b) = flat a ++ flat b := by simp [flat]

theorem flat_one (l : List (Int × Int)) : ∀ u ∈ flat l, u.oneCell' = true := by
  intro u hu
  obtain ⟨x, _, hx⟩ := List.mem_flatMap.1 hu
  simp at hx
  rcases hx with rfl | rfl <;> rfl

theorem flat_cells {w : World} {b o : Nat} {l : List (Int × Int)} (h : Cells2 w b o l) : ∀ j u, (flat l)[j]? = some u → w.cell? ((⟨b, o, none⟩ : Addr).add j) = some u := by
  intro j u hu
  have hj : j < l.length * 2 := by
    have := (List.getElem?_eq_some_iff.1 hu).1
    rwa [flat_length] at this
  obtain ⟨h1, h2⟩ := h (j / 2) (by omega)
  obtain ⟨g1, g2⟩ := flat_get l (j / 2) (by omega)
  rw [WideShapes.add_plain]
  by_cases hp : j % 2 = 0
  · have e : j = j / 2 * 2 := by omega
    rw [e] at hu ⊢
    rw [g1] at hu
    rw [h1, ← hu]
  · have e : j = j / 2 * 2 + 1 := by omega
    rw [e] at hu ⊢
    rw [g2] at hu
    rw [← Nat.add_assoc, h2, ← hu]

/-- what a slice of its own owns is a label -/
theorem lab_of_row {w : World} {base : Nat} {v : Value} {n : Nat} {l : List (Int × Int)} (h : w.ownsRow base 84 2 v n (flat l)) (hl : l.length ≤ 8796093022208) : LabAt w v l := by
  have h0 := h
  obtain ⟨hlen, h⟩ := h
  rw [flat_length] at hlen
  have hn : n = l.length := by omega
  subst hn
  rcases h with ⟨rfl, h⟩ | ⟨g, cap, cur, rfl, hb, hh, h1, h2, h3, h4⟩
  · have : l = [] := List.length_eq_zero_iff.1 h
    subst this
    exact LabAt.nil w none 0 (fun _ => rfl)
  · refine ⟨_, cap, rfl, ⟨h1, fun h => by cases h⟩, hl, fun _ => ⟨g, 0, rfl, fun j hj => ?_⟩⟩
    obtain ⟨g1, g2⟩ := flat_get l j hj
    rw [← h4] at g1 g2
    rw [List.getElem?_take_of_lt (by omega)] at g1 g2
    simp only [World.cell?, hh, Nat.zero_add]
    exact ⟨by simpa using g1, by simpa using g2⟩

theorem ownsRow_base {w : World} {base : Nat} {e : TypeId} {size : Nat} {v : Value} {n : Nat} {xs : List Value} (h : w.ownsRow base e size v n xs) {k : Nat} (hk : v.ownBlock = some k) : base ≤ k := by
  rcases h.2 with ⟨rfl, _⟩ | ⟨g, cap, cur, rfl, hb, _⟩
  · cases hk
  · cases hk; exact hb

theorem ints_of_own {w : World} {base : Nat} {v : Value} {n : Nat} {zs : List Int} (h : w.ownsRow base 3 1 v n (zs.map (Value.int .i64))) (hl : zs.length ≤ 17592186044416) : IntsAt w v zs := by
  obtain ⟨hlen, h⟩ := h
  have hn : n = zs.length := by simpa using hlen.symm
  subst hn
  rcases h with ⟨rfl, h⟩ | ⟨g, cap, cur, rfl, hb, hh, h1, h2, h3, h4⟩
  · have : zs = [] := List.length_eq_zero_iff.1 h
    subst this
    exact IntsAt.nil w none 0 (fun _ => rfl)
  · refine ⟨_, cap, rfl, ⟨h1, fun h => by cases h⟩, hl, fun _ => ⟨g, 0, rfl, fun j hj => ?_⟩⟩
    have g1 : (zs.map (Value.int .i64))[j]? = some (.int .i64 zs[j]) := by simp [hj]
    rw [← h4, List.getElem?_take_of_lt (by omega)] at g1
    simp only [World.cell?, hh, Nat.zero_add]
    simpa using g1

set_option maxHeartbeats 400000 in
theorem levels_any (v : Value) (l : List (Int × Int)) (w : World) (hv : LabAt w v l) :
    Calls Try.prog 58 #[v] w fun e w' => ∃ v', e = .returned v' ∧ LabAt w' v' l ∧ Below w.heap.size w w' := by
  obtain ⟨p, cap, rfl, hlc, hcap, hcells⟩ := hv
  obtain ⟨i0, hi, hz0, hz1, hz2⟩ := info_parts info_level
  have hnil := World.ownsRow_nil w w.heap.size 84 2
  have hroom : (0 + l.length) * 16 ≤ 140737488355328 := by omega
  have hsz : 0 + l.length ≤ maxLen := by unfold maxLen; omega
  have hnone : p = none → l = [] := fun hp => by
    by_cases h0 : 0 < l.length
    · obtain ⟨b, o, e, _⟩ := hcells h0
      rw [hp] at e; cases e
    · exact List.length_eq_zero_iff.1 (by omega)
  cases p with
  | none =>
    have e := hnone rfl
    subst e
    have ec : cap = 0 := hlc.2 rfl
    subst ec
    go_enter Try.func58, Try.ntmps58
    go_wp2_with (at_builtin; refine wpList_append_own_none rfl _ _ 26 rfl w.heap.size 84 i0 2 Try.underlying26 hi _ _ _ rfl hnil rfl ?_)
    go_ret
    exact ⟨_, rfl, LabAt.nil w none 0 (fun _ => rfl), Below.refl _ _⟩
  | some ad =>
    have hnews : ∀ j u, (flat l)[j]? = some u → w.cell? (ad.add j) = some u := by
      by_cases h0 : 0 < l.length
      · obtain ⟨b, o, e, hc⟩ := hcells h0
        cases e
        exact flat_cells hc
      · have e : l = [] := List.length_eq_zero_iff.1 (by omega)
        subst e
        intro j u hu
        simp [flat] at hu
    go_enter Try.func58, Try.ntmps58
    go_wp2_with (at_builtin; refine wpList_append_own _ rfl _ _ 26 rfl w.heap.size 84 i0 _ 2 16 Try.underlying26 hi hz0 hz1 hz2 rfl (by decide) _ _ _ rfl hnil ad l.length cap (flat l) rfl (flat_length l) hnews (flat_one l) hsz hroom (Nat.le_refl _) ?_; intro v' w1 hown1 hgrow1 hnil1)
    go_ret
    exact ⟨_, rfl, lab_of_row (by simpa using hown1) hcap, (Below.refl _ _).grown hgrow1 (Nat.le_refl _) (fun k hk => by cases hk)⟩

set_option maxHeartbeats 400000 in
theorem numbers_any (v : Value) (zs : List Int) (w : World) (hv : IntsAt w v zs) :
    Calls Try.prog 59 #[v] w fun e w' => ∃ v', e = .returned v' ∧ IntsAt w' v' zs ∧ Below w.heap.size w w' := by
  obtain ⟨p, cap, rfl, hlc, hcap, hcells⟩ := hv
  obtain ⟨i0, hi, hz0, hz1, hz2⟩ := info_parts info_int
  have hnil := World.ownsRow_nil w w.heap.size 3 1
  have hroom : (0 + zs.length) * 8 ≤ 140737488355328 := by omega
  have hsz : 0 + zs.length ≤ maxLen := by unfold maxLen; omega
  have hnone : p = none → zs = [] := fun hp => by
    by_cases h0 : 0 < zs.length
    · obtain ⟨b, o, e, _⟩ := hcells h0
      rw [hp] at e; cases e
    · exact List.length_eq_zero_iff.1 (by omega)
  cases p with
  | none =>
    have e := hnone rfl
    subst e
    have ec : cap = 0 := hlc.2 rfl
    subst ec
    go_enter Try.func59, Try.ntmps59
    go_wp2_with (at_builtin; refine wpList_append_own_none rfl _ _ 27 rfl w.heap.size 3 i0 1 Try.underlying27 hi _ _ _ rfl hnil rfl ?_)
    go_ret
    exact ⟨_, rfl, IntsAt.nil w none 0 (fun _ => rfl), Below.refl _ _⟩
  | some ad =>
    have hnews : ∀ j u, (zs.map (Value.int .i64))[j]? = some u → w.cell? (ad.add j) = some u := by
      intro j u hu
      have hj : j < zs.length := by simpa using (List.getElem?_eq_some_iff.1 hu).1
      obtain ⟨b, o, e, hc⟩ := hcells (by omega)
      cases e
      rw [WideShapes.add_plain, hc j hj]
      simpa [hj] using hu
    go_enter Try.func59, Try.ntmps59
    go_wp2_with (at_builtin; refine wpList_append_own _ rfl _ _ 27 rfl w.heap.size 3 i0 _ 1 8 Try.underlying27 hi hz0 hz1 hz2 rfl (by decide) _ _ _ rfl hnil ad zs.length cap (zs.map (Value.int .i64)) rfl (by simp) hnews (ints_oneCell _ _) hsz hroom (Nat.le_refl _) ?_; intro v' w1 hown1 hgrow1 hnil1)
    go_ret
    exact ⟨_, rfl, ints_of_own (by simpa using hown1) hcap, (Below.refl _ _).grown hgrow1 (Nat.le_refl _) (fun k hk => by cases hk)⟩
end Go.Proofs.Ytichphepfmafjac
