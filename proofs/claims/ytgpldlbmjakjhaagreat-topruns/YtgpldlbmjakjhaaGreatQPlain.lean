/- Plain facts on lists of levels: what At, named, Flows, Good, Same say of them; no program is named here. -/
import Derived.Lib.SlicesCompact
import Derived.Test.YtgpldlbmjakjhaaGreatRows
import Derived.WalkKit
import Derived.WalkSpells
import Derived.WalkLawsBesides
import Derived.Laws.StructEq
import Derived.Deep.QuietTactic
import Derived.BigQuiet
import Derived.Deep.RegionHeld3
namespace Go.Proofs.Parclose

/-- At: the first level that names c; 1 if none does. -/
def atL (l : List (Int × Int)) (c : Int) : Int := match l with
  | [] => 1
  | x :: r => if x.1 = c then x.2 else atL r c

theorem atL_none (l : List (Int × Int)) (c : Int) (h : ∀ j (hj : j < l.length), l[j].1 ≠ c) : atL l c = 1 := by
  induction l with
  | nil => rfl
  | cons x r ih =>
    have h0 := h 0 (by simp)
    simp only [List.getElem_cons_zero] at h0
    simp only [atL, if_neg h0]
    exact ih fun j hj => by have := h (j + 1) (by simp; omega); simpa using this

theorem atL_some (l : List (Int × Int)) (c : Int) (k : Nat) (hk : k < l.length) (h : ∀ j (hj : j < k), l[j].1 ≠ c) (hc : l[k].1 = c) : atL l c = l[k].2 := by
  induction l generalizing k with
  | nil => simp at hk
  | cons x r ih =>
    cases k with
    | zero => simp only [List.getElem_cons_zero] at hc ⊢; simp only [atL, if_pos hc]
    | succ k =>
      have h0 := h 0 (by omega)
      simp only [List.getElem_cons_zero] at h0
      simp only [atL, if_neg h0, List.getElem_cons_succ]
      exact ih k (by simpa using hk) (fun j hj => by have := h (j + 1) (by omega); simpa using this) (by simpa using hc)

theorem atL_not_mem {l : List (Int × Int)} {c : Int} (h : c ∉ l.map (·.1)) : atL l c = 1 := by
  induction l with
  | nil => rfl
  | cons x r ih =>
    simp only [List.map_cons, List.mem_cons, not_or] at h
    simp only [atL, if_neg (Ne.symm h.1)]
    exact ih h.2

/-- The categories that one of two labels names, rising, each once. -/
def catsL (a b : List (Int × Int)) : List Int := Lib.compact ((a.map (·.1) ++ b.map (·.1)).mergeSort fun x y => decide (x ≤ y))

theorem mem_compactUpTo (d : Array Int) (m : Nat) (hm : m ≤ d.size) (x : Int) : x ∈ Lib.compactUpTo d m ↔ ∃ j, j < m ∧ d[j]! = x := by
  induction m with
  | zero => simp [Lib.compactUpTo]
  | succ m ih =>
    rw [Lib.compactUpTo_succ, List.mem_append, ih (by omega)]
    by_cases hk : Lib.keeps d m
    · simp only [hk, if_true, List.mem_singleton]
      constructor
      · rintro (⟨j, hj, e⟩ | e)
        · exact ⟨j, by omega, e⟩
        · exact ⟨m, by omega, e.symm⟩
      · rintro ⟨j, hj, e⟩
        by_cases h : j = m
        · subst h; exact Or.inr e.symm
        · exact Or.inl ⟨j, by omega, e⟩
    · have hk' : Lib.keeps d m = false := by simpa using hk
      simp only [hk', Bool.false_eq_true, if_false, List.not_mem_nil, or_false]
      have hz : ¬ (m = 0 ∨ d[m]! ≠ d[m - 1]!) := by simpa [Lib.keeps] using hk'
      constructor
      · rintro ⟨j, hj, e⟩; exact ⟨j, by omega, e⟩
      · rintro ⟨j, hj, e⟩
        by_cases h : j = m
        · subst h
          have h2 : d[j]! = d[j - 1]! := by
            by_cases g : d[j]! = d[j - 1]!
            · exact g
            · exact absurd (Or.inr g) hz
          have h1 : ¬ j = 0 := fun g => hz (Or.inl g)
          exact ⟨j - 1, by omega, by rw [← h2]; exact e⟩
        · exact ⟨j, by omega, e⟩

theorem mem_compact (zs : List Int) (x : Int) : x ∈ Lib.compact zs ↔ x ∈ zs := by
  unfold Lib.compact
  rw [mem_compactUpTo _ _ (by simp)]
  constructor
  · rintro ⟨j, hj, e⟩
    rw [getElem!_pos _ j (by simpa using hj)] at e
    subst e
    simp
  · intro h
    obtain ⟨j, hj, e⟩ := List.mem_iff_getElem.1 h
    exact ⟨j, hj, by rw [getElem!_pos _ j (by simpa using hj)]; simpa using e⟩

theorem compactUpTo_rises (d : Array Int) (hd : ∀ i j, i ≤ j → j < d.size → d[i]! ≤ d[j]!) (m : Nat) (hm : m ≤ d.size) : (Lib.compactUpTo d m).Pairwise (· < ·) := by
  induction m with
  | zero => simp [Lib.compactUpTo]
  | succ m ih =>
    rw [Lib.compactUpTo_succ, List.pairwise_append]
    refine ⟨ih (by omega), by split <;> simp, ?_⟩
    intro x hx y hy
    obtain ⟨j, hj, e⟩ := (mem_compactUpTo d m (by omega) x).1 hx
    by_cases hk : Lib.keeps d m
    · simp only [hk, if_true, List.mem_singleton] at hy
      subst hy
      have hz : m = 0 ∨ d[m]! ≠ d[m - 1]! := by simpa [Lib.keeps] using hk
      rcases hz with h0 | hne
      · omega
      · have h1 := hd j (m - 1) (by omega) (by omega)
        have h2 := hd (m - 1) m (by omega) (by omega)
        omega
    · simp [hk] at hy

theorem mem_catsL (a b : List (Int × Int)) (c : Int) : c ∈ catsL a b ↔ c ∈ a.map (·.1) ∨ c ∈ b.map (·.1) := by
  unfold catsL
  rw [mem_compact, List.mem_mergeSort, List.mem_append]

theorem catsL_length (a b : List (Int × Int)) : (catsL a b).length ≤ a.length + b.length := by
  unfold catsL Lib.compact Lib.compactUpTo
  have h1 := List.length_filter_le (Lib.keeps ((a.map (·.1) ++ b.map (·.1)).mergeSort fun x y => decide (x ≤ y)).toArray) (List.range ((a.map (·.1) ++ b.map (·.1)).mergeSort fun x y => decide (x ≤ y)).length)
  simp at h1 ⊢
  omega

/-- is a number among these? -/
def hasB (own : List Int) (c : Int) : Bool := own.contains c

/-- Flows. -/
def flowsL (a b : List (Int × Int)) (own : List Int) : Bool := (catsL a b).all fun c => decide (atL a c ≤ atL b c) || own.contains c

theorem flowsL_iff (a b : List (Int × Int)) (own : List Int) : flowsL a b own = true ↔ ∀ c, c ∈ own ∨ atL a c ≤ atL b c := by
  unfold flowsL
  simp only [List.all_eq_true, Bool.or_eq_true, decide_eq_true_eq, List.contains_iff_mem]
  constructor
  · intro h c
    by_cases hc : c ∈ catsL a b
    · rcases h c hc with h1 | h1
      · exact Or.inr h1
      · exact Or.inl h1
    · rw [mem_catsL, not_or] at hc
      rw [atL_not_mem hc.1, atL_not_mem hc.2]
      exact Or.inr (Int.le_refl _)
  · intro h c _
    rcases h c with h1 | h1
    · exact Or.inr h1
    · exact Or.inl h1

theorem flowsL_false_of {a b : List (Int × Int)} {own : List Int} {c : Int} (h1 : atL b c < atL a c) (h2 : hasB own c = false) : flowsL a b own = false := by
  cases hf : flowsL a b own with
  | false => rfl
  | true =>
    rcases (flowsL_iff a b own).1 hf c with h | h
    · simp [hasB, h] at h2
    · omega

theorem flowsL_true_of {a b : List (Int × Int)} {own : List Int} (h : ∀ j (hj : j < (catsL a b).length), atL a (catsL a b)[j] ≤ atL b (catsL a b)[j] ∨ hasB own (catsL a b)[j] = true) : flowsL a b own = true := by
  unfold flowsL
  simp only [List.all_eq_true, Bool.or_eq_true, decide_eq_true_eq]
  intro c hc
  obtain ⟨j, hj, e⟩ := List.mem_iff_getElem.1 hc
  subst e
  exact h j hj

/-- Good. -/
def goodL (l : List (Int × Int)) : Prop := l.length ≤ 8 ∧ (∀ x ∈ l, 0 ≤ x.1 ∧ x.1 < 80 ∧ 0 ≤ x.2 ∧ x.2 ≤ 3 ∧ x.2 ≠ 1) ∧ l.Pairwise (fun x y => x.1 < y.1)

/-- Category, and the bounds of a level. -/
def catB (c : Int) : Bool := decide (0 ≤ c ∧ c < 80)
def bndB (n : Int) : Bool := decide (0 ≤ n ∧ n ≤ 3)
def levB (x : Int × Int) : Bool := catB x.1 && bndB x.2 && !(x.2 == 1)
def goodB (l : List (Int × Int)) : Bool := decide (l.length ≤ 8 ∧ (∀ x ∈ l, 0 ≤ x.1 ∧ x.1 < 80 ∧ 0 ≤ x.2 ∧ x.2 ≤ 3 ∧ x.2 ≠ 1) ∧ l.Pairwise (fun x y => x.1 < y.1))
theorem goodB_iff (l : List (Int × Int)) : goodB l = true ↔ goodL l := by unfold goodB goodL; exact decide_eq_true_iff
theorem levB_iff (x : Int × Int) : levB x = true ↔ (0 ≤ x.1 ∧ x.1 < 80 ∧ 0 ≤ x.2 ∧ x.2 ≤ 3 ∧ x.2 ≠ 1) := by
  simp only [levB, catB, bndB, Bool.and_eq_true, decide_eq_true_eq, Bool.not_eq_true', beq_eq_false_iff_ne, ne_eq]
  constructor
  · rintro ⟨⟨⟨h1, h2⟩, h3, h4⟩, h5⟩; exact ⟨h1, h2, h3, h4, h5⟩
  · rintro ⟨h1, h2, h3, h4, h5⟩; exact ⟨⟨⟨h1, h2⟩, h3, h4⟩, h5⟩
theorem goodB_long {l : List (Int × Int)} (h : 8 < l.length) : goodB l = false := by
  cases e : goodB l with
  | false => rfl
  | true => have := ((goodB_iff l).1 e).1; omega
theorem goodB_lev {l : List (Int × Int)} (k : Nat) (hk : k < l.length) (h : levB l[k] = false) : goodB l = false := by
  cases e : goodB l with
  | false => rfl
  | true =>
    have := (levB_iff l[k]).2 (((goodB_iff l).1 e).2.1 l[k] (List.getElem_mem hk))
    rw [h] at this
    cases this
theorem goodB_turn {l : List (Int × Int)} (k : Nat) (hk : k + 1 < l.length) (h : l[k + 1].1 ≤ l[k].1) : goodB l = false := by
  cases e : goodB l with
  | false => rfl
  | true =>
    have := (List.pairwise_iff_getElem.1 ((goodB_iff l).1 e).2.2) k (k + 1) (by omega) hk (by omega)
    omega
theorem rising_of_steps (l : List (Int × Int)) (h : ∀ j (hj : j + 1 < l.length), l[j].1 < l[j + 1].1) : l.Pairwise (fun x y => x.1 < y.1) := by
  rw [List.pairwise_iff_getElem]
  intro i j hi hj hij
  induction j with
  | zero => omega
  | succ j ih =>
    have hs := h j hj
    by_cases e : i = j
    · subst e; exact hs
    · have := ih (by omega) (by omega); omega
theorem goodB_all {l : List (Int × Int)} (h8 : l.length ≤ 8) (h1 : ∀ j (hj : j < l.length), levB l[j] = true) (h2 : ∀ j (hj : j + 1 < l.length), l[j].1 < l[j + 1].1) : goodB l = true := by
  refine (goodB_iff l).2 ⟨h8, fun x hx => ?_, rising_of_steps l h2⟩
  obtain ⟨j, hj, e⟩ := List.mem_iff_getElem.1 hx
  subst e
  exact (levB_iff _).1 (h1 j hj)

end Go.Proofs.Parclose

namespace Go.Proofs.YtgpldlbmjakjhaaGreat
open Go.RowKit Go.Proofs.Parclose

theorem ret_int {k : IntKind} {a b : Int} (h : a = b) : Ending.returned (.int k a) = .returned (.int k b) := by rw [h]
theorem ret_bool {a b : Bool} (h : a = b) : Ending.returned (.bool a) = .returned (.bool b) := by rw [h]

theorem cell_block {w : World} {a : Addr} {v : Value} (h : w.cell? a = some v) : a.block < w.heap.size := by
  simp only [World.cell?] at h
  by_cases hb : a.block < w.heap.size
  · exact hb
  · rw [Array.getElem?_eq_none (by omega)] at h
    simp at h

/-- the levels l lie at offset o of block b -/
def Cells2 (w : World) (b o : Nat) (l : List (Int × Int)) : Prop :=
  ∀ j (_ : j < l.length), w.cell? ⟨b, o + j * 2, none⟩ = some (.int .i64 (l[j]).1) ∧ w.cell? ⟨b, o + j * 2 + 1, none⟩ = some (.int .i64 (l[j]).2)

theorem Cells2.below {w wr : World} {b o : Nat} {l : List (Int × Int)} (h : Cells2 w b o l) (hb : Below w.heap.size w wr) : Cells2 wr b o l := by
  intro j hj
  obtain ⟨h1, h2⟩ := h j hj
  exact ⟨by rw [hb.cell (cell_block h1), h1], by rw [hb.cell (cell_block h2), h2]⟩

/-- v is a slice whose elements are the levels l -/
def LabAt (w : World) (v : Value) (l : List (Int × Int)) : Prop :=
  ∃ p cap, v = .slice p l.length cap ∧ (l.length ≤ cap ∧ (p = none → cap = 0)) ∧ l.length ≤ 8796093022208 ∧ (0 < l.length → ∃ b o, p = some ⟨b, o, none⟩ ∧ Cells2 w b o l)

theorem LabAt.below {w wr : World} {v : Value} {l : List (Int × Int)} (h : LabAt w v l) (hb : Below w.heap.size w wr) : LabAt wr v l := by
  obtain ⟨p, cap, h1, h2, h3, h4⟩ := h
  refine ⟨p, cap, h1, h2, h3, fun g => ?_⟩
  obtain ⟨b, o, h5, h6⟩ := h4 g
  exact ⟨b, o, h5, h6.below hb⟩

theorem LabAt.len {w : World} {v : Value} {l : List (Int × Int)} (h : LabAt w v l) : l.length ≤ 8796093022208 := by
  obtain ⟨p, cap, h1, h2, h3, h4⟩ := h
  omega

theorem LabAt.nil (w : World) (p : Option Addr) (cap : Nat) (hp : p = none → cap = 0) : LabAt w (.slice p 0 cap) [] := ⟨p, cap, rfl, ⟨Nat.zero_le _, hp⟩, Nat.zero_le _, fun h => absurd h (by simp)⟩

/-- v is a slice whose elements are the labels ls -/
def LabsAt (w : World) (v : Value) (ls : List (List (Int × Int))) : Prop :=
  ∃ b o cap, v = .slice (some ⟨b, o, none⟩) ls.length cap ∧ ∀ j (_ : j < ls.length), ∃ u, w.cell? ⟨b, o + j, none⟩ = some u ∧ LabAt w u ls[j]

theorem LabsAt.below {w wr : World} {v : Value} {ls : List (List (Int × Int))} (h : LabsAt w v ls) (hb : Below w.heap.size w wr) : LabsAt wr v ls := by
  obtain ⟨b, o, cap, rfl, h1⟩ := h
  refine ⟨b, o, cap, rfl, fun j hj => ?_⟩
  obtain ⟨u, h2, h3⟩ := h1 j hj
  exact ⟨u, by rw [hb.cell (cell_block h2), h2], h3.below hb⟩

/-- each number fits into 64 bits -/
def WfL (l : List (Int × Int)) : Prop := ∀ x ∈ l, (Lit.int .i64 x.1).wf = true ∧ (Lit.int .i64 x.2).wf = true

/-- the numbers zs lie at offset o of block b -/
def Cells1 (w : World) (b o : Nat) (zs : List Int) : Prop := ∀ j (_ : j < zs.length), w.cell? ⟨b, o + j, none⟩ = some (.int .i64 zs[j])

theorem Cells1.below {w wr : World} {b o : Nat} {zs : List Int} (h : Cells1 w b o zs) (hb : Below w.heap.size w wr) : Cells1 wr b o zs := by
  intro j hj
  have h1 := h j hj
  rw [hb.cell (cell_block h1), h1]

/-- v is a slice whose elements are the numbers zs -/
def IntsAt (w : World) (v : Value) (zs : List Int) : Prop :=
  ∃ p cap, v = .slice p zs.length cap ∧ (zs.length ≤ cap ∧ (p = none → cap = 0)) ∧ zs.length ≤ 17592186044416 ∧ (0 < zs.length → ∃ b o, p = some ⟨b, o, none⟩ ∧ Cells1 w b o zs)

theorem IntsAt.below {w wr : World} {v : Value} {zs : List Int} (h : IntsAt w v zs) (hb : Below w.heap.size w wr) : IntsAt wr v zs := by
  obtain ⟨p, cap, h1, h2, h3, h4⟩ := h
  refine ⟨p, cap, h1, h2, h3, fun g => ?_⟩
  obtain ⟨b, o, h5, h6⟩ := h4 g
  exact ⟨b, o, h5, h6.below hb⟩

theorem IntsAt.len {w : World} {v : Value} {zs : List Int} (h : IntsAt w v zs) : zs.length ≤ 17592186044416 := by
  obtain ⟨p, cap, h1, h2, h3, h4⟩ := h
  omega

theorem IntsAt.nil (w : World) (p : Option Addr) (cap : Nat) (hp : p = none → cap = 0) : IntsAt w (.slice p 0 cap) [] := ⟨p, cap, rfl, ⟨Nat.zero_le _, hp⟩, Nat.zero_le _, fun h => absurd h (by simp)⟩

/-- one call behind another -/
theorem below_then {w a b : World} (h : Below w.heap.size w a) (k : Below a.heap.size a b) : Below w.heap.size w b := h.trans (k.mono h.size)
theorem below_drewN (w : World) (n : Nat) : Below w.heap.size w (w.drewN n) := by
  induction n with
  | zero => exact Below.refl _ _
  | succ n ih => exact ⟨rfl, rfl, rfl, Nat.le_refl _, fun _ _ => rfl⟩
end Go.Proofs.YtgpldlbmjakjhaaGreat

namespace Go.Proofs.Parclose

def frontL (l : List (Int × Int)) (c : Int) : List (Int × Int) := l.filter fun x => decide (x.1 < c)
def behindL (l : List (Int × Int)) (c : Int) : List (Int × Int) := l.filter fun x => decide (c < x.1)
def newL (c n : Int) : List (Int × Int) := if n = 1 then [] else [(c, n)]
/-- Set: the label with that category at that level -/
def setL (l : List (Int × Int)) (c n : Int) : List (Int × Int) := frontL l c ++ newL c n ++ behindL l c

theorem take_front {l : List (Int × Int)} {c : Int} {i : Nat} (h1 : ∀ m (_ : m < i) (hm : m < l.length), l[m].1 < c) (h2 : ∀ m (_ : i ≤ m) (hm : m < l.length), c ≤ l[m].1) : l.take i = frontL l c := by
  unfold frontL
  conv => rhs; rw [← List.take_append_drop i l]
  rw [List.filter_append, List.filter_eq_self.2, List.filter_eq_nil_iff.2]
  · simp
  · intro x hx
    obtain ⟨m, hm, e⟩ := List.mem_iff_getElem.1 hx
    rw [List.getElem_drop] at e
    have := h2 (i + m) (by omega) (by simp at hm; omega)
    subst e
    simpa using this
  · intro x hx
    obtain ⟨m, hm, e⟩ := List.mem_iff_getElem.1 hx
    rw [List.getElem_take] at e
    have := h1 m (by simp at hm; omega) (by simp at hm; omega)
    subst e
    simpa using this

theorem drop_behind {l : List (Int × Int)} {c : Int} {k : Nat} (h1 : ∀ m (_ : m < k) (hm : m < l.length), l[m].1 ≤ c) (h2 : ∀ m (_ : k ≤ m) (hm : m < l.length), c < l[m].1) : l.drop k = behindL l c := by
  unfold behindL
  conv => rhs; rw [← List.take_append_drop k l]
  rw [List.filter_append, List.filter_eq_nil_iff.2, List.filter_eq_self.2]
  · simp
  · intro x hx
    obtain ⟨m, hm, e⟩ := List.mem_iff_getElem.1 hx
    rw [List.getElem_drop] at e
    have := h2 (k + m) (by omega) (by simp at hm; omega)
    subst e
    simpa using this
  · intro x hx
    obtain ⟨m, hm, e⟩ := List.mem_iff_getElem.1 hx
    rw [List.getElem_take] at e
    have := h1 m (by simp at hm; omega) (by simp at hm; omega)
    subst e
    simpa using this

/-- a place and whether the category stands there -/
structure Spot (l : List (Int × Int)) (c : Int) (i : Nat) (f : Bool) : Prop where
  le : i ≤ l.length
  low : ∀ m (_ : m < i) (hm : m < l.length), l[m].1 < c
  high : ∀ m (_ : i ≤ m) (hm : m < l.length), c ≤ l[m].1
  yes : f = true → ∃ h : i < l.length, l[i].1 = c
  no : f = false → ∀ h : i < l.length, l[i].1 ≠ c

theorem Spot.front {l : List (Int × Int)} {c : Int} {i : Nat} {f : Bool} (s : Spot l c i f) : l.take i = frontL l c := take_front s.low s.high
theorem Spot.behind_yes {l : List (Int × Int)} {c : Int} {i : Nat} (s : Spot l c i true) (hr : l.Pairwise fun x y => x.1 < y.1) : l.drop (i + 1) = behindL l c := by
  obtain ⟨hi, e⟩ := s.yes rfl
  refine drop_behind (fun m h hm => ?_) (fun m h hm => ?_)
  · by_cases hmi : m = i
    · subst hmi; omega
    · have := s.low m (by omega) hm; omega
  · have := (List.pairwise_iff_getElem.1 hr) i m hi hm (by omega)
    omega
theorem Spot.behind_no {l : List (Int × Int)} {c : Int} {i : Nat} (s : Spot l c i false) (hr : l.Pairwise fun x y => x.1 < y.1) : l.drop i = behindL l c := by
  refine drop_behind (fun m h hm => ?_) (fun m h hm => ?_)
  · have := s.low m h hm; omega
  · by_cases hmi : m = i
    · subst hmi
      have h1 := s.high m (Nat.le_refl _) hm
      have h2 := s.no rfl hm
      omega
    · have h1 := s.high i (Nat.le_refl _) (by omega)
      have := (List.pairwise_iff_getElem.1 hr) i m (by omega) hm (by omega)
      omega

theorem setL_rises {l : List (Int × Int)} (hr : l.Pairwise fun x y => x.1 < y.1) (c n : Int) : (setL l c n).Pairwise fun x y => x.1 < y.1 := by
  unfold setL
  have hf : ∀ x ∈ frontL l c, x.1 < c := fun x hx => by have := (List.mem_filter.1 hx).2; simpa using this
  have hb : ∀ x ∈ behindL l c, c < x.1 := fun x hx => by have := (List.mem_filter.1 hx).2; simpa using this
  have hn : ∀ x ∈ newL c n, x.1 = c := fun x hx => by
    unfold newL at hx
    by_cases h : n = 1
    · simp [h] at hx
    · simp only [h, if_false, List.mem_singleton] at hx; rw [hx]
  refine List.pairwise_append.2 ⟨List.pairwise_append.2 ⟨hr.filter _, ?_, ?_⟩, hr.filter _, ?_⟩
  · unfold newL; split <;> simp
  · intro x hx y hy; have := hf x hx; have := hn y hy; omega
  · intro x hx y hy
    have := hb y hy
    rcases List.mem_append.1 hx with hx | hx
    · have := hf x hx; omega
    · have := hn x hx; omega

theorem good_setL {l : List (Int × Int)} (h : goodL l) {c n : Int} (hc : catB c = true) (hn : bndB n = true) (h8 : (setL l c n).length ≤ 8) : goodL (setL l c n) := by
  have hc' : 0 ≤ c ∧ c < 80 := of_decide_eq_true hc
  have hn' : 0 ≤ n ∧ n ≤ 3 := of_decide_eq_true hn
  refine ⟨h8, fun x hx => ?_, setL_rises h.2.2 c n⟩
  unfold setL at hx
  rcases List.mem_append.1 hx with hx | hx
  · rcases List.mem_append.1 hx with hx | hx
    · exact h.2.1 x (List.mem_filter.1 hx).1
    · unfold newL at hx
      by_cases e : n = 1
      · simp [e] at hx
      · simp only [e, if_false, List.mem_singleton] at hx; rw [hx]; exact ⟨hc'.1, hc'.2, hn'.1, hn'.2, e⟩
  · exact h.2.1 x (List.mem_filter.1 hx).1

theorem frontL_length (l : List (Int × Int)) (c : Int) : (frontL l c).length ≤ l.length := List.length_filter_le _ _
theorem behindL_length (l : List (Int × Int)) (c : Int) : (behindL l c).length ≤ l.length := List.length_filter_le _ _
theorem newL_length (c n : Int) : (newL c n).length ≤ 1 := by unfold newL; split <;> simp

/-- may the label be set so? -/
def setB (l : List (Int × Int)) (c n : Int) : Bool := goodB l && catB c && bndB n
/-- the error of Set, and its label -/
def setE (l : List (Int × Int)) (c n : Int) : Int := if setB l c n = false then 2 else if 8 < (setL l c n).length then 5 else 0
end Go.Proofs.Parclose

namespace Go.Proofs.YtgpldlbmjakjhaaGreat
open Go.RowKit Go.Proofs.Parclose

end Go.Proofs.YtgpldlbmjakjhaaGreat

namespace Go.Proofs.YtgpldlbmjakjhaaGreat
open Go.RowKit

section
variable {P : Program} {ops : Array Oper} {Q : Exit → Act → World → Prop} {md : Region.Mode} {S : World → Prop}
/-- an operation that yields, taken first -/
theorem takeD (i n : Nat) (v : Value) {oi : Oper} {fuel : Nat} {listed : Array Bool} {a : Act} {w : World} (hi : ops[i]? = some oi) (hd : oi.dst = some n)
    (hs : Region.noSelect ops = true) (hf : Region.free md ops listed i = true) (hr : (Region.ready md ops listed).contains i = true)
    (hQ : ∀ c a w, Q (.panic c) (a.put (some n) v) w → Q (.panic c) a w) (hy : YieldsIf P ops S oi v a) (hS : S w)
    (h : wpAnyH P md ops Q S fuel (listed.setIfInBounds i true) (a.put (some n) v) w) : wpAnyH P md ops Q S (fuel + 1) listed a w :=
  wpAnyH_take hi hs hf hr (by rw [hd]; exact hQ) hy hS (by rw [hd]; exact h)
/-- an operation that is not wanted, taken first -/
theorem skipD (i n : Nat) {oi : Oper} {fuel : Nat} {listed : Array Bool} {a : Act} {w : World} (hi : ops[i]? = some oi) (hd : oi.dst = some n)
    (hs : Region.noSelect ops = true) (hf : Region.free md ops listed i = true) (hr : (Region.ready md ops listed).contains i = true)
    (hQ : ∀ c a w, Q (.panic c) (a.put (some n) undef) w → Q (.panic c) a w) (hw : Region.wanted oi (yielded ops a.tmps) = false) (hS : S w)
    (h : wpAnyH P md ops Q S fuel (listed.setIfInBounds i true) (a.put (some n) undef) w) : wpAnyH P md ops Q S (fuel + 1) listed a w :=
  wpAnyH_take hi hs hf hr (by rw [hd]; exact hQ) (Or.inr ⟨hw, rfl⟩) hS (by rw [hd]; exact h)
end
end Go.Proofs.YtgpldlbmjakjhaaGreat
