/- Plain facts on a label with a category at a level; no program is named here. -/
import Derived.Test.YtgikaebcgdhknabPlain
namespace Go.Proofs.Parclose

def frontL (l : List (Int × Int)) (c : Int) : List (Int × Int) := l.filter fun x => decide (x.1 < c)
def behindL (l : List (Int × Int)) (c : Int) : List (Int × Int) := l.filter fun x => decide (c < x.1)
def newL (c n : Int) : List (Int × Int) := if n = 1 then [] else [(c, n)]
/-- Set: the label with that category at that level -/
def setL (l : List (Int × Int)) (c n : Int) : List (Int × Int) := frontL l c ++ newL c n ++ behindL l c

theorem take_front {l : List (Int × Int)} {c : Int} {i : Nat} (h1 : ∀ m (_ : m < i) (hm : m < l.length), l[m].1 < c) (h2 : ∀ m (_ : i ≤ m) (hm : m < l.length), c ≤ l[m].1) : l.take i = frontL l c := by
  unfold frontL
  conv => rhs; rw [← List.take_append_drop i l]
  rw [List.filter_append, List.filter_eq_self.2, List.filter_eq_nil_iff.2]
  · simp
  · intro x hx
    obtain ⟨m, hm, e⟩ := List.mem_iff_getElem.1 hx
    rw [List.getElem_drop] at e
    have := h2 (i + m) (by omega) (by simp at hm; omega)
    subst e
    simpa using this
  · intro x hx
    obtain ⟨m, hm, e⟩ := List.mem_iff_getElem.1 hx
    rw [List.getElem_take] at e
    have := h1 m (by simp at hm; omega) (by simp at hm; omega)
    subst e
    simpa using this

theorem drop_behind {l : List (Int × Int)} {c : Int} {k : Nat} (h1 : ∀ m (_ : m < k) (hm : m < l.length), l[m].1 ≤ c) (h2 : ∀ m (_ : k ≤ m) (hm : m < l.length), c < l[m].1) : l.drop k = behindL l c := by
  unfold behindL
  conv => rhs; rw [← List.take_append_drop k l]
  rw [List.filter_append, List.filter_eq_nil_iff.2, List.filter_eq_self.2]
  · simp
  · intro x hx
    obtain ⟨m, hm, e⟩ := List.mem_iff_getElem.1 hx
    rw [List.getElem_drop] at e
    have := h2 (k + m) (by omega) (by simp at hm; omega)
    subst e
    simpa using this
  · intro x hx
    obtain ⟨m, hm, e⟩ := List.mem_iff_getElem.1 hx
    rw [List.getElem_take] at e
    have := h1 m (by simp at hm; omega) (by simp at hm; omega)
    subst e
    simpa using this

/-- a place and whether the category stands there -/
structure Spot (l : List (Int × Int)) (c : Int) (i : Nat) (f : Bool) : Prop where
  le : i ≤ l.length
  low : ∀ m (_ : m < i) (hm : m < l.length), l[m].1 < c
  high : ∀ m (_ : i ≤ m) (hm : m < l.length), c ≤ l[m].1
  yes : f = true → ∃ h : i < l.length, l[i].1 = c
  no : f = false → ∀ h : i < l.length, l[i].1 ≠ c

theorem Spot.front {l : List (Int × Int)} {c : Int} {i : Nat} {f : Bool} (s : Spot l c i f) : l.take i = frontL l c := take_front s.low s.high
theorem Spot.behind_yes {l : List (Int × Int)} {c : Int} {i : Nat} (s : Spot l c i true) (hr : l.Pairwise fun x y => x.1 < y.1) : l.drop (i + 1) = behindL l c := by
  obtain ⟨hi, e⟩ := s.yes rfl
  refine drop_behind (fun m h hm => ?_) (fun m h hm => ?_)
  · by_cases hmi : m = i
    · subst hmi; omega
    · have := s.low m (by omega) hm; omega
  · have := (List.pairwise_iff_getElem.1 hr) i m hi hm (by omega)
    omega
theorem Spot.behind_no {l : List (Int × Int)} {c : Int} {i : Nat} (s : Spot l c i false) (hr : l.Pairwise fun x y => x.1 < y.1) : l.drop i = behindL l c := by
  refine drop_behind (fun m h hm => ?_) (fun m h hm => ?_)
  · have := s.low m h hm; omega
  · by_cases hmi : m = i
    · subst hmi
      have h1 := s.high m (Nat.le_refl _) hm
      have h2 := s.no rfl hm
      omega
    · have h1 := s.high i (Nat.le_refl _) (by omega)
      have := (List.pairwise_iff_getElem.1 hr) i m (by omega) hm (by omega)
      omega

theorem atL_append (x y : List (Int × Int)) (d : Int) : atL (x ++ y) d = if d ∈ x.map (·.1) then atL x d else atL y d := by
  induction x with
  | nil => simp
  | cons t r ih =>
    simp only [List.cons_append, atL, List.map_cons, List.mem_cons]
    by_cases h : t.1 = d
    · simp [h]
    · simp only [h, if_false, Ne.symm h, false_or]
      exact ih

theorem atL_filter (p : Int → Bool) (l : List (Int × Int)) (d : Int) : atL (l.filter fun x => p x.1) d = if p d then atL l d else 1 := by
  induction l with
  | nil => simp [atL]
  | cons t r ih =>
    by_cases h : p t.1
    · simp only [List.filter_cons, h, if_true, atL]
      by_cases e : t.1 = d
      · subst e; simp [h]
      · simp only [e, if_false]; exact ih
    · have h' : p t.1 = false := by simpa using h
      simp only [List.filter_cons, h', Bool.false_eq_true, if_false, atL]
      rw [ih]
      by_cases e : t.1 = d
      · subst e; simp [h']
      · simp [e]

theorem keys_front {l : List (Int × Int)} {c d : Int} (h : d ∈ (frontL l c).map (·.1)) : d < c := by
  obtain ⟨x, hx, e⟩ := List.mem_map.1 h
  have := (List.mem_filter.1 hx).2
  simp at this
  omega
theorem keys_behind {l : List (Int × Int)} {c d : Int} (h : d ∈ (behindL l c).map (·.1)) : c < d := by
  obtain ⟨x, hx, e⟩ := List.mem_map.1 h
  have := (List.mem_filter.1 hx).2
  simp at this
  omega

theorem atL_front (l : List (Int × Int)) (c d : Int) : atL (frontL l c) d = if d < c then atL l d else 1 := by
  have := atL_filter (fun x => decide (x < c)) l d
  simpa [frontL] using this
theorem atL_behind (l : List (Int × Int)) (c d : Int) : atL (behindL l c) d = if c < d then atL l d else 1 := by
  have := atL_filter (fun x => decide (c < x)) l d
  simpa [behindL] using this
theorem atL_new (c n d : Int) : atL (newL c n) d = if d = c then n else 1 := by
  unfold newL
  by_cases h : n = 1
  · simp [h, atL]
  · simp only [h, if_false, atL]
    by_cases e : d = c
    · simp [e]
    · simp [e, Ne.symm e]

theorem atL_setL (l : List (Int × Int)) (c n d : Int) : atL (setL l c n) d = if d = c then n else atL l d := by
  unfold setL
  rw [List.append_assoc, atL_append, atL_append]
  by_cases h1 : d ∈ (frontL l c).map (·.1)
  · have := keys_front h1
    rw [if_pos h1, atL_front, if_pos this, if_neg (by omega)]
  · rw [if_neg h1]
    have e1 : atL (frontL l c) d = 1 := atL_not_mem h1
    rw [atL_front] at e1
    by_cases h2 : d ∈ (newL c n).map (·.1)
    · rw [if_pos h2, atL_new]
      have : d = c := by
        unfold newL at h2
        by_cases hn : n = 1
        · simp [hn] at h2
        · simpa [hn] using h2
      simp [this]
    · rw [if_neg h2]
      have e2 : atL (newL c n) d = 1 := atL_not_mem h2
      rw [atL_new] at e2
      rw [atL_behind]
      by_cases g1 : c < d
      · rw [if_pos g1, if_neg (by omega)]
      · rw [if_neg g1]
        by_cases g2 : d = c
        · rw [if_pos g2]; rw [if_pos g2] at e2; exact e2.symm
        · rw [if_neg g2]
          rw [if_pos (by omega)] at e1
          exact e1.symm

theorem setL_rises {l : List (Int × Int)} (hr : l.Pairwise fun x y => x.1 < y.1) (c n : Int) : (setL l c n).Pairwise fun x y => x.1 < y.1 := by
  unfold setL
  have hf : ∀ x ∈ frontL l c, x.1 < c := fun x hx => by have := (List.mem_filter.1 hx).2; simpa using this
  have hb : ∀ x ∈ behindL l c, c < x.1 := fun x hx => by have := (List.mem_filter.1 hx).2; simpa using this
  have hn : ∀ x ∈ newL c n, x.1 = c := fun x hx => by
    unfold newL at hx
    by_cases h : n = 1
    · simp [h] at hx
    · simp only [h, if_false, List.mem_singleton] at hx; rw [hx]
  refine List.pairwise_append.2 ⟨List.pairwise_append.2 ⟨hr.filter _, ?_, ?_⟩, hr.filter _, ?_⟩
  · unfold newL; split <;> simp
  · intro x hx y hy; have := hf x hx; have := hn y hy; omega
  · intro x hx y hy
    have := hb y hy
    rcases List.mem_append.1 hx with hx | hx
    · have := hf x hx; omega
    · have := hn x hx; omega

theorem canon_setL {l : List (Int × Int)} (h : canonL l) (c n : Int) : canonL (setL l c n) := by
  refine ⟨fun x hx => ?_, setL_rises h.2 c n⟩
  unfold setL at hx
  rcases List.mem_append.1 hx with hx | hx
  · rcases List.mem_append.1 hx with hx | hx
    · exact h.1 x (List.mem_filter.1 hx).1
    · unfold newL at hx
      by_cases e : n = 1
      · simp [e] at hx
      · simp only [e, if_false, List.mem_singleton] at hx; rw [hx]; exact e
  · exact h.1 x (List.mem_filter.1 hx).1

theorem good_setL {l : List (Int × Int)} (h : goodL l) {c n : Int} (hc : catB c = true) (hn : bndB n = true) (h8 : (setL l c n).length ≤ 8) : goodL (setL l c n) := by
  have hc' : 0 ≤ c ∧ c < 80 := of_decide_eq_true hc
  have hn' : 0 ≤ n ∧ n ≤ 3 := of_decide_eq_true hn
  refine ⟨h8, fun x hx => ?_, setL_rises h.2.2 c n⟩
  unfold setL at hx
  rcases List.mem_append.1 hx with hx | hx
  · rcases List.mem_append.1 hx with hx | hx
    · exact h.2.1 x (List.mem_filter.1 hx).1
    · unfold newL at hx
      by_cases e : n = 1
      · simp [e] at hx
      · simp only [e, if_false, List.mem_singleton] at hx; rw [hx]; exact ⟨hc'.1, hc'.2, hn'.1, hn'.2, e⟩
  · exact h.2.1 x (List.mem_filter.1 hx).1

/-- set back it is the same -/
theorem set_back {l : List (Int × Int)} (h : goodL l) (c n : Int) : setL (setL l c n) c (atL l c) = l :=
  canon_ext (canon_setL (canon_setL (good_canon h) c n) c _) (good_canon h) fun d => by
    rw [atL_setL, atL_setL]
    by_cases e : d = c
    · simp [e]
    · simp [e]

theorem at_bound {l : List (Int × Int)} (h : goodL l) (c : Int) : bndB (atL l c) = true := by
  refine decide_eq_true ?_
  have h1 := h.2.1
  clear h
  induction l with
  | nil => simp [atL]
  | cons x r ih =>
    simp only [atL]
    by_cases e : x.1 = c
    · rw [if_pos e]
      have := h1 x (by simp)
      exact ⟨this.2.2.1, this.2.2.2.1⟩
    · rw [if_neg e]
      exact ih (fun y hy => h1 y (by simp [hy]))

theorem set_flows (l : List (Int × Int)) (c n : Int) : flowsL l (setL l c n) [] = decide (atL l c ≤ n) := by
  rw [Bool.eq_iff_iff, flowsL_iff, decide_eq_true_iff]
  constructor
  · intro h
    have := h c
    rw [atL_setL, if_pos rfl] at this
    simpa using this
  · intro h d
    rw [atL_setL]
    by_cases e : d = c
    · subst e; rw [if_pos rfl]; exact Or.inr h
    · rw [if_neg e]; exact Or.inr (Int.le_refl _)
theorem set_flows_own (l : List (Int × Int)) (c n : Int) : flowsL l (setL l c n) [c] = true := by
  rw [flowsL_iff]
  intro d
  rw [atL_setL]
  by_cases e : d = c
  · exact Or.inl (by simp [e])
  · rw [if_neg e]; exact Or.inr (Int.le_refl _)
theorem frontL_length (l : List (Int × Int)) (c : Int) : (frontL l c).length ≤ l.length := List.length_filter_le _ _
theorem behindL_length (l : List (Int × Int)) (c : Int) : (behindL l c).length ≤ l.length := List.length_filter_le _ _
theorem newL_length (c n : Int) : (newL c n).length ≤ 1 := by unfold newL; split <;> simp

/-- may the label be set so? -/
def setB (l : List (Int × Int)) (c n : Int) : Bool := goodB l && catB c && bndB n
/-- the error of Set, and its label -/
def setE (l : List (Int × Int)) (c n : Int) : Int := if setB l c n = false then 2 else if 8 < (setL l c n).length then 5 else 0
def setR (l : List (Int × Int)) (c n : Int) : List (Int × Int) := if setB l c n = false then [] else if 8 < (setL l c n).length then [] else setL l c n
end Go.Proofs.Parclose
