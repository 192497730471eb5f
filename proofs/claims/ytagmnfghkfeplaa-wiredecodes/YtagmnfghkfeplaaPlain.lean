/- Plain facts on lists of levels: what At, named, Flows, Good, Same say of them; no program is named here. -/
import Derived.Lib.SlicesCompact
namespace Go.Proofs.Parclose

/-- At: the first level that names c; 1 if none does. -/
def atL (l : List (Int × Int)) (c : Int) : Int := match l with
  | [] => 1
  | x :: r => if x.1 = c then x.2 else atL r c

theorem atL_none (l : List (Int × Int)) (c : Int) (h : ∀ j (hj : j < l.length), l[j].1 ≠ c) : atL l c = 1 := by
  induction l with
  | nil => rfl
  | cons x r ih =>
    have h0 := h 0 (by simp)
    simp only [List.getElem_cons_zero] at h0
    simp only [atL, if_neg h0]
    exact ih fun j hj => by have := h (j + 1) (by simp; omega); simpa using this

theorem atL_some (l : List (Int × Int)) (c : Int) (k : Nat) (hk : k < l.length) (h : ∀ j (hj : j < k), l[j].1 ≠ c) (hc : l[k].1 = c) : atL l c = l[k].2 := by
  induction l generalizing k with
  | nil => simp at hk
  | cons x r ih =>
    cases k with
    | zero => simp only [List.getElem_cons_zero] at hc ⊢; simp only [atL, if_pos hc]
    | succ k =>
      have h0 := h 0 (by omega)
      simp only [List.getElem_cons_zero] at h0
      simp only [atL, if_neg h0, List.getElem_cons_succ]
      exact ih k (by simpa using hk) (fun j hj => by have := h (j + 1) (by omega); simpa using this) (by simpa using hc)

theorem atL_not_mem {l : List (Int × Int)} {c : Int} (h : c ∉ l.map (·.1)) : atL l c = 1 := by
  induction l with
  | nil => rfl
  | cons x r ih =>
    simp only [List.map_cons, List.mem_cons, not_or] at h
    simp only [atL, if_neg (Ne.symm h.1)]
    exact ih h.2

/-- The categories that one of two labels names, rising, each once. -/
def catsL (a b : List (Int × Int)) : List Int := Lib.compact ((a.map (·.1) ++ b.map (·.1)).mergeSort fun x y => decide (x ≤ y))

theorem mem_compactUpTo (d : Array Int) (m : Nat) (hm : m ≤ d.size) (x : Int) : x ∈ Lib.compactUpTo d m ↔ ∃ j, j < m ∧ d[j]! = x := by
  induction m with
  | zero => simp [Lib.compactUpTo]
  | succ m ih =>
    rw [Lib.compactUpTo_succ, List.mem_append, ih (by omega)]
    by_cases hk : Lib.keeps d m
    · simp only [hk, if_true, List.mem_singleton]
      constructor
      · rintro (⟨j, hj, e⟩ | e)
        · exact ⟨j, by omega, e⟩
        · exact ⟨m, by omega, e.symm⟩
      · rintro ⟨j, hj, e⟩
        by_cases h : j = m
        · subst h; exact Or.inr e.symm
        · exact Or.inl ⟨j, by omega, e⟩
    · have hk' : Lib.keeps d m = false := by simpa using hk
      simp only [hk', Bool.false_eq_true, if_false, List.not_mem_nil, or_false]
      have hz : ¬ (m = 0 ∨ d[m]! ≠ d[m - 1]!) := by simpa [Lib.keeps] using hk'
      constructor
      · rintro ⟨j, hj, e⟩; exact ⟨j, by omega, e⟩
      · rintro ⟨j, hj, e⟩
        by_cases h : j = m
        · subst h
          have h2 : d[j]! = d[j - 1]! := by
            by_cases g : d[j]! = d[j - 1]!
            · exact g
            · exact absurd (Or.inr g) hz
          have h1 : ¬ j = 0 := fun g => hz (Or.inl g)
          exact ⟨j - 1, by omega, by rw [← h2]; exact e⟩
        · exact ⟨j, by omega, e⟩

theorem mem_compact (zs : List Int) (x : Int) : x ∈ Lib.compact zs ↔ x ∈ zs := by
  unfold Lib.compact
  rw [mem_compactUpTo _ _ (by simp)]
  constructor
  · rintro ⟨j, hj, e⟩
    rw [getElem!_pos _ j (by simpa using hj)] at e
    subst e
    simp
  · intro h
    obtain ⟨j, hj, e⟩ := List.mem_iff_getElem.1 h
    exact ⟨j, hj, by rw [getElem!_pos _ j (by simpa using hj)]; simpa using e⟩

theorem compactUpTo_rises (d : Array Int) (hd : ∀ i j, i ≤ j → j < d.size → d[i]! ≤ d[j]!) (m : Nat) (hm : m ≤ d.size) : (Lib.compactUpTo d m).Pairwise (· < ·) := by
  induction m with
  | zero => simp [Lib.compactUpTo]
  | succ m ih =>
    rw [Lib.compactUpTo_succ, List.pairwise_append]
    refine ⟨ih (by omega), by split <;> simp, ?_⟩
    intro x hx y hy
    obtain ⟨j, hj, e⟩ := (mem_compactUpTo d m (by omega) x).1 hx
    by_cases hk : Lib.keeps d m
    · simp only [hk, if_true, List.mem_singleton] at hy
      subst hy
      have hz : m = 0 ∨ d[m]! ≠ d[m - 1]! := by simpa [Lib.keeps] using hk
      rcases hz with h0 | hne
      · omega
      · have h1 := hd j (m - 1) (by omega) (by omega)
        have h2 := hd (m - 1) m (by omega) (by omega)
        omega
    · simp [hk] at hy

theorem mem_catsL (a b : List (Int × Int)) (c : Int) : c ∈ catsL a b ↔ c ∈ a.map (·.1) ∨ c ∈ b.map (·.1) := by
  unfold catsL
  rw [mem_compact, List.mem_mergeSort, List.mem_append]

theorem catsL_rises (a b : List (Int × Int)) : (catsL a b).Pairwise (· < ·) := by
  unfold catsL Lib.compact
  have hs := List.pairwise_mergeSort (le := fun x y : Int => decide (x ≤ y)) (by intro x y z; simp; omega) (by intro x y; simp; omega) (a.map (·.1) ++ b.map (·.1))
  refine compactUpTo_rises _ ?_ _ (by simp)
  intro i j hij hj
  rw [getElem!_pos _ i (by omega), getElem!_pos _ j hj]
  by_cases e : i = j
  · subst e; omega
  · have := (List.pairwise_iff_getElem.1 hs) i j (by simp at hj ⊢; omega) (by simpa using hj) (by omega)
    simpa using this

theorem catsL_length (a b : List (Int × Int)) : (catsL a b).length ≤ a.length + b.length := by
  unfold catsL Lib.compact Lib.compactUpTo
  have h1 := List.length_filter_le (Lib.keeps ((a.map (·.1) ++ b.map (·.1)).mergeSort fun x y => decide (x ≤ y)).toArray) (List.range ((a.map (·.1) ++ b.map (·.1)).mergeSort fun x y => decide (x ≤ y)).length)
  simp at h1 ⊢
  omega

/-- is a number among these? -/
def hasB (own : List Int) (c : Int) : Bool := own.contains c

/-- Flows. -/
def flowsL (a b : List (Int × Int)) (own : List Int) : Bool := (catsL a b).all fun c => decide (atL a c ≤ atL b c) || own.contains c

theorem flowsL_iff (a b : List (Int × Int)) (own : List Int) : flowsL a b own = true ↔ ∀ c, c ∈ own ∨ atL a c ≤ atL b c := by
  unfold flowsL
  simp only [List.all_eq_true, Bool.or_eq_true, decide_eq_true_eq, List.contains_iff_mem]
  constructor
  · intro h c
    by_cases hc : c ∈ catsL a b
    · rcases h c hc with h1 | h1
      · exact Or.inr h1
      · exact Or.inl h1
    · rw [mem_catsL, not_or] at hc
      rw [atL_not_mem hc.1, atL_not_mem hc.2]
      exact Or.inr (Int.le_refl _)
  · intro h c _
    rcases h c with h1 | h1
    · exact Or.inr h1
    · exact Or.inl h1

theorem flowsL_false_of {a b : List (Int × Int)} {own : List Int} {c : Int} (h1 : atL b c < atL a c) (h2 : hasB own c = false) : flowsL a b own = false := by
  cases hf : flowsL a b own with
  | false => rfl
  | true =>
    rcases (flowsL_iff a b own).1 hf c with h | h
    · simp [hasB, h] at h2
    · omega

theorem flowsL_true_of {a b : List (Int × Int)} {own : List Int} (h : ∀ j (hj : j < (catsL a b).length), atL a (catsL a b)[j] ≤ atL b (catsL a b)[j] ∨ hasB own (catsL a b)[j] = true) : flowsL a b own = true := by
  unfold flowsL
  simp only [List.all_eq_true, Bool.or_eq_true, decide_eq_true_eq]
  intro c hc
  obtain ⟨j, hj, e⟩ := List.mem_iff_getElem.1 hc
  subst e
  exact h j hj

theorem flowsL_true_names {a b : List (Int × Int)} {own : List Int} (h : ∀ c, c ∈ a.map (·.1) ∨ c ∈ b.map (·.1) → atL a c ≤ atL b c ∨ hasB own c = true) : flowsL a b own = true :=
  flowsL_true_of fun _ hj => h _ ((mem_catsL a b _).1 (List.getElem_mem hj))

/-- Good. -/
def goodL (l : List (Int × Int)) : Prop := l.length ≤ 8 ∧ (∀ x ∈ l, 0 ≤ x.1 ∧ x.1 < 80 ∧ 0 ≤ x.2 ∧ x.2 ≤ 3 ∧ x.2 ≠ 1) ∧ l.Pairwise (fun x y => x.1 < y.1)

/-- Category, and the bounds of a level. -/
def catB (c : Int) : Bool := decide (0 ≤ c ∧ c < 80)
def bndB (n : Int) : Bool := decide (0 ≤ n ∧ n ≤ 3)
def levB (x : Int × Int) : Bool := catB x.1 && bndB x.2 && !(x.2 == 1)
def goodB (l : List (Int × Int)) : Bool := decide (l.length ≤ 8 ∧ (∀ x ∈ l, 0 ≤ x.1 ∧ x.1 < 80 ∧ 0 ≤ x.2 ∧ x.2 ≤ 3 ∧ x.2 ≠ 1) ∧ l.Pairwise (fun x y => x.1 < y.1))
theorem goodB_iff (l : List (Int × Int)) : goodB l = true ↔ goodL l := by unfold goodB goodL; exact decide_eq_true_iff
theorem levB_iff (x : Int × Int) : levB x = true ↔ (0 ≤ x.1 ∧ x.1 < 80 ∧ 0 ≤ x.2 ∧ x.2 ≤ 3 ∧ x.2 ≠ 1) := by
  simp only [levB, catB, bndB, Bool.and_eq_true, decide_eq_true_eq, Bool.not_eq_true', beq_eq_false_iff_ne, ne_eq]
  constructor
  · rintro ⟨⟨⟨h1, h2⟩, h3, h4⟩, h5⟩; exact ⟨h1, h2, h3, h4, h5⟩
  · rintro ⟨h1, h2, h3, h4, h5⟩; exact ⟨⟨⟨h1, h2⟩, h3, h4⟩, h5⟩
theorem goodB_long {l : List (Int × Int)} (h : 8 < l.length) : goodB l = false := by
  cases e : goodB l with
  | false => rfl
  | true => have := ((goodB_iff l).1 e).1; omega
theorem goodB_lev {l : List (Int × Int)} (k : Nat) (hk : k < l.length) (h : levB l[k] = false) : goodB l = false := by
  cases e : goodB l with
  | false => rfl
  | true =>
    have := (levB_iff l[k]).2 (((goodB_iff l).1 e).2.1 l[k] (List.getElem_mem hk))
    rw [h] at this
    cases this
theorem goodB_turn {l : List (Int × Int)} (k : Nat) (hk : k + 1 < l.length) (h : l[k + 1].1 ≤ l[k].1) : goodB l = false := by
  cases e : goodB l with
  | false => rfl
  | true =>
    have := (List.pairwise_iff_getElem.1 ((goodB_iff l).1 e).2.2) k (k + 1) (by omega) hk (by omega)
    omega
theorem rising_of_steps (l : List (Int × Int)) (h : ∀ j (hj : j + 1 < l.length), l[j].1 < l[j + 1].1) : l.Pairwise (fun x y => x.1 < y.1) := by
  rw [List.pairwise_iff_getElem]
  intro i j hi hj hij
  induction j with
  | zero => omega
  | succ j ih =>
    have hs := h j hj
    by_cases e : i = j
    · subst e; exact hs
    · have := ih (by omega) (by omega); omega
theorem goodB_all {l : List (Int × Int)} (h8 : l.length ≤ 8) (h1 : ∀ j (hj : j < l.length), levB l[j] = true) (h2 : ∀ j (hj : j + 1 < l.length), l[j].1 < l[j + 1].1) : goodB l = true := by
  refine (goodB_iff l).2 ⟨h8, fun x hx => ?_, rising_of_steps l h2⟩
  obtain ⟨j, hj, e⟩ := List.mem_iff_getElem.1 hx
  subst e
  exact (levB_iff _).1 (h1 j hj)

/-- Same. -/
def sameB (a b : List (Int × Int)) : Bool := decide (a = b)
theorem sameB_iff (a b : List (Int × Int)) : sameB a b = true ↔ a = b := decide_eq_true_iff
theorem sameB_len {a b : List (Int × Int)} (h : a.length ≠ b.length) : sameB a b = false := decide_eq_false fun e => h (by rw [e])
theorem sameB_elem {a b : List (Int × Int)} (k : Nat) (hk : k < a.length) (hk' : k < b.length) (h : a[k] ≠ b[k]) : sameB a b = false := decide_eq_false fun e => h (by subst e; rfl)
theorem sameB_all {a b : List (Int × Int)} (hl : a.length = b.length) (h : ∀ j (hj : j < a.length) (hj' : j < b.length), a[j] = b[j]) : sameB a b = true := decide_eq_true (List.ext_getElem hl h)

/-- levels rising by category, none of them plain -/
def canonL (l : List (Int × Int)) : Prop := (∀ x ∈ l, x.2 ≠ 1) ∧ l.Pairwise (fun x y => x.1 < y.1)

/-- two such that say the same of every category are one -/
theorem canon_ext_core (a b : List (Int × Int)) (ha1 : ∀ x ∈ a, x.2 ≠ 1) (ha2 : a.Pairwise (fun x y => x.1 < y.1))
    (hb1 : ∀ x ∈ b, x.2 ≠ 1) (hb2 : b.Pairwise (fun x y => x.1 < y.1)) (h : ∀ c, atL a c = atL b c) : a = b := by
  induction a generalizing b with
  | nil =>
    cases b with
    | nil => rfl
    | cons y s =>
      have := h y.1
      have hy := hb1 y (by simp)
      simp [atL] at this
      omega
  | cons x r ih =>
    have hx := ha1 x (by simp)
    have hxr := (List.pairwise_cons.1 ha2)
    have nin : ∀ {z : Int} {l : List (Int × Int)}, (∀ t ∈ l, z < t.1) → atL l z = 1 := fun hl => atL_not_mem fun hm => by
      obtain ⟨t, ht, e⟩ := List.mem_map.1 hm
      have := hl t ht
      omega
    cases b with
    | nil =>
      have := h x.1
      simp [atL] at this
      omega
    | cons y s =>
      have hy := hb1 y (by simp)
      have hys := (List.pairwise_cons.1 hb2)
      have e1 : x.1 = y.1 := by
        rcases Int.lt_trichotomy x.1 y.1 with g | g | g
        · have := h x.1
          simp only [atL, if_true, if_neg (show ¬ y.1 = x.1 by omega)] at this
          rw [nin (fun t ht => by have := hys.1 t ht; omega)] at this
          omega
        · exact g
        · have := h y.1
          simp only [atL, if_true, if_neg (show ¬ x.1 = y.1 by omega)] at this
          rw [nin (fun t ht => by have := hxr.1 t ht; omega)] at this
          omega
      have e2 : x.2 = y.2 := by
        have := h x.1
        simpa only [atL, if_true, if_pos e1.symm] using this
      have e3 : x = y := Prod.ext e1 e2
      subst e3
      rw [ih s (fun t ht => ha1 t (by simp [ht])) hxr.2 (fun t ht => hb1 t (by simp [ht])) hys.2 ?_]
      intro c
      have := h c
      simp only [atL] at this
      by_cases g : x.1 = c
      · subst g
        rw [nin hxr.1, nin hys.1]
      · simpa only [if_neg g] using this

theorem canon_ext {a b : List (Int × Int)} (ha : canonL a) (hb : canonL b) (h : ∀ c, atL a c = atL b c) : a = b := canon_ext_core a b ha.1 ha.2 hb.1 hb.2 h
theorem good_canon {a : List (Int × Int)} (ha : goodL a) : canonL a := ⟨fun x hx => (ha.2.1 x hx).2.2.2.2, ha.2.2⟩
theorem good_ext {a b : List (Int × Int)} (ha : goodL a) (hb : goodL b) (h : ∀ c, atL a c = atL b c) : a = b := canon_ext (good_canon ha) (good_canon hb) h

/-- flowing both ways, nothing owned -/
theorem flows_both {a b : List (Int × Int)} (h1 : flowsL a b [] = true) (h2 : flowsL b a [] = true) (c : Int) : atL a c = atL b c := by
  have g1 := (flowsL_iff a b []).1 h1 c
  have g2 := (flowsL_iff b a []).1 h2 c
  simp at g1 g2
  omega

theorem flows_refl (a : List (Int × Int)) (own : List Int) : flowsL a a own = true := (flowsL_iff a a own).2 fun _ => Or.inr (Int.le_refl _)
theorem flows_trans {a b c : List (Int × Int)} {own : List Int} (h1 : flowsL a b own = true) (h2 : flowsL b c own = true) : flowsL a c own = true :=
  (flowsL_iff a c own).2 fun x => by
    rcases (flowsL_iff a b own).1 h1 x with g | g
    · exact Or.inl g
    · rcases (flowsL_iff b c own).1 h2 x with k | k
      · exact Or.inl k
      · exact Or.inr (Int.le_trans g k)
theorem flows_own {a b : List (Int × Int)} {own : List Int} (h : flowsL a b [] = true) : flowsL a b own = true :=
  (flowsL_iff a b own).2 fun x => by
    have := (flowsL_iff a b []).1 h x
    simp at this
    exact Or.inr this

/-- what a pick of two levels makes of the categories cs -/
def combOn (f : Int → Int → Int) (a b : List (Int × Int)) (cs : List Int) : List (Int × Int) := cs.flatMap fun c => if f (atL a c) (atL b c) = 1 then [] else [(c, f (atL a c) (atL b c))]
/-- Join, Meet -/
def combL (f : Int → Int → Int) (a b : List (Int × Int)) : List (Int × Int) := combOn f a b (catsL a b)

theorem combOn_snoc_plain (f : Int → Int → Int) (a b : List (Int × Int)) (cs : List Int) (c : Int) (h : f (atL a c) (atL b c) = 1) : combOn f a b (cs ++ [c]) = combOn f a b cs := by
  simp [combOn, h]
theorem combOn_snoc (f : Int → Int → Int) (a b : List (Int × Int)) (cs : List Int) (c : Int) (h : f (atL a c) (atL b c) ≠ 1) : combOn f a b (cs ++ [c]) = combOn f a b cs ++ [(c, f (atL a c) (atL b c))] := by
  simp [combOn, h]
theorem combOn_length (f : Int → Int → Int) (a b : List (Int × Int)) (cs : List Int) : (combOn f a b cs).length ≤ cs.length := by
  induction cs with
  | nil => simp [combOn]
  | cons c cs ih =>
    have e : combOn f a b (c :: cs) = (if f (atL a c) (atL b c) = 1 then [] else [(c, f (atL a c) (atL b c))]) ++ combOn f a b cs := rfl
    rw [e, List.length_append, List.length_cons]
    split <;> simp <;> omega
theorem combL_length (f : Int → Int → Int) (a b : List (Int × Int)) : (combL f a b).length ≤ a.length + b.length := Nat.le_trans (combOn_length _ _ _ _) (catsL_length a b)

theorem mem_combOn {f : Int → Int → Int} {a b : List (Int × Int)} {cs : List Int} {x : Int × Int} (h : x ∈ combOn f a b cs) : x.1 ∈ cs ∧ x.2 = f (atL a x.1) (atL b x.1) ∧ x.2 ≠ 1 := by
  obtain ⟨c, hc, hx⟩ := List.mem_flatMap.1 h
  by_cases e : f (atL a c) (atL b c) = 1
  · simp [e] at hx
  · simp only [e, if_false, List.mem_singleton] at hx
    subst hx
    exact ⟨hc, rfl, e⟩

theorem atL_combOn (f : Int → Int → Int) (a b : List (Int × Int)) (cs : List Int) (hcs : cs.Pairwise (· < ·)) (c : Int) : atL (combOn f a b cs) c = if c ∈ cs then f (atL a c) (atL b c) else 1 := by
  induction cs with
  | nil => rfl
  | cons d cs ih =>
    have hp := List.pairwise_cons.1 hcs
    have e : combOn f a b (d :: cs) = (if f (atL a d) (atL b d) = 1 then [] else [(d, f (atL a d) (atL b d))]) ++ combOn f a b cs := rfl
    have ih2 := ih hp.2
    rw [e]
    by_cases hd : d = c
    · subst hd
      have hnot : d ∉ cs := fun hm => by have := hp.1 d hm; omega
      rw [if_neg hnot] at ih2
      by_cases h1 : f (atL a d) (atL b d) = 1
      · simp [h1, ih2]
      · simp [h1, atL]
    · have hm : c ∈ d :: cs ↔ c ∈ cs := by simp [Ne.symm hd]
      simp only [hm]
      rw [← ih2]
      by_cases h1 : f (atL a d) (atL b d) = 1
      · simp [h1]
      · simp [h1, atL, hd]

theorem atL_combL (f : Int → Int → Int) (hf : f 1 1 = 1) (a b : List (Int × Int)) (c : Int) : atL (combL f a b) c = f (atL a c) (atL b c) := by
  unfold combL
  rw [atL_combOn f a b _ (catsL_rises a b) c]
  by_cases h : c ∈ catsL a b
  · rw [if_pos h]
  · rw [if_neg h]
    rw [mem_catsL, not_or] at h
    rw [atL_not_mem h.1, atL_not_mem h.2, hf]

theorem canon_combOn (f : Int → Int → Int) (a b : List (Int × Int)) (cs : List Int) (hcs : cs.Pairwise (· < ·)) : canonL (combOn f a b cs) := by
  refine ⟨fun x hx => (mem_combOn hx).2.2, ?_⟩
  induction cs with
  | nil => exact List.Pairwise.nil
  | cons d cs ih =>
    have hp := List.pairwise_cons.1 hcs
    have e : combOn f a b (d :: cs) = (if f (atL a d) (atL b d) = 1 then [] else [(d, f (atL a d) (atL b d))]) ++ combOn f a b cs := rfl
    rw [e]
    by_cases h1 : f (atL a d) (atL b d) = 1
    · simp only [h1, if_true, List.nil_append]; exact ih hp.2
    · simp only [h1, if_false, List.singleton_append]
      exact List.pairwise_cons.2 ⟨fun x hx => hp.1 _ (mem_combOn hx).1, ih hp.2⟩

theorem canon_combL (f : Int → Int → Int) (a b : List (Int × Int)) : canonL (combL f a b) := canon_combOn f a b _ (catsL_rises a b)
end Go.Proofs.Parclose
