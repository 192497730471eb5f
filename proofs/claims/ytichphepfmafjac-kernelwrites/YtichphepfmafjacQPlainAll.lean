/- Plain facts on lists of levels: what At, named, Flows, Good, Same say of them; no program is named here. -/
import Derived.Lib.SlicesCompact
namespace Go.Proofs.Parclose

/-- At: the first level that names c; 1 if none does. -/
def atL (l : List (Int × Int)) (c : Int) : Int := match l with
  | [] => 1
  | x :: r => if x.1 = c then x.2 else atL r c

theorem atL_none (l : List (Int × Int)) (c : Int) (h : ∀ j (hj : j < l.length), l[j].1 ≠ c) : atL l c = 1 := by
  induction l with
  | nil => rfl
  | cons x r ih =>
    have h0 := h 0 (by simp)
    simp only [List.getElem_cons_zero] at h0
    simp only [atL, if_neg h0]
    exact ih fun j hj => by have := h (j + 1) (by simp; omega); simpa using this

theorem atL_some (l : List (Int × Int)) (c : Int) (k : Nat) (hk : k < l.length) (h : ∀ j (hj : j < k), l[j].1 ≠ c) (hc : l[k].1 = c) : atL l c = l[k].2 := by
  induction l generalizing k with
  | nil => simp at hk
  | cons x r ih =>
    cases k with
    | zero => simp only [List.getElem_cons_zero] at hc ⊢; simp only [atL, if_pos hc]
    | succ k =>
      have h0 := h 0 (by omega)
      simp only [List.getElem_cons_zero] at h0
      simp only [atL, if_neg h0, List.getElem_cons_succ]
      exact ih k (by simpa using hk) (fun j hj => by have := h (j + 1) (by omega); simpa using this) (by simpa using hc)

theorem atL_not_mem {l : List (Int × Int)} {c : Int} (h : c ∉ l.map (·.1)) : atL l c = 1 := by
  induction l with
  | nil => rfl
  | cons x r ih =>
    simp only [List.map_cons, List.mem_cons, not_or] at h
    simp only [atL, if_neg (Ne.symm h.1)]
    exact ih h.2

/-- The categories that one of two labels names, rising, each once. -/
def catsL (a b : List (Int × Int)) : List Int := Lib.compact ((a.map (·.1) ++ b.map (·.1)).mergeSort fun x y => decide (x ≤ y))

theorem mem_compactUpTo (d : Array Int) (m : Nat) (hm : m ≤ d.size) (x : Int) : x ∈ Lib.compactUpTo d m ↔ ∃ j, j < m ∧ d[j]! = x := by
  induction m with
  | zero => simp [Lib.compactUpTo]
  | succ m ih =>
    rw [Lib.compactUpTo_succ, List.mem_append, ih (by omega)]
    by_cases hk : Lib.keeps d m
    · simp only [hk, if_true, List.mem_singleton]
      constructor
      · rintro (⟨j, hj, e⟩ | e)
        · exact ⟨j, by omega, e⟩
        · exact ⟨m, by omega, e.symm⟩
      · rintro ⟨j, hj, e⟩
        by_cases h : j = m
        · subst h; exact Or.inr e.symm
        · exact Or.inl ⟨j, by omega, e⟩
    · have hk' : Lib.keeps d m = false := by simpa using hk
      simp only [hk', Bool.false_eq_true, if_false, List.not_mem_nil, or_false]
      have hz : ¬ (m = 0 ∨ d[m]! ≠ d[m - 1]!) := by simpa [Lib.keeps] using hk'
      constructor
      · rintro ⟨j, hj, e⟩; exact ⟨j, by omega, e⟩
      · rintro ⟨j, hj, e⟩
        by_cases h : j = m
        · subst h
          have h2 : d[j]! = d[j - 1]! := by
            by_cases g : d[j]! = d[j - 1]!
            · exact g
            · exact absurd (Or.inr g) hz
          have h1 : ¬ j = 0 := fun g => hz (Or.inl g)
          exact ⟨j - 1, by omega, by rw [← h2]; exact e⟩
        · exact ⟨j, by omega, e⟩

theorem mem_compact (zs : List Int) (x : Int) : x ∈ Lib.compact zs ↔ x ∈ zs := by
  unfold Lib.compact
  rw [mem_compactUpTo _ _ (by simp)]
  constructor
  · rintro ⟨j, hj, e⟩
    rw [getElem!_pos _ j (by simpa using hj)] at e
    subst e
    simp
  · intro h
    obtain ⟨j, hj, e⟩ := List.mem_iff_getElem.1 h
    exact ⟨j, hj, by rw [getElem!_pos _ j (by simpa using hj)]; simpa using e⟩

theorem compactUpTo_rises (d : Array Int) (hd : ∀ i j, i ≤ j → j < d.size → d[i]! ≤ d[j]!) (m : Nat) (hm : m ≤ d.size) : (Lib.compactUpTo d m).Pairwise (· < ·) := by
  induction m with
  | zero => simp [Lib.compactUpTo]
  | succ m ih =>
    rw [Lib.compactUpTo_succ, List.pairwise_append]
    refine ⟨ih (by omega), by split <;> simp, ?_⟩
    intro x hx y hy
    obtain ⟨j, hj, e⟩ := (mem_compactUpTo d m (by omega) x).1 hx
    by_cases hk : Lib.keeps d m
    · simp only [hk, if_true, List.mem_singleton] at hy
      subst hy
      have hz : m = 0 ∨ d[m]! ≠ d[m - 1]! := by simpa [Lib.keeps] using hk
      rcases hz with h0 | hne
      · omega
      · have h1 := hd j (m - 1) (by omega) (by omega)
        have h2 := hd (m - 1) m (by omega) (by omega)
        omega
    · simp [hk] at hy

theorem mem_catsL (a b : List (Int × Int)) (c : Int) : c ∈ catsL a b ↔ c ∈ a.map (·.1) ∨ c ∈ b.map (·.1) := by
  unfold catsL
  rw [mem_compact, List.mem_mergeSort, List.mem_append]

theorem catsL_rises (a b : List (Int × Int)) : (catsL a b).Pairwise (· < ·) := by
  unfold catsL Lib.compact
  have hs := List.pairwise_mergeSort (le := fun x y : Int => decide (x ≤ y)) (by intro x y z; simp; omega) (by intro x y; simp; omega) (a.map (·.1) ++ b.map (·.1))
  refine compactUpTo_rises _ ?_ _ (by simp)
  intro i j hij hj
  rw [getElem!_pos _ i (by omega), getElem!_pos _ j hj]
  by_cases e : i = j
  · subst e; omega
  · have := (List.pairwise_iff_getElem.1 hs) i j (by simp at hj ⊢; omega) (by simpa using hj) (by omega)
    simpa using this

theorem catsL_length (a b : List (Int × Int)) : (catsL a b).length ≤ a.length + b.length := by
  unfold catsL Lib.compact Lib.compactUpTo
  have h1 := List.length_filter_le (Lib.keeps ((a.map (·.1) ++ b.map (·.1)).mergeSort fun x y => decide (x ≤ y)).toArray) (List.range ((a.map (·.1) ++ b.map (·.1)).mergeSort fun x y => decide (x ≤ y)).length)
  simp at h1 ⊢
  omega

/-- is a number among these? -/
def hasB (own : List Int) (c : Int) : Bool := own.contains c

/-- Flows. -/
def flowsL (a b : List (Int × Int)) (own : List Int) : Bool := (catsL a b).all fun c => decide (atL a c ≤ atL b c) || own.contains c

theorem flowsL_iff (a b : List (Int × Int)) (own : List Int) : flowsL a b own = true ↔ ∀ c, c ∈ own ∨ atL a c ≤ atL b c := by
  unfold flowsL
  simp only [List.all_eq_true, Bool.or_eq_true, decide_eq_true_eq, List.contains_iff_mem]
  constructor
  · intro h c
    by_cases hc : c ∈ catsL a b
    · rcases h c hc with h1 | h1
      · exact Or.inr h1
      · exact Or.inl h1
    · rw [mem_catsL, not_or] at hc
      rw [atL_not_mem hc.1, atL_not_mem hc.2]
      exact Or.inr (Int.le_refl _)
  · intro h c _
    rcases h c with h1 | h1
    · exact Or.inr h1
    · exact Or.inl h1

theorem flowsL_false_of {a b : List (Int × Int)} {own : List Int} {c : Int} (h1 : atL b c < atL a c) (h2 : hasB own c = false) : flowsL a b own = false := by
  cases hf : flowsL a b own with
  | false => rfl
  | true =>
    rcases (flowsL_iff a b own).1 hf c with h | h
    · simp [hasB, h] at h2
    · omega

theorem flowsL_true_of {a b : List (Int × Int)} {own : List Int} (h : ∀ j (hj : j < (catsL a b).length), atL a (catsL a b)[j] ≤ atL b (catsL a b)[j] ∨ hasB own (catsL a b)[j] = true) : flowsL a b own = true := by
  unfold flowsL
  simp only [List.all_eq_true, Bool.or_eq_true, decide_eq_true_eq]
  intro c hc
  obtain ⟨j, hj, e⟩ := List.mem_iff_getElem.1 hc
  subst e
  exact h j hj

theorem flowsL_true_names {a b : List (Int × Int)} {own : List Int} (h : ∀ c, c ∈ a.map (·.1) ∨ c ∈ b.map (·.1) → atL a c ≤ atL b c ∨ hasB own c = true) : flowsL a b own = true :=
  flowsL_true_of fun _ hj => h _ ((mem_catsL a b _).1 (List.getElem_mem hj))

/-- Good. -/
def goodL (l : List (Int × Int)) : Prop := l.length ≤ 8 ∧ (∀ x ∈ l, 0 ≤ x.1 ∧ x.1 < 80 ∧ 0 ≤ x.2 ∧ x.2 ≤ 3 ∧ x.2 ≠ 1) ∧ l.Pairwise (fun x y => x.1 < y.1)

/-- Category, and the bounds of a level. -/
def catB (c : Int) : Bool := decide (0 ≤ c ∧ c < 80)
def bndB (n : Int) : Bool := decide (0 ≤ n ∧ n ≤ 3)
def levB (x : Int × Int) : Bool := catB x.1 && bndB x.2 && !(x.2 == 1)
def goodB (l : List (Int × Int)) : Bool := decide (l.length ≤ 8 ∧ (∀ x ∈ l, 0 ≤ x.1 ∧ x.1 < 80 ∧ 0 ≤ x.2 ∧ x.2 ≤ 3 ∧ x.2 ≠ 1) ∧ l.Pairwise (fun x y => x.1 < y.1))
theorem goodB_iff (l : List (Int × Int)) : goodB l = true ↔ goodL l := by unfold goodB goodL; exact decide_eq_true_iff
theorem levB_iff (x : Int × Int) : levB x = true ↔ (0 ≤ x.1 ∧ x.1 < 80 ∧ 0 ≤ x.2 ∧ x.2 ≤ 3 ∧ x.2 ≠ 1) := by
  simp only [levB, catB, bndB, Bool.and_eq_true, decide_eq_true_eq, Bool.not_eq_true', beq_eq_false_iff_ne, ne_eq]
  constructor
  · rintro ⟨⟨⟨h1, h2⟩, h3, h4⟩, h5⟩; exact ⟨h1, h2, h3, h4, h5⟩
  · rintro ⟨h1, h2, h3, h4, h5⟩; exact ⟨⟨⟨h1, h2⟩, h3, h4⟩, h5⟩
theorem goodB_long {l : List (Int × Int)} (h : 8 < l.length) : goodB l = false := by
  cases e : goodB l with
  | false => rfl
  | true => have := ((goodB_iff l).1 e).1; omega
theorem goodB_lev {l : List (Int × Int)} (k : Nat) (hk : k < l.length) (h : levB l[k] = false) : goodB l = false := by
  cases e : goodB l with
  | false => rfl
  | true =>
    have := (levB_iff l[k]).2 (((goodB_iff l).1 e).2.1 l[k] (List.getElem_mem hk))
    rw [h] at this
    cases this
theorem goodB_turn {l : List (Int × Int)} (k : Nat) (hk : k + 1 < l.length) (h : l[k + 1].1 ≤ l[k].1) : goodB l = false := by
  cases e : goodB l with
  | false => rfl
  | true =>
    have := (List.pairwise_iff_getElem.1 ((goodB_iff l).1 e).2.2) k (k + 1) (by omega) hk (by omega)
    omega
theorem rising_of_steps (l : List (Int × Int)) (h : ∀ j (hj : j + 1 < l.length), l[j].1 < l[j + 1].1) : l.Pairwise (fun x y => x.1 < y.1) := by
  rw [List.pairwise_iff_getElem]
  intro i j hi hj hij
  induction j with
  | zero => omega
  | succ j ih =>
    have hs := h j hj
    by_cases e : i = j
    · subst e; exact hs
    · have := ih (by omega) (by omega); omega
theorem goodB_all {l : List (Int × Int)} (h8 : l.length ≤ 8) (h1 : ∀ j (hj : j < l.length), levB l[j] = true) (h2 : ∀ j (hj : j + 1 < l.length), l[j].1 < l[j + 1].1) : goodB l = true := by
  refine (goodB_iff l).2 ⟨h8, fun x hx => ?_, rising_of_steps l h2⟩
  obtain ⟨j, hj, e⟩ := List.mem_iff_getElem.1 hx
  subst e
  exact (levB_iff _).1 (h1 j hj)

/-- Same. -/
def sameB (a b : List (Int × Int)) : Bool := decide (a = b)
theorem sameB_iff (a b : List (Int × Int)) : sameB a b = true ↔ a = b := decide_eq_true_iff
theorem sameB_len {a b : List (Int × Int)} (h : a.length ≠ b.length) : sameB a b = false := decide_eq_false fun e => h (by rw [e])
theorem sameB_elem {a b : List (Int × Int)} (k : Nat) (hk : k < a.length) (hk' : k < b.length) (h : a[k] ≠ b[k]) : sameB a b = false := decide_eq_false fun e => h (by subst e; rfl)
theorem sameB_all {a b : List (Int × Int)} (hl : a.length = b.length) (h : ∀ j (hj : j < a.length) (hj' : j < b.length), a[j] = b[j]) : sameB a b = true := decide_eq_true (List.ext_getElem hl h)

/-- levels rising by category, none of them plain -/
def canonL (l : List (Int × Int)) : Prop := (∀ x ∈ l, x.2 ≠ 1) ∧ l.Pairwise (fun x y => x.1 < y.1)

/-- two such that say the same of every category are one -/
theorem canon_ext_core (a b : List (Int × Int)) (ha1 : ∀ x ∈ a, x.2 ≠ 1) (ha2 : a.Pairwise (fun x y => x.1 < y.1))
    (hb1 : ∀ x ∈ b, x.2 ≠ 1) (hb2 : b.Pairwise (fun x y => x.1 < y.1)) (h : ∀ c, atL a c = atL b c) : a = b := by
  induction a generalizing b with
  | nil =>
    cases b with
    | nil => rfl
    | cons y s =>
      have := h y.1
      have hy := hb1 y (by simp)
      simp [atL] at this
      omega
  | cons x r ih =>
    have hx := ha1 x (by simp)
    have hxr := (List.pairwise_cons.1 ha2)
    have nin : ∀ {z : Int} {l : List (Int × Int)}, (∀ t ∈ l, z < t.1) → atL l z = 1 := fun hl => atL_not_mem fun hm => by
      obtain ⟨t, ht, e⟩ := List.mem_map.1 hm
      have := hl t ht
      omega
    cases b with
    | nil =>
      have := h x.1
      simp [atL] at this
      omega
    | cons y s =>
      have hy := hb1 y (by simp)
      have hys := (List.pairwise_cons.1 hb2)
      have e1 : x.1 = y.1 := by
        rcases Int.lt_trichotomy x.1 y.1 with g | g | g
        · have := h x.1
          simp only [atL, if_true, if_neg (show ¬ y.1 = x.1 by omega)] at this
          rw [nin (fun t ht => by have := hys.1 t ht; omega)] at this
          omega
        · exact g
        · have := h y.1
          simp only [atL, if_true, if_neg (show ¬ x.1 = y.1 by omega)] at this
          rw [nin (fun t ht => by have := hxr.1 t ht; omega)] at this
          omega
      have e2 : x.2 = y.2 := by
        have := h x.1
        simpa only [atL, if_true, if_pos e1.symm] using this
      have e3 : x = y := Prod.ext e1 e2
      subst e3
      rw [ih s (fun t ht => ha1 t (by simp [ht])) hxr.2 (fun t ht => hb1 t (by simp [ht])) hys.2 ?_]
      intro c
      have := h c
      simp only [atL] at this
      by_cases g : x.1 = c
      · subst g
        rw [nin hxr.1, nin hys.1]
      · simpa only [if_neg g] using this

theorem canon_ext {a b : List (Int × Int)} (ha : canonL a) (hb : canonL b) (h : ∀ c, atL a c = atL b c) : a = b := canon_ext_core a b ha.1 ha.2 hb.1 hb.2 h
theorem good_canon {a : List (Int × Int)} (ha : goodL a) : canonL a := ⟨fun x hx => (ha.2.1 x hx).2.2.2.2, ha.2.2⟩
theorem good_ext {a b : List (Int × Int)} (ha : goodL a) (hb : goodL b) (h : ∀ c, atL a c = atL b c) : a = b := canon_ext (good_canon ha) (good_canon hb) h

/-- flowing both ways, nothing owned -/
theorem flows_both {a b : List (Int × Int)} (h1 : flowsL a b [] = true) (h2 : flowsL b a [] = true) (c : Int) : atL a c = atL b c := by
  have g1 := (flowsL_iff a b []).1 h1 c
  have g2 := (flowsL_iff b a []).1 h2 c
  simp at g1 g2
  omega

theorem flows_refl (a : List (Int × Int)) (own : List Int) : flowsL a a own = true := (flowsL_iff a a own).2 fun _ => Or.inr (Int.le_refl _)
theorem flows_trans {a b c : List (Int × Int)} {own : List Int} (h1 : flowsL a b own = true) (h2 : flowsL b c own = true) : flowsL a c own = true :=
  (flowsL_iff a c own).2 fun x => by
    rcases (flowsL_iff a b own).1 h1 x with g | g
    · exact Or.inl g
    · rcases (flowsL_iff b c own).1 h2 x with k | k
      · exact Or.inl k
      · exact Or.inr (Int.le_trans g k)
theorem flows_own {a b : List (Int × Int)} {own : List Int} (h : flowsL a b [] = true) : flowsL a b own = true :=
  (flowsL_iff a b own).2 fun x => by
    have := (flowsL_iff a b []).1 h x
    simp at this
    exact Or.inr this

/-- what a pick of two levels makes of the categories cs -/
def combOn (f : Int → Int → Int) (a b : List (Int × Int)) (cs : List Int) : List (Int × Int) := cs.flatMap fun c => if f (atL a c) (atL b c) = 1 then [] else [(c, f (atL a c) (atL b c))]
/-- Join, Meet -/
def combL (f : Int → Int → Int) (a b : List (Int × Int)) : List (Int × Int) := combOn f a b (catsL a b)

theorem combOn_snoc_plain (f : Int → Int → Int) (a b : List (Int × Int)) (cs : List Int) (c : Int) (h : f (atL a c) (atL b c) = 1) : combOn f a b (cs ++ [c]) = combOn f a b cs := by
  simp [combOn, h]
theorem combOn_snoc (f : Int → Int → Int) (a b : List (Int × Int)) (cs : List Int) (c : Int) (h : f (atL a c) (atL b c) ≠ 1) : combOn f a b (cs ++ [c]) = combOn f a b cs ++ [(c, f (atL a c) (atL b c))] := by
  simp [combOn, h]
theorem combOn_length (f : Int → Int → Int) (a b : List (Int × Int)) (cs : List Int) : (combOn f a b cs).length ≤ cs.length := by
  induction cs with
  | nil => simp [combOn]
  | cons c cs ih =>
    have e : combOn f a b (c :: cs) = (if f (atL a c) (atL b c) = 1 then [] else [(c, f (atL a c) (atL b c))]) ++ combOn f a b cs := rfl
    rw [e, List.length_append, List.length_cons]
    split <;> simp <;> omega
theorem combL_length (f : Int → Int → Int) (a b : List (Int × Int)) : (combL f a b).length ≤ a.length + b.length := Nat.le_trans (combOn_length _ _ _ _) (catsL_length a b)

theorem mem_combOn {f : Int → Int → Int} {a b : List (Int × Int)} {cs : List Int} {x : Int × Int} (h : x ∈ combOn f a b cs) : x.1 ∈ cs ∧ x.2 = f (atL a x.1) (atL b x.1) ∧ x.2 ≠ 1 := by
  obtain ⟨c, hc, hx⟩ := List.mem_flatMap.1 h
  by_cases e : f (atL a c) (atL b c) = 1
  · simp [e] at hx
  · simp only [e, if_false, List.mem_singleton] at hx
    subst hx
    exact ⟨hc, rfl, e⟩

theorem atL_combOn (f : Int → Int → Int) (a b : List (Int × Int)) (cs : List Int) (hcs : cs.Pairwise (· < ·)) (c : Int) : atL (combOn f a b cs) c = if c ∈ cs then f (atL a c) (atL b c) else 1 := by
  induction cs with
  | nil => rfl
  | cons d cs ih =>
    have hp := List.pairwise_cons.1 hcs
    have e : combOn f a b (d :: cs) = (if f (atL a d) (atL b d) = 1 then [] else [(d, f (atL a d) (atL b d))]) ++ combOn f a b cs := rfl
    have ih2 := ih hp.2
    rw [e]
    by_cases hd : d = c
    · subst hd
      have hnot : d ∉ cs := fun hm => by have := hp.1 d hm; omega
      rw [if_neg hnot] at ih2
      by_cases h1 : f (atL a d) (atL b d) = 1
      · simp [h1, ih2]
      · simp [h1, atL]
    · have hm : c ∈ d :: cs ↔ c ∈ cs := by simp [Ne.symm hd]
      simp only [hm]
      rw [← ih2]
      by_cases h1 : f (atL a d) (atL b d) = 1
      · simp [h1]
      · simp [h1, atL, hd]

theorem atL_combL (f : Int → Int → Int) (hf : f 1 1 = 1) (a b : List (Int × Int)) (c : Int) : atL (combL f a b) c = f (atL a c) (atL b c) := by
  unfold combL
  rw [atL_combOn f a b _ (catsL_rises a b) c]
  by_cases h : c ∈ catsL a b
  · rw [if_pos h]
  · rw [if_neg h]
    rw [mem_catsL, not_or] at h
    rw [atL_not_mem h.1, atL_not_mem h.2, hf]

theorem canon_combOn (f : Int → Int → Int) (a b : List (Int × Int)) (cs : List Int) (hcs : cs.Pairwise (· < ·)) : canonL (combOn f a b cs) := by
  refine ⟨fun x hx => (mem_combOn hx).2.2, ?_⟩
  induction cs with
  | nil => exact List.Pairwise.nil
  | cons d cs ih =>
    have hp := List.pairwise_cons.1 hcs
    have e : combOn f a b (d :: cs) = (if f (atL a d) (atL b d) = 1 then [] else [(d, f (atL a d) (atL b d))]) ++ combOn f a b cs := rfl
    rw [e]
    by_cases h1 : f (atL a d) (atL b d) = 1
    · simp only [h1, if_true, List.nil_append]; exact ih hp.2
    · simp only [h1, if_false, List.singleton_append]
      exact List.pairwise_cons.2 ⟨fun x hx => hp.1 _ (mem_combOn hx).1, ih hp.2⟩

theorem canon_combL (f : Int → Int → Int) (a b : List (Int × Int)) : canonL (combL f a b) := canon_combOn f a b _ (catsL_rises a b)
end Go.Proofs.Parclose

namespace Go.Proofs.Parclose

structure Crt where
  c : Int
  b : Int
  h : Int
  u : Int

structure Mal where
  host : Int
  thread : Int
  label : List (Int × Int)
  grants : List Int
  text : List UInt8

structure Frm where
  fr : Int
  to : Int
  seq : Int
  ack : Bool
  thread : Int
  mail : Mal
  certs : List Crt

def zeroMal : Mal := ⟨0, 0, [], [], []⟩
def zeroFrm : Frm := ⟨0, 0, 0, false, 0, zeroMal, []⟩

def hostB (h : Int) : Bool := decide (0 ≤ h ∧ h < 4)
def timeB (n : Int) : Bool := decide (0 ≤ n ∧ n ≤ 1099511627776)
def twoB (a b : Int) : Bool := hostB a && hostB b && !(a == b)
def certB (x : Crt) : Bool := catB x.c && twoB x.b x.h && timeB x.u
def grantsB (l : List Int) : Bool := decide (l.length ≤ 8 ∧ (∀ x ∈ l, 0 ≤ x ∧ x < 80) ∧ l.Pairwise (· < ·))
/-- the errors number of mail -/
def mailE (m : Mal) : Int := if hostB m.host && hostB m.thread && goodB m.label && grantsB m.grants then (if m.text.length ≤ 64 then 0 else 9) else 2
def emptyB (m : Mal) : Bool := m.host == 0 && m.thread == 0 && m.label.isEmpty && m.grants.isEmpty && m.text.isEmpty
def answerE (f : Frm) : Int := if f.thread == 0 && emptyB f.mail && f.certs.isEmpty then 0 else 1
def certsE (l : List Crt) : Int := if l.length ≤ 24 then (if l.all certB then 0 else 2) else 5
def loadE (f : Frm) : Int := if mailE f.mail = 0 then (if f.mail.host = f.fr then certsE f.certs else 1) else mailE f.mail
def headB (f : Frm) : Bool := twoB f.fr f.to && !(f.seq == 0) && timeB f.seq && hostB f.thread
def frameE (f : Frm) : Int := if headB f then (if f.ack then answerE f else loadE f) else 2

/-- the byte of a number -/
def byteL (n : Int) : UInt8 := UInt8.ofNat (n % 256).toNat
def timeL (n : Int) : List UInt8 := [byteL (n / 1099511627776), byteL (n / 4294967296), byteL (n / 16777216), byteL (n / 65536), byteL (n / 256), byteL n]
def headL (k : Int) (f : Frm) : List UInt8 := [byteL k, byteL f.fr, byteL f.to] ++ timeL f.seq
def levelsL (l : List (Int × Int)) : List UInt8 := l.flatMap fun x => [byteL x.1, byteL x.2]
def mailL (m : Mal) : List UInt8 := [byteL m.thread, byteL m.label.length] ++ levelsL m.label ++ [byteL m.grants.length] ++ m.grants.map byteL ++ [byteL m.text.length] ++ m.text
def certL (x : Crt) : List UInt8 := [byteL x.c, byteL x.b, byteL x.h] ++ timeL x.u
def certsL (l : List Crt) : List UInt8 := [byteL l.length] ++ l.flatMap certL
def encL (f : Frm) : List UInt8 := if f.ack then headL 1 f else headL 0 f ++ [byteL f.thread] ++ mailL f.mail ++ certsL f.certs

/-- a taker: what is left, and whether it failed -/
abbrev Tk := List UInt8 × Bool
def textT (n : Nat) (t : Tk) : List UInt8 × Tk := if t.1.length < n then ([], ([], true)) else (t.1.take n, (t.1.drop n, t.2))
def numL (l : List UInt8) : Int := l.foldl (fun n b => n * 256 + (b.toNat : Int)) 0
def numT (n : Nat) (t : Tk) : Int × Tk := (numL (textT n t).1, (textT n t).2)

def iterN {α : Type} (f : α → α) : Nat → α → α
  | 0, s => s
  | n + 1, s => f (iterN f n s)

def levStep (s : List (Int × Int) × Tk) : List (Int × Int) × Tk := (s.1 ++ [((numT 1 s.2).1, (numT 1 (numT 1 s.2).2).1)], (numT 1 (numT 1 s.2).2).2)
def grStep (s : List Int × Tk) : List Int × Tk := (s.1 ++ [(numT 1 s.2).1], (numT 1 s.2).2)
def crtT (t : Tk) : Crt × Tk :=
  (⟨(numT 1 t).1, (numT 1 (numT 1 t).2).1, (numT 1 (numT 1 (numT 1 t).2).2).1, (numT 6 (numT 1 (numT 1 (numT 1 t).2).2).2).1⟩, (numT 6 (numT 1 (numT 1 (numT 1 t).2).2).2).2)
def crStep (s : List Crt × Tk) : List Crt × Tk := (s.1 ++ [(crtT s.2).1], (crtT s.2).2)

def labT (t : Tk) : List (Int × Int) × Tk := iterN levStep (numT 1 t).1.toNat ([], (numT 1 t).2)
def grT (t : Tk) : List Int × Tk := iterN grStep (numT 1 t).1.toNat ([], (numT 1 t).2)
def txT (t : Tk) : List UInt8 × Tk := textT (numT 1 t).1.toNat (numT 1 t).2
def certsT (t : Tk) : List Crt × Tk := iterN crStep (numT 1 t).1.toNat ([], (numT 1 t).2)
def mailT (fr : Int) (t : Tk) : Mal × Tk :=
  (⟨fr, (numT 1 t).1, (labT (numT 1 t).2).1, (grT (labT (numT 1 t).2).2).1, (txT (grT (labT (numT 1 t).2).2).2).1⟩, (txT (grT (labT (numT 1 t).2).2).2).2)
/-- the head: the kind, From, To and Seq -/
def headT (t : Tk) : (Int × Int × Int × Int) × Tk :=
  (((numT 1 t).1, (numT 1 (numT 1 t).2).1, (numT 1 (numT 1 (numT 1 t).2).2).1, (numT 6 (numT 1 (numT 1 (numT 1 t).2).2).2).1), (numT 6 (numT 1 (numT 1 (numT 1 t).2).2).2).2)
def loadT (fr to seq : Int) (t : Tk) : Frm × Tk :=
  (⟨fr, to, seq, false, (numT 1 t).1, (mailT fr (numT 1 t).2).1, (certsT (mailT fr (numT 1 t).2).2).1⟩, (certsT (mailT fr (numT 1 t).2).2).2)
def frameT (t : Tk) : Frm × Tk :=
  if (headT t).1.1 = 1 then (⟨(headT t).1.2.1, (headT t).1.2.2.1, (headT t).1.2.2.2, true, 0, zeroMal, []⟩, (headT t).2)
  else if (headT t).1.1 = 0 then loadT (headT t).1.2.1 (headT t).1.2.2.1 (headT t).1.2.2.2 (headT t).2
  else (⟨(headT t).1.2.1, (headT t).1.2.2.1, (headT t).1.2.2.2, false, 0, zeroMal, []⟩, ([], true))
def doneB (t : Tk) : Bool := !t.2 && t.1.isEmpty
/-- what is read: the frame, and the errors number -/
def decL (s : List UInt8) : Frm × Int :=
  if doneB (frameT (s, false)).2 then (if frameE (frameT (s, false)).1 = 0 then ((frameT (s, false)).1, 0) else (zeroFrm, frameE (frameT (s, false)).1)) else (zeroFrm, 1)

theorem uint8_lt (b : UInt8) : (b.toNat : Int) < 256 := by have := b.toNat_lt; omega

theorem byteL_toNat (b : UInt8) : byteL (b.toNat : Int) = b := by
  unfold byteL
  have := b.toNat_lt
  rw [show ((b.toNat : Int) % 256).toNat = b.toNat by omega]
  simp

theorem toNat_byteL (n : Int) : ((byteL n).toNat : Int) = n % 256 := by
  unfold byteL
  rw [UInt8.toNat_ofNat']
  have : (n % 256).toNat < 2 ^ 8 := by omega
  rw [Nat.mod_eq_of_lt this]
  omega

/-- bytes that suffice are taken; of a taker that has not failed behind it, nothing else can be said -/
theorem textT_ok {n : Nat} {t : Tk} {x r : List UInt8} (h : textT n t = (x, (r, false))) : t = (x ++ r, false) ∧ x.length = n := by
  unfold textT at h
  split at h
  · cases h
  · rename_i hn
    obtain ⟨s, f⟩ := t
    simp only [Prod.mk.injEq] at h
    obtain ⟨rfl, rfl, rfl⟩ := h
    simp at hn
    exact ⟨by simp, by simp; omega⟩

theorem textT_app (x r : List UInt8) : textT x.length (x ++ r, false) = (x, (r, false)) := by
  unfold textT
  rw [if_neg (by simp)]
  simp

theorem textT_app' {n : Nat} (x r : List UInt8) (h : x.length = n) : textT n (x ++ r, false) = (x, (r, false)) := by
  subst h
  exact textT_app x r

theorem list1 {x : List UInt8} (h : x.length = 1) : ∃ b, x = [b] := by
  match x, h with
  | [b], _ => exact ⟨b, rfl⟩

theorem numT1_ok {t : Tk} {n : Int} {r : List UInt8} (h : numT 1 t = (n, (r, false))) : t = (byteL n :: r, false) ∧ 0 ≤ n ∧ n < 256 := by
  unfold numT at h
  simp only [Prod.mk.injEq] at h
  obtain ⟨h1, h2⟩ := h
  obtain ⟨e, hx⟩ := textT_ok (n := 1) (t := t) (x := (textT 1 t).1) (r := r) (by rw [← h2])
  obtain ⟨b, hb⟩ := list1 hx
  rw [hb] at h1 e
  have hn : n = (b.toNat : Int) := by rw [← h1]; simp [numL]
  subst hn
  rw [byteL_toNat]
  have := uint8_lt b
  exact ⟨by simpa using e, by omega, by omega⟩

theorem numT1_app (n : Int) (r : List UInt8) (h0 : 0 ≤ n) (h1 : n < 256) : numT 1 (byteL n :: r, false) = (n, (r, false)) := by
  unfold numT
  rw [show (byteL n :: r) = [byteL n] ++ r from rfl, textT_app' (n := 1) [byteL n] r rfl]
  simp [numL, toNat_byteL]
  omega

theorem list6 {x : List UInt8} (h : x.length = 6) : ∃ a b c d e f, x = [a, b, c, d, e, f] := by
  match x, h with
  | [a, b, c, d, e, f], _ => exact ⟨a, b, c, d, e, f, rfl⟩

theorem numL6 (a b c d e f : UInt8) : numL [a, b, c, d, e, f] = (((((a.toNat : Int) * 256 + b.toNat) * 256 + c.toNat) * 256 + d.toNat) * 256 + e.toNat) * 256 + f.toNat := by
  simp [numL]

theorem byteL_eq {n : Int} {b : UInt8} (h : n % 256 = (b.toNat : Int)) : byteL n = b := by
  rw [← byteL_toNat b]
  unfold byteL
  rw [h]
  have := uint8_lt b
  rw [show ((b.toNat : Int) % 256) = b.toNat by omega]

theorem timeL_num (a b c d e f : UInt8) : timeL (numL [a, b, c, d, e, f]) = [a, b, c, d, e, f] := by
  rw [numL6]
  have h1 := uint8_lt a
  have h2 := uint8_lt b
  have h3 := uint8_lt c
  have h4 := uint8_lt d
  have h5 := uint8_lt e
  have h6 := uint8_lt f
  unfold timeL
  rw [byteL_eq (b := a) (by omega), byteL_eq (b := b) (by omega), byteL_eq (b := c) (by omega), byteL_eq (b := d) (by omega), byteL_eq (b := e) (by omega), byteL_eq (b := f) (by omega)]

theorem num_timeL (n : Int) (h0 : 0 ≤ n) (h1 : n < 281474976710656) : numL (timeL n) = n := by
  unfold timeL
  rw [numL6]
  simp only [toNat_byteL]
  omega

theorem numT6_ok {t : Tk} {n : Int} {r : List UInt8} (h : numT 6 t = (n, (r, false))) : t = (timeL n ++ r, false) := by
  unfold numT at h
  simp only [Prod.mk.injEq] at h
  obtain ⟨h1, h2⟩ := h
  obtain ⟨e, hx⟩ := textT_ok (n := 6) (t := t) (x := (textT 6 t).1) (r := r) (by rw [← h2])
  obtain ⟨a, b, c, d, e', f, hb⟩ := list6 hx
  rw [hb] at h1 e
  rw [← h1, timeL_num]
  exact e

theorem numT6_app (n : Int) (r : List UInt8) (h0 : 0 ≤ n) (h1 : n < 281474976710656) : numT 6 (timeL n ++ r, false) = (n, (r, false)) := by
  unfold numT
  rw [textT_app' (n := 6) (timeL n) r rfl]
  simp only [num_timeL n h0 h1]

/-- what was taken was ahead -/
theorem pair_eta {α β : Type} (p : α × β) : p = (p.1, p.2) := rfl

theorem num1 {t : Tk} (h : (numT 1 t).2.2 = false) : t = (byteL (numT 1 t).1 :: (numT 1 t).2.1, false) ∧ 0 ≤ (numT 1 t).1 ∧ (numT 1 t).1 < 256 := numT1_ok (by rw [← h])
theorem num6 {t : Tk} (h : (numT 6 t).2.2 = false) : t = (timeL (numT 6 t).1 ++ (numT 6 t).2.1, false) := numT6_ok (by rw [← h])
theorem text1 {n : Nat} {t : Tk} (h : (textT n t).2.2 = false) : t = ((textT n t).1 ++ (textT n t).2.1, false) ∧ (textT n t).1.length = n := textT_ok (by rw [← h])

theorem tk_false {t : Tk} {x : List UInt8} (h : t = (x, false)) : t.2 = false := by rw [h]

theorem levs {n : Nat} {t : Tk} (h : (iterN levStep n ([], t)).2.2 = false) : t = (levelsL (iterN levStep n ([], t)).1 ++ (iterN levStep n ([], t)).2.1, false) ∧ (iterN levStep n ([], t)).1.length = n := by
  induction n with
  | zero => exact ⟨by simp only [iterN] at h ⊢; rw [← h]; rfl, rfl⟩
  | succ n ih =>
    simp only [iterN] at h ⊢
    generalize iterN levStep n ([], t) = s at h ih ⊢
    obtain ⟨l, t1⟩ := s
    simp only [levStep] at h ⊢
    obtain ⟨e2, _, _⟩ := num1 h
    obtain ⟨e1, _, _⟩ := num1 (tk_false e2)
    obtain ⟨e0, hl⟩ := ih (tk_false e1)
    simp only at e0 e1 e2 hl
    refine ⟨?_, by simp [hl]⟩
    rw [e0]
    have f1 := congrArg Prod.fst e1
    have f2 := congrArg Prod.fst e2
    simp only at f1 f2
    rw [f1, f2]
    simp [levelsL]

theorem grs {n : Nat} {t : Tk} (h : (iterN grStep n ([], t)).2.2 = false) : t = ((iterN grStep n ([], t)).1.map byteL ++ (iterN grStep n ([], t)).2.1, false) ∧ (iterN grStep n ([], t)).1.length = n := by
  induction n with
  | zero => exact ⟨by simp only [iterN] at h ⊢; rw [← h]; rfl, rfl⟩
  | succ n ih =>
    simp only [iterN] at h ⊢
    generalize iterN grStep n ([], t) = s at h ih ⊢
    obtain ⟨l, t1⟩ := s
    simp only [grStep] at h ⊢
    obtain ⟨e1, _, _⟩ := num1 h
    obtain ⟨e0, hl⟩ := ih (tk_false e1)
    simp only at e0 e1 hl
    refine ⟨?_, by simp [hl]⟩
    rw [e0]
    have f1 := congrArg Prod.fst e1
    simp only at f1
    rw [f1]
    simp

theorem crt1 {t : Tk} (h : (crtT t).2.2 = false) : t = (certL (crtT t).1 ++ (crtT t).2.1, false) := by
  simp only [crtT] at h ⊢
  have e4 := num6 h
  obtain ⟨e3, _, _⟩ := num1 (tk_false e4)
  obtain ⟨e2, _, _⟩ := num1 (tk_false e3)
  obtain ⟨e1, _, _⟩ := num1 (tk_false e2)
  have f4 := congrArg Prod.fst e4
  have f3 := congrArg Prod.fst e3
  have f2 := congrArg Prod.fst e2
  have f1 := congrArg Prod.fst e1
  simp only at f1 f2 f3 f4
  rw [Prod.ext_iff]
  refine ⟨?_, tk_false e1⟩
  simp only [certL]
  rw [f1, f2, f3]
  simp only [List.cons_append, List.nil_append, ← f4]

theorem crs {n : Nat} {t : Tk} (h : (iterN crStep n ([], t)).2.2 = false) : t = ((iterN crStep n ([], t)).1.flatMap certL ++ (iterN crStep n ([], t)).2.1, false) ∧ (iterN crStep n ([], t)).1.length = n := by
  induction n with
  | zero => exact ⟨by simp only [iterN] at h ⊢; rw [← h]; rfl, rfl⟩
  | succ n ih =>
    simp only [iterN] at h ⊢
    generalize iterN crStep n ([], t) = s at h ih ⊢
    obtain ⟨l, t1⟩ := s
    simp only [crStep] at h ⊢
    have e1 := crt1 h
    obtain ⟨e0, hl⟩ := ih (tk_false e1)
    simp only at e0 e1 hl
    refine ⟨?_, by simp [hl]⟩
    rw [e0]
    have f1 := congrArg Prod.fst e1
    simp only at f1
    rw [f1]
    simp

theorem counted {t : Tk} (h : (numT 1 t).2.2 = false) (n : Nat) (hn : n = (numT 1 t).1.toNat) : t = (byteL n :: (numT 1 t).2.1, false) := by
  obtain ⟨e, h0, h1⟩ := num1 h
  subst hn
  rw [show (((numT 1 t).1.toNat : Nat) : Int) = (numT 1 t).1 by omega]
  exact e

theorem lab1 {t : Tk} (h : (labT t).2.2 = false) : t = (byteL (labT t).1.length :: levelsL (labT t).1 ++ (labT t).2.1, false) := by
  unfold labT at h ⊢
  obtain ⟨e, hl⟩ := levs h
  have e1 := counted (tk_false e) _ hl
  have f := congrArg Prod.fst e
  simp only at f
  rw [List.cons_append, ← f]
  exact e1

theorem gr1 {t : Tk} (h : (grT t).2.2 = false) : t = (byteL (grT t).1.length :: (grT t).1.map byteL ++ (grT t).2.1, false) := by
  unfold grT at h ⊢
  obtain ⟨e, hl⟩ := grs h
  have e1 := counted (tk_false e) _ hl
  have f := congrArg Prod.fst e
  simp only at f
  rw [List.cons_append, ← f]
  exact e1

theorem tx1 {t : Tk} (h : (txT t).2.2 = false) : t = (byteL (txT t).1.length :: (txT t).1 ++ (txT t).2.1, false) := by
  unfold txT at h ⊢
  obtain ⟨e, hl⟩ := text1 h
  have e1 := counted (tk_false e) _ hl
  have f := congrArg Prod.fst e
  simp only at f
  rw [List.cons_append, ← f]
  exact e1

theorem certs1 {t : Tk} (h : (certsT t).2.2 = false) : t = (certsL (certsT t).1 ++ (certsT t).2.1, false) := by
  unfold certsT at h ⊢
  obtain ⟨e, hl⟩ := crs h
  have e1 := counted (tk_false e) _ hl
  have f := congrArg Prod.fst e
  simp only at f
  simp only [certsL, List.cons_append, List.nil_append]
  rw [← f]
  exact e1

theorem mail_bytes {t t1 t2 t3 t4 : Tk} {n : Int} {l : List (Int × Int)} {g : List Int} {x : List UInt8} (fr : Int) (e1 : t = (byteL n :: t1.1, false)) (e2 : t1 = (byteL l.length :: levelsL l ++ t2.1, false))
    (e3 : t2 = (byteL g.length :: g.map byteL ++ t3.1, false)) (e4 : t3 = (byteL x.length :: x ++ t4.1, false)) : t = (mailL ⟨fr, n, l, g, x⟩ ++ t4.1, false) := by
  subst e4
  subst e3
  subst e2
  subst e1
  simp [mailL]

theorem mail1 {fr : Int} {t : Tk} (h : (mailT fr t).2.2 = false) : t = (mailL (mailT fr t).1 ++ (mailT fr t).2.1, false) := by
  simp only [mailT] at h ⊢
  generalize hA : numT 1 t = A at h ⊢
  generalize hB : labT A.2 = B at h ⊢
  generalize hC : grT B.2 = C at h ⊢
  generalize hD : txT C.2 = D at h ⊢
  have e4 := tx1 (t := C.2) (by rw [hD]; exact h)
  rw [hD] at e4
  have e3 := gr1 (t := B.2) (by rw [hC]; exact tk_false e4)
  rw [hC] at e3
  have e2 := lab1 (t := A.2) (by rw [hB]; exact tk_false e3)
  rw [hB] at e2
  obtain ⟨e1, _, _⟩ := num1 (t := t) (by rw [hA]; exact tk_false e2)
  rw [hA] at e1
  exact mail_bytes fr e1 e2 e3 e4

theorem head1 {t : Tk} (h : (headT t).2.2 = false) : t = ([byteL (headT t).1.1, byteL (headT t).1.2.1, byteL (headT t).1.2.2.1] ++ timeL (headT t).1.2.2.2 ++ (headT t).2.1, false) ∧ 0 ≤ (headT t).1.1 := by
  simp only [headT] at h ⊢
  have e4 := num6 h
  obtain ⟨e3, _, _⟩ := num1 (tk_false e4)
  obtain ⟨e2, _, _⟩ := num1 (tk_false e3)
  obtain ⟨e1, h0, _⟩ := num1 (tk_false e2)
  have f4 := congrArg Prod.fst e4
  have f3 := congrArg Prod.fst e3
  have f2 := congrArg Prod.fst e2
  have f1 := congrArg Prod.fst e1
  simp only at f1 f2 f3 f4
  refine ⟨?_, h0⟩
  rw [Prod.ext_iff]
  refine ⟨?_, tk_false e1⟩
  simp only
  rw [f1, f2, f3]
  simp only [List.cons_append, List.nil_append, ← f4]

theorem load_bytes {t t1 t2 t3 t4 : Tk} {fr to seq n : Int} {m : Mal} {cs : List Crt} (e1 : t = ([byteL 0, byteL fr, byteL to] ++ timeL seq ++ t1.1, false)) (e2 : t1 = (byteL n :: t2.1, false))
    (e3 : t2 = (mailL m ++ t3.1, false)) (e4 : t3 = (certsL cs ++ t4.1, false)) : t = (encL ⟨fr, to, seq, false, n, m, cs⟩ ++ t4.1, false) := by
  subst e4
  subst e3
  subst e2
  subst e1
  simp [encL, headL]

/-- WHAT IS READ HAS JUST THESE BYTES -/
theorem frame1 {t : Tk} (h : (frameT t).2.2 = false) : t = (encL (frameT t).1 ++ (frameT t).2.1, false) := by
  unfold frameT at h ⊢
  by_cases h1 : (headT t).1.1 = 1
  · rw [if_pos h1] at h ⊢
    obtain ⟨e, _⟩ := head1 h
    rw [h1] at e
    simp only [encL, headL, if_true]
    exact e
  · rw [if_neg h1] at h ⊢
    by_cases h0 : (headT t).1.1 = 0
    · rw [if_pos h0] at h ⊢
      simp only [loadT] at h ⊢
      have e4 := certs1 h
      have e3 := mail1 (tk_false e4)
      obtain ⟨e2, _, _⟩ := num1 (tk_false e3)
      obtain ⟨e1, _⟩ := head1 (tk_false e2)
      rw [h0] at e1
      exact load_bytes e1 e2 e3 e4
    · rw [if_neg h0] at h
      simp at h
end Go.Proofs.Parclose

namespace Go.Proofs.Parclose

/-- a taker with more behind it -/
def exT (q : List UInt8) (t : Tk) : Tk := (t.1 ++ q, t.2)
/-- more behind is left behind -/
def Ex {α : Type} (q : List UInt8) (X : Tk → α × Tk) (t : Tk) : Prop := (X t).2.2 = false → X (exT q t) = ((X t).1, exT q (X t).2)

theorem ex_text (q : List UInt8) (n : Nat) (t : Tk) : Ex q (textT n) t := by
  intro h
  obtain ⟨e, hl⟩ := text1 h
  have e1 : exT q t = ((textT n t).1 ++ ((textT n t).2.1 ++ q), false) := by
    unfold exT
    rw [← List.append_assoc]
    have f := congrArg Prod.fst e
    have g := congrArg Prod.snd e
    simp only at f g
    rw [← f, ← g]
  rw [e1, textT_app' _ _ hl]
  unfold exT
  rw [h]

theorem ex_num (q : List UInt8) (n : Nat) (t : Tk) : Ex q (numT n) t := by
  intro h
  have h1 := ex_text q n t h
  unfold numT
  rw [h1]

theorem num_false {n : Nat} {t : Tk} (h : (numT n t).2.2 = false) : t.2 = false := tk_false (text1 (n := n) h).1

theorem ex_crt (q : List UInt8) (t : Tk) : Ex q crtT t := by
  intro h
  simp only [crtT] at h ⊢
  have h3 := num_false h
  have h2 := num_false h3
  have h1 := num_false h2
  rw [ex_num q 1 t h1]
  simp only
  rw [ex_num q 1 _ h2]
  simp only
  rw [ex_num q 1 _ h3]
  simp only
  rw [ex_num q 6 _ h]

theorem ex_levs (q : List UInt8) (n : Nat) (t : Tk) : Ex q (fun t => iterN levStep n ([], t)) t := by
  induction n with
  | zero => intro _; rfl
  | succ n ih =>
    intro h
    simp only [iterN] at h ⊢
    simp only [Ex] at ih
    have h2 : (numT 1 (numT 1 (iterN levStep n ([], t)).2).2).2.2 = false := h
    have h1 := num_false h2
    rw [ih (num_false h1)]
    generalize iterN levStep n ([], t) = s at h2 h1 ⊢
    simp only [levStep]
    rw [ex_num q 1 _ h1]
    simp only
    rw [ex_num q 1 _ h2]

theorem ex_grs (q : List UInt8) (n : Nat) (t : Tk) : Ex q (fun t => iterN grStep n ([], t)) t := by
  induction n with
  | zero => intro _; rfl
  | succ n ih =>
    intro h
    simp only [iterN] at h ⊢
    simp only [Ex] at ih
    have h1 : (numT 1 (iterN grStep n ([], t)).2).2.2 = false := h
    rw [ih (num_false h1)]
    generalize iterN grStep n ([], t) = s at h1 ⊢
    simp only [grStep]
    rw [ex_num q 1 _ h1]

theorem ex_crs (q : List UInt8) (n : Nat) (t : Tk) : Ex q (fun t => iterN crStep n ([], t)) t := by
  induction n with
  | zero => intro _; rfl
  | succ n ih =>
    intro h
    simp only [iterN] at h ⊢
    simp only [Ex] at ih
    have h1 : (crtT (iterN crStep n ([], t)).2).2.2 = false := h
    rw [ih (tk_false (crt1 h1))]
    generalize iterN crStep n ([], t) = s at h1 ⊢
    simp only [crStep]
    rw [ex_crt q _ h1]

theorem ex_lab (q : List UInt8) (t : Tk) : Ex q labT t := by
  intro h
  unfold labT at h ⊢
  rw [ex_num q 1 t (tk_false (levs h).1)]
  exact ex_levs q _ _ h

theorem ex_gr (q : List UInt8) (t : Tk) : Ex q grT t := by
  intro h
  unfold grT at h ⊢
  rw [ex_num q 1 t (tk_false (grs h).1)]
  exact ex_grs q _ _ h

theorem ex_tx (q : List UInt8) (t : Tk) : Ex q txT t := by
  intro h
  unfold txT at h ⊢
  rw [ex_num q 1 t (tk_false (text1 h).1)]
  exact ex_text q _ _ h

theorem ex_certs (q : List UInt8) (t : Tk) : Ex q certsT t := by
  intro h
  unfold certsT at h ⊢
  rw [ex_num q 1 t (tk_false (crs h).1)]
  exact ex_crs q _ _ h

theorem ex_mail (q : List UInt8) (fr : Int) (t : Tk) : Ex q (mailT fr) t := by
  intro h
  simp only [mailT] at h ⊢
  have h3 := tk_false (tx1 h)
  have h2 := tk_false (gr1 h3)
  have h1 := tk_false (lab1 h2)
  rw [ex_num q 1 t h1]
  simp only
  rw [ex_lab q _ h2]
  simp only
  rw [ex_gr q _ h3]
  simp only
  rw [ex_tx q _ h]

theorem ex_head (q : List UInt8) (t : Tk) : Ex q headT t := by
  intro h
  simp only [headT] at h ⊢
  have h3 := num_false h
  have h2 := num_false h3
  have h1 := num_false h2
  rw [ex_num q 1 t h1]
  simp only
  rw [ex_num q 1 _ h2]
  simp only
  rw [ex_num q 1 _ h3]
  simp only
  rw [ex_num q 6 _ h]

theorem ex_frame (q : List UInt8) (t : Tk) : Ex q frameT t := by
  intro h
  have hh : (headT t).2.2 = false := by
    unfold frameT at h
    split at h
    · exact h
    · split at h
      · simp only [loadT] at h
        exact num_false (tk_false (mail1 (tk_false (certs1 h))))
      · simp at h
  have e := ex_head q t hh
  unfold frameT at h ⊢
  rw [e]
  by_cases h1 : (headT t).1.1 = 1
  · simp only [h1, if_true]
  · simp only [h1, if_false] at h ⊢
    by_cases h0 : (headT t).1.1 = 0
    · simp only [h0, if_true] at h ⊢
      generalize headT t = H at h ⊢
      simp only [loadT] at h ⊢
      have h3 := tk_false (certs1 h)
      have h2 := tk_false (mail1 h3)
      rw [ex_num q 1 _ h2]
      simp only
      rw [ex_mail q _ _ h3]
      simp only
      rw [ex_certs q _ h]
    · simp only [h0, if_false] at h
      simp at h

theorem iterN_first {α : Type} (f : α → α) (n : Nat) (s : α) : iterN f (n + 1) s = iterN f n (f s) := by
  induction n with
  | zero => rfl
  | succ n ih =>
    show f (iterN f (n + 1) s) = f (iterN f n (f s))
    rw [ih]

theorem levs_app (l : List (Int × Int)) (hl : ∀ x ∈ l, 0 ≤ x.1 ∧ x.1 < 80 ∧ 0 ≤ x.2 ∧ x.2 ≤ 3) (r : List UInt8) (acc : List (Int × Int)) : iterN levStep l.length (acc, (levelsL l ++ r, false)) = (acc ++ l, (r, false)) := by
  induction l generalizing acc with
  | nil => simp [iterN, levelsL]
  | cons x l ih =>
    obtain ⟨h1, h2, h3, h4⟩ := hl x (by simp)
    rw [List.length_cons, iterN_first]
    have e : levStep (acc, (levelsL (x :: l) ++ r, false)) = (acc ++ [x], (levelsL l ++ r, false)) := by
      have e0 : levelsL (x :: l) ++ r = byteL x.1 :: byteL x.2 :: (levelsL l ++ r) := by simp [levelsL]
      unfold levStep
      rw [e0]
      simp only
      rw [numT1_app x.1 _ h1 (by omega)]
      simp only
      rw [numT1_app x.2 _ h3 (by omega)]
    rw [e, ih (fun y hy => hl y (by simp [hy]))]
    simp

theorem grs_app (l : List Int) (hl : ∀ x ∈ l, 0 ≤ x ∧ x < 80) (r : List UInt8) (acc : List Int) : iterN grStep l.length (acc, (l.map byteL ++ r, false)) = (acc ++ l, (r, false)) := by
  induction l generalizing acc with
  | nil => simp [iterN]
  | cons x l ih =>
    obtain ⟨h1, h2⟩ := hl x (by simp)
    rw [List.length_cons, iterN_first]
    have e : grStep (acc, ((x :: l).map byteL ++ r, false)) = (acc ++ [x], (l.map byteL ++ r, false)) := by
      unfold grStep
      simp only [List.map_cons, List.cons_append]
      rw [numT1_app x _ h1 (by omega)]
    rw [e, ih (fun y hy => hl y (by simp [hy]))]
    simp

theorem hostB_iff (h : Int) : hostB h = true ↔ 0 ≤ h ∧ h < 4 := by unfold hostB; exact decide_eq_true_iff
theorem timeB_iff (h : Int) : timeB h = true ↔ 0 ≤ h ∧ h ≤ 1099511627776 := by unfold timeB; exact decide_eq_true_iff
theorem catB_iff (h : Int) : catB h = true ↔ 0 ≤ h ∧ h < 80 := by unfold catB; exact decide_eq_true_iff

theorem certB_iff (x : Crt) : certB x = true ↔ (0 ≤ x.c ∧ x.c < 80) ∧ (0 ≤ x.b ∧ x.b < 4) ∧ (0 ≤ x.h ∧ x.h < 4) ∧ x.b ≠ x.h ∧ (0 ≤ x.u ∧ x.u ≤ 1099511627776) := by
  unfold certB twoB
  simp only [Bool.and_eq_true, hostB_iff, timeB_iff, catB_iff, Bool.not_eq_true', beq_eq_false_iff_ne]
  constructor
  · rintro ⟨⟨h1, ⟨h2, h3⟩, h4⟩, h5⟩
    exact ⟨h1, h2, h3, h4, h5⟩
  · rintro ⟨h1, h2, h3, h4, h5⟩
    exact ⟨⟨h1, ⟨h2, h3⟩, h4⟩, h5⟩

theorem crs_app (l : List Crt) (hl : ∀ x ∈ l, certB x = true) (r : List UInt8) (acc : List Crt) : iterN crStep l.length (acc, (l.flatMap certL ++ r, false)) = (acc ++ l, (r, false)) := by
  induction l generalizing acc with
  | nil => simp [iterN]
  | cons x l ih =>
    obtain ⟨h1, h2, h3, _, h5⟩ := (certB_iff x).1 (hl x (by simp))
    rw [List.length_cons, iterN_first]
    have e : crStep (acc, ((x :: l).flatMap certL ++ r, false)) = (acc ++ [x], (l.flatMap certL ++ r, false)) := by
      have e0 : (x :: l).flatMap certL ++ r = byteL x.c :: byteL x.b :: byteL x.h :: (timeL x.u ++ (l.flatMap certL ++ r)) := by simp [certL]
      unfold crStep crtT
      rw [e0]
      simp only
      rw [numT1_app x.c _ h1.1 (by omega)]
      simp only
      rw [numT1_app x.b _ h2.1 (by omega)]
      simp only
      rw [numT1_app x.h _ h3.1 (by omega)]
      simp only
      rw [numT6_app x.u _ h5.1 (by omega)]
    rw [e, ih (fun y hy => hl y (by simp [hy]))]
    simp

theorem numT1_len (n : Nat) (r : List UInt8) (h : n < 256) : numT 1 (byteL (n : Int) :: r, false) = ((n : Int), (r, false)) := numT1_app n r (by omega) (by omega)

theorem lab_app (l : List (Int × Int)) (hn : l.length < 256) (hl : ∀ x ∈ l, 0 ≤ x.1 ∧ x.1 < 80 ∧ 0 ≤ x.2 ∧ x.2 ≤ 3) (r : List UInt8) : labT (byteL l.length :: (levelsL l ++ r), false) = (l, (r, false)) := by
  unfold labT
  rw [numT1_len _ _ hn]
  simp only [Int.toNat_natCast]
  rw [levs_app l hl]
  simp

theorem gr_app (l : List Int) (hn : l.length < 256) (hl : ∀ x ∈ l, 0 ≤ x ∧ x < 80) (r : List UInt8) : grT (byteL l.length :: (l.map byteL ++ r), false) = (l, (r, false)) := by
  unfold grT
  rw [numT1_len _ _ hn]
  simp only [Int.toNat_natCast]
  rw [grs_app l hl]
  simp

theorem tx_app (x : List UInt8) (hn : x.length < 256) (r : List UInt8) : txT (byteL x.length :: (x ++ r), false) = (x, (r, false)) := by
  unfold txT
  rw [numT1_len _ _ hn]
  simp only [Int.toNat_natCast]
  rw [textT_app]

theorem certs_app (l : List Crt) (hn : l.length < 256) (hl : ∀ x ∈ l, certB x = true) (r : List UInt8) : certsT (certsL l ++ r, false) = (l, (r, false)) := by
  unfold certsT certsL
  rw [show [byteL (l.length : Int)] ++ l.flatMap certL ++ r = byteL (l.length : Int) :: (l.flatMap certL ++ r) by simp, numT1_len _ _ hn]
  simp only [Int.toNat_natCast]
  rw [crs_app l hl]
  simp

theorem grantsB_iff (l : List Int) : grantsB l = true ↔ l.length ≤ 8 ∧ (∀ x ∈ l, 0 ≤ x ∧ x < 80) ∧ l.Pairwise (· < ·) := by unfold grantsB; exact decide_eq_true_iff

theorem mailE_zero {m : Mal} (h : mailE m = 0) : (0 ≤ m.host ∧ m.host < 4) ∧ (0 ≤ m.thread ∧ m.thread < 4) ∧ goodB m.label = true ∧ grantsB m.grants = true ∧ m.text.length ≤ 64 := by
  unfold mailE at h
  split at h
  · rename_i h1
    simp only [Bool.and_eq_true, hostB_iff] at h1
    split at h
    · exact ⟨h1.1.1.1, h1.1.1.2, h1.1.2, h1.2, by assumption⟩
    · simp at h
  · simp at h

theorem mail_app (m : Mal) (h : mailE m = 0) (r : List UInt8) : mailT m.host (mailL m ++ r, false) = (m, (r, false)) := by
  obtain ⟨h1, h2, h3, h4, h5⟩ := mailE_zero h
  obtain ⟨g1, g2, _⟩ := of_decide_eq_true h3
  obtain ⟨k1, k2, _⟩ := (grantsB_iff _).1 h4
  have e : mailL m ++ r = byteL m.thread :: (byteL m.label.length :: (levelsL m.label ++ (byteL m.grants.length :: (m.grants.map byteL ++ (byteL m.text.length :: (m.text ++ r)))))) := by simp [mailL]
  rw [e]
  unfold mailT
  rw [numT1_app _ _ h2.1 (by omega)]
  simp only
  rw [lab_app _ (by omega) (fun x hx => ⟨(g2 x hx).1, (g2 x hx).2.1, (g2 x hx).2.2.1, (g2 x hx).2.2.2.1⟩)]
  simp only
  rw [gr_app _ (by omega) k2]
  simp only
  rw [tx_app _ (by omega)]

theorem headB_iff (f : Frm) : headB f = true ↔ (0 ≤ f.fr ∧ f.fr < 4) ∧ (0 ≤ f.to ∧ f.to < 4) ∧ f.fr ≠ f.to ∧ f.seq ≠ 0 ∧ (0 ≤ f.seq ∧ f.seq ≤ 1099511627776) ∧ (0 ≤ f.thread ∧ f.thread < 4) := by
  unfold headB twoB
  simp only [Bool.and_eq_true, hostB_iff, timeB_iff, Bool.not_eq_true', beq_eq_false_iff_ne]
  constructor
  · rintro ⟨⟨⟨⟨⟨h1, h2⟩, h3⟩, h4⟩, h5⟩, h6⟩
    exact ⟨h1, h2, h3, h4, h5, h6⟩
  · rintro ⟨h1, h2, h3, h4, h5, h6⟩
    exact ⟨⟨⟨⟨⟨h1, h2⟩, h3⟩, h4⟩, h5⟩, h6⟩

theorem answerE_zero {f : Frm} (h : answerE f = 0) : f.thread = 0 ∧ f.mail = zeroMal ∧ f.certs = [] := by
  unfold answerE at h
  split at h
  · rename_i h1
    obtain ⟨fr, to, seq, ack, th, ⟨mh, mt, ml, mg, mx⟩, cs⟩ := f
    simp only [emptyB, Bool.and_eq_true, beq_iff_eq, List.isEmpty_iff] at h1
    obtain ⟨⟨rfl, ⟨⟨⟨rfl, rfl⟩, rfl⟩, rfl⟩, rfl⟩, rfl⟩ := h1
    exact ⟨rfl, rfl, rfl⟩
  · simp at h

theorem certsE_zero {l : List Crt} (h : certsE l = 0) : l.length ≤ 24 ∧ ∀ x ∈ l, certB x = true := by
  unfold certsE at h
  split at h
  · split at h
    · rename_i h1 h2
      exact ⟨h1, List.all_eq_true.1 h2⟩
    · simp at h
  · simp at h

theorem mailE_cases (m : Mal) : mailE m = 0 ∨ mailE m = 2 ∨ mailE m = 9 := by
  unfold mailE
  split
  · split
    · exact Or.inl rfl
    · exact Or.inr (Or.inr rfl)
  · exact Or.inr (Or.inl rfl)

theorem loadE_zero {f : Frm} (h : loadE f = 0) : mailE f.mail = 0 ∧ f.mail.host = f.fr ∧ certsE f.certs = 0 := by
  unfold loadE at h
  split at h
  · split at h
    · exact ⟨by assumption, by assumption, h⟩
    · simp at h
  · exact absurd h (by assumption)

theorem head_app (k : Int) (f : Frm) (hk : 0 ≤ k ∧ k < 256) (h : headB f = true) (r : List UInt8) : headT (headL k f ++ r, false) = ((k, f.fr, f.to, f.seq), (r, false)) := by
  obtain ⟨h1, h2, _, _, h5, _⟩ := (headB_iff f).1 h
  have e : headL k f ++ r = byteL k :: (byteL f.fr :: (byteL f.to :: (timeL f.seq ++ r))) := by simp [headL]
  rw [e]
  unfold headT
  rw [numT1_app _ _ hk.1 hk.2]
  simp only
  rw [numT1_app _ _ h1.1 (by omega)]
  simp only
  rw [numT1_app _ _ h2.1 (by omega)]
  simp only
  rw [numT6_app _ _ h5.1 (by omega)]

/-- A GOOD FRAME IS READ BACK -/
theorem frame_app (f : Frm) (h : frameE f = 0) (r : List UInt8) : frameT (encL f ++ r, false) = (f, (r, false)) := by
  unfold frameE at h
  split at h
  · rename_i hh
    have hb := (headB_iff f).1 hh
    cases ha : f.ack with
    | true =>
      rw [ha, if_pos rfl] at h
      obtain ⟨h1, h2, h3⟩ := answerE_zero h
      unfold encL
      rw [ha, if_pos rfl]
      unfold frameT
      rw [head_app 1 f (by omega) hh]
      simp only [if_true]
      rw [← h1, ← h2, ← h3, ← ha]
    | false =>
      rw [ha, if_neg (by simp)] at h
      obtain ⟨h1, h2, h3⟩ := loadE_zero h
      obtain ⟨k1, k2⟩ := certsE_zero h3
      unfold encL
      rw [ha, if_neg (by simp), List.append_assoc, List.append_assoc, List.append_assoc]
      unfold frameT
      rw [head_app 0 f (by omega) hh]
      simp only [show ((0 : Int) = 1) = False by simp, if_false, if_true]
      unfold loadT
      simp only [List.cons_append, List.nil_append]
      rw [numT1_app _ _ hb.2.2.2.2.2.1 (by omega)]
      simp only
      rw [← h2, mail_app f.mail h1]
      simp only
      rw [certs_app f.certs (by omega) k2]
      rw [h2, ← ha]
  · simp at h

theorem back (f : Frm) (h : frameE f = 0) : decL (encL f) = (f, 0) := by
  have e := frame_app f h []
  rw [List.append_nil] at e
  unfold decL
  rw [e]
  simp [doneB, h]

theorem back_more (f : Frm) (h : frameE f = 0) (q : List UInt8) (hq : q ≠ []) : decL (encL f ++ q) = (zeroFrm, 1) := by
  unfold decL
  rw [frame_app f h q]
  simp [doneB, hq]

theorem only {s : List UInt8} (h : (decL s).2 = 0) : encL (decL s).1 = s ∧ frameE (decL s).1 = 0 := by
  unfold decL at h ⊢
  by_cases hd : doneB (frameT (s, false)).2 = true
  · rw [if_pos hd] at h ⊢
    by_cases he : frameE (frameT (s, false)).1 = 0
    · rw [if_pos he]
      refine ⟨?_, he⟩
      simp only [doneB, Bool.and_eq_true, Bool.not_eq_true', List.isEmpty_iff] at hd
      have e := congrArg Prod.fst (frame1 hd.1)
      simp only [hd.2, List.append_nil] at e
      exact e.symm
    · rw [if_neg he] at h
      exact absurd h he
  · rw [if_neg hd] at h
    simp at h

theorem only_zero {s : List UInt8} (h : (decL s).2 ≠ 0) : (decL s).1 = zeroFrm := by
  unfold decL at h ⊢
  split
  · split
    · rename_i h1 h2
      rw [if_pos h1, if_pos h2] at h
      exact absurd rfl h
    · rfl
  · rfl

/-- A BEGINNING OF THE BYTES IS NO FRAME -/
theorem cut (f : Frm) (h : frameE f = 0) (n : Nat) (hn : n < (encL f).length) : (decL ((encL f).take n)).2 = 1 := by
  unfold decL
  by_cases hd : doneB (frameT ((encL f).take n, false)).2 = true
  · exfalso
    simp only [doneB, Bool.and_eq_true, Bool.not_eq_true', List.isEmpty_iff] at hd
    have e := ex_frame ((encL f).drop n) ((encL f).take n, false) hd.1
    have e2 := frame_app f h []
    rw [List.append_nil] at e2
    unfold exT at e
    simp only [List.take_append_drop, hd.2, List.nil_append] at e
    rw [e2] at e
    have e3 := congrArg (fun p => p.2.1) e
    simp only at e3
    have : ((encL f).drop n).length = 0 := by rw [← e3]; rfl
    rw [List.length_drop] at this
    omega
  · rw [if_neg hd]
end Go.Proofs.Parclose

namespace Go.Proofs.Parclose

def frontL (l : List (Int × Int)) (c : Int) : List (Int × Int) := l.filter fun x => decide (x.1 < c)
def behindL (l : List (Int × Int)) (c : Int) : List (Int × Int) := l.filter fun x => decide (c < x.1)
def newL (c n : Int) : List (Int × Int) := if n = 1 then [] else [(c, n)]
/-- Set: the label with that category at that level -/
def setL (l : List (Int × Int)) (c n : Int) : List (Int × Int) := frontL l c ++ newL c n ++ behindL l c

theorem take_front {l : List (Int × Int)} {c : Int} {i : Nat} (h1 : ∀ m (_ : m < i) (hm : m < l.length), l[m].1 < c) (h2 : ∀ m (_ : i ≤ m) (hm : m < l.length), c ≤ l[m].1) : l.take i = frontL l c := by
  unfold frontL
  conv => rhs; rw [← List.take_append_drop i l]
  rw [List.filter_append, List.filter_eq_self.2, List.filter_eq_nil_iff.2]
  · simp
  · intro x hx
    obtain ⟨m, hm, e⟩ := List.mem_iff_getElem.1 hx
    rw [List.getElem_drop] at e
    have := h2 (i + m) (by omega) (by simp at hm; omega)
    subst e
    simpa using this
  · intro x hx
    obtain ⟨m, hm, e⟩ := List.mem_iff_getElem.1 hx
    rw [List.getElem_take] at e
    have := h1 m (by simp at hm; omega) (by simp at hm; omega)
    subst e
    simpa using this

theorem drop_behind {l : List (Int × Int)} {c : Int} {k : Nat} (h1 : ∀ m (_ : m < k) (hm : m < l.length), l[m].1 ≤ c) (h2 : ∀ m (_ : k ≤ m) (hm : m < l.length), c < l[m].1) : l.drop k = behindL l c := by
  unfold behindL
  conv => rhs; rw [← List.take_append_drop k l]
  rw [List.filter_append, List.filter_eq_nil_iff.2, List.filter_eq_self.2]
  · simp
  · intro x hx
    obtain ⟨m, hm, e⟩ := List.mem_iff_getElem.1 hx
    rw [List.getElem_drop] at e
    have := h2 (k + m) (by omega) (by simp at hm; omega)
    subst e
    simpa using this
  · intro x hx
    obtain ⟨m, hm, e⟩ := List.mem_iff_getElem.1 hx
    rw [List.getElem_take] at e
    have := h1 m (by simp at hm; omega) (by simp at hm; omega)
    subst e
    simpa using this

/-- a place and whether the category stands there -/
structure Spot (l : List (Int × Int)) (c : Int) (i : Nat) (f : Bool) : Prop where
  le : i ≤ l.length
  low : ∀ m (_ : m < i) (hm : m < l.length), l[m].1 < c
  high : ∀ m (_ : i ≤ m) (hm : m < l.length), c ≤ l[m].1
  yes : f = true → ∃ h : i < l.length, l[i].1 = c
  no : f = false → ∀ h : i < l.length, l[i].1 ≠ c

theorem Spot.front {l : List (Int × Int)} {c : Int} {i : Nat} {f : Bool} (s : Spot l c i f) : l.take i = frontL l c := take_front s.low s.high
theorem Spot.behind_yes {l : List (Int × Int)} {c : Int} {i : Nat} (s : Spot l c i true) (hr : l.Pairwise fun x y => x.1 < y.1) : l.drop (i + 1) = behindL l c := by
  obtain ⟨hi, e⟩ := s.yes rfl
  refine drop_behind (fun m h hm => ?_) (fun m h hm => ?_)
  · by_cases hmi : m = i
    · subst hmi; omega
    · have := s.low m (by omega) hm; omega
  · have := (List.pairwise_iff_getElem.1 hr) i m hi hm (by omega)
    omega
theorem Spot.behind_no {l : List (Int × Int)} {c : Int} {i : Nat} (s : Spot l c i false) (hr : l.Pairwise fun x y => x.1 < y.1) : l.drop i = behindL l c := by
  refine drop_behind (fun m h hm => ?_) (fun m h hm => ?_)
  · have := s.low m h hm; omega
  · by_cases hmi : m = i
    · subst hmi
      have h1 := s.high m (Nat.le_refl _) hm
      have h2 := s.no rfl hm
      omega
    · have h1 := s.high i (Nat.le_refl _) (by omega)
      have := (List.pairwise_iff_getElem.1 hr) i m (by omega) hm (by omega)
      omega

theorem atL_append (x y : List (Int × Int)) (d : Int) : atL (x ++ y) d = if d ∈ x.map (·.1) then atL x d else atL y d := by
  induction x with
  | nil => simp
  | cons t r ih =>
    simp only [List.cons_append, atL, List.map_cons, List.mem_cons]
    by_cases h : t.1 = d
    · simp [h]
    · simp only [h, if_false, Ne.symm h, false_or]
      exact ih

theorem atL_filter (p : Int → Bool) (l : List (Int × Int)) (d : Int) : atL (l.filter fun x => p x.1) d = if p d then atL l d else 1 := by
  induction l with
  | nil => simp [atL]
  | cons t r ih =>
    by_cases h : p t.1
    · simp only [List.filter_cons, h, if_true, atL]
      by_cases e : t.1 = d
      · subst e; simp [h]
      · simp only [e, if_false]; exact ih
    · have h' : p t.1 = false := by simpa using h
      simp only [List.filter_cons, h', Bool.false_eq_true, if_false, atL]
      rw [ih]
      by_cases e : t.1 = d
      · subst e; simp [h']
      · simp [e]

theorem keys_front {l : List (Int × Int)} {c d : Int} (h : d ∈ (frontL l c).map (·.1)) : d < c := by
  obtain ⟨x, hx, e⟩ := List.mem_map.1 h
  have := (List.mem_filter.1 hx).2
  simp at this
  omega
theorem keys_behind {l : List (Int × Int)} {c d : Int} (h : d ∈ (behindL l c).map (·.1)) : c < d := by
  obtain ⟨x, hx, e⟩ := List.mem_map.1 h
  have := (List.mem_filter.1 hx).2
  simp at this
  omega

theorem atL_front (l : List (Int × Int)) (c d : Int) : atL (frontL l c) d = if d < c then atL l d else 1 := by
  have := atL_filter (fun x => decide (x < c)) l d
  simpa [frontL] using this
theorem atL_behind (l : List (Int × Int)) (c d : Int) : atL (behindL l c) d = if c < d then atL l d else 1 := by
  have := atL_filter (fun x => decide (c < x)) l d
  simpa [behindL] using this
theorem atL_new (c n d : Int) : atL (newL c n) d = if d = c then n else 1 := by
  unfold newL
  by_cases h : n = 1
  · simp [h, atL]
  · simp only [h, if_false, atL]
    by_cases e : d = c
    · simp [e]
    · simp [e, Ne.symm e]

theorem atL_setL (l : List (Int × Int)) (c n d : Int) : atL (setL l c n) d = if d = c then n else atL l d := by
  unfold setL
  rw [List.append_assoc, atL_append, atL_append]
  by_cases h1 : d ∈ (frontL l c).map (·.1)
  · have := keys_front h1
    rw [if_pos h1, atL_front, if_pos this, if_neg (by omega)]
  · rw [if_neg h1]
    have e1 : atL (frontL l c) d = 1 := atL_not_mem h1
    rw [atL_front] at e1
    by_cases h2 : d ∈ (newL c n).map (·.1)
    · rw [if_pos h2, atL_new]
      have : d = c := by
        unfold newL at h2
        by_cases hn : n = 1
        · simp [hn] at h2
        · simpa [hn] using h2
      simp [this]
    · rw [if_neg h2]
      have e2 : atL (newL c n) d = 1 := atL_not_mem h2
      rw [atL_new] at e2
      rw [atL_behind]
      by_cases g1 : c < d
      · rw [if_pos g1, if_neg (by omega)]
      · rw [if_neg g1]
        by_cases g2 : d = c
        · rw [if_pos g2]; rw [if_pos g2] at e2; exact e2.symm
        · rw [if_neg g2]
          rw [if_pos (by omega)] at e1
          exact e1.symm

theorem setL_rises {l : List (Int × Int)} (hr : l.Pairwise fun x y => x.1 < y.1) (c n : Int) : (setL l c n).Pairwise fun x y => x.1 < y.1 := by
  unfold setL
  have hf : ∀ x ∈ frontL l c, x.1 < c := fun x hx => by have := (List.mem_filter.1 hx).2; simpa using this
  have hb : ∀ x ∈ behindL l c, c < x.1 := fun x hx => by have := (List.mem_filter.1 hx).2; simpa using this
  have hn : ∀ x ∈ newL c n, x.1 = c := fun x hx => by
    unfold newL at hx
    by_cases h : n = 1
    · simp [h] at hx
    · simp only [h, if_false, List.mem_singleton] at hx; rw [hx]
  refine List.pairwise_append.2 ⟨List.pairwise_append.2 ⟨hr.filter _, ?_, ?_⟩, hr.filter _, ?_⟩
  · unfold newL; split <;> simp
  · intro x hx y hy; have := hf x hx; have := hn y hy; omega
  · intro x hx y hy
    have := hb y hy
    rcases List.mem_append.1 hx with hx | hx
    · have := hf x hx; omega
    · have := hn x hx; omega

theorem canon_setL {l : List (Int × Int)} (h : canonL l) (c n : Int) : canonL (setL l c n) := by
  refine ⟨fun x hx => ?_, setL_rises h.2 c n⟩
  unfold setL at hx
  rcases List.mem_append.1 hx with hx | hx
  · rcases List.mem_append.1 hx with hx | hx
    · exact h.1 x (List.mem_filter.1 hx).1
    · unfold newL at hx
      by_cases e : n = 1
      · simp [e] at hx
      · simp only [e, if_false, List.mem_singleton] at hx; rw [hx]; exact e
  · exact h.1 x (List.mem_filter.1 hx).1

theorem good_setL {l : List (Int × Int)} (h : goodL l) {c n : Int} (hc : catB c = true) (hn : bndB n = true) (h8 : (setL l c n).length ≤ 8) : goodL (setL l c n) := by
  have hc' : 0 ≤ c ∧ c < 80 := of_decide_eq_true hc
  have hn' : 0 ≤ n ∧ n ≤ 3 := of_decide_eq_true hn
  refine ⟨h8, fun x hx => ?_, setL_rises h.2.2 c n⟩
  unfold setL at hx
  rcases List.mem_append.1 hx with hx | hx
  · rcases List.mem_append.1 hx with hx | hx
    · exact h.2.1 x (List.mem_filter.1 hx).1
    · unfold newL at hx
      by_cases e : n = 1
      · simp [e] at hx
      · simp only [e, if_false, List.mem_singleton] at hx; rw [hx]; exact ⟨hc'.1, hc'.2, hn'.1, hn'.2, e⟩
  · exact h.2.1 x (List.mem_filter.1 hx).1

/-- set back it is the same -/
theorem set_back {l : List (Int × Int)} (h : goodL l) (c n : Int) : setL (setL l c n) c (atL l c) = l :=
  canon_ext (canon_setL (canon_setL (good_canon h) c n) c _) (good_canon h) fun d => by
    rw [atL_setL, atL_setL]
    by_cases e : d = c
    · simp [e]
    · simp [e]

theorem at_bound {l : List (Int × Int)} (h : goodL l) (c : Int) : bndB (atL l c) = true := by
  refine decide_eq_true ?_
  have h1 := h.2.1
  clear h
  induction l with
  | nil => simp [atL]
  | cons x r ih =>
    simp only [atL]
    by_cases e : x.1 = c
    · rw [if_pos e]
      have := h1 x (by simp)
      exact ⟨this.2.2.1, this.2.2.2.1⟩
    · rw [if_neg e]
      exact ih (fun y hy => h1 y (by simp [hy]))

theorem set_flows (l : List (Int × Int)) (c n : Int) : flowsL l (setL l c n) [] = decide (atL l c ≤ n) := by
  rw [Bool.eq_iff_iff, flowsL_iff, decide_eq_true_iff]
  constructor
  · intro h
    have := h c
    rw [atL_setL, if_pos rfl] at this
    simpa using this
  · intro h d
    rw [atL_setL]
    by_cases e : d = c
    · subst e; rw [if_pos rfl]; exact Or.inr h
    · rw [if_neg e]; exact Or.inr (Int.le_refl _)
theorem set_flows_own (l : List (Int × Int)) (c n : Int) : flowsL l (setL l c n) [c] = true := by
  rw [flowsL_iff]
  intro d
  rw [atL_setL]
  by_cases e : d = c
  · exact Or.inl (by simp [e])
  · rw [if_neg e]; exact Or.inr (Int.le_refl _)
theorem frontL_length (l : List (Int × Int)) (c : Int) : (frontL l c).length ≤ l.length := List.length_filter_le _ _
theorem behindL_length (l : List (Int × Int)) (c : Int) : (behindL l c).length ≤ l.length := List.length_filter_le _ _
theorem newL_length (c n : Int) : (newL c n).length ≤ 1 := by unfold newL; split <;> simp

/-- may the label be set so? -/
def setB (l : List (Int × Int)) (c n : Int) : Bool := goodB l && catB c && bndB n
/-- the error of Set, and its label -/
def setE (l : List (Int × Int)) (c n : Int) : Int := if setB l c n = false then 2 else if 8 < (setL l c n).length then 5 else 0
def setR (l : List (Int × Int)) (c n : Int) : List (Int × Int) := if setB l c n = false then [] else if 8 < (setL l c n).length then [] else setL l c n
end Go.Proofs.Parclose

namespace Go.Proofs.Parclose

structure Obt where
  label : List (Int × Int)
  text : List UInt8

structure Thr where
  label : List (Int × Int)
  own : List Int
  text : List UInt8
  objs : List Obt
  mails : List Mal

structure Ker where
  host : Int
  made : Int
  ths : List Thr

structure Cal where
  kind : Int
  h : Int
  t : Int
  n : Int
  c : Int
  label : List (Int × Int)
  grants : List Int
  text : List UInt8

structure Rep where
  code : Int
  n : Int
  text : List UInt8

def zeroThr : Thr := ⟨[], [], [], [], []⟩
def freshKer (h : Int) : Ker := ⟨h, 0, [zeroThr, zeroThr, zeroThr, zeroThr]⟩
def code (e : Int) : Rep := ⟨e, 0, []⟩
/-- the last of a text -/
def lastL (x : List UInt8) : List UInt8 := x.drop (x.length - 64)
theorem lastL_len (x : List UInt8) : (lastL x).length ≤ 64 := by unfold lastL; rw [List.length_drop]; omega
theorem lastL_short {x : List UInt8} (h : x.length ≤ 64) : lastL x = x := by unfold lastL; rw [show x.length - 64 = 0 by omega]; rfl

/-- a category more -/
def insL (l : List Int) (c : Int) : List Int := l.take (l.countP (· < c)) ++ c :: l.drop (l.countP (· < c))
/-- to own a category more: the error, and what is owned -/
def ownL (l : List Int) (c : Int) : Int × List Int := if l.contains c then (0, l) else if 8 ≤ l.length then (5, l) else (0, insL l c)

/-- what forbids a thread to send mail -/
def mayL (th : Thr) (m : Mal) : Int := if mailE m = 0 then (if m.grants.all (th.own.contains ·) then (if flowsL th.label m.label th.own then 0 else 6) else 7) else mailE m

def getT (K : Ker) (t : Int) : Option Thr := if 0 ≤ t then K.ths[t.toNat]? else none
def setT (K : Ker) (t : Int) (th : Thr) : Ker := { K with ths := K.ths.set t.toNat th }

def letterM (K : Ker) (t : Int) (c : Cal) (th : Thr) : Mal := ⟨K.host, t, c.label, c.grants, lastL (th.text ++ c.text)⟩
def letterL (K : Ker) (t : Int) (c : Cal) : Mal × Int :=
  match getT K t with
  | none => (zeroMal, 4)
  | some th => if mayL th (letterM K t c th) = 0 then (letterM K t c th, 0) else (zeroMal, mayL th (letterM K t c th))

/-- mail into a box -/
def boxL (th : Thr) (m : Mal) : Thr := if mailE m = 0 ∧ flowsL m.label th.label th.own = true ∧ th.mails.length < 6 then { th with mails := th.mails ++ [m] } else th
def deliverL (K : Ker) (t : Int) (m : Mal) : Ker :=
  match getT K t with
  | none => K
  | some th => setT K t (boxL th m)

/-- grants, one by one, up to the first for which there is no room -/
def grantL : List Int → List Int → List Int
  | [], o => o
  | c :: r, o => if (ownL o c).1 = 0 then grantL r (ownL o c).2 else o
def readL (th : Thr) (m : Mal) : Thr := { th with text := lastL (th.text ++ m.text), own := grantL m.grants th.own }
/-- mail by mail -/
def takeL (th : Thr) : List Mal → Thr × Rep
  | [] => ({ th with mails := [] }, code 4)
  | m :: r => if flowsL m.label th.label th.own then ({ readL th m with mails := r }, ⟨0, m.host * 4 + m.thread, []⟩) else takeL th r

def objectL (th : Thr) (l : List (Int × Int)) : Thr × Rep :=
  if goodB l then (if flowsL th.label l th.own then (if 4 ≤ th.objs.length then (th, code 5) else ({ th with objs := th.objs ++ [⟨l, []⟩] }, ⟨0, (th.objs.length : Int), []⟩)) else (th, code 6)) else (th, code 2)
def levelL (th : Thr) (c n : Int) : Thr × Int :=
  if setE th.label c n = 0 then (if flowsL th.label (setL th.label c n) th.own then ({ th with label := setL th.label c n }, 0) else (th, 6)) else (th, setE th.label c n)
/-- the object n of a thread -/
def objAt (K : Ker) (t n : Int) : Option Obt :=
  match getT K t with
  | none => none
  | some th => if 0 ≤ n then th.objs[n.toNat]? else none
def putO (th : Thr) (n : Int) (x : List UInt8) : Thr := { th with objs := th.objs.modify n.toNat fun o => { o with text := x } }
def putL (K : Ker) (th : Thr) (c : Cal) : Ker :=
  match getT K c.t, objAt K c.t c.n with
  | some u, some o => if flowsL th.label o.label th.own then setT K c.t (putO u c.n (lastL (th.text ++ c.text))) else K
  | _, _ => K
def getL (K : Ker) (t : Int) (th : Thr) (c : Cal) : Ker × Rep :=
  match objAt K c.t c.n with
  | none => (K, code 4)
  | some o => if flowsL o.label th.label th.own then (setT K t { th with text := lastL (th.text ++ o.text) }, ⟨0, (o.text.length : Int), []⟩) else (K, code 4)
def categoryL (K : Ker) (t : Int) (th : Thr) : Ker × Rep :=
  if 20 ≤ K.made then (K, code 5)
  else if (ownL th.own (K.host * 20 + K.made)).1 = 0 then ({ setT K t { th with own := (ownL th.own (K.host * 20 + K.made)).2 } with made := K.made + 1 }, ⟨0, K.host * 20 + K.made, []⟩)
  else (K, code (ownL th.own (K.host * 20 + K.made)).1)

def callT (K : Ker) (t : Int) (th : Thr) (c : Cal) : Ker × Rep :=
  if 64 < c.text.length then (K, code 9)
  else if c.kind = 1 then categoryL K t th
  else if c.kind = 2 then (setT K t (objectL th c.label).1, (objectL th c.label).2)
  else if c.kind = 3 then (putL K th c, code 0)
  else if c.kind = 4 then getL K t th c
  else if c.kind = 5 then (setT K t (levelL th c.c c.n).1, code (levelL th c.c c.n).2)
  else if c.kind = 7 then (setT K t (takeL th th.mails).1, (takeL th th.mails).2)
  else if c.kind = 9 then (setT K t { th with text := lastL c.text }, code 0)
  else if c.kind = 10 then (K, ⟨0, 0, th.text⟩)
  else (K, code 3)
def callL (K : Ker) (t : Int) (c : Cal) : Ker × Rep :=
  match getT K t with
  | none => (K, code 4)
  | some th => callT K t th c
end Go.Proofs.Parclose

namespace Go.Proofs.Parclose

theorem count_split {l : List Int} (hs : l.Pairwise (· < ·)) (c : Int) : (∀ x ∈ l.take (l.countP (· < c)), x < c) ∧ ∀ x ∈ l.drop (l.countP (· < c)), c ≤ x := by
  induction l with
  | nil => simp
  | cons a r ih =>
    have hr := (List.pairwise_cons.1 hs).2
    have ha := (List.pairwise_cons.1 hs).1
    by_cases h : a < c
    · rw [List.countP_cons_of_pos (by simpa using h), List.take_succ_cons, List.drop_succ_cons]
      obtain ⟨h1, h2⟩ := ih hr
      refine ⟨fun x hx => ?_, h2⟩
      rcases List.mem_cons.1 hx with rfl | hx
      · exact h
      · exact h1 x hx
    · have hz : r.countP (· < c) = 0 := by
        rw [List.countP_eq_zero]
        intro x hx
        have := ha x hx
        simp
        omega
      rw [List.countP_cons_of_neg (by simpa using h), hz]
      refine ⟨fun x hx => by simp at hx, fun x hx => ?_⟩
      rcases List.mem_cons.1 hx with rfl | hx
      · omega
      · have := ha x hx; omega

theorem insL_sorted {l : List Int} (hs : l.Pairwise (· < ·)) {c : Int} (hc : l.contains c = false) : (insL l c).Pairwise (· < ·) := by
  obtain ⟨h1, h2⟩ := count_split hs c
  have hn : ∀ x ∈ l, x ≠ c := fun x hx e => by
    subst e
    have : l.contains x = true := by simpa using hx
    rw [hc] at this
    cases this
  unfold insL
  rw [List.pairwise_append]
  refine ⟨hs.sublist (List.take_sublist _ _), List.pairwise_cons.2 ⟨fun x hx => ?_, hs.sublist (List.drop_sublist _ _)⟩, fun x hx y hy => ?_⟩
  · have a := h2 x hx
    have b := hn x (List.mem_of_mem_drop hx)
    omega
  · rcases List.mem_cons.1 hy with rfl | hy
    · exact h1 x hx
    · have a := h1 x hx
      have b := h2 y hy
      omega
theorem insL_len (l : List Int) (c : Int) : (insL l c).length = l.length + 1 := by
  have : l.countP (· < c) ≤ l.length := List.countP_le_length
  unfold insL
  simp
  omega
theorem ownL_sorted {l : List Int} (hs : l.Pairwise (· < ·)) (c : Int) : (ownL l c).2.Pairwise (· < ·) := by
  unfold ownL
  split
  · exact hs
  · split
    · exact hs
    · exact insL_sorted hs (by rename_i h _; simpa using h)
theorem ownL_len {l : List Int} (h : l.length ≤ 8) (c : Int) : (ownL l c).2.length ≤ 8 := by
  unfold ownL
  split
  · exact h
  · split
    · exact h
    · show (insL l c).length ≤ 8
      rw [insL_len]
      omega
theorem ownL_fail {l : List Int} {c : Int} (h : (ownL l c).1 ≠ 0) : (ownL l c).2 = l := by
  unfold ownL at h ⊢
  split
  · rfl
  · rename_i h1
    rw [if_neg h1] at h
    split
    · rfl
    · rename_i h2
      rw [if_neg h2] at h
      exact absurd rfl h
theorem grantL_cons (c : Int) (r o : List Int) : grantL (c :: r) o = if (ownL o c).1 = 0 then grantL r (ownL o c).2 else o := rfl
end Go.Proofs.Parclose

namespace Go.Proofs.Parclose

structure GoodT (th : Thr) : Prop where
  sorted : th.own.Pairwise (· < ·)
  own : th.own.length ≤ 8
  text : th.text.length ≤ 64
  objs : th.objs.length ≤ 4
  obj : ∀ o ∈ th.objs, o.text.length ≤ 64 ∧ goodL o.label
  mails : th.mails.length ≤ 6
  mail : ∀ m ∈ th.mails, mailE m = 0
  label : goodL th.label

structure GoodK (K : Ker) : Prop where
  four : K.ths.length = 4
  host : 0 ≤ K.host ∧ K.host < 4
  made : 0 ≤ K.made ∧ K.made ≤ 20
  ths : ∀ th ∈ K.ths, GoodT th

theorem goodL_nil : goodL [] := ⟨by simp, by simp, by simp⟩
theorem zero_good : GoodT zeroThr := ⟨by simp [zeroThr], by simp [zeroThr], by simp [zeroThr], by simp [zeroThr], by simp [zeroThr], by simp [zeroThr], by simp [zeroThr], goodL_nil⟩
theorem fresh_good {h : Int} (h0 : 0 ≤ h ∧ h < 4) : GoodK (freshKer h) := ⟨rfl, h0, ⟨by simp [freshKer], by simp [freshKer]⟩, fun th hth => by
  simp [freshKer] at hth
  rw [hth]
  exact zero_good⟩

theorem mem_set_or {α : Type} {l : List α} {i : Nat} {a x : α} (h : x ∈ l.set i a) : x = a ∨ x ∈ l := by
  rcases List.mem_or_eq_of_mem_set h with h | h
  · exact Or.inr h
  · exact Or.inl h
theorem GoodK.set {K : Ker} (h : GoodK K) (i : Nat) {th : Thr} (ht : GoodT th) : GoodK { K with ths := K.ths.set i th } :=
  ⟨by simpa using h.four, h.host, h.made, fun x hx => (mem_set_or hx).elim (fun e => by rw [e]; exact ht) (h.ths x)⟩

theorem getT_some {K : Ker} {t : Int} {th : Thr} (h : getT K t = some th) : ∃ n : Nat, t = n ∧ ∃ hn : n < K.ths.length, K.ths[n] = th := by
  unfold getT at h
  split at h
  · rename_i h0
    obtain ⟨hn, e⟩ := List.getElem?_eq_some_iff.1 h
    exact ⟨t.toNat, by omega, hn, e⟩
  · cases h
theorem getT_none {K : Ker} (h4 : K.ths.length = 4) {t : Int} (h : getT K t = none) : ¬ (0 ≤ t ∧ t < 4) := by
  rintro ⟨h0, h1⟩
  unfold getT at h
  rw [if_pos h0, List.getElem?_eq_none_iff] at h
  omega
theorem getT_nat {K : Ker} {n : Nat} (hn : n < K.ths.length) : getT K (n : Int) = some K.ths[n] := by
  unfold getT
  rw [if_pos (by omega), Int.toNat_natCast]
  exact List.getElem?_eq_getElem hn
theorem setT_nat (K : Ker) (n : Nat) (th : Thr) : setT K (n : Int) th = { K with ths := K.ths.set n th } := by
  unfold setT
  rw [Int.toNat_natCast]

theorem grantL_sorted (l : List Int) {o : List Int} (hs : o.Pairwise (· < ·)) : (grantL l o).Pairwise (· < ·) := by
  induction l generalizing o with
  | nil => exact hs
  | cons c r ih =>
    rw [grantL_cons]
    split
    · exact ih (ownL_sorted hs c)
    · exact hs
theorem grantL_len (l : List Int) {o : List Int} (hl : o.length ≤ 8) : (grantL l o).length ≤ 8 := by
  induction l generalizing o with
  | nil => exact hl
  | cons c r ih =>
    rw [grantL_cons]
    split
    · exact ih (ownL_len hl c)
    · exact hl

theorem takeL_good (ms : List Mal) {th : Thr} (h : GoodT th) (hl : ms.length ≤ 6) (hm : ∀ m ∈ ms, mailE m = 0) : GoodT (takeL th ms).1 := by
  induction ms with
  | nil => exact ⟨h.sorted, h.own, h.text, h.objs, h.obj, by simp [takeL], by simp [takeL], h.label⟩
  | cons m r ih =>
    unfold takeL
    split
    · exact ⟨grantL_sorted _ h.sorted, grantL_len _ h.own, lastL_len _, h.objs, h.obj, by simp at hl; show r.length ≤ 6; omega, fun x hx => hm x (List.mem_cons_of_mem _ hx), h.label⟩
    · exact ih (by simp at hl; omega) (fun x hx => hm x (List.mem_cons_of_mem _ hx))
theorem objectL_good {th : Thr} (h : GoodT th) (l : List (Int × Int)) : GoodT (objectL th l).1 := by
  unfold objectL
  split
  · rename_i hg
    split
    · split
      · exact h
      · rename_i hn
        refine ⟨h.sorted, h.own, h.text, by simp; omega, fun o ho => ?_, h.mails, h.mail, h.label⟩
        rcases List.mem_append.1 ho with ho | ho
        · exact h.obj o ho
        · rw [List.mem_singleton.1 ho]
          exact ⟨by simp, (goodB_iff l).1 hg⟩
    · exact h
  · exact h
theorem levelL_good {th : Thr} (h : GoodT th) (c n : Int) : GoodT (levelL th c n).1 := by
  unfold levelL
  split
  · rename_i he
    split
    · refine ⟨h.sorted, h.own, h.text, h.objs, h.obj, h.mails, h.mail, ?_⟩
      show goodL (setL th.label c n)
      unfold setE at he
      split at he
      · cases he
      · rename_i hb
        split at he
        · cases he
        · rename_i h8
          have hb2 : setB th.label c n = true := by simpa using hb
          unfold setB at hb2
          simp only [Bool.and_eq_true] at hb2
          exact good_setL h.label hb2.1.2 hb2.2 (by omega)
    · exact h
  · exact h
theorem putO_good {th : Thr} (h : GoodT th) (n : Int) {x : List UInt8} (hx : x.length ≤ 64) : GoodT (putO th n x) := by
  refine ⟨h.sorted, h.own, h.text, by simpa [putO] using h.objs, fun o ho => ?_, h.mails, h.mail, h.label⟩
  unfold putO at ho
  simp only at ho
  obtain ⟨i, hi, e⟩ := List.mem_iff_getElem.1 ho
  rw [List.getElem_modify] at e
  have hi2 : i < th.objs.length := by simpa using hi
  have hold := h.obj th.objs[i] (List.getElem_mem hi2)
  split at e
  · rw [← e]; exact ⟨hx, hold.2⟩
  · rw [← e]; exact hold
theorem boxL_good {th : Thr} (h : GoodT th) (m : Mal) : GoodT (boxL th m) := by
  unfold boxL
  split
  · rename_i g
    refine ⟨h.sorted, h.own, h.text, h.objs, h.obj, by simp; omega, fun x hx => ?_, h.label⟩
    rcases List.mem_append.1 hx with hx | hx
    · exact h.mail x hx
    · rw [List.mem_singleton.1 hx]; exact g.1
  · exact h
theorem text_good {th : Thr} (h : GoodT th) (x : List UInt8) : GoodT { th with text := lastL x } := ⟨h.sorted, h.own, lastL_len _, h.objs, h.obj, h.mails, h.mail, h.label⟩

theorem putL_good {K : Ker} (h : GoodK K) (th : Thr) (c : Cal) : GoodK (putL K th c) := by
  unfold putL
  split
  · rename_i u o hu _
    split
    · obtain ⟨n, _, hn, rfl⟩ := getT_some hu
      exact h.set _ (putO_good (h.ths _ (List.getElem_mem hn)) _ (lastL_len _))
    · exact h
  · exact h
theorem getL_good {K : Ker} (h : GoodK K) (t : Int) {th : Thr} (ht : GoodT th) (c : Cal) : GoodK (getL K t th c).1 := by
  unfold getL
  split
  · exact h
  · split
    · exact h.set _ (text_good ht _)
    · exact h
theorem categoryL_good {K : Ker} (h : GoodK K) (t : Int) {th : Thr} (ht : GoodT th) : GoodK (categoryL K t th).1 := by
  unfold categoryL
  split
  · exact h
  · rename_i hm
    split
    · have hk := h.set t.toNat (th := { th with own := (ownL th.own (K.host * 20 + K.made)).2 }) ⟨ownL_sorted ht.sorted _, ownL_len ht.own _, ht.text, ht.objs, ht.obj, ht.mails, ht.mail, ht.label⟩
      have := h.made
      exact ⟨hk.four, hk.host, ⟨by show 0 ≤ K.made + 1; omega, by show K.made + 1 ≤ 20; omega⟩, hk.ths⟩
    · exact h
theorem callT_good {K : Ker} (h : GoodK K) (t : Int) {th : Thr} (ht : GoodT th) (c : Cal) : GoodK (callT K t th c).1 := by
  unfold callT
  split
  · exact h
  · split
    · exact categoryL_good h t ht
    · split
      · exact h.set _ (objectL_good ht _)
      · split
        · exact putL_good h th c
        · split
          · exact getL_good h t ht c
          · split
            · exact h.set _ (levelL_good ht _ _)
            · split
              · exact h.set _ (takeL_good _ ht ht.mails ht.mail)
              · split
                · exact h.set _ (text_good ht _)
                · split
                  · exact h
                  · exact h
theorem callL_good {K : Ker} (h : GoodK K) (t : Int) (c : Cal) : GoodK (callL K t c).1 := by
  unfold callL
  split
  · exact h
  · rename_i th hth
    obtain ⟨n, _, hn, rfl⟩ := getT_some hth
    exact callT_good h t (h.ths _ (List.getElem_mem hn)) c
theorem deliverL_good {K : Ker} (h : GoodK K) (t : Int) (m : Mal) : GoodK (deliverL K t m) := by
  unfold deliverL
  split
  · exact h
  · rename_i th hth
    obtain ⟨n, _, hn, rfl⟩ := getT_some hth
    exact h.set _ (boxL_good (h.ths _ (List.getElem_mem hn)) m)
end Go.Proofs.Parclose

namespace Go.Proofs.Parclose

def thrOf (K : Ker) (t : Int) : Thr := (getT K t).getD zeroThr
theorem thrOf_nat {K : Ker} {n : Nat} (h : n < K.ths.length) : thrOf K n = K.ths[n] := by unfold thrOf; rw [getT_nat h]; rfl
theorem thrOf_some {K : Ker} {t : Int} {th : Thr} (h : getT K t = some th) : thrOf K t = th := by unfold thrOf; rw [h]; rfl
theorem getT_set {K K' : Ker} {i : Nat} (hi : i < K.ths.length) {th : Thr} (h : K'.ths = K.ths.set i th) (u : Int) : getT K' u = if u = i then some th else getT K u := by
  unfold getT
  by_cases h0 : 0 ≤ u
  · rw [if_pos h0, if_pos h0, h]
    by_cases e : u = i
    · subst e
      rw [if_pos rfl, Int.toNat_natCast, List.getElem?_set_self hi]
    · rw [if_neg e, List.getElem?_set_ne (by omega)]
  · rw [if_neg h0, if_neg h0, if_neg (by omega)]
theorem thrOf_set {K K' : Ker} {i : Nat} (hi : i < K.ths.length) {th : Thr} (h : K'.ths = K.ths.set i th) (u : Int) : thrOf K' u = if u = i then th else thrOf K u := by
  unfold thrOf
  rw [getT_set hi h]
  split <;> rfl

/-- a step that moves the caller alone -/
structure SelfStep (K : Ker) (th th2 : Thr) (c : Cal) (r : Rep) : Prop where
  label : th2.label = th.label ∨ (c.kind = 5 ∧ r.code = 0 ∧ flowsL th.label th2.label th.own = true)
  own : ∀ x ∈ th.own, x ∈ th2.own
  objs : th2.objs = th.objs ∨ ∃ o, th2.objs = th.objs ++ [o]
  text : th2.text = th.text ∨ c.kind = 9 ∨ (c.kind = 7 ∧ r.code = 0) ∨ (c.kind = 4 ∧ r.code = 0 ∧ th2.objs = th.objs ∧ ∃ o, objAt K c.t c.n = some o ∧ flowsL o.label th.label th.own = true)
theorem SelfStep.refl (K : Ker) (th : Thr) (c : Cal) (r : Rep) : SelfStep K th th c r := ⟨.inl rfl, fun _ h => h, .inl rfl, .inl rfl⟩

theorem insL_mem (l : List Int) (c : Int) : ∀ x ∈ l, x ∈ insL l c := fun x hx => by
  unfold insL
  rw [← List.take_append_drop (l.countP (· < c)) l] at hx
  rcases List.mem_append.1 hx with h | h
  · exact List.mem_append_left _ h
  · exact List.mem_append_right _ (List.mem_cons_of_mem _ h)
theorem ownL_mem (l : List Int) (c : Int) : ∀ x ∈ l, x ∈ (ownL l c).2 := fun x hx => by
  unfold ownL
  split
  · exact hx
  · split
    · exact hx
    · exact insL_mem l c x hx
theorem grantL_mem (g : List Int) : ∀ (l : List Int), ∀ x ∈ l, x ∈ grantL g l := by
  induction g with
  | nil => exact fun _ _ h => h
  | cons c r ih =>
    intro l x hx
    rw [grantL_cons]
    split
    · exact ih _ x (ownL_mem l c x hx)
    · exact hx

theorem takeL_self (K : Ker) (th : Thr) (c : Cal) (hk : c.kind = 7) (ms : List Mal) : SelfStep K th (takeL th ms).1 c (takeL th ms).2 := by
  induction ms with
  | nil => exact ⟨.inl rfl, fun _ h => h, .inl rfl, .inl rfl⟩
  | cons m r ih =>
    unfold takeL
    split
    · exact ⟨.inl rfl, grantL_mem _ _, .inl rfl, .inr (.inr (.inl ⟨hk, rfl⟩))⟩
    · exact ih

/-- what a call of thread n moves: itself alone, or one object that it may write -/
theorem call_moves {K : Ker} {n : Nat} (hn : n < K.ths.length) (c : Cal) :
    (∃ th2, (callL K n c).1.ths = K.ths.set n th2 ∧ SelfStep K K.ths[n] th2 c (callL K n c).2) ∨
    (c.kind = 3 ∧ ∃ (u : Nat) (hu : u < K.ths.length) (i : Nat) (hi : i < K.ths[u].objs.length) (x : List UInt8), (callL K n c).1.ths = K.ths.set u (putO K.ths[u] i x) ∧ flowsL K.ths[n].label K.ths[u].objs[i].label K.ths[n].own = true) := by
  have e : callL K n c = callT K n K.ths[n] c := by unfold callL; rw [getT_nat hn]
  have same : ∀ r, ∃ th2, K.ths = K.ths.set n th2 ∧ SelfStep K K.ths[n] th2 c r := fun r => ⟨K.ths[n], by rw [List.set_getElem_self], SelfStep.refl _ _ _ _⟩
  rw [e]
  unfold callT
  by_cases hx : 64 < c.text.length
  · rw [if_pos hx]; exact .inl (same _)
  rw [if_neg hx]
  by_cases k1 : c.kind = 1
  · rw [if_pos k1]
    left
    unfold categoryL
    split
    · exact same _
    · split
      · exact ⟨{ K.ths[n] with own := (ownL K.ths[n].own (K.host * 20 + K.made)).2 }, by simp [setT], .inl rfl, ownL_mem _ _, .inl rfl, .inl rfl⟩
      · exact same _
  rw [if_neg k1]
  by_cases k2 : c.kind = 2
  · rw [if_pos k2]
    left
    refine ⟨(objectL K.ths[n] c.label).1, by simp [setT], ?_⟩
    show SelfStep _ _ _ _ (objectL K.ths[n] c.label).2
    unfold objectL
    split
    · split
      · split
        · exact SelfStep.refl _ _ _ _
        · exact ⟨.inl rfl, fun _ h => h, .inr ⟨_, rfl⟩, .inl rfl⟩
      · exact SelfStep.refl _ _ _ _
    · exact SelfStep.refl _ _ _ _
  rw [if_neg k2]
  by_cases k3 : c.kind = 3
  · rw [if_pos k3]
    unfold putL
    split
    · rename_i u o hu ho
      split
      · rename_i hf
        right
        obtain ⟨m, em, hm, rfl⟩ := getT_some hu
        unfold objAt at ho
        rw [hu] at ho
        simp only at ho
        split at ho
        · rename_i h0
          obtain ⟨hi, eo⟩ := List.getElem?_eq_some_iff.1 ho
          subst eo
          refine ⟨k3, m, hm, c.n.toNat, hi, lastL (K.ths[n].text ++ c.text), ?_, hf⟩
          show (setT K c.t _).ths = _
          rw [em, setT_nat, show ((c.n.toNat : Nat) : Int) = c.n by omega]
        · cases ho
      · exact .inl (same _)
    · exact .inl (same _)
  rw [if_neg k3]
  left
  by_cases k4 : c.kind = 4
  · rw [if_pos k4]
    unfold getL
    split
    · exact same _
    · rename_i o ho
      split
      · rename_i hf
        exact ⟨{ K.ths[n] with text := lastL (K.ths[n].text ++ o.text) }, by simp [setT], .inl rfl, fun _ h => h, .inl rfl, .inr (.inr (.inr ⟨k4, rfl, rfl, o, ho, hf⟩))⟩
      · exact same _
  rw [if_neg k4]
  by_cases k5 : c.kind = 5
  · rw [if_pos k5]
    refine ⟨(levelL K.ths[n] c.c c.n).1, by simp [setT], ?_⟩
    unfold levelL
    split
    · split
      · rename_i hf
        exact ⟨.inr ⟨k5, rfl, hf⟩, fun _ h => h, .inl rfl, .inl rfl⟩
      · exact SelfStep.refl _ _ _ _
    · exact SelfStep.refl _ _ _ _
  rw [if_neg k5]
  by_cases k7 : c.kind = 7
  · rw [if_pos k7]
    exact ⟨(takeL K.ths[n] K.ths[n].mails).1, by simp [setT], takeL_self K _ c k7 _⟩
  rw [if_neg k7]
  by_cases k9 : c.kind = 9
  · rw [if_pos k9]
    exact ⟨{ K.ths[n] with text := lastL c.text }, by simp [setT], .inl rfl, fun _ h => h, .inl rfl, .inr (.inl k9)⟩
  rw [if_neg k9]
  by_cases k10 : c.kind = 10
  · rw [if_pos k10]; exact same _
  rw [if_neg k10]
  exact same _

/-- what mail that comes to thread n moves -/
theorem deliver_moves {K : Ker} {n : Nat} (hn : n < K.ths.length) (m : Mal) : (deliverL K n m).ths = K.ths.set n (boxL K.ths[n] m) := by
  unfold deliverL
  rw [getT_nat hn]
  show (setT K n _).ths = _
  rw [setT_nat]
end Go.Proofs.Parclose
