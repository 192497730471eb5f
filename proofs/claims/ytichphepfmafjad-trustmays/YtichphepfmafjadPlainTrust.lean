/- Plain facts on lists of certs: which are good, who is trusted with a category, with mail, and what is shown; no program is named here. -/
import Derived.Test.YtichphepfmafjadPlainWire
namespace Go.Proofs.Parclose

theorem Crt.ext4 {x y : Crt} (h1 : x.c = y.c) (h2 : x.b = y.b) (h3 : x.h = y.h) (h4 : x.u = y.u) : x = y := by
  cases x; cases y
  simp_all

instance : DecidableEq Crt := fun x y =>
  if h : x.c = y.c ∧ x.b = y.b ∧ x.h = y.h ∧ x.u = y.u then isTrue (Crt.ext4 h.1 h.2.1 h.2.2.1 h.2.2.2) else isFalse fun e => h (by subst e; exact ⟨rfl, rfl, rfl, rfl⟩)

/-- what == says of two certs -/
def sameC (x y : Crt) : Bool := x.c == y.c && x.b == y.b && x.h == y.h && x.u == y.u
theorem sameC_iff (x y : Crt) : sameC x y = true ↔ x = y := by
  unfold sameC
  simp only [Bool.and_eq_true, beq_iff_eq]
  constructor
  · rintro ⟨⟨⟨h1, h2⟩, h3⟩, h4⟩
    exact Crt.ext4 h1 h2 h3 h4
  · rintro rfl
    exact ⟨⟨⟨rfl, rfl⟩, rfl⟩, rfl⟩

/-- a good list of certs -/
def goodCs (l : List Crt) : Prop := l.length ≤ 24 ∧ (∀ x ∈ l, certB x = true) ∧ l.Nodup
instance (l : List Crt) : Decidable (goodCs l) := by unfold goodCs; infer_instance
def csB (l : List Crt) : Bool := decide (goodCs l)

theorem csB_long {l : List Crt} (h : 24 < l.length) : csB l = false := decide_eq_false fun g => by have := g.1; omega
theorem csB_bad {l : List Crt} {k : Nat} (hk : k < l.length) (h : certB l[k] = false) : csB l = false := decide_eq_false fun g => by
  have := g.2.1 l[k] (List.getElem_mem hk)
  rw [h] at this
  cases this
theorem csB_twice {l : List Crt} {k : Nat} (hk : k < l.length) (h : l[k] ∈ l.take k) : csB l = false := decide_eq_false fun g => by
  obtain ⟨j, hj, e⟩ := List.mem_iff_getElem.1 h
  rw [List.length_take] at hj
  rw [List.getElem_take] at e
  exact List.pairwise_iff_getElem.1 g.2.2 j k (by omega) hk (by omega) e
theorem csB_all {l : List Crt} (h24 : l.length ≤ 24) (h1 : ∀ j (hj : j < l.length), certB l[j] = true) (h2 : ∀ j (hj : j < l.length), l[j] ∉ l.take j) : csB l = true := decide_eq_true ⟨h24, fun x hx => by
  obtain ⟨j, hj, rfl⟩ := List.mem_iff_getElem.1 hx
  exact h1 j hj, by
  rw [List.nodup_iff_pairwise_ne, List.pairwise_iff_getElem]
  intro i j hi hj hij e
  refine h2 j hj ?_
  rw [← e]
  exact List.mem_iff_getElem.2 ⟨i, by rw [List.length_take]; omega, by rw [List.getElem_take]⟩⟩

/-- with a cert more: the list, and the errors number -/
def addL (l : List Crt) (x : Crt) : List Crt × Int :=
  if goodCs l ∧ certB x = true then (if x ∈ l then (l, 0) else if 24 ≤ l.length then ([], 5) else (l ++ [x], 0)) else ([], 2)

theorem addL_good {l : List Crt} {x : Crt} (h : (addL l x).2 = 0) : goodCs l ∧ certB x = true ∧ goodCs (addL l x).1 ∧ x ∈ (addL l x).1 ∧ (∀ y, y ∈ (addL l x).1 ↔ y ∈ l ∨ y = x) := by
  unfold addL at h ⊢
  split at h
  · rename_i hg
    rw [if_pos hg]
    refine ⟨hg.1, hg.2, ?_⟩
    split at h
    · rename_i hx
      rw [if_pos hx]
      exact ⟨hg.1, hx, fun y => ⟨Or.inl, fun h => h.elim id fun e => by rw [e]; exact hx⟩⟩
    · rename_i hx
      rw [if_neg hx]
      split at h
      · cases h
      · rename_i hl
        rw [if_neg hl]
        refine ⟨⟨by simp; omega, fun y hy => ?_, ?_⟩, by simp, fun y => by simp⟩
        · rcases List.mem_append.1 hy with hy | hy
          · exact hg.1.2.1 y hy
          · rw [List.mem_singleton.1 hy]; exact hg.2
        · rw [List.nodup_append]
          refine ⟨hg.1.2.2, by simp, fun a ha b hb => ?_⟩
          rw [List.mem_singleton.1 hb]
          rintro rfl
          exact hx ha
  · cases h
theorem addL_len {l : List Crt} {x : Crt} (h : (addL l x).2 ≠ 0) : (addL l x).1 = [] := by
  unfold addL at h ⊢
  split
  · split
    · rename_i h1 h2; simp [h1, h2] at h
    · split
      · rfl
      · rename_i h1 h2 h3; simp [h1, h2, h3] at h
  · rfl
theorem addL_again {l : List Crt} {x : Crt} (h : (addL l x).2 = 0) : addL (addL l x).1 x = ((addL l x).1, 0) := by
  obtain ⟨_, h2, h3, h4, _⟩ := addL_good h
  show (if goodCs (addL l x).1 ∧ certB x = true then _ else _) = _
  rw [if_pos ⟨h3, h2⟩, if_pos h4]

/-- who is trusted: the one who made it, and whom one of these names -/
inductive Reach (l : List Crt) (c now : Int) : Int → Prop
  | home : Reach l c now (c / 20)
  | step {x : Crt} : Reach l c now x.b → x ∈ l → x.c = c → now ≤ x.u → Reach l c now x.h

theorem Reach.more {l l' : List Crt} {c now h : Int} (hr : Reach l c now h) (hl : ∀ x ∈ l, x.c = c → now ≤ x.u → x ∈ l') : Reach l' c now h := by
  induction hr with
  | home => exact .home
  | step h1 h2 h3 h4 ih => exact .step ih (hl _ h2 h3 h4) h3 h4
theorem Reach.earlier {l : List Crt} {c now n : Int} {h : Int} (hr : Reach l c now h) (hn : n ≤ now) : Reach l c n h := by
  induction hr with
  | home => exact .home
  | step h1 h2 h3 h4 ih => exact .step ih h2 h3 (by omega)

def Trusts (l : List Crt) (c now h : Int) : Prop := catB c = true ∧ goodCs l ∧ Reach l c now h
open Classical in
noncomputable def trB (l : List Crt) (c now h : Int) : Bool := decide (Trusts l c now h)
theorem trB_iff (l : List Crt) (c now h : Int) : trB l c now h = true ↔ Trusts l c now h := by unfold trB; exact @decide_eq_true_iff _ (_)
theorem trB_nocat {l : List Crt} {c now h : Int} (hc : catB c = false) : trB l c now h = false := by
  rw [← Bool.not_eq_true, trB_iff]
  rintro ⟨h1, _⟩
  rw [hc] at h1
  cases h1
theorem trB_bad {l : List Crt} {c now h : Int} (hc : csB l = false) : trB l c now h = false := by
  rw [← Bool.not_eq_true, trB_iff]
  rintro ⟨_, h1, _⟩
  rw [show csB l = true from decide_eq_true h1] at hc
  cases hc

/-- while the row is gone through: the hosts that are marked, the row, how many were asked -/
structure Work (l : List Crt) (c now : Int) (b : Int → Bool) (row : List Int) : Prop where
  home : b (c / 20) = true
  mark : ∀ h, 0 ≤ h → h < 4 → (b h = true ↔ h ∈ row)
  host : ∀ h ∈ row, 0 ≤ h ∧ h < 4
  once : row.Nodup
  real : ∀ h ∈ row, Reach l c now h

theorem count_four (row : List Int) (h2 : ∀ h ∈ row, 0 ≤ h ∧ h < 4) : row.length = row.count 0 + row.count 1 + row.count 2 + row.count 3 := by
  induction row with
  | nil => rfl
  | cons x r ih =>
    have h := ih fun y hy => h2 y (List.mem_cons_of_mem _ hy)
    have hx := h2 x List.mem_cons_self
    have : x = 0 ∨ x = 1 ∨ x = 2 ∨ x = 3 := by omega
    rcases this with rfl | rfl | rfl | rfl <;> simp <;> omega
theorem nodup_count {row : List Int} (h1 : row.Nodup) (a : Int) : row.count a ≤ 1 := by
  induction row with
  | nil => simp
  | cons x r ih =>
    have h := List.nodup_cons.1 h1
    have := ih h.2
    rw [List.count_cons]
    by_cases e : x = a
    · subst e
      have : r.count x = 0 := List.count_eq_zero.2 h.1
      simp [this]
    · simp [e]; omega
theorem nodup_four {row : List Int} (h1 : row.Nodup) (h2 : ∀ h ∈ row, 0 ≤ h ∧ h < 4) : row.length ≤ 4 := by
  have h := count_four row h2
  have := nodup_count h1 0
  have := nodup_count h1 1
  have := nodup_count h1 2
  have := nodup_count h1 3
  omega

theorem Work.four {l : List Crt} {c now : Int} {b : Int → Bool} {row : List Int} (h : Work l c now b row) : row.length ≤ 4 := nodup_four h.once h.host

/-- the cert x is asked already: whom it names is marked -/
def Asked (c now : Int) (b : Int → Bool) (h : Int) (x : Crt) : Prop := x.c = c → x.b = h → now ≤ x.u → b x.h = true

theorem Work.start {l : List Crt} {c now : Int} (hc : catB c = true) (b : Int → Bool) (hb : ∀ h, 0 ≤ h → h < 4 → b h = decide (h = c / 20)) : Work l c now b [c / 20] := by
  have hc' : 0 ≤ c ∧ c < 80 := of_decide_eq_true hc
  have h1 : 0 ≤ c / 20 ∧ c / 20 < 4 := by omega
  refine ⟨by rw [hb _ h1.1 h1.2]; simp, fun h g1 g2 => by rw [hb h g1 g2]; simp, fun h hh => ?_, by simp, fun h hh => ?_⟩
  · rw [List.mem_singleton.1 hh]; exact h1
  · rw [List.mem_singleton.1 hh]; exact .home

theorem Work.put {l : List Crt} {c now : Int} {b b' : Int → Bool} {row : List Int} (w : Work l c now b row) {x : Crt} (hx : x ∈ l) (hc : x.c = c) (hr : x.b ∈ row) (hu : now ≤ x.u) (hb : b x.h = false) (hh : 0 ≤ x.h ∧ x.h < 4)
    (hb' : ∀ h, 0 ≤ h → h < 4 → b' h = (b h || decide (h = x.h))) (hc2 : 0 ≤ c / 20 ∧ c / 20 < 4) : Work l c now b' (row ++ [x.h]) := by
  have hn : x.h ∉ row := fun h => by
    have := (w.mark x.h hh.1 hh.2).2 h
    rw [hb] at this
    cases this
  refine ⟨by rw [hb' _ hc2.1 hc2.2, w.home]; rfl, fun h g1 g2 => ?_, fun h hh' => ?_, ?_, fun h hh' => ?_⟩
  · rw [hb' h g1 g2, Bool.or_eq_true, decide_eq_true_iff, w.mark h g1 g2, List.mem_append, List.mem_singleton]
  · rcases List.mem_append.1 hh' with g | g
    · exact w.host h g
    · rw [List.mem_singleton.1 g]; exact hh
  · rw [List.nodup_append]
    refine ⟨w.once, by simp, fun a ha b hb2 => ?_⟩
    rw [List.mem_singleton.1 hb2]
    rintro rfl
    exact hn ha
  · rcases List.mem_append.1 hh' with g | g
    · exact w.real h g
    · rw [List.mem_singleton.1 g]; exact .step (w.real _ hr) hx hc hu

/-- when all of the row are asked, the marks say who is trusted -/
theorem Work.done {l : List Crt} {c now : Int} {b : Int → Bool} {row : List Int} (w : Work l c now b row) (hc : catB c = true) (hg : goodCs l) (ha : ∀ h ∈ row, ∀ x ∈ l, Asked c now b h x) (h : Int) (h1 : 0 ≤ h) (h2 : h < 4) : b h = trB l c now h := by
  have hc' : 0 ≤ c ∧ c < 80 := of_decide_eq_true hc
  have hall : ∀ g, Reach l c now g → (0 ≤ g ∧ g < 4) ∧ b g = true := by
    intro g hr
    induction hr with
    | home => exact ⟨by omega, w.home⟩
    | @step x _ hx hxc hxu ih =>
      have hcx := hg.2.1 x hx
      unfold certB twoB hostB at hcx
      simp only [Bool.and_eq_true, decide_eq_true_iff] at hcx
      exact ⟨hcx.1.2.1.2, ha x.b ((w.mark x.b ih.1.1 ih.1.2).1 ih.2) x hx hxc rfl hxu⟩
  cases hb : b h with
  | true => exact ((trB_iff _ _ _ _).2 ⟨hc, hg, w.real h ((w.mark h h1 h2).1 hb)⟩).symm
  | false =>
    cases ht : trB l c now h with
    | false => rfl
    | true =>
      have := (hall h ((trB_iff _ _ _ _).1 ht).2.2).2
      rw [hb] at this
      cases this

/-- what mail names -/
def namesL (m : Mal) : List Int := Lib.compact ((m.label.map (·.1) ++ m.grants).mergeSort fun x y => decide (x ≤ y))
theorem mem_namesL (m : Mal) (c : Int) : c ∈ namesL m ↔ c ∈ m.label.map (·.1) ∨ c ∈ m.grants := by
  unfold namesL
  rw [mem_compact, List.mem_mergeSort, List.mem_append]
theorem namesL_rises (m : Mal) : (namesL m).Pairwise (· < ·) := by
  unfold namesL Lib.compact
  have hs := List.pairwise_mergeSort (le := fun x y : Int => decide (x ≤ y)) (by intro x y z; simp; omega) (by intro x y; simp; omega) (m.label.map (·.1) ++ m.grants)
  refine compactUpTo_rises _ ?_ _ (by simp)
  intro i j hij hj
  rw [getElem!_pos _ i (by omega), getElem!_pos _ j hj]
  by_cases e : i = j
  · subst e; omega
  · have := (List.pairwise_iff_getElem.1 hs) i j (by simp at hj ⊢; omega) (by simpa using hj) (by omega)
    simpa using this
theorem namesL_length (m : Mal) : (namesL m).length ≤ m.label.length + m.grants.length := by
  unfold namesL Lib.compact Lib.compactUpTo
  have h1 := List.length_filter_le (Lib.keeps ((m.label.map (·.1) ++ m.grants).mergeSort fun x y => decide (x ≤ y)).toArray) (List.range ((m.label.map (·.1) ++ m.grants).mergeSort fun x y => decide (x ≤ y)).length)
  simp at h1 ⊢
  exact h1

noncomputable def mayB (l : List Crt) (h : Int) (m : Mal) (now : Int) : Bool := hostB h && (namesL m).all fun c => trB l c now h
def showL (l : List Crt) (m : Mal) : List Crt := l.filter fun x => decide (x.c ∈ namesL m)

theorem mayB_iff (l : List Crt) (h : Int) (m : Mal) (now : Int) : mayB l h m now = true ↔ hostB h = true ∧ ∀ c ∈ namesL m, Trusts l c now h := by
  unfold mayB
  rw [Bool.and_eq_true, List.all_eq_true]
  simp only [trB_iff]

theorem showL_good {l : List Crt} (hg : goodCs l) (m : Mal) : goodCs (showL l m) :=
  ⟨Nat.le_trans (List.length_filter_le _ _) hg.1, fun x hx => hg.2.1 x (List.mem_filter.1 hx).1, hg.2.2.filter _⟩
/-- what is shown is enough to know -/
theorem show_may {l : List Crt} (hg : goodCs l) (h : Int) (m : Mal) (now : Int) : mayB (showL l m) h m now = mayB l h m now := by
  rw [Bool.eq_iff_iff, mayB_iff, mayB_iff]
  refine and_congr_right fun _ => ⟨fun g c hc => ?_, fun g c hc => ?_⟩
  · obtain ⟨g1, g2, g3⟩ := g c hc
    exact ⟨g1, hg, g3.more fun x hx _ _ => (List.mem_filter.1 hx).1⟩
  · obtain ⟨g1, g2, g3⟩ := g c hc
    exact ⟨g1, showL_good hg m, g3.more fun x hx e _ => List.mem_filter.2 ⟨hx, by rw [e]; exact decide_eq_true hc⟩⟩

/-- a cert more -/
theorem grow_no_fewer {l : List Crt} {x : Crt} {c now h : Int} (ha : (addL l x).2 = 0) (ht : trB l c now h = true) : trB (addL l x).1 c now h = true := by
  obtain ⟨_, _, g3, _, g5⟩ := addL_good ha
  rw [trB_iff] at ht ⊢
  exact ⟨ht.1, g3, ht.2.2.more fun y hy _ _ => (g5 y).2 (Or.inl hy)⟩
theorem grow_other {l : List Crt} {x : Crt} {c now h : Int} (ha : (addL l x).2 = 0) (hx : x.c ≠ c ∨ x.u < now) (ht : trB (addL l x).1 c now h = true) : trB l c now h = true := by
  obtain ⟨g1, _, _, _, g5⟩ := addL_good ha
  rw [trB_iff] at ht ⊢
  refine ⟨ht.1, g1, ht.2.2.more fun y hy e1 e2 => ?_⟩
  rcases (g5 y).1 hy with h1 | h1
  · exact h1
  · subst h1
    rcases hx with h2 | h2
    · exact absurd e1 h2
    · omega
theorem later_no_more {l : List Crt} {c now n h : Int} (hn : now ≤ n) (ht : trB l c n h = true) : trB l c now h = true := by
  rw [trB_iff] at ht ⊢
  exact ⟨ht.1, ht.2.1, ht.2.2.earlier hn⟩
theorem home_trusted {l : List Crt} {c now : Int} (hg : goodCs l) (hc : catB c = true) : trB l c now (c / 20) = true := (trB_iff _ _ _ _).2 ⟨hc, hg, .home⟩

/-- the one cert by which the packages are asked whether they answer at all -/
def oneC : List Crt := [⟨25, 1, 3, 9⟩]
theorem one_good : goodCs oneC := by decide
theorem one_reach {h : Int} (hr : Reach oneC 25 9 h) : h = 1 ∨ h = 3 := by
  induction hr with
  | home => exact Or.inl rfl
  | step _ hx _ _ _ =>
    unfold oneC at hx
    rw [List.mem_singleton.1 hx]
    exact Or.inr rfl
theorem one_1 : trB oneC 25 9 1 = true := (trB_iff _ _ _ _).2 ⟨by decide, one_good, Reach.home⟩
theorem one_3 : trB oneC 25 9 3 = true := (trB_iff _ _ _ _).2 ⟨by decide, one_good, Reach.step (x := ⟨25, 1, 3, 9⟩) Reach.home (by simp [oneC]) rfl (by decide)⟩
theorem one_0 : trB oneC 25 9 0 = false := by
  rw [← Bool.not_eq_true, trB_iff]
  rintro ⟨_, _, h⟩
  rcases one_reach h with h | h <;> cases h
theorem one_2 : trB oneC 25 9 2 = false := by
  rw [← Bool.not_eq_true, trB_iff]
  rintro ⟨_, _, h⟩
  rcases one_reach h with h | h <;> cases h
end Go.Proofs.Parclose
