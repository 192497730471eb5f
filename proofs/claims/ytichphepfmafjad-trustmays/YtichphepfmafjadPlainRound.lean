/- Plain facts on rounds over a list of certs: four of them reach all who are trusted; no program is named here. -/
import Derived.Test.YtichphepfmafjadPlainTrust
namespace Go.Proofs.Parclose

def addH (B : Int → Bool) (x : Int) : Int → Bool := fun h => B h || decide (h = x)
theorem addH_same {B : Int → Bool} {x : Int} (h : B x = true) : addH B x = B := by
  funext g
  unfold addH
  by_cases e : g = x
  · subst e; rw [h]; rfl
  · simp [e]
def cnt (B : Int → Bool) : Nat := (B 0).toNat + (B 1).toNat + (B 2).toNat + (B 3).toNat
theorem toNat_le1 (b : Bool) : b.toNat ≤ 1 := by cases b <;> decide
theorem cnt_le (B : Int → Bool) : cnt B ≤ 4 := by
  unfold cnt
  have := toNat_le1 (B 0)
  have := toNat_le1 (B 1)
  have := toNat_le1 (B 2)
  have := toNat_le1 (B 3)
  omega
theorem cnt_add {B : Int → Bool} {x : Int} (h1 : 0 ≤ x) (h2 : x < 4) (hb : B x = false) : cnt B < cnt (addH B x) := by
  have : x = 0 ∨ x = 1 ∨ x = 2 ∨ x = 3 := by omega
  unfold cnt addH
  rcases this with rfl | rfl | rfl | rfl <;> simp [hb]
theorem cnt_mono {B : Int → Bool} {x : Int} (h1 : 0 ≤ x) (h2 : x < 4) : cnt B ≤ cnt (addH B x) := by
  cases hb : B x with
  | true => rw [addH_same hb]; exact Nat.le_refl _
  | false => exact Nat.le_of_lt (cnt_add h1 h2 hb)

/-- whom the marked name is marked -/
def Closed (l : List Crt) (c now : Int) (B : Int → Bool) : Prop := ∀ x ∈ l, x.c = c → B x.b = true → now ≤ x.u → B x.h = true

/-- the marks ahead of round r -/
structure Marks (l : List Crt) (c now : Int) (B : Int → Bool) (r : Nat) : Prop where
  home : B (c / 20) = true
  real : ∀ h, 0 ≤ h → h < 4 → B h = true → Reach l c now h
  far : Closed l c now B ∨ r + 1 ≤ cnt B

theorem Marks.done {l : List Crt} {c now : Int} {B : Int → Bool} (m : Marks l c now B 4) (hc : catB c = true) (hg : goodCs l) (h : Int) (h1 : 0 ≤ h) (h2 : h < 4) : B h = trB l c now h := by
  have hc' : 0 ≤ c ∧ c < 80 := of_decide_eq_true hc
  have hcl : Closed l c now B := m.far.elim id fun h => by have := cnt_le B; omega
  have hall : ∀ g, Reach l c now g → B g = true := by
    intro g hr
    induction hr with
    | home => exact m.home
    | step _ hx hxc hxu ih => exact hcl _ hx hxc ih hxu
  cases hb : B h with
  | true => exact ((trB_iff _ _ _ _).2 ⟨hc, hg, m.real h h1 h2 hb⟩).symm
  | false =>
    cases ht : trB l c now h with
    | false => rfl
    | true =>
      have := hall h ((trB_iff _ _ _ _).1 ht).2.2
      rw [hb] at this
      cases this

/-- in the midst of round r: the first m certs are asked -/
structure Mid (l : List Crt) (c now : Int) (B0 B : Int → Bool) (m : Nat) : Prop where
  home : B (c / 20) = true
  real : ∀ h, 0 ≤ h → h < 4 → B h = true → Reach l c now h
  side : (B = B0 ∧ ∀ i (_ : i < m) (hi : i < l.length), l[i].c = c → B l[i].b = true → now ≤ l[i].u → B l[i].h = true) ∨ (¬ Closed l c now B0 ∧ cnt B0 < cnt B)

theorem Marks.mid {l : List Crt} {c now : Int} {B : Int → Bool} {r : Nat} (m : Marks l c now B r) : Mid l c now B B 0 := ⟨m.home, m.real, Or.inl ⟨rfl, fun _ hi => absurd hi (Nat.not_lt_zero _)⟩⟩
theorem Mid.pass {l : List Crt} {c now : Int} {B0 B : Int → Bool} {m : Nat} (h : Mid l c now B0 B m) (hm : m < l.length) (hn : ¬ (l[m].c = c ∧ B l[m].b = true ∧ now ≤ l[m].u)) : Mid l c now B0 B (m + 1) := by
  refine ⟨h.home, h.real, h.side.imp (fun ⟨e, g⟩ => ⟨e, fun i hi hl h1 h2 h3 => ?_⟩) id⟩
  by_cases e : i = m
  · subst e; exact absurd ⟨h1, h2, h3⟩ hn
  · exact g i (by omega) hl h1 h2 h3
theorem Mid.put {l : List Crt} {c now : Int} {B0 B : Int → Bool} {m : Nat} (h : Mid l c now B0 B m) (hm : m < l.length) (h1 : l[m].c = c) (h2 : B l[m].b = true) (h3 : now ≤ l[m].u) (hb : 0 ≤ l[m].b ∧ l[m].b < 4) (hh : 0 ≤ l[m].h ∧ l[m].h < 4) : Mid l c now B0 (addH B l[m].h) (m + 1) := by
  refine ⟨by unfold addH; rw [h.home]; rfl, fun g g1 g2 gb => ?_, ?_⟩
  · by_cases e : g = l[m].h
    · rw [e]; exact Reach.step (h.real _ hb.1 hb.2 h2) (List.getElem_mem hm) h1 h3
    · exact h.real g g1 g2 (by unfold addH at gb; simpa [e] using gb)
  · cases hc : B l[m].h with
    | true =>
      rw [addH_same hc]
      refine h.side.imp (fun ⟨e, g⟩ => ⟨e, fun i hi hl k1 k2 k3 => ?_⟩) id
      by_cases e : i = m
      · subst e; exact hc
      · exact g i (by omega) hl k1 k2 k3
    | false =>
      have hlt := cnt_add (B := B) hh.1 hh.2 hc
      rcases h.side with ⟨e, _⟩ | ⟨g1, g2⟩
      · subst e
        exact Or.inr ⟨fun k => (by have := k _ (List.getElem_mem hm) h1 h2 h3; rw [hc] at this; cases this), hlt⟩
      · exact Or.inr ⟨g1, by omega⟩
theorem Mid.next {l : List Crt} {c now : Int} {B0 B : Int → Bool} {r : Nat} (h : Mid l c now B0 B l.length) (m : Marks l c now B0 r) : Marks l c now B (r + 1) := by
  refine ⟨h.home, h.real, ?_⟩
  rcases h.side with ⟨e, g⟩ | ⟨g1, g2⟩
  · refine Or.inl fun x hx h1 h2 h3 => ?_
    obtain ⟨i, hi, rfl⟩ := List.mem_iff_getElem.1 hx
    exact g i hi hi h1 h2 h3
  · refine Or.inr ?_
    rcases m.far with k | k
    · exact absurd k g1
    · omega
theorem Marks.start {l : List Crt} {c now : Int} (hc : catB c = true) : Marks l c now (addH (fun _ => false) (c / 20)) 0 := by
  have hc' : 0 ≤ c ∧ c < 80 := of_decide_eq_true hc
  refine ⟨by simp [addH], fun h _ _ hb => ?_, Or.inr ?_⟩
  · have : h = c / 20 := by simpa [addH] using hb
    rw [this]; exact .home
  · have := cnt_add (B := fun _ => false) (x := c / 20) (by omega) (by omega) rfl
    omega
end Go.Proofs.Parclose
