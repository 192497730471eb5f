/- Plain facts on a label that is made of levels by category, in whatever order they come; no program is named here. -/
import Derived.Test.YtcnlfglkfoaocaaPlainSet
namespace Go.Proofs.Parclose

/-- the label holds the levels of those categories that have come -/
structure Made (lev : Int → Option Int) (come : Int → Bool) (out : List (Int × Int)) : Prop where
  canon : canonL out
  at_ : ∀ c, atL out c = if come c then (lev c).getD 1 else 1

theorem made_start (lev : Int → Option Int) (come : Int → Bool) (h : ∀ c, come c = true → lev c = none) : Made lev come [] :=
  ⟨⟨fun x hx => (by cases hx), List.Pairwise.nil⟩, fun c => by
    by_cases hc : come c = true
    · rw [if_pos hc, h c hc]; rfl
    · rw [if_neg hc]; rfl⟩

theorem Made.plain {lev : Int → Option Int} {come come' : Int → Bool} {out : List (Int × Int)} (h : Made lev come out) {x : Int} (hl : lev x = some 1) (hx : come x = false) (hc : ∀ c, come' c = (come c || decide (c = x))) : Made lev come' out :=
  ⟨h.canon, fun c => by
    rw [h.at_ c, hc c]
    by_cases e : c = x
    · subst e; simp [hx, hl]
    · simp [e]⟩

theorem Made.put {lev : Int → Option Int} {come come' : Int → Bool} {out : List (Int × Int)} (h : Made lev come out) {x n : Int} (hl : lev x = some n) (hc : ∀ c, come' c = (come c || decide (c = x))) : Made lev come' (setL out x n) :=
  ⟨canon_setL h.canon x n, fun c => by
    rw [atL_setL, h.at_ c, hc c]
    by_cases e : c = x
    · subst e; simp [hl]
    · simp [e]⟩

/-- a category that has no level in a label does not stand there -/
theorem canon_absent {out : List (Int × Int)} (h : canonL out) {x : Int} (hx : atL out x = 1) : ∀ m (hm : m < out.length), out[m].1 ≠ x := by
  intro m hm e
  have h1 := h.1 out[m] (List.getElem_mem hm)
  have h2 := atL_some out x m hm (fun j hj => by
    have := (List.pairwise_iff_getElem.1 h.2) j m (by omega) hm hj
    omega) e
  omega

/-- where a new category goes -/
theorem canon_spot {out : List (Int × Int)} (h : canonL out) {x : Int} (hx : atL out x = 1) {k : Nat} (hk : k ≤ out.length) (hlo : ∀ m (_ : m < k) (hm : m < out.length), out[m].1 < x) (hhi : ∀ hm : k < out.length, x ≤ out[k].1) : Spot out x k false :=
  ⟨hk, hlo, fun m h1 hm => by
    have h2 := hhi (by omega)
    by_cases e : m = k
    · subst e; exact h2
    · have := (List.pairwise_iff_getElem.1 h.2) k m (by omega) hm (by omega)
      omega, fun h => (by cases h), fun _ hm => canon_absent h hx k hm⟩

theorem spot_set {out : List (Int × Int)} (h : canonL out) {x n : Int} (hn : n ≠ 1) {k : Nat} (s : Spot out x k false) : out.take k ++ (x, n) :: out.drop k = setL out x n := by
  rw [s.front, s.behind_no h.2]
  unfold setL newL
  rw [if_neg hn]
  simp

/-- when all have come the label is pinned -/
theorem Made.done {lev : Int → Option Int} {come : Int → Bool} {out want : List (Int × Int)} (h : Made lev come out) (hall : ∀ c, come c = true) (hw : canonL want) (hat : ∀ c, atL want c = (lev c).getD 1) : out = want :=
  canon_ext h.canon hw fun c => by rw [h.at_ c, if_pos (hall c), hat c]
end Go.Proofs.Parclose
