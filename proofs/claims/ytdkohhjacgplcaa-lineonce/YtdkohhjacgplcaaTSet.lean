/- A set of numbers in a map of one's own. -/
import Derived.Test.YtdkohhjacgplcaaMem
import Derived.Maps.Own
import Derived.Maps.OwnOps
import Derived.Maps.Views
namespace Go.Proofs.Ytdkohhjacgplcaa
open Go.RowKit Go.Proofs.Parclose Go.Maps

theorem lawInt : Keyed Try.prog 3 := int_keyed Try.underlying3

/-- the set D has just the numbers cl -/
def HasOnly (D : DataW Unit) (cl : List Int) : Prop := IsMap D ∧ ∀ kl, Maps.has D kl = true ↔ ∃ c ∈ cl, kl = .int .i64 c

theorem hasOnly_nil : HasOnly (.map []) [] := ⟨isMap_empty, fun kl => by simp [Maps.has]⟩

theorem HasOnly.put {D : DataW Unit} {cl : List Int} (h : HasOnly D cl) (c : Int) (d : DataW Unit) : HasOnly (D.put (.int .i64 c) d) (cl ++ [c]) := by
  refine ⟨h.1.put _ _, fun kl => ?_⟩
  by_cases e : kl = .int .i64 c
  · subst e
    rw [has_put_same (k := .int .i64 c) h.1 trivial]
    simp
  · rw [has_put_other e, h.2 kl]
    constructor
    · rintro ⟨x, hx, e'⟩; exact ⟨x, by simp [hx], e'⟩
    · rintro ⟨x, hx, e'⟩
      simp only [List.mem_append, List.mem_singleton] at hx
      rcases hx with hx | hx
      · exact ⟨x, hx, e'⟩
      · subst hx; exact absurd e' e

/-- the set D has just the numbers cl, and says so -/
def TrueSet (D : DataW Unit) (cl : List Int) : Prop := HasOnly D cl ∧ ∀ c, D.atKey (.int .i64 c) (.lit (.bool false)) = .lit (.bool (decide (c ∈ cl)))
theorem trueSet_nil : TrueSet (.map []) [] := ⟨hasOnly_nil, fun c => by rw [atKey_of_not_has (by simp [Maps.has])]; simp⟩
theorem TrueSet.put {D : DataW Unit} {cl : List Int} (h : TrueSet D cl) (c : Int) : TrueSet (D.put (.int .i64 c) (.lit (.bool true))) (cl ++ [c]) := by
  refine ⟨h.1.put _ _, fun x => ?_⟩
  by_cases e : x = c
  · subst e
    rw [atKey_put_same (k := .int .i64 x) h.1.1 trivial]
    simp
  · rw [atKey_put_other (by simpa using e), h.2 x]
    have : decide (x ∈ cl) = decide (x ∈ cl ++ [c]) := by simp [e]
    rw [this]

theorem plainElem_bool_inv {e : TypeId} (he : Try.prog.underlying e = some .bool) {v : Value} {z : DataW Unit × List MemPlace} (h : plainElem Try.prog e v = some z) : ∃ x, v = .bool x ∧ z = (.lit (.bool x), []) := by
  unfold plainElem at h
  rw [he] at h
  cases v <;> simp at h
  rename_i x
  exact ⟨x, rfl, h.symm⟩
theorem look_int {w : World} {b n : Nat} {D : DataW Unit} {cl : List Int} (h : w.ownsMap Try.prog 3 (plainElem (H := Unit) Try.prog 4) b n D) (hS : TrueSet D cl) (c : Int) (hc : (Lit.int .i64 c).wf = true) :
    (Instr.lookup 51 (.map (some b)) (.int .i64 c) false).run Try.prog w = .ok (.bool (decide (c ∈ cl))) w := by
  obtain ⟨v, ps, hrun, hv⟩ := h.lookup lawInt Try.underlying51 (z := .bool false) (by kernel_rfl) (plainElem_bool Try.underlying4 false) (keyOf_int_mk Try.underlying3 hc)
  obtain ⟨y, rfl, hz⟩ := plainElem_bool_inv Try.underlying4 hv
  simp only [Prod.mk.injEq] at hz
  rw [hS.2 c] at hz
  have : y = decide (c ∈ cl) := by
    have := hz.1
    simp at this
    exact this.symm
  rw [← this]
  exact hrun
end Go.Proofs.Ytdkohhjacgplcaa
