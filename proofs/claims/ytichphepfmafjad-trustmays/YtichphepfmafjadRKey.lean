/- Certs as keys of a map that a call has made. -/
import Derived.Test.YtichphepfmafjadRCat
import Derived.Test.YtichphepfmafjadPlainTrust
import Derived.Test.YtichphepfmafjadView
import Derived.Maps.Own
import Derived.Maps.OwnOps
import Derived.Maps.Views
import Derived.DeepKeys5
namespace Go.Proofs.Ytichphepfmafjad
open Go.RowKit Go.Proofs.Parclose Go.Maps

theorem lawCert : Keyed Try.prog 39 := Keyed.of_law (deep_law_gate laidOut (of_decide_eq_true (by kernel_rfl)) (of_decide_eq_true (by kernel_rfl)) (by kernel_rfl) (by kernel_rfl))
theorem cellsCrt : Try.prog.cellsOf 39 = 4 := by kernel_rfl
theorem key_exists (x : Crt) (h : WfC x) : ∃ l, keyOf Try.prog 39 (crtV x) = some l := by
  obtain ⟨⟨h1, h2⟩, h3, h4⟩ := h
  have hkt : Try.prog.keyType 39 = true := by kernel_rfl
  have hf : (crtV x).formed Try.prog 39 = true := by
    unfold crtV
    simp [Value.formed, Try.underlying39, cellsCrt]
  obtain ⟨m, hm⟩ : ∃ m, Try.prog.types.size = m + 1 := ⟨Try.prog.types.size - 1, by kernel_rfl⟩
  unfold keyOf
  simp only [Try.underlying39]
  rw [if_pos (by rw [hkt, hf]; rfl), hm]
  unfold Program.keyLits
  simp only [Try.underlying39, crtV, Value.cells]
  rw [if_pos ⟨by rw [cellsCrt]; rfl, by kernel_rfl⟩, List.mapM_cons, List.mapM_cons, List.mapM_cons, List.mapM_cons, List.mapM_nil]
  simp [cellsInt, Program.keyLits, Try.underlying3, h1, h2, h3, h4]

/-- the key that a cert is -/
noncomputable def keyC (x : Crt) (h : WfC x) : Lit := (key_exists x h).choose
theorem keyC_of (x : Crt) (h : WfC x) : keyOf Try.prog 39 (crtV x) = some (keyC x h) := (key_exists x h).choose_spec
theorem keyC_inj {x y : Crt} (hx : WfC x) (hy : WfC y) (e : keyC x hx = keyC y hy) : x = y := by
  have h1 := keyC_of x hx
  have h2 := keyC_of y hy
  rw [← e] at h2
  have h3 := lawCert.inj h1 h2
  unfold crtV at h3
  simp at h3
  exact Crt.ext4 h3.1 h3.2.1 h3.2.2.1 h3.2.2.2
theorem keyC_lit (x : Crt) (h : WfC x) : WideAt.IsKeyLit (keyC x h) := lawCert.key (keyC_of x h)

/-- the set D holds just the certs of S -/
structure SetOf (D : DataW Unit) (S : List Crt) : Prop where
  map : IsMap D
  at_ : ∀ x (h : WfC x), D.atKey (keyC x h) (.lit (.bool false)) = .lit (.bool (decide (x ∈ S)))
theorem setOf_nil : SetOf (.map []) [] := ⟨isMap_empty, fun x h => by
  rw [atKey_of_not_has (by simp [Maps.has])]
  simp⟩
theorem SetOf.put {D : DataW Unit} {S : List Crt} (h : SetOf D S) {x : Crt} (hx : WfC x) : SetOf (D.put (keyC x hx) (.lit (.bool true))) (S ++ [x]) := by
  refine ⟨h.map.put _ _, fun y hy => ?_⟩
  by_cases e : y = x
  · subst e
    rw [atKey_put_same h.map (keyC_lit y hx)]
    simp
  · rw [atKey_put_other (fun g => e (keyC_inj hy hx g)), h.at_ y hy]
    have : decide (y ∈ S) = decide (y ∈ S ++ [x]) := by simp [e]
    rw [this]

theorem plainElem_bool_inv {e : TypeId} (he : Try.prog.underlying e = some .bool) {v : Value} {z : DataW Unit × List MemPlace} (h : plainElem Try.prog e v = some z) : ∃ x, v = .bool x ∧ z = (.lit (.bool x), []) := by
  unfold plainElem at h
  rw [he] at h
  cases v <;> simp at h
  rename_i x
  exact ⟨x, rfl, h.symm⟩

/-- had[x] of a set of certs that the call has made -/
theorem look_cert {w : World} {b n : Nat} {D : DataW Unit} {S : List Crt} (h : w.ownsMap Try.prog 39 (plainElem (H := Unit) Try.prog 4) b n D) (hS : SetOf D S) (x : Crt) (hx : WfC x) :
    (Instr.lookup 56 (.map (some b)) (.agg #[.int .i64 x.c, .int .i64 x.b, .int .i64 x.h, .int .i64 x.u]) false).run Try.prog w = .ok (.bool (decide (x ∈ S))) w := by
  obtain ⟨v, ps, hrun, hv⟩ := h.lookup lawCert Try.underlying56 (z := .bool false) (by kernel_rfl) (plainElem_bool Try.underlying4 false) (keyC_of x hx)
  obtain ⟨y, rfl, hz⟩ := plainElem_bool_inv Try.underlying4 hv
  simp only [Prod.mk.injEq] at hz
  rw [hS.at_ x hx] at hz
  have : y = decide (x ∈ S) := by
    have := hz.1
    simp at this
    exact this.symm
  rw [← this]
  exact hrun
end Go.Proofs.Ytichphepfmafjad
