/- The reference: CopyMail answers the same mail in memory of its own. -/
import Derived.Test.YtmpjddnbdidleaaHeap0
import Derived.Test.YtmpjddnbdidleaaWRows
import Derived.Laws.AppendOwnNone
import Derived.Laws.OwnMore
namespace Go.Proofs.Ytmpjddnbdidleaa
open Go.RowKit Go.Proofs.Parclose

theorem flat2_length (l : List (Int × Int)) : (flat2 l).length = l.length * 2 := by
  induction l with
  | nil => rfl
  | cons x r ih =>
    have e : flat2 (x :: r) = .int .i64 x.1 :: .int .i64 x.2 :: flat2 r := rfl
    rw [e]
    simp only [List.length_cons, ih]
    omega
theorem flat2_cells {w : World} {b o : Nat} {l : List (Int × Int)} (h : Cells2 w b o l) : ∀ j u, (flat2 l)[j]? = some u → w.cell? ((⟨b, o, none⟩ : Addr).add j) = some u := by
  intro j u hu
  have hj : j < l.length * 2 := by
    have := (List.getElem?_eq_some_iff.1 hu).1
    rwa [flat2_length] at this
  obtain ⟨h1, h2⟩ := h (j / 2) (by omega)
  obtain ⟨g1, g2⟩ := flat2_get l (j / 2) (by omega)
  rw [WideShapes.add_plain]
  by_cases hp : j % 2 = 0
  · have e : j = j / 2 * 2 := by omega
    rw [e] at hu ⊢
    rw [g1] at hu
    rw [h1, ← hu]
  · have e : j = j / 2 * 2 + 1 := by omega
    rw [e] at hu ⊢
    rw [g2] at hu
    rw [← Nat.add_assoc, h2, ← hu]

/-- append of a label to nil, as a step of a region that draws -/
theorem step_copy2 {w : World} {ops : Array Oper} {o : Oper} {a0 : Act} {K : Act → World → Prop} {Q : Exit → Act → World → Prop} {E : Prop} (hgd : o.guard = none) (x : Operand)
    (ho : o.op = .call { callee := .builtin .append, args := #[.const (.slice none 0 0), x], argTypes := #[27, 27] }) (base : Nat) (u : Value) (l : List (Int × Int)) (hx : a0.eval x = u) (hu : LabAt w u l) (hbase : base ≤ w.heap.size)
    (h : ∀ v' w', w'.ownsRow base 72 2 v' l.length (flat2 l) → w.grownBy w' none → K (a0.put o.dst v') w') :
    if Region.wanted o (yielded ops a0.tmps) = true then Oper.wp Try.prog o a0 w K Q else E := by
  have hw : Region.wanted o (yielded ops a0.tmps) = true := by simp [Region.wanted, hgd]
  rw [if_pos hw]
  obtain ⟨i0, hi, hz0, hz1, hz2⟩ := info_parts info_level
  obtain ⟨p, cap, rfl, hlc, hcap, hcells⟩ := hu
  have hnil := World.ownsRow_nil w base 72 2
  cases p with
  | none =>
    have e : l = [] := by
      by_cases h0 : 0 < l.length
      · obtain ⟨b, o, e, _⟩ := hcells h0
        cases e
      · exact List.length_eq_zero_iff.1 (by omega)
    subst e
    have ec : cap = 0 := hlc.2 rfl
    subst ec
    have hrun := run_append_owned_none (P := Try.prog) (w := w) base 27 o.type 72 i0 2 Try.underlying27 hi (.slice none 0 0) 0 [] hnil
    unfold Oper.wp
    have hs : a0.eval (.const (.slice none 0 0)) = .slice none 0 0 := rfl
    simp [execOp, ho, resolve, invoke, builtin, hs, hx, hrun, Result.andThen]
    exact h _ w hnil ⟨rfl, rfl, rfl, Nat.le_refl _, fun _ _ _ => rfl⟩
  | some ad =>
    have hnews : ∀ j u, (flat2 l)[j]? = some u → w.cell? (ad.add j) = some u := by
      by_cases h0 : 0 < l.length
      · obtain ⟨b, o, e, hc⟩ := hcells h0
        cases e
        exact flat2_cells hc
      · have e : l = [] := List.length_eq_zero_iff.1 (by omega)
        subst e
        intro j u hu
        simp [flat2] at hu
    exact wp_append_own w _ x 27 ho base 72 i0 _ 2 16 Try.underlying27 hi hz0 hz1 hz2 rfl (by decide) (.slice none 0 0) 0 [] rfl hnil ad l.length cap (flat2 l) hx (flat2_length l) hnews (flat2_one l) (by unfold maxLen; omega) (by omega) hbase
      (fun v' w' h1 h2 _ => h v' w' (by simpa using h1) h2)

/-- append of numbers to nil, as a step of a region that draws -/
theorem step_copy1 {w : World} {ops : Array Oper} {o : Oper} {a0 : Act} {K : Act → World → Prop} {Q : Exit → Act → World → Prop} {E : Prop} (hgd : o.guard = none) (x : Operand)
    (ho : o.op = .call { callee := .builtin .append, args := #[.const (.slice none 0 0), x], argTypes := #[28, 28] }) (base : Nat) (u : Value) (l : List Int) (hx : a0.eval x = u) (hu : IntsAt w u l) (hbase : base ≤ w.heap.size)
    (h : ∀ v' w', w'.ownsRow base 3 1 v' l.length (flat1 l) → w.grownBy w' none → K (a0.put o.dst v') w') :
    if Region.wanted o (yielded ops a0.tmps) = true then Oper.wp Try.prog o a0 w K Q else E := by
  have hw : Region.wanted o (yielded ops a0.tmps) = true := by simp [Region.wanted, hgd]
  rw [if_pos hw]
  obtain ⟨i0, hi, hz0, hz1, hz2⟩ := info_parts info_int
  obtain ⟨p, cap, rfl, hlc, hcap, hcells⟩ := hu
  have hnil := World.ownsRow_nil w base 3 1
  cases p with
  | none =>
    have e : l = [] := by
      by_cases h0 : 0 < l.length
      · obtain ⟨b, o, e, _⟩ := hcells h0
        cases e
      · exact List.length_eq_zero_iff.1 (by omega)
    subst e
    have ec : cap = 0 := hlc.2 rfl
    subst ec
    have hrun := run_append_owned_none (P := Try.prog) (w := w) base 28 o.type 3 i0 1 Try.underlying28 hi (.slice none 0 0) 0 [] hnil
    unfold Oper.wp
    have hs : a0.eval (.const (.slice none 0 0)) = .slice none 0 0 := rfl
    simp [execOp, ho, resolve, invoke, builtin, hs, hx, hrun, Result.andThen]
    exact h _ w hnil ⟨rfl, rfl, rfl, Nat.le_refl _, fun _ _ _ => rfl⟩
  | some ad =>
    have hnews : ∀ j u, (flat1 l)[j]? = some u → w.cell? (ad.add j) = some u := by
      intro j u hu
      have hj : j < l.length := by simpa [flat1] using (List.getElem?_eq_some_iff.1 hu).1
      obtain ⟨b, o, e, hc⟩ := hcells (by omega)
      cases e
      rw [WideShapes.add_plain, hc j hj]
      simpa [flat1, hj] using hu
    exact wp_append_own w _ x 28 ho base 3 i0 _ 1 8 Try.underlying28 hi hz0 hz1 hz2 rfl (by decide) (.slice none 0 0) 0 [] rfl hnil ad l.length cap (flat1 l) hx (by simp [flat1]) hnews (flat1_one l) (by unfold maxLen; omega) (by omega) hbase
      (fun v' w' h1 h2 _ => h v' w' (by simpa using h1) h2)
end Go.Proofs.Ytmpjddnbdidleaa
