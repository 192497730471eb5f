/- For every input of bulk at most 1048576, the statement LabelJoins returns true and its arguments read as they did. -/
import Derived.Test.YtcnlfglkfoaocaaLJoins
import Derived.Test.YtcnlfglkfoaocaaView
import Derived.JoinedCond
import Derived.Deep.CondSized
import Derived.Test.YtcnlfglkfoaocaaBulk
namespace Go.Proofs.Ytcnlfglkfoaocaa
open Go.ChangeShapes Go.WideShapes Go.ChangeAt Go.RowKit Go.Proofs.Parclose

set_option maxRecDepth 100000 in
theorem labelJoinsU_lifted (os : Os) (started : os.Started) (H : Type) (enc : TypeId × Value → H) (F : Stop.Interp) :
    ReturnsInHanded {} Try.checked os 4 .any ((Rows.OpenSpec.upto Rows.labelJoinsSpec).pre6 enc Try.prog Try.f4 Rows.labelJoinsUptoRow.domain false) (((Rows.OpenSpec.upto Rows.labelJoinsSpec).at F).post enc Try.prog Try.f4 false true false false) := by
  refine returnsInHanded_of_cond_sized (C := Try.checked) (s := Rows.OpenSpec.upto Rows.labelJoinsSpec) (k := Rows.uptoSmall) rfl own started (by kernel_rfl) Try.func4
    (OpenSpec.witness (enc := enc) (C := Try.checked) (s := Rows.OpenSpec.upto Rows.labelJoinsSpec) (k := Rows.uptoSmall) rfl false ⟨#[], #[.slice none 0 0, .slice none 0 0], []⟩ 8 (by kernel_rfl) (by kernel_rfl) (by kernel_rfl)
      (x := ([.nil, .nil], [], [])) (by kernel_rfl) rfl (by kernel_rfl)) ?_
  intro W base args ds gs before hval0 hW _ hk hsz0 _
  have hsz : (DataW.weightsEach Try.prog (Try.f4.params.toList ++ Rows.labelJoinsSpec.plain.varTypes Try.prog) (ds ++ gs)).all (· ≤ reachBytes) = true := hsz0
  clear hsz0
  have hval : ∀ (j : Nat) t v, Try.f4.params[j]? = some t → args[j]? = some v → Value.okWide Try.prog W .any base t v := hval0
  have hW' := hW
  obtain ⟨p, q, hA0, hV, rfl, _, _⟩ := hW
  have hA : DataW.TrodAll enc Try.prog W 0 (fun _ => true) true Try.f4.params.toList args.toList ds p := hA0
  rw [Try.params4] at hA hval hsz
  obtain ⟨v0, v1, d0, d1, p0, p1, rfl, rfl, rfl, h0, h1⟩ := trodAll_two hA
  obtain ⟨rfl, rfl⟩ := trodVars_none hV
  clear hA0 hval0
  simp only [List.append_nil] at hW'
  have hlt : ∀ x ∈ p0 ++ p1, x.block < W.heap.size := fun x hx => hW'.lt x (by simpa using hx)
  have hbulk := bulk_small hk
  simp only [List.append_nil, Rows.uptoBulkAll] at hbulk
  obtain ⟨x0, m0, f0⟩ := view_label (hval 0 23 v0 rfl rfl) h0 fun elems spare e => by
    have := sized_slice hsz (j := 0) (t := 23) (e := 47) rfl (by rw [e]; rfl) Try.underlying23
    rwa [bytesLevel] at this
  obtain ⟨x1, m1, f1⟩ := view_label (hval 1 23 v1 rfl rfl) h1 fun elems spare e => by
    have := sized_slice hsz (j := 1) (t := 23) (e := 47) rfl (by rw [e]; rfl) Try.underlying23
    rwa [bytesLevel] at this
  have u0 := label_bulk h0 m0
  have g0 : x0.length ≤ 1048576 := by omega
  have u1 := label_bulk h1 m1
  have g1 : x1.length ≤ 1048576 := by omega
  refine (lawJoins_any v0 v1 x0 x1 W m0 m1 f0 f1 g0 g1).mono fun e W' ⟨he, hnx⟩ => ?_
  subst he
  have rd : ∀ {t : TypeId} {v : Value} {d : DataW H} {ps : List MemPlace}, (Try.prog.readableRec t = true) → t < Try.prog.types.size → DataW.Trod enc Try.prog W 0 (fun _ => true) true t v d ps → (∀ x ∈ ps, x ∈ p0 ++ p1) →
      DataW.Trod enc Try.prog W' 0 (fun b => decide (b < W.heap.size)) true t v d ps := fun hr ht h hx => Below.trod laidOut hr ht h hnx (fun x hm => hlt x (hx x hm))
  refine ⟨_, rfl, _, _, _, [], p0 ++ p1, [], hW', trodAll_mk1 (shut_bool Try.underlying4 _), ?_, rfl, hnx.frame _, fun h => by cases h⟩
  exact trodAll_mk2 (rd (by kernel_rfl) (of_decide_eq_true (by kernel_rfl)) h0 (by simp +contextual)) (rd (by kernel_rfl) (of_decide_eq_true (by kernel_rfl)) h1 (by simp +contextual))

theorem labelJoinsU_holds : Rows.LabelJoinsUptoSaid :=
  OpenClaim.holds_of_cond 4 Try.f4 rfl rfl rfl rfl rfl rfl rfl ⟨rfl, rfl, rfl, rfl, rfl⟩ rfl rfl rfl rfl rfl (by kernel_rfl) Try.func4 (by kernel_rfl)
    (of_decide_eq_true (by kernel_rfl)) (by unfold Func.isWrapper; first | (rw [if_pos (by decide +kernel)]; kernel_rfl) | (rw [if_neg (by decide +kernel)]; exact ⟨rfl, rfl⟩))
    (fun os started H enc _ F => labelJoinsU_lifted os started H enc F)
end Go.Proofs.Ytcnlfglkfoaocaa
