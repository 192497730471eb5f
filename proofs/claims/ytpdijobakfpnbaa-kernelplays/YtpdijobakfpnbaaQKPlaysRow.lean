/- For every input, the statement KernelPlays returns true and its arguments read as they did. -/
import Derived.Test.YtpdijobakfpnbaaQKPlays
import Derived.Test.YtpdijobakfpnbaaQView
import Derived.Test.YtpdijobakfpnbaaQViewP
namespace Go.Proofs.Ytpdijobakfpnbaa
open Go.ChangeShapes Go.WideShapes Go.ChangeAt Go.RowKit Go.Proofs.Parclose
set_option maxRecDepth 100000 in
theorem Qbs (os : Os) (started : os.Started) (H : Type) (enc : TypeId × Value → H) :
 ReturnsInHanded {} Try.checked os 3 .any (Rows.kernelPlaysSpec.pre6 enc Try.prog Try.f3 Rows.kernelPlaysRow.domain false) (Rows.kernelPlaysSpec.post enc Try.prog Try.f3 false true false false) := by
 refine returnsInHanded_of_change_sized (C := Try.checked) own started (by kernel_rfl) Try.func3
  (ChangeSpec.witness6 (enc := enc) (C := Try.checked) false ⟨#[], #[.int .i64 0, .slice none 0 0], []⟩ 8 (by kernel_rfl) (by kernel_rfl) (by kernel_rfl) (by kernel_rfl)) ?_
 intro W base args ds gs before hval0 hW _ hsz0 _
 have hsz : (DataW.weightsEach Try.prog (Try.f3.params.toList ++ Rows.kernelPlaysSpec.plain.varTypes Try.prog) (ds ++ gs)).all (· ≤ reachBytes) = true := hsz0
 clear hsz0
 have hval : ∀ (j : Nat) t v, Try.f3.params[j]? = some t → args[j]? = some v → Value.okWide Try.prog W .any base t v := hval0
 have hW' := hW
 obtain ⟨p, q, hA0, hV, rfl, _, _⟩ := hW
 have hA : DataW.TrodAll enc Try.prog W 0 (fun _ => true) true Try.f3.params.toList args.toList ds p := hA0
 rw [Try.params3] at hA hval hsz
 obtain ⟨v0, v1, d0, d1, p0, p1, rfl, rfl, rfl, h0, h1⟩ := trodAll_two hA
 obtain ⟨rfl, rfl⟩ := trodVars_none hV
 clear hA0 hval0
 simp only [List.append_nil] at hW'
 have hlt : ∀ x ∈ p0 ++ p1, x.block < W.heap.size := fun x hx => hW'.lt x (by simpa using hx)
 obtain ⟨x0, ex0, f0⟩ : ∃ x, v0 = .int .i64 x ∧ (Lit.int .i64 x).wf = true := by
  obtain ⟨x, e, _, _, hx⟩ := open_int Try.underlying3 (hval 0 3 v0 rfl rfl) h0
  exact ⟨x, e, hx⟩
 subst ex0
 obtain ⟨x1, m1⟩ := QdT (j := 1) (hval 1 22 v1 rfl rfl) h1 hsz rfl rfl
 refine (Qcj x0 v1 x1 W m1).mono fun e W' ⟨he, hnx⟩ => ?_
 subst he
 have rd : ∀ {t : TypeId} {v : Value} {d : DataW H} {ps : List MemPlace}, (Try.prog.readableRec t = true) → t < Try.prog.types.size → DataW.Trod enc Try.prog W 0 (fun _ => true) true t v d ps → (∀ x ∈ ps, x ∈ p0 ++ p1) →
  DataW.Trod enc Try.prog W' 0 (fun b => decide (b < W.heap.size)) true t v d ps := fun hr ht h hx => Below.trod laidOut hr ht h hnx (fun x hm => hlt x (hx x hm))
 refine ⟨_, rfl, _, _, _, [], p0 ++ p1, [], hW', trodAll_mk1 (shut_bool Try.underlying4 _), ?_, rfl, hnx.frame _, fun h => by cases h⟩
 exact trodAll_mk2 (rd (by kernel_rfl) (of_decide_eq_true (by kernel_rfl)) h0 (by simp +contextual)) (rd (by kernel_rfl) (of_decide_eq_true (by kernel_rfl)) h1 (by simp +contextual))
theorem kernelPlays_holds : Rows.KernelPlaysSaid :=
 OpenClaim.holds_of_wide 3 Try.f3 rfl rfl rfl rfl rfl rfl rfl ⟨rfl, rfl, rfl, rfl, rfl⟩ rfl rfl rfl rfl rfl (by kernel_rfl) Try.func3 (by kernel_rfl)
  (of_decide_eq_true (by kernel_rfl)) (by unfold Func.isWrapper; first | (rw [if_pos (by decide +kernel)]; kernel_rfl) | (rw [if_neg (by decide +kernel)]; exact ⟨rfl, rfl⟩))
  (fun os started H enc _ => Qbs os started H enc)
end Go.Proofs.Ytpdijobakfpnbaa
