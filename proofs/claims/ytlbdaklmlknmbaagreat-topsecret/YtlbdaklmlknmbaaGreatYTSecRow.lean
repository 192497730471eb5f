/- For every input, the statement TopSecret returns true and its arguments read as they did. -/
import Derived.Test.YtlbdaklmlknmbaaGreatYTSec
import Derived.Test.YtlbdaklmlknmbaaGreatYView
import Derived.Test.YtlbdaklmlknmbaaGreatYViewA
import Derived.ChangeMaps5
namespace Go.Proofs.YtlbdaklmlknmbaaGreat
open Go.ChangeShapes Go.WideShapes Go.ChangeAt Go.RowKit Go.Proofs.Parclose Go.ChangeMaps
set_option maxRecDepth 100000 in
theorem QcU (os : Os) (started : os.Started) (H : Type) (enc : TypeId × Value → H) :
 ReturnsInHanded {} Tryz.checked os 3 .any (Rows.topSecretSpec.pre6 enc Tryz.prog Tryz.f3 Rows.topSecretRow.domain false) (Rows.topSecretSpec.post enc Tryz.prog Tryz.f3 false true false false) := by
 refine returnsInHanded_of_change_sized (C := Tryz.checked) own started (by kernel_rfl) Tryz.func3
  (ChangeSpec.witness6 (enc := enc) (C := Tryz.checked) false ⟨#[], #[.slice none 0 0, .int .i64 0, .string ⟨#[]⟩], []⟩ 8 (by kernel_rfl) (by kernel_rfl) (by kernel_rfl) (by kernel_rfl)) ?_
 intro W base args ds gs before hval0 hW _ hsz0 _
 have hsz : (DataW.weightsEach Tryz.prog (Tryz.f3.params.toList ++ Rows.topSecretSpec.plain.varTypes Tryz.prog) (ds ++ gs)).all (· ≤ reachBytes) = true := hsz0
 clear hsz0
 have hval : ∀ (j : Nat) t v, Tryz.f3.params[j]? = some t → args[j]? = some v → Value.okWide Tryz.prog W .any base t v := hval0
 have hW' := hW
 obtain ⟨p, q, hA0, hV, rfl, _, _⟩ := hW
 have hA : DataW.TrodAll enc Tryz.prog W 0 (fun _ => true) true Tryz.f3.params.toList args.toList ds p := hA0
 rw [Tryz.params3] at hA hval hsz
 obtain ⟨v0, v1, v2, d0, d1, d2, p0, p1, p2, rfl, rfl, rfl, h0, h1, h2⟩ := trodAll_three hA
 obtain ⟨rfl, rfl⟩ := trodVars_none hV
 clear hA0 hval0
 simp only [List.append_nil] at hW'
 have hlt : ∀ x ∈ p0 ++ p1 ++ p2, x.block < W.heap.size := fun x hx => hW'.lt x (by simpa using hx)
 obtain ⟨x0, m0, b0⟩ := QfH (j := 0) (hval 0 22 v0 rfl rfl) h0 hsz rfl rfl
 obtain ⟨x1, ex1, f1⟩ : ∃ x, v1 = .int .i64 x ∧ (Lit.int .i64 x).wf = true := by
  obtain ⟨x, e, _, _, hx⟩ := open_int Tryz.underlying3 (hval 1 3 v1 rfl rfl) h1
  exact ⟨x, e, hx⟩
 subst ex1
 obtain ⟨s2, es2, _, _, f2⟩ := open_string Tryz.underlying9 (hval 2 9 v2 rfl rfl) h2
 subst es2
 obtain ⟨x2, ex2⟩ : ∃ x : List UInt8, s2 = ⟨x.toArray⟩ := ⟨s2.data.toList, by simp⟩
 subst ex2
 refine (Qea v0 x0 x1 x2 W m0 b0).mono fun e W' ⟨he, hnx⟩ => ?_
 subst he
 have rd : ∀ {t : TypeId} {v : Value} {d : DataW H} {ps : List MemPlace}, (Tryz.prog.readableRec t = true) → t < Tryz.prog.types.size → DataW.Trod enc Tryz.prog W 0 (fun _ => true) true t v d ps → (∀ x ∈ ps, x ∈ p0 ++ p1 ++ p2) →
  DataW.Trod enc Tryz.prog W' 0 (fun b => decide (b < W.heap.size)) true t v d ps := fun hr ht h hx => Below.trod laidOut hr ht h hnx (fun x hm => hlt x (hx x hm))
 refine ⟨_, rfl, _, _, _, [], p0 ++ (p1 ++ p2), [], hW', trodAll_mk1 (shut_bool Tryz.underlying4 _), ?_, rfl, hnx.frame _, fun h => by cases h⟩
 exact trodAll_mk3 (rd (by kernel_rfl) (of_decide_eq_true (by kernel_rfl)) h0 (by simp +contextual)) (rd (by kernel_rfl) (of_decide_eq_true (by kernel_rfl)) h1 (by simp +contextual)) (rd (by kernel_rfl) (of_decide_eq_true (by kernel_rfl)) h2 (by simp +contextual))
theorem topSecret_holds : Rows.TopSecretSaid :=
 OpenClaim.holds_of_wide 3 Tryz.f3 rfl rfl rfl rfl rfl rfl rfl ⟨rfl, rfl, rfl, rfl, rfl⟩ rfl rfl rfl rfl rfl (by kernel_rfl) Tryz.func3 (by kernel_rfl)
  (of_decide_eq_true (by kernel_rfl)) (by unfold Func.isWrapper; first | (rw [if_pos (by decide +kernel)]; kernel_rfl) | (rw [if_neg (by decide +kernel)]; exact ⟨rfl, rfl⟩))
  (fun os started H enc _ => QcU os started H enc)
end Go.Proofs.YtlbdaklmlknmbaaGreat
