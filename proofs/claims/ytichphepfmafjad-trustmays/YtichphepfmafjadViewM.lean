/- Mail that came in: what it is, and where it lies. -/
import Derived.Test.YtichphepfmafjadViewP
namespace Go.Proofs.Ytichphepfmafjad
open Go.ChangeShapes Go.WideShapes Go.ChangeAt Go.RowKit Go.Deep Go.Joins Go.Proofs.Parclose

theorem array5 {α : Type} {cs : Array α} (h : cs.size = 5) : ∃ c0 c1 c2 c3 c4, cs = #[c0, c1, c2, c3, c4] := by
  obtain ⟨l⟩ := cs
  match l, h with
  | [c0, c1, c2, c3, c4], _ => exact ⟨c0, c1, c2, c3, c4, rfl⟩

set_option maxRecDepth 100000 in
set_option maxHeartbeats 800000 in
theorem view_mail {H : Type} {enc : TypeId × Value → H} {W : World} {base : Nat} {v : Value} {d : DataW H} {p : List MemPlace} {ts : List TypeId} {ds : List (DataW H)} {j : Nat} (hv : Value.okWide Try.prog W .any base 27 v)
    (h : DataW.Trod enc Try.prog W 0 (fun _ => true) true 27 v d p) (hsz : (DataW.weightsEach Try.prog ts ds).all (· ≤ reachBytes) = true) (ht : ts[j]? = some 27) (hd : ds[j]? = some d) : ∃ f, MalAt W v f ∧ WfL f.label ∧ ∀ z ∈ f.grants, (Lit.int .i64 z).wf = true := by
  obtain ⟨cs, rfl, hcs⟩ := okWide_struct Try.underlying27 hv
  obtain ⟨c0, c1, c2, c3, c4, rfl⟩ := array5 (hcs.trans cellsMail)
  obtain ⟨fuel, hf⟩ := h
  obtain ⟨xs, n, _, hx, _, hl, hm⟩ := DataW.trod_struct Try.underlying27 hf
  obtain ⟨z0, z1, z2, z3, z4, rfl⟩ := list5 hl
  have m0 := hm 0 _ rfl
  have m1 := hm 1 _ rfl
  have m2 := hm 2 _ rfl
  have m3 := hm 3 _ rfl
  have m4 := hm 4 _ rfl
  simp [Value.cells, cellsInt, cellsLabel, cellsInts, cellsString] at m0 m1 m2 m3 m4
  simp only [Prod.mk.injEq] at hx
  have hsz2 := sized_agg hsz ht (by rw [hd, hx.1]) Try.underlying27
  obtain ⟨n5, e5, _⟩ := DataW.trod_int Try.underlying3 m0
  obtain ⟨n6, e6, _⟩ := DataW.trod_int Try.underlying3 m1
  obtain ⟨s9, e9, _⟩ := DataW.trod_string Try.underlying9 m4
  simp only [List.cons.injEq, and_true] at e5 e6 e9
  subst e5 e6 e9
  obtain ⟨l, hl7, hf7⟩ := view_lab_c m2 fun elems spare e => by
    have := sized_slice hsz2 (j := 2) (t := 24) (e := 58) rfl (by rw [← e]; rfl) Try.underlying24
    rwa [bytesLevel] at this
  obtain ⟨zs, hl8, hf8⟩ := view_ints_c m3 fun elems spare e => by
    have := sized_slice hsz2 (j := 3) (t := 25) (e := 3) rfl (by rw [← e]; rfl) Try.underlying25
    rwa [bytesInt] at this
  exact ⟨⟨n5, n6, l, zs, s9.data.toList⟩, ⟨c2, c3, rfl, hl7, hl8⟩, hf7, hf8⟩
end Go.Proofs.Ytichphepfmafjad
