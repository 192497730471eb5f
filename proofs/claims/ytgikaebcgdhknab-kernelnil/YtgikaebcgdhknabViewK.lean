/- Mail, or a call, that came in: what it is, and where it lies. -/
import Derived.Test.YtgikaebcgdhknabViewP
import Derived.Test.YtgikaebcgdhknabKNil
namespace Go.Proofs.Ytgikaebcgdhknab
open Go.ChangeShapes Go.WideShapes Go.ChangeAt Go.RowKit Go.Deep Go.Joins Go.Proofs.Parclose

theorem cellsCall : Try.prog.cellsOf 49 = 8 := by kernel_rfl
theorem array5 {α : Type} {cs : Array α} (h : cs.size = 5) : ∃ c0 c1 c2 c3 c4, cs = #[c0, c1, c2, c3, c4] := by
  obtain ⟨l⟩ := cs
  match l, h with
  | [c0, c1, c2, c3, c4], _ => exact ⟨c0, c1, c2, c3, c4, rfl⟩
theorem list8 {α : Type} {l : List α} (h : l.length = 8) : ∃ c0 c1 c2 c3 c4 c5 c6 c7, l = [c0, c1, c2, c3, c4, c5, c6, c7] := by
  match l, h with
  | [c0, c1, c2, c3, c4, c5, c6, c7], _ => exact ⟨c0, c1, c2, c3, c4, c5, c6, c7, rfl⟩
theorem array8 {α : Type} {cs : Array α} (h : cs.size = 8) : ∃ c0 c1 c2 c3 c4 c5 c6 c7, cs = #[c0, c1, c2, c3, c4, c5, c6, c7] := by
  obtain ⟨l⟩ := cs
  match l, h with
  | [c0, c1, c2, c3, c4, c5, c6, c7], _ => exact ⟨c0, c1, c2, c3, c4, c5, c6, c7, rfl⟩

set_option maxRecDepth 100000 in
set_option maxHeartbeats 800000 in
theorem view_mail {H : Type} {enc : TypeId × Value → H} {W : World} {base : Nat} {v : Value} {d : DataW H} {p : List MemPlace} {ts : List TypeId} {ds : List (DataW H)} {j : Nat} (hv : Value.okWide Try.prog W .any base 26 v)
    (h : DataW.Trod enc Try.prog W 0 (fun _ => true) true 26 v d p) (hsz : (DataW.weightsEach Try.prog ts ds).all (· ≤ reachBytes) = true) (ht : ts[j]? = some 26) (hd : ds[j]? = some d) : ∃ f, MalAt W v f := by
  obtain ⟨cs, rfl, hcs⟩ := okWide_struct Try.underlying26 hv
  obtain ⟨c0, c1, c2, c3, c4, rfl⟩ := array5 (hcs.trans cellsMail)
  obtain ⟨fuel, hf⟩ := h
  obtain ⟨xs, n, _, hx, _, hl, hm⟩ := DataW.trod_struct Try.underlying26 hf
  obtain ⟨z0, z1, z2, z3, z4, rfl⟩ := list5 hl
  have m0 := hm 0 _ rfl
  have m1 := hm 1 _ rfl
  have m2 := hm 2 _ rfl
  have m3 := hm 3 _ rfl
  have m4 := hm 4 _ rfl
  simp [Value.cells, cellsInt, cellsLabel, cellsInts, cellsString] at m0 m1 m2 m3 m4
  simp only [Prod.mk.injEq] at hx
  have hsz2 := sized_agg hsz ht (by rw [hd, hx.1]) Try.underlying26
  obtain ⟨n5, e5, _⟩ := DataW.trod_int Try.underlying3 m0
  obtain ⟨n6, e6, _⟩ := DataW.trod_int Try.underlying3 m1
  obtain ⟨s9, e9, _⟩ := DataW.trod_string Try.underlying9 m4
  simp only [List.cons.injEq, and_true] at e5 e6 e9
  subst e5 e6 e9
  obtain ⟨l, hl7, _⟩ := view_lab_c m2 fun elems spare e => by
    have := sized_slice hsz2 (j := 2) (t := 23) (e := 72) rfl (by rw [← e]; rfl) Try.underlying23
    rwa [bytesLevel] at this
  obtain ⟨zs, hl8⟩ := view_ints_c m3 fun elems spare e => by
    have := sized_slice hsz2 (j := 3) (t := 24) (e := 3) rfl (by rw [← e]; rfl) Try.underlying24
    rwa [bytesInt] at this
  exact ⟨⟨n5, n6, l, zs, s9.data.toList⟩, c2, c3, rfl, hl7, hl8⟩

set_option maxRecDepth 100000 in
set_option maxHeartbeats 800000 in
theorem view_call {H : Type} {enc : TypeId × Value → H} {W : World} {base : Nat} {v : Value} {d : DataW H} {p : List MemPlace} {ts : List TypeId} {ds : List (DataW H)} {j : Nat} (hv : Value.okWide Try.prog W .any base 49 v)
    (h : DataW.Trod enc Try.prog W 0 (fun _ => true) true 49 v d p) (hsz : (DataW.weightsEach Try.prog ts ds).all (· ≤ reachBytes) = true) (ht : ts[j]? = some 49) (hd : ds[j]? = some d) : ∃ f, CalAt W v f := by
  obtain ⟨cs, rfl, hcs⟩ := okWide_struct Try.underlying49 hv
  obtain ⟨c0, c1, c2, c3, c4, c5, c6, c7, rfl⟩ := array8 (hcs.trans cellsCall)
  obtain ⟨fuel, hf⟩ := h
  obtain ⟨xs, n, _, hx, _, hl, hm⟩ := DataW.trod_struct Try.underlying49 hf
  obtain ⟨z0, z1, z2, z3, z4, z5, z6, z7, rfl⟩ := list8 hl
  have m0 := hm 0 _ rfl
  have m1 := hm 1 _ rfl
  have m2 := hm 2 _ rfl
  have m3 := hm 3 _ rfl
  have m4 := hm 4 _ rfl
  have m5 := hm 5 _ rfl
  have m6 := hm 6 _ rfl
  have m7 := hm 7 _ rfl
  simp [Value.cells, cellsInt, cellsLabel, cellsInts, cellsString] at m0 m1 m2 m3 m4 m5 m6 m7
  simp only [Prod.mk.injEq] at hx
  have hsz2 := sized_agg hsz ht (by rw [hd, hx.1]) Try.underlying49
  obtain ⟨n0, e0, _⟩ := DataW.trod_int Try.underlying3 m0
  obtain ⟨n1, e1, _⟩ := DataW.trod_int Try.underlying3 m1
  obtain ⟨n2, e2, _⟩ := DataW.trod_int Try.underlying3 m2
  obtain ⟨n3, e3, _⟩ := DataW.trod_int Try.underlying3 m3
  obtain ⟨n4, e4, _⟩ := DataW.trod_int Try.underlying3 m4
  obtain ⟨s9, e9, _⟩ := DataW.trod_string Try.underlying9 m7
  simp only [List.cons.injEq, and_true] at e0 e1 e2 e3 e4 e9
  subst e0 e1 e2 e3 e4 e9
  obtain ⟨l, hl7, _⟩ := view_lab_c m5 fun elems spare e => by
    have := sized_slice hsz2 (j := 5) (t := 23) (e := 72) rfl (by rw [← e]; rfl) Try.underlying23
    rwa [bytesLevel] at this
  obtain ⟨zs, hl8⟩ := view_ints_c m6 fun elems spare e => by
    have := sized_slice hsz2 (j := 6) (t := 24) (e := 3) rfl (by rw [← e]; rfl) Try.underlying24
    rwa [bytesInt] at this
  exact ⟨⟨n0, n1, n2, n3, n4, l, zs, s9.data.toList⟩, c5, c6, rfl, hl7, hl8⟩
end Go.Proofs.Ytgikaebcgdhknab
