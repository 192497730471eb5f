/- A frame, or a text, that came in: what it is, and where it lies. -/
import Derived.Test.YtmpjddnbdidleaaWMem
import Derived.Test.YtmpjddnbdidleaaView
import Derived.Test.YtmpjddnbdidleaaViewP
import Derived.Test.YtmpjddnbdidleaaViewC
import Derived.Lib.SmallJoins
import Derived.Deep.Slices
namespace Go.Proofs.Ytmpjddnbdidleaa
open Go.ChangeShapes Go.WideShapes Go.ChangeAt Go.RowKit Go.Deep Go.Joins Go.Proofs.Parclose

theorem cellsFrame : Try.prog.cellsOf 33 = 11 := by kernel_rfl
theorem list7 {α : Type} {l : List α} (h : l.length = 7) : ∃ c0 c1 c2 c3 c4 c5 c6, l = [c0, c1, c2, c3, c4, c5, c6] := by
  match l, h with
  | [c0, c1, c2, c3, c4, c5, c6], _ => exact ⟨c0, c1, c2, c3, c4, c5, c6, rfl⟩
theorem array11 {α : Type} {cs : Array α} (h : cs.size = 11) : ∃ c0 c1 c2 c3 c4 c5 c6 c7 c8 c9 c10, cs = #[c0, c1, c2, c3, c4, c5, c6, c7, c8, c9, c10] := by
  obtain ⟨l⟩ := cs
  match l, h with
  | [c0, c1, c2, c3, c4, c5, c6, c7, c8, c9, c10], _ => exact ⟨c0, c1, c2, c3, c4, c5, c6, c7, c8, c9, c10, rfl⟩

set_option maxRecDepth 100000 in
set_option maxHeartbeats 800000 in
theorem view_frame {H : Type} {enc : TypeId × Value → H} {W : World} {base : Nat} {v : Value} {d : DataW H} {p : List MemPlace} {ts : List TypeId} {ds : List (DataW H)} {j : Nat} (hv : Value.okWide Try.prog W .any base 33 v)
    (h : DataW.Trod enc Try.prog W 0 (fun _ => true) true 33 v d p) (hsz : (DataW.weightsEach Try.prog ts ds).all (· ≤ reachBytes) = true) (ht : ts[j]? = some 33) (hd : ds[j]? = some d) : ∃ f, FrmAt W v f := by
  obtain ⟨cs, rfl, hcs⟩ := okWide_struct Try.underlying33 hv
  obtain ⟨c0, c1, c2, c3, c4, c5, c6, c7, c8, c9, c10, rfl⟩ := array11 (hcs.trans cellsFrame)
  obtain ⟨fuel, hf⟩ := h
  obtain ⟨xs, n, _, hx, _, hl, hg⟩ := DataW.trod_struct Try.underlying33 hf
  obtain ⟨y0, y1, y2, y3, y4, y5, y6, rfl⟩ := list7 hl
  have g0 := hg 0 _ rfl
  have g1 := hg 1 _ rfl
  have g2 := hg 2 _ rfl
  have g3 := hg 3 _ rfl
  have g4 := hg 4 _ rfl
  have g5 := hg 5 _ rfl
  have g6 := hg 6 _ rfl
  simp [Value.cells, cellsInt, cellsBool, cellsMail, cellsCerts] at g0 g1 g2 g3 g4 g5 g6
  simp only [Prod.mk.injEq] at hx
  have hsz1 := sized_agg hsz ht (by rw [hd, hx.1]) Try.underlying33
  obtain ⟨zs, k, _, hz, _, hzl, hm⟩ := DataW.trod_struct Try.underlying30 g5
  obtain ⟨z0, z1, z2, z3, z4, rfl⟩ := list5 hzl
  have m0 := hm 0 _ rfl
  have m1 := hm 1 _ rfl
  have m2 := hm 2 _ rfl
  have m3 := hm 3 _ rfl
  have m4 := hm 4 _ rfl
  simp [cellsInt, cellsLabel, cellsInts, cellsString] at m0 m1 m2 m3 m4
  have hsz2 := sized_agg (j := 5) hsz1 rfl (by rw [hz]; rfl) Try.underlying30
  obtain ⟨n0, e0, _⟩ := DataW.trod_int Try.underlying3 g0
  obtain ⟨n1, e1, _⟩ := DataW.trod_int Try.underlying3 g1
  obtain ⟨n2, e2, _⟩ := DataW.trod_int Try.underlying3 g2
  obtain ⟨b3, e3, _⟩ := DataW.trod_bool Try.underlying4 g3
  obtain ⟨n4, e4, _⟩ := DataW.trod_int Try.underlying3 g4
  obtain ⟨n5, e5, _⟩ := DataW.trod_int Try.underlying3 m0
  obtain ⟨n6, e6, _⟩ := DataW.trod_int Try.underlying3 m1
  obtain ⟨s9, e9, _⟩ := DataW.trod_string Try.underlying9 m4
  simp only [List.cons.injEq, and_true] at e0 e1 e2 e3 e4 e5 e6 e9
  subst e0 e1 e2 e3 e4 e5 e6 e9
  obtain ⟨l, hl7, _⟩ := view_lab_c m2 fun elems spare e => by
    have := sized_slice hsz2 (j := 2) (t := 27) (e := 72) rfl (by rw [← e]; rfl) Try.underlying27
    rwa [bytesLevel] at this
  obtain ⟨zs, hl8, _⟩ := view_ints_c m3 fun elems spare e => by
    have := sized_slice hsz2 (j := 3) (t := 28) (e := 3) rfl (by rw [← e]; rfl) Try.underlying28
    rwa [bytesInt] at this
  obtain ⟨cr, hl10, _⟩ := view_crts_c g6 fun elems spare e => by
    have := sized_slice hsz1 (j := 6) (t := 31) (e := 68) rfl (by rw [← e]; rfl) Try.underlying31
    rwa [bytesCert] at this
  exact ⟨⟨n0, n1, n2, b3, n4, ⟨n5, n6, l, zs, s9.data.toList⟩, cr⟩, c7, c8, c10, rfl, hl7, hl8, hl10⟩
end Go.Proofs.Ytmpjddnbdidleaa
