/- A frame, or a text, that came in: what it is, and where it lies. -/
import Derived.Test.YtaeikpiinpmecabWMem
import Derived.Test.YtaeikpiinpmecabView
import Derived.Lib.SmallJoins
import Derived.Deep.Slices
namespace Go.Proofs.Ytaeikpiinpmecab
open Go.ChangeShapes Go.WideShapes Go.ChangeAt Go.RowKit Go.Deep Go.Joins Go.Proofs.Parclose

theorem cellsCert : Try.prog.cellsOf 39 = 4 := by kernel_rfl
theorem cellsMail : Try.prog.cellsOf 26 = 5 := by kernel_rfl
theorem cellsFrame : Try.prog.cellsOf 29 = 11 := by kernel_rfl
theorem cellsBool : Try.prog.cellsOf 4 = 1 := by kernel_rfl
theorem cellsLabel : Try.prog.cellsOf 23 = 1 := by kernel_rfl
theorem cellsInts : Try.prog.cellsOf 24 = 1 := by kernel_rfl
theorem cellsString : Try.prog.cellsOf 9 = 1 := by kernel_rfl
theorem cellsCerts : Try.prog.cellsOf 27 = 1 := by kernel_rfl
theorem bytesCert : Try.prog.bytesOf 39 = 32 := by kernel_rfl

theorem list4 {α : Type} {l : List α} (h : l.length = 4) : ∃ c0 c1 c2 c3, l = [c0, c1, c2, c3] := by
  match l, h with
  | [c0, c1, c2, c3], _ => exact ⟨c0, c1, c2, c3, rfl⟩
theorem list5 {α : Type} {l : List α} (h : l.length = 5) : ∃ c0 c1 c2 c3 c4, l = [c0, c1, c2, c3, c4] := by
  match l, h with
  | [c0, c1, c2, c3, c4], _ => exact ⟨c0, c1, c2, c3, c4, rfl⟩
theorem list7 {α : Type} {l : List α} (h : l.length = 7) : ∃ c0 c1 c2 c3 c4 c5 c6, l = [c0, c1, c2, c3, c4, c5, c6] := by
  match l, h with
  | [c0, c1, c2, c3, c4, c5, c6], _ => exact ⟨c0, c1, c2, c3, c4, c5, c6, rfl⟩
theorem array11 {α : Type} {cs : Array α} (h : cs.size = 11) : ∃ c0 c1 c2 c3 c4 c5 c6 c7 c8 c9 c10, cs = #[c0, c1, c2, c3, c4, c5, c6, c7, c8, c9, c10] := by
  obtain ⟨l⟩ := cs
  match l, h with
  | [c0, c1, c2, c3, c4, c5, c6, c7, c8, c9, c10], _ => exact ⟨c0, c1, c2, c3, c4, c5, c6, c7, c8, c9, c10, rfl⟩

theorem sized_agg {H : Type} {ts : List TypeId} {ds : List (DataW H)} (h : (DataW.weightsEach Try.prog ts ds).all (· ≤ reachBytes) = true) {j : Nat} {t : TypeId} {fs : Array Field} {parts : List (DataW H)} (ht : ts[j]? = some t) (hd : ds[j]? = some (.agg parts)) (hu : Try.prog.underlying t = some (.struct fs)) :
    (DataW.weightsEach Try.prog (fs.toList.map (·.type)) parts).all (· ≤ reachBytes) = true := by
  rw [List.all_eq_true] at h ⊢
  intro n hn
  exact h n (DataW.weights_mem_each ht hd n (by simpa [DataW.weights, hu] using hn))

theorem view_lab_c {H : Type} {enc : TypeId × Value → H} {W : World} {v : Value} {y : DataW H × List MemPlace} {fuel : Nat}
    (hf : DataW.trod enc Try.prog W 0 (fun _ => true) true fuel 23 [v] = some y) (hs : ∀ elems spare, y.1 = .slice elems spare → (elems.length + spare.length) * 16 ≤ reachBytes) : ∃ l, LabAt W v l ∧ WfL l := by
  rcases open_slice_pairs Try.underlying23 Try.underlying55 cellsLevel rfl rfl cellsInt cellsInt hf with ⟨hcs, hx⟩ | ⟨a, len, cap, m, n, V0, V1, D0, D1, P0, P1, hcs, _, hl, hm, hmm, hx, hcell⟩
  · cases hcs
    exact ⟨[], LabAt.nil W none 0 (fun _ => rfl), fun x hx => by cases hx⟩
  · cases hcs
    obtain ⟨y1, y2⟩ := y
    simp only [Prod.mk.injEq] at hx
    obtain ⟨hd, _⟩ := hx
    simp only [if_true] at hmm
    subst hmm
    have hcap := hs _ _ hd
    simp only [List.length_map, List.length_range, reachBytes] at hcap
    have each : ∀ i, i < m → ∃ q : Int × Int, W.cell? (a.add (i * 2)) = some (.int .i64 q.1) ∧ W.cell? (a.add (i * 2 + 1)) = some (.int .i64 q.2) ∧ (Lit.int .i64 q.1).wf = true ∧ (Lit.int .i64 q.2).wf = true := by
      intro i hi
      obtain ⟨h1, h2, h3, h4⟩ := hcell i hi
      obtain ⟨x, e1, _, wx⟩ := DataW.trod_int Try.underlying3 h3
      obtain ⟨y, e2, _, wy⟩ := DataW.trod_int Try.underlying3 h4
      simp only [List.cons.injEq, and_true] at e1 e2
      exact ⟨(x, y), by rw [h1, e1], by rw [h2, e2], wx, wy⟩
    obtain ⟨q, hq⟩ := choose_lt each
    refine ⟨(List.range len).map q, ⟨some a, m, by simp, ⟨by simpa using hl, fun h => by cases h⟩, by simp; omega, fun h0 => ?_⟩, ?_⟩
    rotate_left
    · intro x hx
      obtain ⟨i, hi, e⟩ := List.mem_map.1 hx
      subst e
      exact ⟨(hq i (by have := List.mem_range.1 hi; omega)).2.2.1, (hq i (by have := List.mem_range.1 hi; omega)).2.2.2⟩
    simp only [List.length_map, List.length_range] at h0
    obtain ⟨b, off, spot⟩ := a
    have hspot : spot = none := by simpa [Addr.add] using World.cell?_spot (hq 0 (by omega)).1
    subst hspot
    refine ⟨b, off, rfl, fun j hj => ?_⟩
    simp only [List.length_map, List.length_range] at hj
    obtain ⟨h1, h2, _⟩ := hq j (by omega)
    rw [add_plain] at h1 h2
    refine ⟨by simpa using h1, by rw [Nat.add_assoc]; simpa using h2⟩

theorem view_ints_c {H : Type} {enc : TypeId × Value → H} {W : World} {v : Value} {y : DataW H × List MemPlace} {fuel : Nat}
    (hf : DataW.trod enc Try.prog W 0 (fun _ => true) true fuel 24 [v] = some y) (hs : ∀ elems spare, y.1 = .slice elems spare → (elems.length + spare.length) * 8 ≤ reachBytes) : ∃ zs, IntsAt W v zs := by
  rcases open_ints Try.underlying24 Try.underlying3 cellsInt hf with ⟨hcs, hx⟩ | ⟨a, len, cap, zs, hcs, _, hl, hm, hz, hx, hcell, hwz⟩
  · cases hcs
    exact ⟨[], IntsAt.nil W none 0 (fun _ => rfl)⟩
  · cases hcs
    obtain ⟨y1, y2⟩ := y
    simp only [Prod.mk.injEq] at hx
    obtain ⟨hd, _⟩ := hx
    simp only [if_true] at hz
    have hcap := hs _ _ hd
    simp only [lits, List.length_map, List.length_take, List.length_drop, reachBytes] at hcap
    refine ⟨zs.take len, some a, cap, by simp; omega, ⟨by simp; omega, fun h => by cases h⟩, by simp; omega, fun h0 => ?_⟩
    simp only [List.length_take] at h0
    obtain ⟨b, off, spot⟩ := a
    have hspot : spot = none := by simpa [Addr.add] using World.cell?_spot (hcell 0 (by omega))
    subst hspot
    refine ⟨b, off, rfl, fun j hj => ?_⟩
    simp only [List.length_take] at hj
    have h1 := hcell j (by omega)
    rw [add_plain] at h1
    rw [h1]
    have hj2 : j < zs.length := by omega
    simp [List.getD, hj2]
theorem view_crts_c {H : Type} {enc : TypeId × Value → H} {W : World} {v : Value} {y : DataW H × List MemPlace} {fuel : Nat}
    (hf : DataW.trod enc Try.prog W 0 (fun _ => true) true fuel 27 [v] = some y) (hs : ∀ elems spare, y.1 = .slice elems spare → (elems.length + spare.length) * 32 ≤ reachBytes) : ∃ l, CrtsAt W v l := by
  rcases open_slice Try.underlying27 hf with ⟨hcs, hx⟩ | ⟨a, len, cap, m, n, D, Pl, hcs, _, hl, hm, hmm, hx, hcell⟩
  · cases hcs
    exact ⟨[], CrtsAt.nil W none 0 (fun _ => rfl)⟩
  · cases hcs
    obtain ⟨y1, y2⟩ := y
    simp only [Prod.mk.injEq] at hx
    obtain ⟨hd, _⟩ := hx
    simp only [if_true] at hmm
    subst hmm
    have hcap := hs _ _ hd
    simp only [List.length_map, List.length_range, reachBytes] at hcap
    have each : ∀ i, i < m → ∃ q : Crt, W.cell? (a.add (i * 4)) = some (.int .i64 q.c) ∧ W.cell? (a.add (i * 4 + 1)) = some (.int .i64 q.b) ∧ W.cell? (a.add (i * 4 + 2)) = some (.int .i64 q.h) ∧ W.cell? (a.add (i * 4 + 3)) = some (.int .i64 q.u) := by
      intro i hi
      obtain ⟨cs', h1, h2⟩ := hcell i hi
      rw [cellsCert] at h1
      obtain ⟨_, hlen, hc⟩ := World.cells?_some h1
      obtain ⟨z0, z1, z2, z3, k, _, _, g0, g1, g2, g3⟩ := trod_struct4 Try.underlying39 h2
      obtain ⟨u0, u1, u2, u3, rfl⟩ := list4 hlen
      simp [cellsInt] at g0 g1 g2 g3
      obtain ⟨n0, e0, _⟩ := DataW.trod_int Try.underlying3 g0
      obtain ⟨n1, e1, _⟩ := DataW.trod_int Try.underlying3 g1
      obtain ⟨n2, e2, _⟩ := DataW.trod_int Try.underlying3 g2
      obtain ⟨n3, e3, _⟩ := DataW.trod_int Try.underlying3 g3
      simp only [List.cons.injEq, and_true] at e0 e1 e2 e3
      subst e0 e1 e2 e3
      have f0 := hc 0 (by omega)
      have f1 := hc 1 (by omega)
      have f2 := hc 2 (by omega)
      have f3 := hc 3 (by omega)
      rw [add_add] at f0 f1 f2 f3
      exact ⟨⟨n0, n1, n2, n3⟩, by simpa using f0, by simpa using f1, by simpa using f2, by simpa using f3⟩
    haveI : Inhabited Crt := ⟨⟨0, 0, 0, 0⟩⟩
    obtain ⟨q, hq⟩ := choose_lt each
    refine ⟨(List.range len).map q, some a, m, by simp, ⟨by simpa using hl, fun h => by cases h⟩, by simp; omega, fun h0 => ?_⟩
    simp only [List.length_map, List.length_range] at h0
    obtain ⟨b, off, spot⟩ := a
    have hspot : spot = none := by simpa [Addr.add] using World.cell?_spot (hq 0 (by omega)).1
    subst hspot
    refine ⟨b, off, rfl, fun j hj => ?_⟩
    simp only [List.length_map, List.length_range] at hj
    obtain ⟨h1, h2, h3, h4⟩ := hq j (by omega)
    rw [add_plain] at h1 h2 h3 h4
    exact ⟨by simpa using h1, by rw [Nat.add_assoc]; simpa using h2, by rw [Nat.add_assoc]; simpa using h3, by rw [Nat.add_assoc]; simpa using h4⟩

set_option maxHeartbeats 800000 in
theorem view_frame {H : Type} {enc : TypeId × Value → H} {W : World} {base : Nat} {v : Value} {d : DataW H} {p : List MemPlace} {ts : List TypeId} {ds : List (DataW H)} {j : Nat} (hv : Value.okWide Try.prog W .any base 29 v)
    (h : DataW.Trod enc Try.prog W 0 (fun _ => true) true 29 v d p) (hsz : (DataW.weightsEach Try.prog ts ds).all (· ≤ reachBytes) = true) (ht : ts[j]? = some 29) (hd : ds[j]? = some d) : ∃ f, FrmAt W v f := by
  obtain ⟨cs, rfl, hcs⟩ := okWide_struct Try.underlying29 hv
  obtain ⟨c0, c1, c2, c3, c4, c5, c6, c7, c8, c9, c10, rfl⟩ := array11 (hcs.trans cellsFrame)
  obtain ⟨fuel, hf⟩ := h
  obtain ⟨xs, n, _, hx, _, hl, hg⟩ := DataW.trod_struct Try.underlying29 hf
  obtain ⟨y0, y1, y2, y3, y4, y5, y6, rfl⟩ := list7 hl
  have g0 := hg 0 _ rfl
  have g1 := hg 1 _ rfl
  have g2 := hg 2 _ rfl
  have g3 := hg 3 _ rfl
  have g4 := hg 4 _ rfl
  have g5 := hg 5 _ rfl
  have g6 := hg 6 _ rfl
  simp [Value.cells, cellsInt, cellsBool, cellsMail, cellsCerts] at g0 g1 g2 g3 g4 g5 g6
  simp only [Prod.mk.injEq] at hx
  have hsz1 := sized_agg hsz ht (by rw [hd, hx.1]) Try.underlying29
  obtain ⟨zs, k, _, hz, _, hzl, hm⟩ := DataW.trod_struct Try.underlying26 g5
  obtain ⟨z0, z1, z2, z3, z4, rfl⟩ := list5 hzl
  have m0 := hm 0 _ rfl
  have m1 := hm 1 _ rfl
  have m2 := hm 2 _ rfl
  have m3 := hm 3 _ rfl
  have m4 := hm 4 _ rfl
  simp [cellsInt, cellsLabel, cellsInts, cellsString] at m0 m1 m2 m3 m4
  have hsz2 := sized_agg (j := 5) hsz1 rfl (by rw [hz]; rfl) Try.underlying26
  obtain ⟨n0, e0, _⟩ := DataW.trod_int Try.underlying3 g0
  obtain ⟨n1, e1, _⟩ := DataW.trod_int Try.underlying3 g1
  obtain ⟨n2, e2, _⟩ := DataW.trod_int Try.underlying3 g2
  obtain ⟨b3, e3, _⟩ := DataW.trod_bool Try.underlying4 g3
  obtain ⟨n4, e4, _⟩ := DataW.trod_int Try.underlying3 g4
  obtain ⟨n5, e5, _⟩ := DataW.trod_int Try.underlying3 m0
  obtain ⟨n6, e6, _⟩ := DataW.trod_int Try.underlying3 m1
  obtain ⟨s9, e9, _⟩ := DataW.trod_string Try.underlying9 m4
  simp only [List.cons.injEq, and_true] at e0 e1 e2 e3 e4 e5 e6 e9
  subst e0 e1 e2 e3 e4 e5 e6 e9
  obtain ⟨l, hl7, _⟩ := view_lab_c m2 fun elems spare e => by
    have := sized_slice hsz2 (j := 2) (t := 23) (e := 55) rfl (by rw [← e]; rfl) Try.underlying23
    rwa [bytesLevel] at this
  obtain ⟨zs, hl8⟩ := view_ints_c m3 fun elems spare e => by
    have := sized_slice hsz2 (j := 3) (t := 24) (e := 3) rfl (by rw [← e]; rfl) Try.underlying24
    rwa [bytesInt] at this
  obtain ⟨cr, hl10⟩ := view_crts_c g6 fun elems spare e => by
    have := sized_slice hsz1 (j := 6) (t := 27) (e := 39) rfl (by rw [← e]; rfl) Try.underlying27
    rwa [bytesCert] at this
  exact ⟨⟨n0, n1, n2, b3, n4, ⟨n5, n6, l, zs, s9.data.toList⟩, cr⟩, c7, c8, c10, rfl, hl7, hl8, hl10⟩
end Go.Proofs.Ytaeikpiinpmecab
