/- Parts of what came in: labels, lists of numbers, and what a struct's parts weigh. -/
import Derived.Test.YtlbdaklmlknmbaaGreatYWMem
import Derived.Test.YtlbdaklmlknmbaaGreatYView
import Derived.Lib.SmallJoins
import Derived.Deep.Slices
namespace Go.Proofs.YtlbdaklmlknmbaaGreat
open Go.ChangeShapes Go.WideShapes Go.ChangeAt Go.RowKit Go.Deep Go.Joins Go.Proofs.Parclose
theorem cellsLabel : Tryz.prog.cellsOf 27 = 1 := by kernel_rfl
theorem cellsInts : Tryz.prog.cellsOf 28 = 1 := by kernel_rfl
theorem cellsString : Tryz.prog.cellsOf 9 = 1 := by kernel_rfl
theorem Qev {H : Type} {ts : List TypeId} {ds : List (DataW H)} (h : (DataW.weightsEach Tryz.prog ts ds).all (· ≤ reachBytes) = true) {j : Nat} {t : TypeId} {fs : Array Field} {parts : List (DataW H)} (ht : ts[j]? = some t) (hd : ds[j]? = some (.agg parts)) (hu : Tryz.prog.underlying t = some (.struct fs)) :
 (DataW.weightsEach Tryz.prog (fs.toList.map (·.type)) parts).all (· ≤ reachBytes) = true := by
 rw [List.all_eq_true] at h ⊢
 intro n hn
 exact h n (DataW.weights_mem_each ht hd n (by simpa [DataW.weights, hu] using hn))
set_option maxRecDepth 100000 in
theorem QgN {H : Type} {enc : TypeId × Value → H} {W : World} {v : Value} {y : DataW H × List MemPlace} {fuel : Nat}
 (hf : DataW.trod enc Tryz.prog W 0 (fun _ => true) true fuel 27 [v] = some y) (hs : ∀ elems spare, y.1 = .slice elems spare → (elems.length + spare.length) * 16 ≤ reachBytes) : ∃ l, LabAt W v l ∧ WfL l := by
 rcases open_slice_pairs Tryz.underlying27 Tryz.underlying92 cellsLevel rfl rfl cellsInt cellsInt hf with ⟨hcs, hx⟩ | ⟨a, len, cap, m, n, V0, V1, D0, D1, P0, P1, hcs, _, hl, hm, hmm, hx, hcell⟩
 · cases hcs
   exact ⟨[], LabAt.nil W none 0 (fun _ => rfl), fun x hx => by cases hx⟩
 · cases hcs
   obtain ⟨y1, y2⟩ := y
   simp only [Prod.mk.injEq] at hx
   obtain ⟨hd, _⟩ := hx
   simp only [if_true] at hmm
   subst hmm
   have hcap := hs _ _ hd
   simp only [List.length_map, List.length_range, reachBytes] at hcap
   have each : ∀ i, i < m → ∃ q : Int × Int, W.cell? (a.add (i * 2)) = some (.int .i64 q.1) ∧ W.cell? (a.add (i * 2 + 1)) = some (.int .i64 q.2) ∧ (Lit.int .i64 q.1).wf = true ∧ (Lit.int .i64 q.2).wf = true := by
    intro i hi
    obtain ⟨h1, h2, h3, h4⟩ := hcell i hi
    obtain ⟨x, e1, _, wx⟩ := DataW.trod_int Tryz.underlying3 h3
    obtain ⟨y, e2, _, wy⟩ := DataW.trod_int Tryz.underlying3 h4
    simp only [List.cons.injEq, and_true] at e1 e2
    exact ⟨(x, y), by rw [h1, e1], by rw [h2, e2], wx, wy⟩
   obtain ⟨q, hq⟩ := choose_lt each
   refine ⟨(List.range len).map q, ⟨some a, m, by simp, ⟨by simpa using hl, fun h => by cases h⟩, by simp; omega, fun h0 => ?_⟩, ?_⟩
   rotate_left
   · intro x hx
     obtain ⟨i, hi, e⟩ := List.mem_map.1 hx
     subst e
     exact ⟨(hq i (by have := List.mem_range.1 hi; omega)).2.2.1, (hq i (by have := List.mem_range.1 hi; omega)).2.2.2⟩
   simp only [List.length_map, List.length_range] at h0
   obtain ⟨b, off, spot⟩ := a
   have hspot : spot = none := by simpa [Addr.add] using World.cell?_spot (hq 0 (by omega)).1
   subst hspot
   refine ⟨b, off, rfl, fun j hj => ?_⟩
   simp only [List.length_map, List.length_range] at hj
   obtain ⟨h1, h2, _⟩ := hq j (by omega)
   rw [add_plain] at h1 h2
   refine ⟨by simpa using h1, by rw [Nat.add_assoc]; simpa using h2⟩
set_option maxRecDepth 100000 in
theorem QfG {H : Type} {enc : TypeId × Value → H} {W : World} {v : Value} {y : DataW H × List MemPlace} {fuel : Nat}
 (hf : DataW.trod enc Tryz.prog W 0 (fun _ => true) true fuel 28 [v] = some y) (hs : ∀ elems spare, y.1 = .slice elems spare → (elems.length + spare.length) * 8 ≤ reachBytes) : ∃ zs, IntsAt W v zs ∧ ∀ z ∈ zs, (Lit.int .i64 z).wf = true := by
 rcases open_ints Tryz.underlying28 Tryz.underlying3 cellsInt hf with ⟨hcs, hx⟩ | ⟨a, len, cap, zs, hcs, _, hl, hm, hz, hx, hcell, hwz⟩
 · cases hcs
   exact ⟨[], IntsAt.nil W none 0 (fun _ => rfl), fun z hz => by cases hz⟩
 · cases hcs
   obtain ⟨y1, y2⟩ := y
   simp only [Prod.mk.injEq] at hx
   obtain ⟨hd, _⟩ := hx
   simp only [if_true] at hz
   have hcap := hs _ _ hd
   simp only [lits, List.length_map, List.length_take, List.length_drop, reachBytes] at hcap
   refine ⟨zs.take len, ⟨some a, cap, by simp; omega, ⟨by simp; omega, fun h => by cases h⟩, by simp; omega, fun h0 => ?_⟩, fun z hz2 => hwz z (List.mem_of_mem_take hz2)⟩
   simp only [List.length_take] at h0
   obtain ⟨b, off, spot⟩ := a
   have hspot : spot = none := by simpa [Addr.add] using World.cell?_spot (hcell 0 (by omega))
   subst hspot
   refine ⟨b, off, rfl, fun j hj => ?_⟩
   simp only [List.length_take] at hj
   have h1 := hcell j (by omega)
   rw [add_plain] at h1
   rw [h1]
   have hj2 : j < zs.length := by omega
   simp [List.getD, hj2]
end Go.Proofs.YtlbdaklmlknmbaaGreat
