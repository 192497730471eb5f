/- slices.Delete of one text, slices.Clone of texts. -/
import Derived.Test.YtgpldlbmjakjhaaGreatRCClu
import Derived.Test.YtgpldlbmjakjhaaGreatRKPut
namespace Go.Proofs.YtgpldlbmjakjhaaGreat
open Go.RowKit Go.Proofs.Parclose
theorem run_clear_text (w : World) (ty : TypeId) (g o c : Nat) (hc : (w.cell? ⟨g, o, none⟩).isSome = true) (hf : w.frozen? ⟨g, o, none⟩ = false) :
    (Builtin.clear_ #[48] ty #[.slice (some ⟨g, o, none⟩) 1 c]).run Tryz.prog w = .ok (.tuple #[]) (w.setCells g o [.string ⟨#[]⟩]) := by
  have hst := run_storeCells_cells (P := Tryz.prog) g o [.string ⟨#[]⟩] 0 w (fun j hj => by
    have h0 : j = 0 := by simpa using hj
    subst h0
    simpa using hc) (fun j hj => by
    have h0 : j = 0 := by simpa using hj
    subst h0
    simpa using hf) (by intro v hv; simp at hv; rw [hv]; rfl)
  simp only [Nat.add_zero] at hst
  have hz : (Builtin.zeroCells (Value.string ⟨#[]⟩).cells 1).toList = [.string ⟨#[]⟩] := by kernel_rfl
  simp [Builtin.clear_, run_underlying Tryz.underlying48, hz, hst]
theorem del_texts {w : World} {g n cap i : Nat} {xs : List Value} (h : w.ownsRow 0 9 1 (.slice (some ⟨g, 0, none⟩) (n + 1) cap) (n + 1) xs) (hi : i ≤ n) :
    ((w.setCells g i (xs.drop (i + 1))).setCells g n [.string ⟨#[]⟩]).ownsRow 0 9 1 (.slice (some ⟨g, 0, none⟩) n cap) n (xs.take i ++ xs.drop (i + 1)) ∧ w.grownBy ((w.setCells g i (xs.drop (i + 1))).setCells g n [.string ⟨#[]⟩]) (some g) := by
  have hx := h.1
  obtain ⟨cur, hg, h1, h2, h3, h4⟩ := own_get h
  obtain ⟨c1, k1, k2, k3⟩ := heap_cells (xs.drop (i + 1)) i w cur hg
  obtain ⟨c2, l1, l2, l3⟩ := heap_cells [.string ⟨#[]⟩] n _ c1 k1
  refine ⟨own_of_cells l1 (by omega) h2 (by omega) (by rw [List.length_append, List.length_take, List.length_drop, hx]; omega) fun j hj => ?_, ?_⟩
  · rw [l3 j, if_neg (by simp; omega), k3 j]
    have hlx : xs.length = n + 1 := by omega
    by_cases e : i ≤ j
    · rw [if_pos (by rw [List.length_drop]; omega), List.getElem?_append_right (by rw [List.length_take]; omega), List.length_take, show min i xs.length = i by omega]
    · rw [if_neg (by omega), List.getElem?_append_left (by rw [List.length_take]; omega), List.getElem?_take, if_pos (by omega), h4 j (by omega)]
  · have a1 := grown_cells (b := g) (xs.drop (i + 1)) i w
    have a2 := grown_cells (b := g) [.string ⟨#[]⟩] n (w.setCells g i (xs.drop (i + 1)))
    exact grown_trans a1 a2
set_option maxRecDepth 100000 in
set_option maxHeartbeats 1600000 in
theorem deleteT_any (g n cap i : Nat) (xs : List Value) (w : World) (h : w.ownsRow 0 9 1 (.slice (some ⟨g, 0, none⟩) (n + 1) cap) (n + 1) xs) (hn : n ≤ 1000) (hin : i ≤ n) (h1 : ∀ u ∈ xs, u.oneCell' = true) :
    Calls Tryz.prog 69 #[.slice (some ⟨g, 0, none⟩) (n + 1) cap, .int .i64 i, .int .i64 ((i : Int) + 1)] w fun e w' => e = .returned (.slice (some ⟨g, 0, none⟩) n cap) ∧ w'.ownsRow 0 9 1 (.slice (some ⟨g, 0, none⟩) n cap) n (xs.take i ++ xs.drop (i + 1)) ∧ w.grownBy w' (some g) := by
  obtain ⟨i0, hi, hz0, hz1, hz2⟩ := info_parts info_text
  have hx := h.1
  have HD := hid (del_texts (w := w.drew) h hin)
  obtain ⟨cur, hg, hc1, hc2, hc3, hc4⟩ := own_get h
  have hcell : ∀ j, w.cell? ⟨g, j, none⟩ = cur[j]? := fun j => heap_cell hg j
  have hfz : ∀ j, w.frozen? ⟨g, j, none⟩ = false := fun j => heap_frozen hg j
  have HN : Hid (∀ j u, (xs.drop (i + 1))[j]? = some u → w.cell? ((⟨g, i + 1, none⟩ : Addr).add j) = some u) := hid (fun j u hu => by
    rw [WideShapes.add_plain, hcell]
    rw [List.getElem?_drop] at hu
    have hj := (List.getElem?_eq_some_iff.1 hu).1
    rw [hc4 (i + 1 + j) (by omega), hu])
  have HSP : Hid (∀ j, j < (xs.drop (i + 1)).length → (w.cell? ⟨g, 0 + i * 1 + j, none⟩).isSome = true ∧ w.frozen? ⟨g, 0 + i * 1 + j, none⟩ = false) := hid (fun j hj => by
    rw [List.length_drop] at hj
    exact ⟨by rw [show 0 + i * 1 + j = i + j by omega, hcell, Array.getElem?_eq_getElem (by omega)]; rfl, hfz _⟩)
  have HCL : Hid (∀ ty c, (Builtin.clear_ #[48] ty #[.slice (some ⟨g, n, none⟩) 1 c]).run Tryz.prog (w.drew.setCells g i (xs.drop (i + 1))) = .ok (.tuple #[]) ((w.drew.setCells g i (xs.drop (i + 1))).setCells g n [.string ⟨#[]⟩])) := hid (fun ty c => by
    obtain ⟨c1, k1, k2, k3⟩ := heap_cells (xs.drop (i + 1)) i w.drew cur hg
    refine run_clear_text _ ty g n c ?_ (heap_frozen k1 _)
    rw [heap_cell k1, Array.getElem?_eq_getElem (by omega)]
    rfl)
  have hone : ∀ u ∈ xs.drop (i + 1), u.oneCell' = true := fun u hu => h1 u (List.mem_of_mem_drop hu)
  have hdl : (xs.drop (i + 1)).length = (n - i) * 1 := by rw [List.length_drop, hx]; omega
  clear h h1 hcell hfz hc4 hg hc3
  generalize xs.take i ++ xs.drop (i + 1) = zs at *
  generalize xs.drop (i + 1) = ys at *
  have hb : (i : Int) + 1 ≤ (n : Int) + 1 := by omega
  have hlt : n < cap := by omega
  have hni : i + (n - i) = n := by omega
  have j0 : (0 : Int) ≤ i := by omega
  have j1 : (i : Int) ≤ (i : Int) + 1 := by omega
  have j2 : (i : Int) ≤ cap := by omega
  have j3 : (i : Int) + 1 ≤ cap := by omega
  have j4 : (0 : Int) ≤ (i : Int) + 1 := by omega
  by_cases hcp : i + 1 = cap
  · have hn0 : n = i := by omega
    subst hn0
    subst hcp
    have hy0 : ys = [] := List.length_eq_zero_iff.1 (by omega)
    subst hy0
    go_enter Tryz.func69, Tryz.ntmps69
    go_wp2
    go_region_law ((refine step_append_room (by rfl) (.tmp 22) (.tmp 25) 48 (by rfl) 9 i0 1 Tryz.underlying48 hi hz1 g 0 n (n + 1) (by rfl) ⟨g, 0, none⟩ 0 0 [] (by rfl) rfl (fun j u hu => by simp at hu) (fun u hu => by simp at hu) (by omega) (fun j hj => by simp at hj) ?_))
    all_goals
      have hcl := HCL.out
      show Exit.then _ _ Exit.normal (Act.put _ (some 0) _) _
      go_frame
      go_wp2
      go_ret
      exact ⟨rfl, (by simpa using HD.out.1), grown_drew (by simpa using HD.out.2)⟩
  · have hcp2 : ¬ cap = i + 1 := fun e => hcp e.symm
    clear hcp
    go_enter Tryz.func69, Tryz.ntmps69
    go_wp2
    go_region_law ((refine step_append_room (by rfl) (.tmp 22) (.tmp 25) 48 (by rfl) 9 i0 1 Tryz.underlying48 hi hz1 g 0 i cap (by rfl) ⟨g, i + 1, none⟩ (n - i) (cap - (i + 1)) ys (by rfl) hdl HN.out hone (by omega) HSP.out ?_))
    all_goals
      have hcl := HCL.out
      show Exit.then _ _ Exit.normal (Act.put _ (some 0) _) _
      go_frame
      go_wp2
      go_ret
      exact ⟨rfl, HD.out.1, grown_drew HD.out.2⟩
end Go.Proofs.YtgpldlbmjakjhaaGreat
