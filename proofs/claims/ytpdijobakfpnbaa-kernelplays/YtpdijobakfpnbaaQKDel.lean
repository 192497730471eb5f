/- slices.Delete of the first mail. -/
import Derived.Test.YtpdijobakfpnbaaQKKer
namespace Go.Proofs.Ytpdijobakfpnbaa
open Go.RowKit Go.Proofs.Parclose
def zero5 : List Value := [.int .i64 0, .int .i64 0, .slice none 0 0, .slice none 0 0, .string ⟨#[]⟩]
theorem QcM (w : World) (ty : TypeId) (g o c : Nat) (hc : ∀ j, j < 5 → (w.cell? ⟨g, o + j, none⟩).isSome = true) (hf : ∀ j, j < 5 → w.frozen? ⟨g, o + j, none⟩ = false) :
 (Builtin.clear_ #[33] ty #[.slice (some ⟨g, o, none⟩) 1 c]).run Try.prog w = .ok (.tuple #[]) (w.setCells g o zero5) := by
 have hst := run_storeCells_cells (P := Try.prog) g o zero5 0 w (by simpa [zero5] using hc) (by simpa [zero5] using hf) (by intro v hv; simp [zero5] at hv; rcases hv with rfl | rfl | rfl | rfl | rfl <;> rfl)
 simp only [Nat.add_zero] at hst
 have hz : (Builtin.zeroCells (Value.agg #[.int .i64 0, .int .i64 0, .slice none 0 0, .slice none 0 0, .string ⟨#[]⟩]).cells 1).toList = zero5 := by kernel_rfl
 simp [Builtin.clear_, run_underlying Try.underlying33, hz, hst]
theorem Qf2 {w : World} {g n cap : Nat} {xs : List Value} (h : w.ownsRow 0 42 5 (.slice (some ⟨g, 0, none⟩) (n + 1) cap) (n + 1) xs) :
 ((w.setCells g 0 (xs.drop 5)).setCells g (n * 5) zero5).ownsRow 0 42 5 (.slice (some ⟨g, 0, none⟩) n cap) n (xs.drop 5) ∧ w.grownBy ((w.setCells g 0 (xs.drop 5)).setCells g (n * 5) zero5) (some g) := by
 have hx := h.1
 obtain ⟨cur, hg, h1, h2, h3, h4⟩ := QaU h
 obtain ⟨c1, k1, k2, k3⟩ := Q0 (xs.drop 5) 0 w cur hg
 obtain ⟨c2, l1, l2, l3⟩ := Q0 zero5 (n * 5) _ c1 k1
 have hcap : (n + 1) * 5 ≤ cap * 5 := Nat.mul_le_mul_right _ h1
 refine ⟨Qaa l1 (by omega) h2 (by omega) (by rw [List.length_drop, hx]; omega) fun j hj => ?_, ?_⟩
 · rw [l3 j, if_neg (by omega), k3 j, if_pos (by rw [List.length_drop, hx]; omega), Nat.sub_zero]
 · have a1 := QZ (b := g) (xs.drop 5) 0 w
   have a2 := QZ (b := g) zero5 (n * 5) (w.setCells g 0 (xs.drop 5))
   exact Qh a1 a2
set_option maxRecDepth 100000 in
set_option maxHeartbeats 1600000 in
theorem Qfb (g n cap : Nat) (xs : List Value) (w : World) (h : w.ownsRow 0 42 5 (.slice (some ⟨g, 0, none⟩) (n + 1) cap) (n + 1) xs) (hn : n ≤ 1000) (h1 : ∀ u ∈ xs, u.oneCell' = true) :
 Calls Try.prog 59 #[.slice (some ⟨g, 0, none⟩) (n + 1) cap, .int .i64 0, .int .i64 1] w fun e w' => e = .returned (.slice (some ⟨g, 0, none⟩) n cap) ∧ w'.ownsRow 0 42 5 (.slice (some ⟨g, 0, none⟩) n cap) n (xs.drop 5) ∧ w.grownBy w' (some g) := by
 obtain ⟨i0, hi, hz0, hz1, hz2⟩ := info_parts Qbh
 have hx := h.1
 have HD := hid (Qf2 (w := w.drew) h)
 obtain ⟨cur, hg, hc1, hc2, hc3, hc4⟩ := QaU h
 have hcell : ∀ j, w.cell? ⟨g, j, none⟩ = cur[j]? := fun j => Qa hg j
 have hfz : ∀ j, w.frozen? ⟨g, j, none⟩ = false := fun j => Qf hg j
 have hcap : (n + 1) * 5 ≤ cap * 5 := Nat.mul_le_mul_right _ hc1
 have HN : Hid (∀ j u, (xs.drop 5)[j]? = some u → w.cell? ((⟨g, 5, none⟩ : Addr).add j) = some u) := hid (fun j u hu => by
  rw [WideShapes.add_plain, hcell]
  rw [List.getElem?_drop] at hu
  have hj := (List.getElem?_eq_some_iff.1 hu).1
  rw [hc4 (5 + j) (by omega), hu])
 have HSP : Hid (∀ j, j < (xs.drop 5).length → (w.cell? ⟨g, 0 + 0 * 5 + j, none⟩).isSome = true ∧ w.frozen? ⟨g, 0 + 0 * 5 + j, none⟩ = false) := hid (fun j hj => by
  rw [List.length_drop] at hj
  exact ⟨by rw [show 0 + 0 * 5 + j = j by omega, hcell, Array.getElem?_eq_getElem (by omega)]; rfl, hfz _⟩)
 have HCL : Hid (∀ ty c, (Builtin.clear_ #[33] ty #[.slice (some ⟨g, n * 5, none⟩) 1 c]).run Try.prog (w.drew.setCells g 0 (xs.drop 5)) = .ok (.tuple #[]) ((w.drew.setCells g 0 (xs.drop 5)).setCells g (n * 5) zero5)) := hid (fun ty c => by
  obtain ⟨c1, k1, k2, k3⟩ := Q0 (xs.drop 5) 0 w.drew cur hg
  refine QcM _ ty g (n * 5) c (fun j hj => ?_) (fun j hj => Qf k1 _)
  rw [Qa k1, Array.getElem?_eq_getElem (by omega)]
  rfl)
 have hone : ∀ u ∈ xs.drop 5, u.oneCell' = true := fun u hu => h1 u (List.mem_of_mem_drop hu)
 have hdl : (xs.drop 5).length = n * 5 := by rw [List.length_drop, hx]; omega
 clear h h1 hcell hfz hc4
 generalize xs.drop 5 = ys at *
 have hb : (1 : Int) ≤ (n : Int) + 1 := by omega
 have hlt : n < cap := by omega
 by_cases hcp : cap = 1
 · have hn0 : n = 0 := by omega
   subst hcp
   subst hn0
   have hy0 : ys = [] := List.length_eq_zero_iff.1 (by omega)
   subst hy0
   go_enter Try.func59, Try.ntmps59
   go_wp2
   go_region_law ((refine step_append_room (by rfl) (.tmp 22) (.tmp 25) 33 (by rfl) 42 i0 5 Try.underlying33 hi hz1 g 0 0 1 (by rfl) ⟨g, 0, none⟩ 0 0 [] (by rfl) rfl (fun j u hu => by simp at hu) (fun u hu => by simp at hu) (by omega) (fun j hj => by simp at hj) ?_))
   all_goals
    have hcl := HCL.out
    show Exit.then _ _ Exit.normal (Act.put _ (some 0) _) _
    go_frame
    go_wp2
    go_ret
    exact ⟨rfl, (by simpa using HD.out.1), QaF (by simpa using HD.out.2)⟩
 · go_enter Try.func59, Try.ntmps59
   go_wp2
   go_region_law ((refine step_append_room (by rfl) (.tmp 22) (.tmp 25) 33 (by rfl) 42 i0 5 Try.underlying33 hi hz1 g 0 0 cap (by rfl) ⟨g, 5, none⟩ n (cap - 1) ys (by rfl) hdl HN.out hone (by omega) HSP.out ?_))
   all_goals
    have hcl := HCL.out
    show Exit.then _ _ Exit.normal (Act.put _ (some 0) _) _
    go_frame
    go_wp2
    go_ret
    exact ⟨rfl, HD.out.1, QaF HD.out.2⟩
end Go.Proofs.Ytpdijobakfpnbaa
