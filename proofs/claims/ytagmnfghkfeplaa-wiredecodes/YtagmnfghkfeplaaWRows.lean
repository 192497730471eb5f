/- Rows of certs that a call has made, as lists in memory. -/
import Derived.Test.YtagmnfghkfeplaaRows0
namespace Go.Proofs.Ytagmnfghkfeplaa
open Go.RowKit Go.Proofs.Parclose

theorem info_cert : (Try.prog.info? 39).map (fun i => (i.zero, i.size, i.bytes)) = some (some (.agg #[.int .i64 0, .int .i64 0, .int .i64 0, .int .i64 0]), 4, 32) := by kernel_rfl
def flat4 (l : List Crt) : List Value := l.flatMap fun x => [.int .i64 x.c, .int .i64 x.b, .int .i64 x.h, .int .i64 x.u]
theorem flat4_get (l : List Crt) (i : Nat) (hi : i < l.length) : (flat4 l)[i * 4]? = some (.int .i64 l[i].c) ∧ (flat4 l)[i * 4 + 1]? = some (.int .i64 l[i].b) ∧ (flat4 l)[i * 4 + 2]? = some (.int .i64 l[i].h) ∧ (flat4 l)[i * 4 + 3]? = some (.int .i64 l[i].u) := by
  induction l generalizing i with
  | nil => simp at hi
  | cons x r ih =>
    have e : flat4 (x :: r) = .int .i64 x.c :: .int .i64 x.b :: .int .i64 x.h :: .int .i64 x.u :: flat4 r := rfl
    cases i with
    | zero => rw [e]; exact ⟨rfl, rfl, rfl, rfl⟩
    | succ i =>
      obtain ⟨h1, h2, h3, h4⟩ := ih i (by simpa using hi)
      rw [e, show (i + 1) * 4 = i * 4 + 1 + 1 + 1 + 1 by omega, show i * 4 + 1 + 1 + 1 + 1 + 1 = i * 4 + 1 + 1 + 1 + 1 + 1 from rfl]
      refine ⟨?_, ?_, ?_, ?_⟩
      · simp only [List.getElem?_cons_succ, List.getElem_cons_succ]; exact h1
      · rw [show i * 4 + 1 + 1 + 1 + 1 + 1 = (i * 4 + 1) + 1 + 1 + 1 + 1 by omega]; simp only [List.getElem?_cons_succ, List.getElem_cons_succ]; exact h2
      · rw [show i * 4 + 1 + 1 + 1 + 1 + 2 = (i * 4 + 2) + 1 + 1 + 1 + 1 by omega]; simp only [List.getElem?_cons_succ, List.getElem_cons_succ]; exact h3
      · rw [show i * 4 + 1 + 1 + 1 + 1 + 3 = (i * 4 + 3) + 1 + 1 + 1 + 1 by omega]; simp only [List.getElem?_cons_succ, List.getElem_cons_succ]; exact h4

theorem crts_of_own {w : World} {base : Nat} {v : Value} {l : List Crt} (h : w.ownsRow base 39 4 v l.length (flat4 l)) (hl : l.length ≤ 4398046511104) : CrtsAt w v l := by
  obtain ⟨p, cap, rfl, h1, h2⟩ := owns_cells h
  refine ⟨p, cap, rfl, h1, hl, fun h0 => ?_⟩
  obtain ⟨g, rfl, hc⟩ := h2 h0
  exact ⟨g, 0, rfl, fun j hj => by
    obtain ⟨g1, g2, g3, g4⟩ := flat4_get l j hj
    rw [Nat.zero_add]
    exact ⟨hc _ _ g1, hc _ _ g2, hc _ _ g3, hc _ _ g4⟩⟩
theorem flat4_one (l : List Crt) : ∀ u ∈ flat4 l, u.oneCell' = true := by
  intro u hu
  obtain ⟨x, _, hx⟩ := List.mem_flatMap.1 hu
  simp at hx
  rcases hx with rfl | rfl | rfl | rfl <;> rfl
theorem laid4 (w : World) (a b c d : Value) (t : TypeId) : ∀ j u, [a, b, c, d][j]? = some u → (w.alloc (.cells #[a, b, c, d] t)).cell? ((⟨w.heap.size, 0, none⟩ : Addr).add j) = some u := by
  intro j u hu
  rw [WideShapes.add_plain, Nat.zero_add, World.cell?_alloc_mark]
  simpa using hu
end Go.Proofs.Ytagmnfghkfeplaa
