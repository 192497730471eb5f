/- Where what is read is of small bulk, each label that was read is short. -/
import Derived.Test.YtcnlfglkfoaocaaView
namespace Go.Proofs.Ytcnlfglkfoaocaa
open Go.ChangeShapes Go.WideShapes Go.ChangeAt Go.RowKit Go.Deep

theorem bulk_pos {H : Type} (d : DataW H) : 1 ≤ Rows.uptoBulk d := by
  cases d with
  | lit l => cases l <;> simp [Rows.uptoBulk]
  | _ => simp [Rows.uptoBulk]

theorem bulk_len {H : Type} : ∀ l : List (DataW H), l.length ≤ Rows.uptoBulkAll l
  | [] => by simp [Rows.uptoBulkAll]
  | x :: r => by
    have h1 := bulk_pos x
    have h2 := bulk_len r
    simp only [Rows.uptoBulkAll, List.length_cons]
    omega

theorem bulk_small {H : Type} {l : List (DataW H)} (h : Rows.uptoSmall H l = true) : Rows.uptoBulkAll l ≤ 1048576 := of_decide_eq_true h

/-- the length of a label is at most its bulk -/
theorem label_bulk {H : Type} {enc : TypeId × Value → H} {W : World} {v : Value} {d : DataW H} {p : List MemPlace} {l : List (Int × Int)}
    (h : DataW.Trod enc Try.prog W 0 (fun _ => true) true 23 v d p) (hl : LabAt W v l) : l.length ≤ Rows.uptoBulk d := by
  obtain ⟨q, cap, rfl, _⟩ := hl
  obtain ⟨fuel, hf⟩ := h
  rcases open_slice Try.underlying23 hf with ⟨hcs, _⟩ | ⟨a, len, cap', m, n, D, Pl, hcs, _, _, _, _, hx, _⟩
  · simp [Value.cells] at hcs
    rw [hcs.2.1]
    exact Nat.zero_le _
  · simp [Value.cells] at hcs
    obtain ⟨rfl, e, rfl⟩ := hcs
    simp only [Prod.mk.injEq] at hx
    obtain ⟨rfl, _⟩ := hx
    have h1 := bulk_len ((List.range len).map D)
    simp only [Rows.uptoBulk]
    simp at h1
    omega

theorem ints_bulk {H : Type} {enc : TypeId × Value → H} {W : World} {v : Value} {d : DataW H} {p : List MemPlace} {zs : List Int}
    (h : DataW.Trod enc Try.prog W 0 (fun _ => true) true 24 v d p) (hl : IntsAt W v zs) : zs.length ≤ Rows.uptoBulk d := by
  obtain ⟨q, cap, rfl, _⟩ := hl
  obtain ⟨fuel, hf⟩ := h
  rcases open_slice Try.underlying24 hf with ⟨hcs, _⟩ | ⟨a, len, cap', m, n, D, Pl, hcs, _, _, _, _, hx, _⟩
  · simp [Value.cells] at hcs
    rw [hcs.2.1]
    exact Nat.zero_le _
  · simp [Value.cells] at hcs
    obtain ⟨rfl, e, rfl⟩ := hcs
    simp only [Prod.mk.injEq] at hx
    obtain ⟨rfl, _⟩ := hx
    have h1 := bulk_len ((List.range len).map D)
    simp only [Rows.uptoBulk]
    simp at h1
    omega
end Go.Proofs.Ytcnlfglkfoaocaa
