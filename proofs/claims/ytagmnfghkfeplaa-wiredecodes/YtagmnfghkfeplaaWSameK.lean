/- parclosekeep.sameNumbers, sameMail and sameFrame answer true of two that are the same, and turn nothing. -/
import Derived.Test.YtagmnfghkfeplaaWGoodF
import Derived.Test.YtagmnfghkfeplaaSame
namespace Go.Proofs.Ytagmnfghkfeplaa
open Go.RowKit Go.Proofs.Parclose

set_option maxHeartbeats 800000 in
theorem ksameNumbers_eq (va vb : Value) (l : List Int) (w : World) (ha : IntsAt w va l) (hb : IntsAt w vb l) :
    Calls Try.prog 60 #[va, vb] w fun e w' => e = .returned (.bool true) ∧ Below w.heap.size w w' := by
  obtain ⟨p, cap, rfl, _, _, hca⟩ := ha
  obtain ⟨q, cap', rfl, _, _, hcb⟩ := hb
  go_enter Try.func60, Try.ntmps60
  go_wp2
  go_loopw [5] (fun i wr => ∃ k n : Nat, k ≤ l.length ∧ i = .int .i64 k ∧ wr = w.drewN n) (fun i _ => l.length - (intOf i).toNat)
  case atStart => exact ⟨0, 0, Nat.zero_le _, rfl, rfl⟩
  case round =>
    obtain ⟨k, n, hk, rfl, rfl⟩ := hrel
    by_cases hlt : k < l.length
    · obtain ⟨ba, oa, rfl, hcA⟩ := hca (by omega)
      obtain ⟨bb, ob, rfl, hcB⟩ := hcb (by omega)
      have ga := hcA k hlt
      have gb := hcB k hlt
      have hI : (k : Int) < (l.length : Int) := by omega
      clear hca hcb hcA hcB
      go_wp2_with fail
      go_quiet (fail)
      go_wp2
      go_roundw
      case rel => exact ⟨k + 1, _, hlt, by go_num, by first | rfl | (rw [World.drewN_drewN])⟩
      case measure => simp [intOf]; omega
    · go_wp2
      go_ret
      exact ⟨rfl, below_drewN _ _⟩

theorem ksameMail_eq (va vb : Value) (m : Mal) (w : World) (ha : MalAt w va m) (hb : MalAt w vb m) :
    Calls Try.prog 48 #[va, vb] w fun e w' => e = .returned (.bool true) ∧ Below w.heap.size w w' := by
  obtain ⟨vl, vg, rfl, hl, hg⟩ := ha
  obtain ⟨vl', vg', rfl, hl', hg'⟩ := hb
  obtain ⟨pl, cl, rfl, _⟩ := id hl
  obtain ⟨pg, cg, rfl, _⟩ := id hg
  obtain ⟨pl', cl', rfl, _⟩ := id hl'
  obtain ⟨pg', cg', rfl, _⟩ := id hg'
  unfold malV
  have hsame : sameB m.label m.label = true := (sameB_iff _ _).2 rfl
  have hsl := fun wx (h : Below w.heap.size w wx) => same_any _ _ m.label m.label wx (hl.below h) (hl'.below h)
  rw [hsame] at hsl
  have hsn := fun wx (h : Below w.heap.size w wx) => ksameNumbers_eq _ _ m.grants wx (hg.below h) (hg'.below h)
  go_enter Try.func48, Try.ntmps48
  go_wp2_with fail
  refine (hsl _ ((below_box w _).alloc (by simp) _)).mono ?_
  rintro e w1 ⟨rfl, hw1⟩
  have c3 : w1.cell? ⟨w.heap.size, 3, none⟩ = some (.slice pg m.grants.length cg) := by rw [hw1.cell (p := ⟨w.heap.size, 3, none⟩) (by simp; omega)]; simp
  have d3 : w1.cell? ⟨w.heap.size + 1, 3, none⟩ = some (.slice pg' m.grants.length cg') := by rw [hw1.cell (p := ⟨w.heap.size + 1, 3, none⟩) (by simp)]; simp
  have hb1 := below_then ((below_box w _).alloc (by simp) _) hw1
  clear hw1
  go_wp2_with fail
  refine (hsn _ hb1).mono ?_
  rintro e w2 ⟨rfl, hw2⟩
  go_wp2
  go_ret
  exact ⟨rfl, below_then hb1 hw2⟩
end Go.Proofs.Ytagmnfghkfeplaa
