/- parcloselaw.trusts answers true. -/
import Derived.Test.YtichphepfmafjadTTrusted
namespace Go.Proofs.Ytichphepfmafjad
open Go.RowKit Go.Proofs.Parclose

theorem one_v : trV oneC 25 9 = .agg #[.bool false, .bool true, .bool false, .bool true] := by unfold trV; rw [one_0, one_1, one_2, one_3]
theorem eql_hosts (a b c d : Bool) (w : World) : (binOp .eql 28 (.agg #[.bool a, .bool b, .bool c, .bool d]) (.agg #[.bool a, .bool b, .bool c, .bool d])).run Try.prog w = .ok (.bool true) w := by
  cases a <;> cases b <;> cases c <;> cases d <;> kernel_rfl

theorem one_at (w : World) : CrtsAt (w.alloc (.cells #[.int .i64 25, .int .i64 1, .int .i64 3, .int .i64 9] 39)) (.slice (some ⟨w.heap.size, 0, none⟩) 1 1) oneC :=
  ⟨_, _, rfl, ⟨Nat.le_refl _, fun h => by cases h⟩, by decide, fun _ => ⟨w.heap.size, 0, rfl, fun j hj => by
    have : j = 0 := by
      have : j < 1 := hj
      omega
    subst this
    exact ⟨World.cell?_alloc_mark w _ _ _ 0, World.cell?_alloc_mark w _ _ _ 1, World.cell?_alloc_mark w _ _ _ 2, World.cell?_alloc_mark w _ _ _ 3⟩⟩⟩

set_option maxRecDepth 100000 in
theorem ltrusts_any (w : World) : Calls Try.prog 17 #[] w fun e w' => e = .returned (.bool true) ∧ Below w.heap.size w w' := by
  have ht := fun wx => trusted_any _ _ 25 9 _ (one_at wx)
  rw [one_v] at ht
  have he := fun wx => eql_hosts false true false true wx
  go_enter Try.func17, Try.ntmps17
  go_wp2_with (go_at_call 7; refine (ht _).mono ?_; rintro e w1 ⟨rfl, hw1⟩)
  go_ret
  exact ⟨rfl, (below_then (below_box _ _) hw1).alloc (by have := hw1.size; simp at this; omega) _⟩
end Go.Proofs.Ytichphepfmafjad
