/- parclosekeep.pick answers a number below. -/
import Derived.Test.YtagmnfghkfeplaaMem
namespace Go.Proofs.Ytagmnfghkfeplaa
open Go.RowKit Go.Proofs.Parclose

theorem kpick_any (k n : Int) (w : World) (hn : 0 < n) (hn2 : n ≤ 100000) : Calls Try.prog 24 #[.int .i64 k, .int .i64 n] w fun e w' => ∃ p : Nat, e = .returned (.int .i64 p) ∧ (p : Int) < n ∧ w' = w := by
  have hne : n ≠ 0 := by omega
  have h1 := Int.tmod_lt_of_pos k hn
  have h2 : -n < k.tmod n := by have := Int.lt_tmod_of_pos k hn; omega
  by_cases hneg : k.tmod n < 0
  · go_enter Try.func24, Try.ntmps24
    go_wp2
    go_ret
    refine ⟨(k.tmod n + n).toNat, ret_int ?_, by omega, rfl⟩
    omega
  · go_enter Try.func24, Try.ntmps24
    go_wp2
    go_ret
    refine ⟨(k.tmod n).toNat, ret_int ?_, by omega, rfl⟩
    omega
end Go.Proofs.Ytagmnfghkfeplaa
