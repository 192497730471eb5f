/- The statement KernelReads. -/
import Derived.Test.YtichphepfmafjacQKRunR
namespace Go.Proofs.Ytichphepfmafjac
open Go.RowKit Go.Proofs.Parclose

theorem kernelReads_any (host : Int) (vs : Value) (l : List Stp) (w : World) (hl : StpsAt w vs l) :
    Calls Try.prog 5 #[.int .i64 host, vs] w fun e w' => e = .returned (.bool true) ∧ Below w.heap.size w w' := by
  have HL := hid hl
  obtain ⟨ps, cps, rfl, _⟩ := id hl
  clear hl
  have hmf : ∀ (fn : Fn) (first cap : Array Value) (w : World), (Instr.makeFunc fn first cap).run Try.prog w = .ok (.func fn first cap) w := fun _ _ _ _ => rfl
  go_enter Try.func5, Try.ntmps5
  go_wp2_with (go_at_call 9; refine (run_reads host _ l _ HL.out).mono ?_; rintro e w1 ⟨rfl, hw1⟩)
  go_ret
  exact ⟨rfl, hw1⟩
end Go.Proofs.Ytichphepfmafjac
