/- parclosekeep.calls answers true. -/
import Derived.Test.YtichphepfmafjacQKNil
namespace Go.Proofs.Ytichphepfmafjac
open Go.RowKit Go.Proofs.Parclose

theorem field_reply1 (a b c : Value) (w : World) : (Instr.field 40 (.agg #[a, b, c]) 1).run Try.prog w = .ok b w := by kernel_rfl
theorem field_thread1 (a b c d e : Value) (w : World) : (Instr.field 31 (.agg #[a, b, c, d, e]) 1).run Try.prog w = .ok b w := by kernel_rfl

def firstKer : Ker := ⟨2, 1, [zeroThr, { zeroThr with own := [40] }, zeroThr, zeroThr]⟩
theorem first_cat : categoryL (freshKer 2) ((1 : Nat) : Int) zeroThr = (firstKer, ⟨0, 40, []⟩) := rfl

set_option maxRecDepth 100000 in
set_option maxHeartbeats 1600000 in
theorem kcalls_any (w : World) : Calls Try.prog 17 #[] w fun e w' => e = .returned (.bool true) ∧ Below w.heap.size w w' := by
  have hcall := fun (wx : World) (h : KerAt wx w.heap.size [w.heap.size] [nilV, nilV, nilV, nilV] (freshKer 2)) => Call_cat w.heap.size 1 _ _ (freshKer 2) wx h (by decide) (by decide) (by decide) List.Pairwise.nil (by decide) (by decide) (by decide)
  have hthr := fun (wx : World) (F : List Nat) (V : List ThrV) (h : KerAt wx w.heap.size F V firstKer) => Thread0 w.heap.size 1 F V firstKer wx h (by rw [h.len]; omega) (by decide) (by decide) (by decide) rfl rfl
  have e1 : (freshKer 2).ths[1] = zeroThr := rfl
  simp only [e1, first_cat] at hcall
  have e2 : repV ⟨0, 40, []⟩ = .agg #[.int .i64 0, .int .i64 40, .string ⟨#[]⟩] := rfl
  simp only [e2] at hcall
  have e3 : firstKer.ths[1].own.length = 1 := rfl
  have e4 : firstKer.ths[1].label.length = 0 := rfl
  simp only [e3, e4] at hthr
  have HC := hid hcall
  have HT := hid hthr
  clear hcall hthr e1 e2 e3 e4
  have hfr := field_reply1
  have hft := field_thread1
  go_enter Try.func17, Try.ntmps17
  go_wp2_with (first
    | (go_at_call 15; refine (new_in 2 _ (by omega)).mono ?_; rintro e w1 ⟨rfl, hk1, hw1⟩; have HK1 := hid hk1; have HB1 := hid hw1; clear hk1 hw1)
    | (go_at_call 19; refine (HC.out _ HK1.out).mono ?_; rintro e w2 ⟨rfl, G, V', hk2, hs2⟩; have HK2 := hid hk2; have HS2 := hid hs2; clear hk2 hs2)
    | (go_at_call 11; refine (HT.out _ _ _ HK2.out).mono ?_; rintro e w3 ⟨p, q, p', q', p5, q5, p6, q6, rfl, hw3⟩))
  go_ret
  refine ⟨rfl, ?_⟩
  have hs := HS2.out.keptF HK1.out
  have hb12 : Below w.heap.size w w2 := HB1.out.trans ⟨hs.os, hs.tape, hs.output, hs.size, fun k hk => hs.block k (Nat.lt_of_lt_of_le hk HB1.out.size) (by simp; omega)⟩
  exact below_then hb12 hw3
end Go.Proofs.Ytichphepfmafjac
