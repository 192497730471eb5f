/- KernelNil answers true. -/
import Derived.Test.YtgikaebcgdhknabKNil
import Derived.WalkSpells
namespace Go.Proofs.Ytgikaebcgdhknab
open Go.RowKit Go.Proofs.Parclose

theorem sameLabel_nil (w : World) : Calls Try.prog 68 #[.slice none 0 0, .slice none 0 0] w fun e w' => e = .returned (.bool true) ∧ w' = w := by
  go_enter Try.func68, Try.ntmps68
  go_wp2
  refine wp_loop_rounds 1 ?_
  rw [rounds_succ]
  go_wp2
  go_ret
  exact ⟨rfl, rfl⟩
theorem sameNumbers_nil (w : World) : Calls Try.prog 69 #[.slice none 0 0, .slice none 0 0] w fun e w' => e = .returned (.bool true) ∧ w' = w := by
  go_enter Try.func69, Try.ntmps69
  go_wp2
  refine wp_loop_rounds 1 ?_
  rw [rounds_succ]
  go_wp2
  go_ret
  exact ⟨rfl, rfl⟩

abbrev zeroM : Value := .agg #[.int .i64 0, .int .i64 0, .slice none 0 0, .slice none 0 0, .string ⟨#[]⟩]
abbrev zeroT : Value := .agg #[.slice none 0 0, .slice none 0 0, .string ⟨#[]⟩, .slice none 0 0, .slice none 0 0]

set_option maxRecDepth 100000 in
set_option maxHeartbeats 1600000 in
theorem sameMail_zero (w : World) : Calls Try.prog 29 #[zeroM, zeroM] w fun e w' => e = .returned (.bool true) ∧ Below w.heap.size w w' := by
  go_enter Try.func29, Try.ntmps29
  go_wp2_with (first | (go_at_call 68; refine (sameLabel_nil _).mono ?_; rintro e w1 ⟨rfl, rfl⟩) | (go_at_call 69; refine (sameNumbers_nil _).mono ?_; rintro e w1 ⟨rfl, rfl⟩))
  go_ret
  exact ⟨rfl, (below_box w _).alloc (by simp) _⟩

set_option maxRecDepth 100000 in
set_option maxHeartbeats 1600000 in
theorem sameThread_zero (w : World) : Calls Try.prog 30 #[zeroT, zeroT] w fun e w' => e = .returned (.bool true) ∧ Below w.heap.size w w' := by
  go_enter Try.func30, Try.ntmps30
  go_wp2_with (first | (go_at_call 68; refine (sameLabel_nil _).mono ?_; rintro e w1 ⟨rfl, rfl⟩) | (go_at_call 69; refine (sameNumbers_nil _).mono ?_; rintro e w1 ⟨rfl, rfl⟩))
  refine wp_loop_rounds 1 ?_
  rw [rounds_succ]
  go_wp2
  refine wp_loop_rounds 1 ?_
  rw [rounds_succ]
  go_wp2
  go_ret
  exact ⟨rfl, (below_box w _).alloc (by simp) _⟩

theorem field_reply1 (a b c : Value) (w : World) : (Instr.field 55 (.agg #[a, b, c]) 1).run Try.prog w = .ok b w := by kernel_rfl
theorem field_thread1 (a b c d e : Value) (w : World) : (Instr.field 62 (.agg #[a, b, c, d, e]) 1).run Try.prog w = .ok b w := by kernel_rfl

def firstKer : Ker := ⟨2, 1, [zeroThr, { zeroThr with own := [40] }, zeroThr, zeroThr]⟩
theorem first_cat : categoryL (freshKer 2) ((1 : Nat) : Int) zeroThr = (firstKer, ⟨0, 40, []⟩) := rfl

set_option maxRecDepth 100000 in
set_option maxHeartbeats 1600000 in
theorem lcalls_any (w : World) : Calls Try.prog 32 #[] w fun e w' => e = .returned (.bool true) ∧ Below w.heap.size w w' := by
  have hcall := fun (wx : World) (h : KerAt wx w.heap.size [w.heap.size] [nilV, nilV, nilV, nilV] (freshKer 2)) => Call_cat w.heap.size 1 _ _ (freshKer 2) wx h (by decide) (by decide) (by decide) List.Pairwise.nil (by decide) (by decide) (by decide)
  have hthr := fun (wx : World) (F : List Nat) (V : List ThrV) (h : KerAt wx w.heap.size F V firstKer) => Thread0 w.heap.size 1 F V firstKer wx h (by rw [h.len]; omega) (by decide) (by decide) (by decide) rfl rfl
  have e1 : (freshKer 2).ths[1] = zeroThr := rfl
  simp only [e1, first_cat] at hcall
  have e2 : repV ⟨0, 40, []⟩ = .agg #[.int .i64 0, .int .i64 40, .string ⟨#[]⟩] := rfl
  simp only [e2] at hcall
  have e3 : firstKer.ths[1].own.length = 1 := rfl
  have e4 : firstKer.ths[1].label.length = 0 := rfl
  simp only [e3, e4] at hthr
  have HC := hid hcall
  have HT := hid hthr
  clear hcall hthr e1 e2 e3 e4
  have hfr := field_reply1
  have hft := field_thread1
  go_enter Try.func32, Try.ntmps32
  go_wp2_with (first
    | (go_at_call 71; refine (new_in 2 _ (by omega)).mono ?_; rintro e w1 ⟨rfl, hk1, hw1⟩; have HK1 := hid hk1; have HB1 := hid hw1; clear hk1 hw1)
    | (go_at_call 28; refine (HC.out _ HK1.out).mono ?_; rintro e w2 ⟨rfl, G, V', hk2, hs2⟩; have HK2 := hid hk2; have HS2 := hid hs2; clear hk2 hs2)
    | (go_at_call 31; refine (HT.out _ _ _ HK2.out).mono ?_; rintro e w3 ⟨p, q, p', q', p5, q5, p6, q6, rfl, hw3⟩))
  go_ret
  refine ⟨rfl, ?_⟩
  have hs := HS2.out.keptF HK1.out
  have hb12 : Below w.heap.size w w2 := HB1.out.trans ⟨hs.os, hs.tape, hs.output, hs.size, fun k hk => hs.block k (Nat.lt_of_lt_of_le hk HB1.out.size) (by simp; omega)⟩
  exact below_then hb12 hw3

theorem cells8 {w : World} {b : Nat} {t : TypeId} {y0 y1 y2 y3 y4 y5 y6 y7 : Value} (h : w.heap[b]? = some (.cells #[y0, y1, y2, y3, y4, y5, y6, y7] t (0, 0))) : w.cell? ⟨b, 0, none⟩ = some y0 ∧ w.cell? ⟨b, 1, none⟩ = some y1 ∧ w.cell? ⟨b, 2, none⟩ = some y2 ∧ w.cell? ⟨b, 3, none⟩ = some y3 ∧ w.cell? ⟨b, 4, none⟩ = some y4 ∧ w.cell? ⟨b, 5, none⟩ = some y5 ∧ w.cell? ⟨b, 6, none⟩ = some y6 ∧ w.cell? ⟨b, 7, none⟩ = some y7 :=
  ⟨heap_cell h 0, heap_cell h 1, heap_cell h 2, heap_cell h 3, heap_cell h 4, heap_cell h 5, heap_cell h 6, heap_cell h 7⟩

set_option maxRecDepth 100000 in
set_option maxHeartbeats 1600000 in
theorem kernelNil_any (t : Int) (vc vm : Value) (c : Cal) (m : Mal) (w : World) (hc : CalAt w vc c) (hm : MalAt w vm m) : Calls Try.prog 8 #[.int .i64 t, vc, vm] w fun e w' => e = .returned (.bool true) ∧ Below w.heap.size w w' := by
  have hdel := fun wx (hb : Below w.heap.size w wx) => Deliver_none t vm m wx (hm.below hb)
  have hlet := fun wx (hb : Below w.heap.size w wx) => Letter_none t vc c wx (hc.below hb)
  have hcal := fun wx (hb : Below w.heap.size w wx) => Call_none t vc c wx (hc.below hb)
  obtain ⟨vl, vg, rfl, ⟨pl, cl, rfl, _⟩, ⟨pg, cg, rfl, _⟩⟩ := hc
  obtain ⟨ul, ug, rfl, ⟨ql, dl, rfl, _⟩, ⟨qg, dg, rfl, _⟩⟩ := hm
  unfold calV malV at *
  go_enter Try.func8, Try.ntmps8
  go_wp2_with fail
  refine (hdel _ ((below_box w _).alloc (by simp) _)).mono ?_
  rintro e w1 ⟨rfl, hw1⟩
  have hbc1 := heap_keep (heap_alloc2_old w _ _) hw1
  have hbw1 := below_then ((below_box w _).alloc (by simp) _) hw1
  have HBC1 := hid hbc1
  obtain ⟨c0, c1, c2, c3, c4, c5, c6, c7⟩ := cells8 hbc1
  clear hw1 hbc1
  go_wp2_with fail
  refine (hlet _ hbw1).mono ?_
  rintro e w2 ⟨rfl, hw2⟩
  have hbw2 := below_then hbw1 hw2
  have hbc2 := heap_keep HBC1.out hw2
  obtain ⟨c0, c1, c2, c3, c4, c5, c6, c7⟩ := cells8 (heap_keep hbc2 (below_box w2 (.cells #[.int .i64 0, .int .i64 0, .slice none 0 0, .slice none 0 0, .string ⟨#[]⟩] 26)))
  have hbw3 := below_then hbw2 (below_box w2 (.cells #[.int .i64 0, .int .i64 0, .slice none 0 0, .slice none 0 0, .string ⟨#[]⟩] 26))
  clear hw2 hbc2
  go_wp2_with (first
    | (go_at_call 28; refine (hcal _ hbw3).mono ?_; rintro e w4 ⟨rfl, hw4⟩; have hbw4 := below_then hbw3 hw4; have hmx := heap_keep (heap_alloc_new w2 _) hw4; obtain ⟨⟨d0, d1, d2, d3, d4⟩, _⟩ := cells5 hmx; clear hw4)
    | (go_at_call 29; refine (sameMail_zero _).mono ?_; rintro e w5 ⟨rfl, hw5⟩; have hbw5 := below_then hbw4 hw5; clear hw5)
    | (go_at_call 31; refine (Thread_none t _).mono ?_; rintro e w6 ⟨rfl, hw6⟩; have hbw6 := below_then hbw5 hw6; clear hw6)
    | (go_at_call 30; refine (sameThread_zero _).mono ?_; rintro e w7 ⟨rfl, hw7⟩; have hbw7 := below_then hbw6 hw7; clear hw7)
    | (go_at_call 32; refine (lcalls_any _).mono ?_; rintro e w8 ⟨rfl, hw8⟩))
  go_ret
  exact ⟨rfl, below_then hbw7 hw8⟩
end Go.Proofs.Ytgikaebcgdhknab
