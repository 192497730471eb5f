/- The reference's Letter of no such thread, and of any; its new kernel. -/
import Derived.Test.YtpdijobakfpnbaaQKRLetter
import Derived.Test.YtpdijobakfpnbaaQKTake
namespace Go.Proofs.Ytpdijobakfpnbaa
open Go.RowKit Go.Proofs.Parclose
set_option maxRecDepth 100000 in
set_option maxHeartbeats 1600000 in
theorem QdZ (rb : Nat) (t : Int) (v : Value) (c : Cal) (w : World) (hv : CalAt w v c) (ht : ¬ (0 ≤ t ∧ t < 4)) :
 Calls Try.prog 8 #[.pointer (some ⟨rb, 0, none⟩), .int .i64 t, v] w fun e w' => ∃ v', e = .returned (.tuple #[v', .int .i64 4]) ∧ (∀ w'', Since w.heap.size w' w'' → MalAt w'' v' zeroMal) ∧ Below w.heap.size w w' := by
 have hf : hostB t = false := by unfold hostB; simp; omega
 have hfour := Qj t
 rw [hf] at hfour
 obtain ⟨vl, vg, rfl, _, _⟩ := hv
 unfold calV
 go_enter Try.func8, Try.ntmps8
 go_upto_region 2 with fail
 have hb0 : Below w.heap.size w (((w.alloc (.cells #[.int .i64 c.kind, .int .i64 c.h, .int .i64 c.t, .int .i64 c.n, .int .i64 c.c, vl, vg, .string ⟨c.text.toArray⟩] 40)).alloc (.cells #[.int .i64 0, .int .i64 0, .slice none 0 0, .slice none 0 0, .string ⟨#[]⟩] 42)).alloc (.cells #[.int .i64 0, .int .i64 0, .slice none 0 0, .slice none 0 0, .string ⟨#[]⟩] 42)) := ((Qe w _).alloc (by simp) _).alloc (by simp; omega) _
 have HR0 : Hid ((((w.alloc (.cells #[.int .i64 c.kind, .int .i64 c.h, .int .i64 c.t, .int .i64 c.n, .int .i64 c.c, vl, vg, .string ⟨c.text.toArray⟩] 40)).alloc (.cells #[.int .i64 0, .int .i64 0, .slice none 0 0, .slice none 0 0, .string ⟨#[]⟩] 42)).alloc (.cells #[.int .i64 0, .int .i64 0, .slice none 0 0, .slice none 0 0, .string ⟨#[]⟩] 42)).heap[w.heap.size + 1]? = some (.cells #[.int .i64 0, .int .i64 0, .slice none 0 0, .slice none 0 0, .string ⟨#[]⟩] 42 (0, 0))) := hid (QI (by have := heap_alloc_new (w.alloc (.cells #[.int .i64 c.kind, .int .i64 c.h, .int .i64 c.t, .int .i64 c.n, .int .i64 c.c, vl, vg, .string ⟨c.text.toArray⟩] 40)) (.cells #[.int .i64 0, .int .i64 0, .slice none 0 0, .slice none 0 0, .string ⟨#[]⟩] 42); simpa using this) _)
 have HN0 : Hid ((((w.alloc (.cells #[.int .i64 c.kind, .int .i64 c.h, .int .i64 c.t, .int .i64 c.n, .int .i64 c.c, vl, vg, .string ⟨c.text.toArray⟩] 40)).alloc (.cells #[.int .i64 0, .int .i64 0, .slice none 0 0, .slice none 0 0, .string ⟨#[]⟩] 42)).alloc (.cells #[.int .i64 0, .int .i64 0, .slice none 0 0, .slice none 0 0, .string ⟨#[]⟩] 42)).heap[w.heap.size + 2]? = some (.cells #[.int .i64 0, .int .i64 0, .slice none 0 0, .slice none 0 0, .string ⟨#[]⟩] 42 (0, 0))) := hid (by have := heap_alloc_new ((w.alloc (.cells #[.int .i64 c.kind, .int .i64 c.h, .int .i64 c.t, .int .i64 c.n, .int .i64 c.c, vl, vg, .string ⟨c.text.toArray⟩] 40)).alloc (.cells #[.int .i64 0, .int .i64 0, .slice none 0 0, .slice none 0 0, .string ⟨#[]⟩] 42)) (.cells #[.int .i64 0, .int .i64 0, .slice none 0 0, .slice none 0 0, .string ⟨#[]⟩] 42); simpa using this)
 generalize (((w.alloc (.cells #[.int .i64 c.kind, .int .i64 c.h, .int .i64 c.t, .int .i64 c.n, .int .i64 c.c, vl, vg, .string ⟨c.text.toArray⟩] 40)).alloc (.cells #[.int .i64 0, .int .i64 0, .slice none 0 0, .slice none 0 0, .string ⟨#[]⟩] 42)).alloc (.cells #[.int .i64 0, .int .i64 0, .slice none 0 0, .slice none 0 0, .string ⟨#[]⟩] 42)) = w3 at *
 obtain ⟨⟨n0, n1, n2, n3, n4⟩, _⟩ := cells5 HN0.out
 obtain ⟨⟨d0, d1, d2, d3, d4⟩, f0, f1, f2, f3, f4⟩ := cells5 HR0.out
 go_wp2_with (go_at_call 23; refine (hfour _).mono ?_; rintro e w1 ⟨rfl, hw1⟩; rw [hw1]; clear hw1 w1)
 have hW := heap_setCell (j := 4) (heap_setCell (j := 3) (heap_setCell (j := 2) (heap_setCell (j := 1) (heap_setCell (j := 0) HR0.out (.int .i64 0)) (.int .i64 0)) (.slice none 0 0)) (.slice none 0 0)) (.string ⟨#[]⟩)
 have hgS := Qh (Qh (Qh (Qh (Qg w3 (w.heap.size + 1) 0 (.int .i64 0)) (Qg _ (w.heap.size + 1) 1 (.int .i64 0))) (Qg _ (w.heap.size + 1) 2 (.slice none 0 0))) (Qg _ (w.heap.size + 1) 3 (.slice none 0 0))) (Qg _ (w.heap.size + 1) 4 (.string ⟨#[]⟩))
 have hbE := hb0.grown hgS hb0.size (fun k e => by have := Option.some.inj e; omega)
 exact bodyPost_ret (QT rfl _ _ (w.heap.size + 1) _ rfl rfl hW) rfl ⟨_, rfl, fun w'' _ => ⟨_, _, rfl, LabAt.nil _ _ _ (fun _ => rfl), IntsAt.nil _ _ _ (fun _ => rfl)⟩, hbE⟩
theorem Qd0 (rb : Nat) (t : Int) (F : List Nat) (V : List ThrV) (K : Ker) (v : Value) (c : Cal) (w : World) (h : RKerAt w rb F V K) (hg : GoodK K) (hx : c.text.length < 2305843009213693952) (hv : CalAt w v c) :
 Calls Try.prog 8 #[.pointer (some ⟨rb, 0, none⟩), .int .i64 t, v] w fun e w' => ∃ v', e = .returned (.tuple #[v', .int .i64 (letterL K t c).2]) ∧ (∀ w'', Since w.heap.size w' w'' → MalAt w'' v' (letterL K t c).1) ∧ Below w.heap.size w w' := by
 cases hth : getT K t with
 | none =>
  have e : letterL K t c = (zeroMal, 4) := by unfold letterL; rw [hth]
  rw [e]
  exact QdZ rb t v c w hv (QaB hg.four hth)
 | some th =>
  obtain ⟨n, rfl, hn, rfl⟩ := Q5 hth
  have gt := hg.ths _ (List.getElem_mem hn)
  exact QeJ rb n F V K v c w h (by rw [h.len]; have := hg.four; omega) hn (QO ((Qx _).2 gt.label)) (by have := gt.text; omega) hv
end Go.Proofs.Ytpdijobakfpnbaa
