/- kernel.last answers the last of a text, and turns nothing that was there. -/
import Derived.Test.YtpdijobakfpnbaaQKMem
import Derived.Laws.IdiomStrings
import Derived.Laws.Concat
namespace Go.Proofs.Ytpdijobakfpnbaa
open Go.RowKit Go.Proofs.Parclose
theorem QcH (x : List UInt8) (lo n : Nat) (hn : n = x.length - lo) (w : World) (c cap : Nat) (fr : Nat × Nat) :
 (convert 84 9 (.slice (some ⟨w.heap.size, lo, none⟩) n cap)).run Try.prog ((w.alloc (.cells (bytesRow ⟨x.toArray⟩ c) 5 fr)).drew) = .ok (.string ⟨(x.drop lo).toArray⟩) ((w.alloc (.cells (bytesRow ⟨x.toArray⟩ c) 5 fr)).drew) := by
 have hl : (x.drop lo).length = n := by rw [List.length_drop, hn]
 rw [← hl]
 refine run_convert_bytes_back (P := Try.prog) _ 84 9 5 ⟨w.heap.size, lo, none⟩ cap (x.drop lo) Try.underlying84 Try.underlying5 Try.underlying9 fun j hj => ?_
 rw [WideShapes.add_plain]
 have h1 := World.cell?_alloc_mark w (bytesRow ⟨x.toArray⟩ c) 5 fr (lo + j)
 have hj' : lo + j < x.length := by rw [hl, hn] at hj; omega
 have h2 := bytesRow_at ⟨x.toArray⟩ c (lo + j) (by simpa using hj')
 show (w.alloc (.cells (bytesRow ⟨x.toArray⟩ c) 5 fr)).cell? ⟨w.heap.size, lo + j, none⟩ = _
 rw [h1, h2]
 simp
set_option maxRecDepth 100000 in
set_option maxHeartbeats 800000 in
theorem QaO (x : List UInt8) (w : World) (hx : x.length < 4611686018427387904) : Calls Try.prog 18 #[.string ⟨x.toArray⟩] w fun e w' => e = .returned (.string ⟨(lastL x).toArray⟩) ∧ Below w.heap.size w w' := by
 have hcv := fun wx s => run_bytes_of_string (P := Try.prog) wx 9 84 5 s Try.underlying9 Try.underlying84 Try.underlying5
 have hal : ∀ o, Below w.heap.size w (w.alloc o).drew := fun o => (Qe w o).drew
 by_cases h : x.length ≤ 64
 · have HL : Hid (lastL x = x) := hid (Qav h)
   have hm : max (0 : Int) ((x.length : Int) - 64) = 0 := by omega
   have hb := fun c fr => QcH x 0 x.length (by omega) w c c fr
   simp only [List.drop_zero] at hb
   go_enter Try.func18, Try.ntmps18
   go_wp2
   go_ret
   exact ⟨by rw [HL.out]; rfl, hal _⟩
 · have HL : Hid (lastL x = x.drop (x.length - 64)) := hid rfl
   obtain ⟨n, hn⟩ : ∃ n, x.length = n + 64 := ⟨x.length - 64, by omega⟩
   have hm : max (0 : Int) ((n : Int) + 64 - 64) = (n : Int) := by omega
   have hb := fun c c2 fr => QcH x n 64 (by omega) w c c2 fr
   have hge := grownCap_ge w x.length 0 5
   have HN := hid hn
   rw [hn] at hge
   go_enter Try.func18, Try.ntmps18
   go_wp2
   go_ret
   exact ⟨by rw [HL.out, HN.out, Nat.add_sub_cancel]; rfl, hal _⟩
theorem TAt.cells {w : World} {kb o : Nat} {F : List Nat} {v : ThrV} {th : Thr} (h : TAt w kb o F v th) : w.cell? ⟨kb, o, none⟩ = some v.vl ∧ w.cell? ⟨kb, o + 1, none⟩ = some v.vo ∧ w.cell? ⟨kb, o + 2, none⟩ = some (.string ⟨th.text.toArray⟩) ∧ w.cell? ⟨kb, o + 3, none⟩ = some v.vj ∧ w.cell? ⟨kb, o + 4, none⟩ = some v.vm := by
 obtain ⟨⟨C, hC, c0, c1, c2, c3, c4⟩, _⟩ := h
 have hx : ∀ j, w.cell? ⟨kb, j, none⟩ = C[j]? := fun j => by simp only [World.cell?]; rw [hC]; rfl
 exact ⟨by rw [hx, c0], by rw [hx, c1], by rw [hx, c2], by rw [hx, c3], by rw [hx, c4]⟩
theorem TAt.frozen {w : World} {kb o : Nat} {F : List Nat} {v : ThrV} {th : Thr} (h : TAt w kb o F v th) (j : Nat) : w.frozen? ⟨kb, j, none⟩ = false := by
 obtain ⟨⟨C, hC, _⟩, _⟩ := h
 simp only [World.frozen?]
 rw [hC]
 simp
set_option maxRecDepth 100000 in
set_option maxHeartbeats 800000 in
theorem Qda (kb o : Nat) (F : List Nat) (v : ThrV) (th : Thr) (y : List UInt8) (w : World) (h : TAt w kb o F v th) (hx : th.text.length + y.length < 4611686018427387904) :
 Calls Try.prog 57 #[.pointer (some ⟨kb, o, none⟩), .string ⟨y.toArray⟩] w fun e w' => e = .returned (.tuple #[]) ∧ TAt w' kb o F v { th with text := lastL (th.text ++ y) } ∧ TStep kb o w F v w' F v := by
 obtain ⟨_, _, c2, _, _⟩ := h.cells
 have hstr : ∀ a b : List UInt8, (⟨a.toArray⟩ : ByteArray) ++ ⟨b.toArray⟩ = ⟨(a ++ b).toArray⟩ := fun a b => ByteArray.mk_append_mk a b
 go_enter Try.func57, Try.ntmps57
 go_wp2_with (go_at_call 18; refine (QaO (th.text ++ y) _ (by rw [List.length_append]; omega)).mono ?_; rintro e w1 ⟨rfl, hw1⟩; have h1 := h.below hw1; obtain ⟨_, _, d2, _, _⟩ := h1.cells; have f2 := h1.frozen (o + 2))
 go_end0
 exact ⟨rfl, (h1.text _).1, (TStep.below hw1).trans (h1.text _).2⟩
end Go.Proofs.Ytpdijobakfpnbaa
