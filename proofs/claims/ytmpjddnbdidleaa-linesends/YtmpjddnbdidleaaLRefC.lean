/- The reference: CopyLine answers the same line, in memory of its own. -/
import Derived.Test.YtmpjddnbdidleaaLTake
import Derived.Test.YtmpjddnbdidleaaLAppend
import Derived.Test.YtmpjddnbdidleaaLCopyR
namespace Go.Proofs.Ytmpjddnbdidleaa
open Go.RowKit Go.Proofs.Parclose

theorem OwnRow.low_lt {B : Nat} {w : World} {v : Value} {q : List SntV} (h : OwnRow B w v q) {k : Nat} (hk : v.ownBlock = some k) : k < w.heap.size := by
  rcases h.own.2 with ⟨rfl, _⟩ | ⟨g, cap, cur, rfl, _, hg, _⟩
  · cases hk
  · cases hk
    exact heap_lt hg
theorem OwnRow.keeps {B b : Nat} {w w' : World} {v : Value} {q : List SntV} {o : Obj} (h : OwnRow B w v q) (hg : w.grownBy w' v.ownBlock) (hb : b < B) (ho : w.heap[b]? = some o) : w'.heap[b]? = some o := by
  rw [hg.block b (heap_lt ho) (fun e => by have := own_base h.own e.symm; omega), ho]
theorem cells_laid (w : World) (x : SntV) (j : Nat) (u : Value) (hu : x.cells[j]? = some u) : (w.alloc (.cells x.cells.toArray 56)).cell? ⟨w.heap.size, j, none⟩ = some u := by
  rw [heap_cell (heap_alloc_new w _) j]
  simpa using hu
theorem cells_laid2 {w : World} {b : Nat} (hb : w.heap.size = b) {x : SntV} (j : Nat) (u : Value) (hu : x.cells[j]? = some u) : (w.alloc (.cells x.cells.toArray 56)).cell? ⟨b, j, none⟩ = some u := by
  subst hb
  exact cells_laid w x j u hu
theorem own_none (B : Nat) (w : World) : OwnRow B w (.slice none 0 0) [] := ⟨World.ownsRow_nil _ _ _ _, fun x hx => absurd hx (by simp)⟩

set_option maxRecDepth 100000 in
set_option maxHeartbeats 6400000 in
theorem rcopyLine_any (v : Value) (L : Lne) (w : World) (hv : LneAt w v L) :
    Calls Try.prog 9 #[v] w fun e w' => ∃ v', e = .returned v' ∧ LneNew w.heap.size w' v' L ∧ Below w.heap.size w w' := by
  obtain ⟨nx, st, hi, b0, b1, b2, b3, b4, b5, b6, b7, p, cap, rfl, rfl, hs⟩ := hv.spell
  have hlen := hs.len
  clear hv
  go_enter Try.func9, Try.ntmps9
  go_wp2
  go_loopw [3, 9] (fun sv i wr => ∃ (k : Nat) (q : List SntV), k ≤ st.length ∧ i = .int .i64 k ∧ q.map (·.s) = st.take k ∧ OwnRow (w.heap.size + 2) wr sv q ∧ wr.heap[w.heap.size]? = some (.cells #[.int .i64 nx, .slice p st.length cap, .int .i64 hi, .bool b0, .bool b1, .bool b2, .bool b3, .bool b4, .bool b5, .bool b6, .bool b7] 25 (0, 0)) ∧ wr.heap[w.heap.size + 1]? = some (.cells #[.int .i64 0, .slice none 0 0, .int .i64 0, .bool false, .bool false, .bool false, .bool false, .bool false, .bool false, .bool false, .bool false] 25 (0, 0)) ∧ Below w.heap.size w wr) (fun _ i _ => st.length - (intOf i).toNat)
  case atStart => exact ⟨0, [], Nat.zero_le _, rfl, by simp, own_none _ _, heap_alloc2_old w _ _, heap_alloc2_new w _ _, (below_box w _).alloc (by simp) _⟩
  case round =>
    obtain ⟨k, q, hk, rfl, hm, hown, hA, hB, hb⟩ := hrel
    have hql : q.length = k := by have := congrArg List.length hm; simp at this; omega
    obtain ⟨pv, cv, hsv⟩ := own_slice hown.own
    rw [hql] at hsv
    subst hsv
    have HQL := hid hql
    clear hql
    have HO := hid hown
    have HA := hid hA
    have HB := hid hB
    have hszr : w.heap.size + 2 ≤ wr.heap.size := by have := heap_lt hB; omega
    by_cases hlt : k < st.length
    · have hI : (k : Int) < (st.length : Int) := by omega
      obtain ⟨be, oe, pl, cl, pg, cg, pc, cc, rfl, hat⟩ := hs.get k hlt
      have hat := hat.below hb
      have hstep : st.take (k + 1) = st.take k ++ [st[k]] := by rw [List.take_succ_eq_append_getElem hlt]
      have HST := hid hstep
      generalize st[k] = s at *
      have HF : Hid (FrmAt wr (.agg #[.int .i64 s.f.fr, .int .i64 s.f.to, .int .i64 s.f.seq, .bool s.f.ack, .int .i64 s.f.thread, .int .i64 s.f.mail.host, .int .i64 s.f.mail.thread, .slice pl s.f.mail.label.length cl, .slice pg s.f.mail.grants.length cg, .string ⟨s.f.mail.text.toArray⟩, .slice pc s.f.certs.length cc]) s.f) := hid ⟨_, _, _, rfl, hat.lab, hat.nums, hat.crts⟩
      obtain ⟨c0, c1, c2, c3, c4, c5, c6, c7, c8, c9, c10, c11, c12, _, _, _⟩ := hat
      clear hown hA hB hs hstep
      go_wp2_with fail
      refine (rcopyFrame_since _ s.f _ (HF.out.below (below_box wr _))).mono ?_
      rintro e w2 ⟨pA, cA, pD, cD, pC, cC, rfl, hcopy, hw2⟩
      have hX2 := heap_keep (heap_alloc_new wr _) hw2
      have hsz1 : (wr.alloc (.cells #[.int .i64 s.f.fr, .int .i64 s.f.to, .int .i64 s.f.seq, .bool s.f.ack, .int .i64 s.f.thread, .int .i64 s.f.mail.host, .int .i64 s.f.mail.thread, .slice pl s.f.mail.label.length cl, .slice pg s.f.mail.grants.length cg, .string ⟨s.f.mail.text.toArray⟩, .slice pc s.f.certs.length cc, .int .i64 s.tries, .int .i64 s.due] 56)).heap.size = wr.heap.size + 1 := size_box wr _
      have hbw2 : Below wr.heap.size wr w2 := below_then (below_box wr _) hw2
      have x0 := heap_cell hX2 0
      have x1 := heap_cell hX2 1
      have x2 := heap_cell hX2 2
      have x3 := heap_cell hX2 3
      have x4 := heap_cell hX2 4
      have x5 := heap_cell hX2 5
      have x6 := heap_cell hX2 6
      have x7 := heap_cell hX2 7
      have x8 := heap_cell hX2 8
      have x9 := heap_cell hX2 9
      have x10 := heap_cell hX2 10
      have x11 := heap_cell hX2 11
      have x12 := heap_cell hX2 12
      have xf0 := heap_frozen hX2 0
      have xf1 := heap_frozen hX2 1
      have xf2 := heap_frozen hX2 2
      have xf3 := heap_frozen hX2 3
      have xf4 := heap_frozen hX2 4
      have xf5 := heap_frozen hX2 5
      have xf6 := heap_frozen hX2 6
      have xf7 := heap_frozen hX2 7
      have xf8 := heap_frozen hX2 8
      have xf9 := heap_frozen hX2 9
      have xf10 := heap_frozen hX2 10
      have hS3 : w2.grownBy (((((((((((w2.setCell ⟨wr.heap.size, 0, none⟩ (.int .i64 s.f.fr)).setCell ⟨wr.heap.size, 1, none⟩ (.int .i64 s.f.to)).setCell ⟨wr.heap.size, 2, none⟩ (.int .i64 s.f.seq)).setCell ⟨wr.heap.size, 3, none⟩ (.bool s.f.ack)).setCell ⟨wr.heap.size, 4, none⟩ (.int .i64 s.f.thread)).setCell ⟨wr.heap.size, 5, none⟩ (.int .i64 s.f.mail.host)).setCell ⟨wr.heap.size, 6, none⟩ (.int .i64 s.f.mail.thread)).setCell ⟨wr.heap.size, 7, none⟩ (.slice pA s.f.mail.label.length cA)).setCell ⟨wr.heap.size, 8, none⟩ (.slice pD s.f.mail.grants.length cD)).setCell ⟨wr.heap.size, 9, none⟩ (.string ⟨s.f.mail.text.toArray⟩)).setCell ⟨wr.heap.size, 10, none⟩ (.slice pC s.f.certs.length cC)) (some wr.heap.size) := st11_grown w2 wr.heap.size (.int .i64 s.f.fr) (.int .i64 s.f.to) (.int .i64 s.f.seq) (.bool s.f.ack) (.int .i64 s.f.thread) (.int .i64 s.f.mail.host) (.int .i64 s.f.mail.thread) (.slice pA s.f.mail.label.length cA) (.slice pD s.f.mail.grants.length cD) (.string ⟨s.f.mail.text.toArray⟩) (.slice pC s.f.certs.length cC)
      have hbw3 : Below wr.heap.size wr (((((((((((w2.setCell ⟨wr.heap.size, 0, none⟩ (.int .i64 s.f.fr)).setCell ⟨wr.heap.size, 1, none⟩ (.int .i64 s.f.to)).setCell ⟨wr.heap.size, 2, none⟩ (.int .i64 s.f.seq)).setCell ⟨wr.heap.size, 3, none⟩ (.bool s.f.ack)).setCell ⟨wr.heap.size, 4, none⟩ (.int .i64 s.f.thread)).setCell ⟨wr.heap.size, 5, none⟩ (.int .i64 s.f.mail.host)).setCell ⟨wr.heap.size, 6, none⟩ (.int .i64 s.f.mail.thread)).setCell ⟨wr.heap.size, 7, none⟩ (.slice pA s.f.mail.label.length cA)).setCell ⟨wr.heap.size, 8, none⟩ (.slice pD s.f.mail.grants.length cD)).setCell ⟨wr.heap.size, 9, none⟩ (.string ⟨s.f.mail.text.toArray⟩)).setCell ⟨wr.heap.size, 10, none⟩ (.slice pC s.f.certs.length cC)) := hbw2.grown hS3 hbw2.size (fun k hk => by have := Option.some.inj hk; omega)
      have HY : Hid (∀ o w'', Off (w.heap.size + 2) (Value.slice pv k cv).ownBlock ((((((((((((w2.setCell ⟨wr.heap.size, 0, none⟩ (.int .i64 s.f.fr)).setCell ⟨wr.heap.size, 1, none⟩ (.int .i64 s.f.to)).setCell ⟨wr.heap.size, 2, none⟩ (.int .i64 s.f.seq)).setCell ⟨wr.heap.size, 3, none⟩ (.bool s.f.ack)).setCell ⟨wr.heap.size, 4, none⟩ (.int .i64 s.f.thread)).setCell ⟨wr.heap.size, 5, none⟩ (.int .i64 s.f.mail.host)).setCell ⟨wr.heap.size, 6, none⟩ (.int .i64 s.f.mail.thread)).setCell ⟨wr.heap.size, 7, none⟩ (.slice pA s.f.mail.label.length cA)).setCell ⟨wr.heap.size, 8, none⟩ (.slice pD s.f.mail.grants.length cD)).setCell ⟨wr.heap.size, 9, none⟩ (.string ⟨s.f.mail.text.toArray⟩)).setCell ⟨wr.heap.size, 10, none⟩ (.slice pC s.f.certs.length cC)).alloc o) w'' → SntV.Ok w'' ⟨s, .slice pA s.f.mail.label.length cA, .slice pD s.f.mail.grants.length cD, .slice pC s.f.certs.length cC⟩) := hid (fun o w'' ho => by
        obtain ⟨q1, q2, q3⟩ := hcopy w'' (fun i hi his => by
          rw [hsz1] at hi
          rw [ho i (by omega) (by rw [size_box]; exact Nat.lt_of_lt_of_le his (Nat.le_trans hS3.size (Nat.le_succ _))) (fun e => by have := HO.out.low_lt e; omega), (below_box _ o).block i (Nat.lt_of_lt_of_le his hS3.size), hS3.block i his (fun e => by have := Option.some.inj e; omega)])
        exact ⟨q1, q2, q3⟩)
      have hszc : (((((((((((w2.setCell ⟨wr.heap.size, 0, none⟩ (.int .i64 s.f.fr)).setCell ⟨wr.heap.size, 1, none⟩ (.int .i64 s.f.to)).setCell ⟨wr.heap.size, 2, none⟩ (.int .i64 s.f.seq)).setCell ⟨wr.heap.size, 3, none⟩ (.bool s.f.ack)).setCell ⟨wr.heap.size, 4, none⟩ (.int .i64 s.f.thread)).setCell ⟨wr.heap.size, 5, none⟩ (.int .i64 s.f.mail.host)).setCell ⟨wr.heap.size, 6, none⟩ (.int .i64 s.f.mail.thread)).setCell ⟨wr.heap.size, 7, none⟩ (.slice pA s.f.mail.label.length cA)).setCell ⟨wr.heap.size, 8, none⟩ (.slice pD s.f.mail.grants.length cD)).setCell ⟨wr.heap.size, 9, none⟩ (.string ⟨s.f.mail.text.toArray⟩)).setCell ⟨wr.heap.size, 10, none⟩ (.slice pC s.f.certs.length cC)).heap.size = w2.heap.size := by simp
      have HC : Hid (∀ j u, (SntV.cells ⟨s, .slice pA s.f.mail.label.length cA, .slice pD s.f.mail.grants.length cD, .slice pC s.f.certs.length cC⟩)[j]? = some u → ((((((((((((w2.setCell ⟨wr.heap.size, 0, none⟩ (.int .i64 s.f.fr)).setCell ⟨wr.heap.size, 1, none⟩ (.int .i64 s.f.to)).setCell ⟨wr.heap.size, 2, none⟩ (.int .i64 s.f.seq)).setCell ⟨wr.heap.size, 3, none⟩ (.bool s.f.ack)).setCell ⟨wr.heap.size, 4, none⟩ (.int .i64 s.f.thread)).setCell ⟨wr.heap.size, 5, none⟩ (.int .i64 s.f.mail.host)).setCell ⟨wr.heap.size, 6, none⟩ (.int .i64 s.f.mail.thread)).setCell ⟨wr.heap.size, 7, none⟩ (.slice pA s.f.mail.label.length cA)).setCell ⟨wr.heap.size, 8, none⟩ (.slice pD s.f.mail.grants.length cD)).setCell ⟨wr.heap.size, 9, none⟩ (.string ⟨s.f.mail.text.toArray⟩)).setCell ⟨wr.heap.size, 10, none⟩ (.slice pC s.f.certs.length cC)).alloc (.cells #[.int .i64 s.f.fr, .int .i64 s.f.to, .int .i64 s.f.seq, .bool s.f.ack, .int .i64 s.f.thread, .int .i64 s.f.mail.host, .int .i64 s.f.mail.thread, .slice pA s.f.mail.label.length cA, .slice pD s.f.mail.grants.length cD, .string ⟨s.f.mail.text.toArray⟩, .slice pC s.f.certs.length cC, .int .i64 s.tries, .int .i64 s.due] 56)).cell? ⟨w2.heap.size, j, none⟩ = some u) := hid (fun j u hu => cells_laid2 hszc (x := ⟨s, .slice pA s.f.mail.label.length cA, .slice pD s.f.mail.grants.length cD, .slice pC s.f.certs.length cC⟩) j u hu)
      have HOW : Hid (OwnRow (w.heap.size + 2) ((((((((((((w2.setCell ⟨wr.heap.size, 0, none⟩ (.int .i64 s.f.fr)).setCell ⟨wr.heap.size, 1, none⟩ (.int .i64 s.f.to)).setCell ⟨wr.heap.size, 2, none⟩ (.int .i64 s.f.seq)).setCell ⟨wr.heap.size, 3, none⟩ (.bool s.f.ack)).setCell ⟨wr.heap.size, 4, none⟩ (.int .i64 s.f.thread)).setCell ⟨wr.heap.size, 5, none⟩ (.int .i64 s.f.mail.host)).setCell ⟨wr.heap.size, 6, none⟩ (.int .i64 s.f.mail.thread)).setCell ⟨wr.heap.size, 7, none⟩ (.slice pA s.f.mail.label.length cA)).setCell ⟨wr.heap.size, 8, none⟩ (.slice pD s.f.mail.grants.length cD)).setCell ⟨wr.heap.size, 9, none⟩ (.string ⟨s.f.mail.text.toArray⟩)).setCell ⟨wr.heap.size, 10, none⟩ (.slice pC s.f.certs.length cC)).alloc (.cells #[.int .i64 s.f.fr, .int .i64 s.f.to, .int .i64 s.f.seq, .bool s.f.ack, .int .i64 s.f.thread, .int .i64 s.f.mail.host, .int .i64 s.f.mail.thread, .slice pA s.f.mail.label.length cA, .slice pD s.f.mail.grants.length cD, .string ⟨s.f.mail.text.toArray⟩, .slice pC s.f.certs.length cC, .int .i64 s.tries, .int .i64 s.due] 56)) (.slice pv k cv) q) := hid (HO.out.below (below_then hbw3 (below_box _ _)))
      have HSZ : Hid (w.heap.size + 2 ≤ ((((((((((((w2.setCell ⟨wr.heap.size, 0, none⟩ (.int .i64 s.f.fr)).setCell ⟨wr.heap.size, 1, none⟩ (.int .i64 s.f.to)).setCell ⟨wr.heap.size, 2, none⟩ (.int .i64 s.f.seq)).setCell ⟨wr.heap.size, 3, none⟩ (.bool s.f.ack)).setCell ⟨wr.heap.size, 4, none⟩ (.int .i64 s.f.thread)).setCell ⟨wr.heap.size, 5, none⟩ (.int .i64 s.f.mail.host)).setCell ⟨wr.heap.size, 6, none⟩ (.int .i64 s.f.mail.thread)).setCell ⟨wr.heap.size, 7, none⟩ (.slice pA s.f.mail.label.length cA)).setCell ⟨wr.heap.size, 8, none⟩ (.slice pD s.f.mail.grants.length cD)).setCell ⟨wr.heap.size, 9, none⟩ (.string ⟨s.f.mail.text.toArray⟩)).setCell ⟨wr.heap.size, 10, none⟩ (.slice pC s.f.certs.length cC)).alloc (.cells #[.int .i64 s.f.fr, .int .i64 s.f.to, .int .i64 s.f.seq, .bool s.f.ack, .int .i64 s.f.thread, .int .i64 s.f.mail.host, .int .i64 s.f.mail.thread, .slice pA s.f.mail.label.length cA, .slice pD s.f.mail.grants.length cD, .string ⟨s.f.mail.text.toArray⟩, .slice pC s.f.certs.length cC, .int .i64 s.tries, .int .i64 s.due] 56)).heap.size) := hid (by rw [size_box]; have := hbw3.size; omega)
      clear hszc
      have HBW3 := hid hbw3
      clear hX2 hcopy hw2 hbw3 hS3 hsz1 c0 c1 c2 c3 c4 c5 c6 c7 c8 c9 c10 c11 c12
      go_wp2_with (at_builtin; refine wpList_sent rfl _ _ rfl (w.heap.size + 2) _ q ⟨s, .slice pA s.f.mail.label.length cA, .slice pD s.f.mail.grants.length cD, .slice pC s.f.certs.length cC⟩ rfl HOW.out w2.heap.size 1 rfl (HY.out _) HC.out HSZ.out (by have := HQL.out; omega) ?_; intro v8 w8 hown8 hg8)
      have hbW := below_then HBW3.out (below_box (((((((((((w2.setCell ⟨wr.heap.size, 0, none⟩ (.int .i64 s.f.fr)).setCell ⟨wr.heap.size, 1, none⟩ (.int .i64 s.f.to)).setCell ⟨wr.heap.size, 2, none⟩ (.int .i64 s.f.seq)).setCell ⟨wr.heap.size, 3, none⟩ (.bool s.f.ack)).setCell ⟨wr.heap.size, 4, none⟩ (.int .i64 s.f.thread)).setCell ⟨wr.heap.size, 5, none⟩ (.int .i64 s.f.mail.host)).setCell ⟨wr.heap.size, 6, none⟩ (.int .i64 s.f.mail.thread)).setCell ⟨wr.heap.size, 7, none⟩ (.slice pA s.f.mail.label.length cA)).setCell ⟨wr.heap.size, 8, none⟩ (.slice pD s.f.mail.grants.length cD)).setCell ⟨wr.heap.size, 9, none⟩ (.string ⟨s.f.mail.text.toArray⟩)).setCell ⟨wr.heap.size, 10, none⟩ (.slice pC s.f.certs.length cC)) (.cells #[.int .i64 s.f.fr, .int .i64 s.f.to, .int .i64 s.f.seq, .bool s.f.ack, .int .i64 s.f.thread, .int .i64 s.f.mail.host, .int .i64 s.f.mail.thread, .slice pA s.f.mail.label.length cA, .slice pD s.f.mail.grants.length cD, .string ⟨s.f.mail.text.toArray⟩, .slice pC s.f.certs.length cC, .int .i64 s.tries, .int .i64 s.due] 56))
      have hOW := HO.out.below hbW
      have hbw8 : Below w.heap.size w w8 := (below_then hb hbW).grown hg8 (below_then hb hbW).size (fun i hi => by have := own_base HO.out.own hi; omega)
      go_roundw
      case rel => exact ⟨k + 1, _, hlt, by go_num, by rw [List.map_append, hm, HST.out]; rfl, hown8, hOW.keeps hg8 (by omega) (heap_keep HA.out hbW), hOW.keeps hg8 (by omega) (heap_keep HB.out hbW), hbw8⟩
      case measure => simp [intOf]; omega
    · have hI : ¬ (k : Int) < (st.length : Int) := by omega
      have hkl : k = st.length := by omega
      subst hkl
      rw [List.take_length] at hm
      have gS := grown_setCell wr w.heap.size 1 (.slice pv st.length cv)
      have hS := st11_grown (wr.setCell ⟨w.heap.size, 1, none⟩ (.slice pv st.length cv)) (w.heap.size + 1) (.int .i64 nx) (.slice pv st.length cv) (.int .i64 hi) (.bool b0) (.bool b1) (.bool b2) (.bool b3) (.bool b4) (.bool b5) (.bool b6) (.bool b7)
      have hR := heap_store HB.out (show w.heap.size + 1 ≠ w.heap.size by omega) 1 (.slice pv st.length cv)
      have HW := hid (st11_heap (.int .i64 nx) (.slice pv st.length cv) (.int .i64 hi) (.bool b0) (.bool b1) (.bool b2) (.bool b3) (.bool b4) (.bool b5) (.bool b6) (.bool b7) hR)
      have hO := (HO.out.box gS (by omega)).box hS (by omega)
      have HEND : Hid (LneNew w.heap.size (st11 (wr.setCell ⟨w.heap.size, 1, none⟩ (.slice pv st.length cv)) (w.heap.size + 1) (.int .i64 nx) (.slice pv st.length cv) (.int .i64 hi) (.bool b0) (.bool b1) (.bool b2) (.bool b3) (.bool b4) (.bool b5) (.bool b6) (.bool b7)) (.agg #[.int .i64 nx, .slice pv st.length cv, .int .i64 hi, .bool b0, .bool b1, .bool b2, .bool b3, .bool b4, .bool b5, .bool b6, .bool b7]) ⟨nx, st, hi, [b0, b1, b2, b3, b4, b5, b6, b7]⟩) := hid (lnew_of (hO.low (by omega)) hm (by have := HQL.out; omega) nx hi b0 b1 b2 b3 b4 b5 b6 b7)
      have HBE := hid ((hb.grown gS hb.size (fun k hk => by have := Option.some.inj hk; omega)).grown hS (Nat.le_trans hb.size gS.size) (fun k hk => by have := Option.some.inj hk; omega))
      have x0 := heap_cell HA.out 0
      have d0 := heap_cell HB.out 0
      have df0 := heap_frozen HB.out 0
      have x1 := heap_cell HA.out 1
      have d1 := heap_cell HB.out 1
      have df1 := heap_frozen HB.out 1
      have x2 := heap_cell HA.out 2
      have d2 := heap_cell HB.out 2
      have df2 := heap_frozen HB.out 2
      have x3 := heap_cell HA.out 3
      have d3 := heap_cell HB.out 3
      have df3 := heap_frozen HB.out 3
      have x4 := heap_cell HA.out 4
      have d4 := heap_cell HB.out 4
      have df4 := heap_frozen HB.out 4
      have x5 := heap_cell HA.out 5
      have d5 := heap_cell HB.out 5
      have df5 := heap_frozen HB.out 5
      have x6 := heap_cell HA.out 6
      have d6 := heap_cell HB.out 6
      have df6 := heap_frozen HB.out 6
      have x7 := heap_cell HA.out 7
      have d7 := heap_cell HB.out 7
      have df7 := heap_frozen HB.out 7
      have x8 := heap_cell HA.out 8
      have d8 := heap_cell HB.out 8
      have df8 := heap_frozen HB.out 8
      have x9 := heap_cell HA.out 9
      have d9 := heap_cell HB.out 9
      have df9 := heap_frozen HB.out 9
      have x10 := heap_cell HA.out 10
      have d10 := heap_cell HB.out 10
      have df10 := heap_frozen HB.out 10
      have xf1 := heap_frozen HA.out 1
      have hne : w.heap.size ≠ w.heap.size + 1 := by omega
      have hne2 : w.heap.size + 1 ≠ w.heap.size := by omega
      clear gS hS hR hO hown hA hB hs
      go_wp2
      exact bodyPost_ret (results_cell_row rfl _ _ (w.heap.size + 1) 25 _ (0, 0) _ rfl HW.out Try.underlying25 rfl (by kernel_rfl)) rfl ⟨_, rfl, HEND.out, HBE.out⟩
end Go.Proofs.Ytmpjddnbdidleaa
