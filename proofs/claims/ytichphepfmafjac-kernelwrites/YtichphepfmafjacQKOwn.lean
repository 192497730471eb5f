/- kernel.own lets a thread own a category more. -/
import Derived.Test.YtichphepfmafjacQKRow
namespace Go.Proofs.Ytichphepfmafjac
open Go.RowKit Go.Proofs.Parclose

theorem ksearch_any (v : Value) (l : List Int) (c : Int) (w : World) (hv : OwnAt w v l) (hs : l.Pairwise (· < ·)) (hl : l.length ≤ 1000) :
    Calls Try.prog 103 #[v, .int .i64 c] w fun e w' => e = .returned (.tuple #[.int .i64 (l.countP (· < c) : Nat), .bool (l.contains c)]) ∧ Below w.heap.size w w' := by
  have hv0 := hv
  rcases hv.2 with ⟨rfl, hn⟩ | ⟨g, cap, cur, rfl, _, hg, hnc, hcm, hcs, htk⟩
  · have hl0 : l = [] := List.length_eq_zero_iff.1 hn
    subst hl0
    refine (Try.slices_BinarySearch_int_empty none 0 c w).mono ?_
    rintro e w' ⟨rfl, rfl⟩
    exact ⟨rfl, Below.refl _ _⟩
  · obtain ⟨cur1, hcur1, _, _, _, hget⟩ := own_get hv0
    refine (Try.slices_BinarySearch_int g 0 l.length cap l c w (Nat.le_refl _) (by omega) (fun j hj => ?_) ?_).mono ?_
    · have e : w.cell? ⟨g, 0 + j, none⟩ = cur1[j]? := by simp only [World.cell?]; rw [hcur1, Nat.zero_add]; rfl
      rw [e, hget j (by omega)]
      simp [flat1, hj]
    · rw [List.take_length]
      exact hs.imp fun h => Int.le_of_lt h
    · rintro e w' ⟨rfl, q, rfl⟩
      rw [List.take_length]
      exact ⟨rfl, below_drewN w q⟩

theorem TAt.after {w w1 : World} {kb o : Nat} {F : List Nat} {v : ThrV} {th : Thr} (h : TAt w kb o F v th) {r : Option Nat} (hg : w.grownBy w1 r) (hr : ∀ k, r = some k → k ∈ rowsOf v) {j : Nat} {u : Value} (hc : w.cell? ⟨kb, j, none⟩ = some u) : w1.cell? ⟨kb, j, none⟩ = some u ∧ w1.frozen? ⟨kb, j, none⟩ = false := by
  have hk := h.kb_rows
  have hb := hg.block kb (cell_block hc) (fun e => hk (hr kb e.symm))
  have hf := h.frozen j
  refine ⟨by rw [World.cell?_of_block (w := w) hb, hc], by rw [World.frozen?_of_block (w := w) hb, hf]⟩

theorem ownV {w : World} {v : Value} {l : List Int} (h : OwnAt w v l) : ∃ p cap, v = .slice p l.length cap := by
  obtain ⟨p, cap, e, _⟩ := owns_cells h
  exact ⟨p, cap, e⟩

set_option maxRecDepth 100000 in
set_option maxHeartbeats 1600000 in
theorem own_any (kb o : Nat) (F : List Nat) (v : ThrV) (th : Thr) (c : Int) (w : World) (h : TAt w kb o F v th) (hs : th.own.Pairwise (· < ·)) (hl : th.own.length ≤ 8) :
    Calls Try.prog 87 #[.pointer (some ⟨kb, o, none⟩), .int .i64 c] w fun e w' => e = .returned (.int .i64 (ownL th.own c).1) ∧ ∃ G v', TAt w' kb o G v' { th with own := (ownL th.own c).2 } ∧ TStep kb o w F v w' G v' := by
  have HO : Hid (ownL th.own c = if th.own.contains c then (0, th.own) else if 8 ≤ th.own.length then (5, th.own) else (0, insL th.own c)) := hid rfl
  obtain ⟨_, c1, _, _, _⟩ := h.cells
  have ho := h.thr.2.1
  obtain ⟨p, cap, hvo⟩ := ownV ho
  have hbs := ksearch_any v.vo th.own c w ho hs (by omega)
  have HV := hid hvo
  have hcnt : th.own.countP (· < c) ≤ th.own.length := List.countP_le_length
  generalize hk : th.own.countP (· < c) = n at *
  have HK := hid hk
  rw [hvo] at c1 hbs
  clear hvo ho hk hs
  cases hcon : th.own.contains c with
  | true =>
    rw [hcon] at hbs
    have HO2 : Hid (ownL th.own c = (0, th.own)) := hid (by rw [HO.out, hcon]; rfl)
    clear HO
    go_enter Try.func87, Try.ntmps87
    go_wp2_with (go_at_call 103; refine hbs.mono ?_; rintro e w1 ⟨rfl, hw1⟩)
    go_ret
    rw [HO2.out]
    exact ⟨rfl, F, v, h.below hw1, TStep.below hw1⟩
  | false =>
    rw [hcon] at hbs
    by_cases h8 : 8 ≤ th.own.length
    · have HO2 : Hid (ownL th.own c = (5, th.own)) := hid (by rw [HO.out, hcon, if_pos h8]; rfl)
      clear HO
      go_enter Try.func87, Try.ntmps87
      go_wp2_with (go_at_call 103; refine hbs.mono ?_; rintro e w1 ⟨rfl, hw1⟩; have h1 := h.below hw1; obtain ⟨_, d1, _, _, _⟩ := h1.cells; rw [HV.out] at d1)
      go_ret
      rw [HO2.out]
      exact ⟨rfl, F, v, h1, TStep.below hw1⟩
    · have HO2 : Hid (ownL th.own c = (0, insL th.own c)) := hid (by rw [HO.out, hcon, if_neg h8]; rfl)
      clear HO
      go_enter Try.func87, Try.ntmps87
      go_wp2_with (first
        | (go_at_call 103; refine hbs.mono ?_; rintro e w1 ⟨rfl, hw1⟩; have h1 := h.below hw1; obtain ⟨_, d1, _, _, _⟩ := h1.cells; rw [HV.out] at d1; have hins := insert_any v.vo th.own n c w1 h1.thr.2.1 hcnt (by omega); rw [HV.out] at hins; generalize hl2 : th.own.take n ++ c :: th.own.drop n = l2 at hins; have HL2 := hid hl2; clear hl2)
        | (go_at_call 104; refine hins.mono ?_; rintro e w2 ⟨vo2, rfl, hown2, hg2, hwh2⟩; have h1b := h1.below (below_box w1 (.cells #[.int .i64 c] 3)); have hst := h1b.own (by rw [HV.out]; exact hg2) hown2 (by rw [HV.out]; intro k hk; have := hwh2 k hk; simpa using this); obtain ⟨d2, f2⟩ := h1b.after hg2 (fun k hk => mem_rows.2 (.inl (by rw [HV.out]; exact hk))) (h1b.cells.2.1); obtain ⟨p2, cap2, hv2⟩ := ownV hown2; subst hv2))
      go_ret
      rw [HO2.out]
      have e2 : insL th.own c = l2 := by unfold insL; rw [HK.out, HL2.out]
      simp only [e2]
      exact ⟨rfl, _, _, hst.1, (TStep.below hw1).trans ((TStep.below (below_box _ _)).trans hst.2)⟩
end Go.Proofs.Ytichphepfmafjac
