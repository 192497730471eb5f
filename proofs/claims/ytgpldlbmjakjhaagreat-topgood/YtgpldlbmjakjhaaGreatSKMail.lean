/- kernel.copyMail answers mail in memory of its own; kernel.mayMail what forbids a thread to send it. -/
import Derived.Test.YtgpldlbmjakjhaaGreatSKClone
import Derived.Test.YtgpldlbmjakjhaaGreatSHeap0
import Derived.Test.YtgpldlbmjakjhaaGreatSWCert
import Derived.Test.YtgpldlbmjakjhaaGreatSFromA
import Derived.Laws.ResultCell
import Derived.Deep.QuietTactic
import Derived.BigQuiet
import Derived.Deep.RegionHeld3
import Derived.Test.YtgpldlbmjakjhaaGreatSLClone
namespace Go.Proofs.YtgpldlbmjakjhaaGreat
open Go.RowKit Go.Proofs.Parclose
theorem own_slice {w : World} {base : Nat} {e : TypeId} {s : Nat} {v : Value} {n : Nat} {xs : List Value} (h : w.ownsRow base e s v n xs) : ∃ p cap, v = .slice p n cap := by
  obtain ⟨p, cap, rfl, _⟩ := owns_cells h
  exact ⟨p, cap, rfl⟩
theorem own_later {w w' : World} {base : Nat} {e : TypeId} {s : Nat} {v : Value} {n : Nat} {xs : List Value} (h : w.ownsRow base e s v n xs) (hb : Below w.heap.size w w') : w'.ownsRow base e s v n xs := by
  refine ⟨h.1, ?_⟩
  rcases h.2 with hn | ⟨g, cap, cur, rfl, hbg, hgg, rest⟩
  · exact .inl hn
  · exact .inr ⟨g, cap, cur, rfl, hbg, heap_keep hgg hb, rest⟩
theorem own_base_le {w : World} {base base' : Nat} {e : TypeId} {s : Nat} {v : Value} {n : Nat} {xs : List Value} (h : w.ownsRow base e s v n xs) (hb : base' ≤ base) : w.ownsRow base' e s v n xs := by
  refine ⟨h.1, ?_⟩
  rcases h.2 with hn | ⟨g, cap, cur, rfl, hbg, rest⟩
  · exact .inl hn
  · exact .inr ⟨g, cap, cur, rfl, by omega, rest⟩
set_option maxRecDepth 100000 in
set_option maxHeartbeats 1600000 in
theorem copyMail_any (v : Value) (m : Mal) (w : World) (hv : MalAt w v m) (hx : m.text.length < 4611686018427387904) :
    Calls Tryz.prog 80 #[v] w fun e w' => ∃ vl vg, e = .returned (malV { m with text := lastL m.text } vl vg) ∧ w'.ownsRow w.heap.size 74 2 vl m.label.length (flat2 m.label) ∧ w'.ownsRow w.heap.size 3 1 vg m.grants.length (flat1 m.grants) ∧ Below w.heap.size w w' := by
  obtain ⟨vl, vg, rfl, hl, hg⟩ := hv
  have HL := hid hl
  have HG := hid hg
  obtain ⟨pl, cl, rfl, _⟩ := id hl
  obtain ⟨pg, cg, rfl, _⟩ := id hg
  unfold malV
  clear hl hg
  have hb0 : Below w.heap.size w ((w.alloc (.cells #[.int .i64 m.host, .int .i64 m.thread, .slice pl m.label.length cl, .slice pg m.grants.length cg, .string ⟨m.text.toArray⟩] 46)).alloc (.cells #[.int .i64 0, .int .i64 0, .slice none 0 0, .slice none 0 0, .string ⟨#[]⟩] 46)) := (below_box w _).alloc (by simp) _
  go_enter Tryz.func80, Tryz.ntmps80
  go_wp2_with fail
  refine (cloneL_any _ m.label _ (HL.out.below hb0)).mono ?_
  rintro e w1 ⟨vl1, rfl, hown1, hw1⟩
  have hbx1 := heap_keep (heap_alloc2_old w _ _) hw1
  have hrs1 := heap_keep (heap_alloc2_new w _ _) hw1
  have hbw1 := below_then hb0 hw1
  have hs1 := hw1.size
  obtain ⟨p1, q1, rfl⟩ := own_slice hown1
  have c2 := heap_cell hbx1 2
  have f2 := heap_frozen hbx1 2
  have c3 := heap_cell hbx1 3
  have hown1 := own_base_le (base' := w.heap.size) hown1 hb0.size
  go_wp2_with fail
  have hbx2 := heap_setCell (j := 2) hbx1 (.slice p1 m.label.length q1)
  have hrs2 := heap_store hrs1 (show w.heap.size + 1 ≠ w.heap.size by omega) 2 (.slice p1 m.label.length q1)
  have hown2 := own_store hown1 hbx1 (by decide) 2 (.slice p1 m.label.length q1)
  have hbw2 := hbw1.grown (grown_setCell w1 w.heap.size 2 (.slice p1 m.label.length q1)) hbw1.size (fun k hk => by cases hk; exact Nat.le_refl _)
  clear hbx1 hrs1 hown1 hbw1 c2 f2 c3 hs1 hw1
  generalize w1.setCell ⟨w.heap.size, 2, none⟩ (.slice p1 m.label.length q1) = w2 at *
  refine (cloneI_any _ m.grants _ (HG.out.below hbw2)).mono ?_
  rintro e w3 ⟨vg3, rfl, hown3, hw3⟩
  have hbx3 := heap_keep hbx2 hw3
  have hrs3 := heap_keep hrs2 hw3
  have hownL3 := own_later hown2 hw3
  have hbw3 := below_then hbw2 hw3
  obtain ⟨p3, q3, rfl⟩ := own_slice hown3
  have hown3 := own_base_le (base' := w.heap.size) hown3 hbw2.size
  have c3 := heap_cell hbx3 3
  have f3 := heap_frozen hbx3 3
  have c4 := heap_cell hbx3 4
  clear hbx2 hrs2 hown2 hbw2 hw3
  go_wp2_with fail
  have hbx4 := heap_setCell (j := 3) hbx3 (.slice p3 m.grants.length q3)
  have hrs4 := heap_store hrs3 (show w.heap.size + 1 ≠ w.heap.size by omega) 3 (.slice p3 m.grants.length q3)
  have hownL4 := own_store hownL3 hbx3 (by decide) 3 (.slice p3 m.grants.length q3)
  have hownG4 := own_store hown3 hbx3 (by decide) 3 (.slice p3 m.grants.length q3)
  have hbw4 := hbw3.grown (grown_setCell w3 w.heap.size 3 (.slice p3 m.grants.length q3)) hbw3.size (fun k hk => by cases hk; exact Nat.le_refl _)
  clear hbx3 hrs3 hown3 hownL3 hbw3 c3 f3 c4
  generalize w3.setCell ⟨w.heap.size, 3, none⟩ (.slice p3 m.grants.length q3) = w4 at *
  refine (last_any m.text _ hx).mono ?_
  rintro e w5 ⟨rfl, hw5⟩
  have hbx5 := heap_keep hbx4 hw5
  have hrs5 := heap_keep hrs4 hw5
  have hownL5 := own_later hownL4 hw5
  have hownG5 := own_later hownG4 hw5
  have hbw5 := below_then hbw4 hw5
  have c0 := heap_cell hbx5 0
  have c1 := heap_cell hbx5 1
  have c2 := heap_cell hbx5 2
  have c3 := heap_cell hbx5 3
  have c4 := heap_cell hbx5 4
  have f4 := heap_frozen hbx5 4
  have d0 := heap_cell hrs5 0
  have d1 := heap_cell hrs5 1
  have d2 := heap_cell hrs5 2
  have d3 := heap_cell hrs5 3
  have d4 := heap_cell hrs5 4
  have e0 := heap_frozen hrs5 0
  have e1 := heap_frozen hrs5 1
  have e2 := heap_frozen hrs5 2
  have e3 := heap_frozen hrs5 3
  have e4 := heap_frozen hrs5 4
  clear hbx4 hrs4 hownL4 hownG4 hbw4 hw5
  have hne : w.heap.size ≠ w.heap.size + 1 := by omega
  have hne2 : w.heap.size + 1 ≠ w.heap.size := by omega
  go_wp2
  have A0 := heap_store hrs5 hne2 4 (.string ⟨(lastL m.text).toArray⟩)
  have hL6 := own_store hownL5 hbx5 (by decide) 4 (.string ⟨(lastL m.text).toArray⟩)
  have hG6 := own_store hownG5 hbx5 (by decide) 4 (.string ⟨(lastL m.text).toArray⟩)
  have hb6 := hbw5.grown (grown_setCell w5 w.heap.size 4 (.string ⟨(lastL m.text).toArray⟩)) hbw5.size (fun k hk => by cases hk; exact Nat.le_refl _)
  clear c0 c1 c2 c3 c4 f4 d0 d1 d2 d3 d4 e0 e1 e2 e3 e4 hbx5 hrs5 hownL5 hownG5 hbw5
  generalize w5.setCell ⟨w.heap.size, 4, none⟩ (.string ⟨(lastL m.text).toArray⟩) = w6 at *
  have hS := grown_trans (grown_trans (grown_trans (grown_trans (grown_setCell w6 (w.heap.size + 1) 0 (.int .i64 m.host)) (grown_setCell _ (w.heap.size + 1) 1 (.int .i64 m.thread))) (grown_setCell _ (w.heap.size + 1) 2 (.slice p1 m.label.length q1))) (grown_setCell _ (w.heap.size + 1) 3 (.slice p3 m.grants.length q3))) (grown_setCell _ (w.heap.size + 1) 4 (.string ⟨(lastL m.text).toArray⟩))
  have hW := heap_setCell (j := 4) (heap_setCell (j := 3) (heap_setCell (j := 2) (heap_setCell (j := 1) (heap_setCell (j := 0) A0 (.int .i64 m.host)) (.int .i64 m.thread)) (.slice p1 m.label.length q1)) (.slice p3 m.grants.length q3)) (.string ⟨(lastL m.text).toArray⟩)
  have hL7 := own_block hL6 A0 (by decide) hS
  have hG7 := own_block hG6 A0 (by decide) hS
  have hb7 := hb6.grown hS hb6.size (fun k hk => by cases hk; omega)
  refine bodyPost_ret (results_cell_row rfl _ _ (w.heap.size + 1) 46 _ (0, 0) _ rfl hW Tryz.underlying46 rfl (by kernel_rfl)) rfl ⟨_, _, rfl, hL7, hG7, hb7⟩
theorem all_bad {l : List Int} {p : Int → Bool} (k : Nat) (hk : k < l.length) (h : p l[k] = false) : l.all p = false := by
  cases e : l.all p with
  | false => rfl
  | true =>
    have := List.all_eq_true.1 e l[k] (List.getElem_mem hk)
    rw [h] at this
    cases this
theorem all_good {l : List Int} {p : Int → Bool} (h : ∀ j (hj : j < l.length), p l[j] = true) : l.all p = true := by
  rw [List.all_eq_true]
  intro x hx
  obtain ⟨j, hj, rfl⟩ := List.mem_iff_getElem.1 hx
  exact h j hj
theorem own_ints {w : World} {v : Value} {l : List Int} (h : OwnAt w v l) (hl : l.length ≤ 1000) : IntsAt w v l := nums_of_own h (by omega)
set_option maxRecDepth 100000 in
set_option maxHeartbeats 1600000 in
theorem mayMail_any (kb o : Nat) (F : List Nat) (v : ThrV) (th : Thr) (vm : Value) (m : Mal) (w : World) (h : TAt w kb o F v th) (hl : th.own.length ≤ 1000) (hm : MalAt w vm m) :
    Calls Tryz.prog 102 #[.pointer (some ⟨kb, o, none⟩), vm] w fun e w' => e = .returned (.int .i64 (mayL th m)) ∧ Below w.heap.size w w' := by
  have hgood := fun wx (hb : Below w.heap.size w wx) => goodMail_any _ m wx (hm.below hb)
  obtain ⟨vl, vg, rfl, hml, hmg⟩ := hm
  have HL := hid hml
  have HG := hid hmg
  have HM : Hid (mayL th m = if mailE m = 0 then (if m.grants.all (th.own.contains ·) then (if flowsL th.label m.label th.own then 0 else 6) else 7) else mailE m) := hid rfl
  obtain ⟨pl, cl, rfl, _⟩ := id hml
  obtain ⟨pg, cg, rfl, _, _, hgc⟩ := id hmg
  have HC := hid hgc
  unfold malV at hgood ⊢
  clear hml hmg hgc
  by_cases h0 : mailE m = 0
  rotate_left
  · have HE : Hid (mayL th m = mailE m) := hid (by rw [HM.out, if_neg h0])
    have hne : (mailE m != 0) = true := by simpa using h0
    clear HM h0
    go_enter Tryz.func102, Tryz.ntmps102
    go_wp2_with (go_at_call 15; refine (hgood _ (below_box _ _)).mono ?_; rintro e w1 ⟨rfl, hw1⟩)
    go_ret
    exact ⟨ret_int HE.out.symm, below_then (below_box _ _) hw1⟩
  have hne : (mailE m != 0) = false := by simpa using h0
  have HM2 : Hid (mayL th m = if m.grants.all (th.own.contains ·) then (if flowsL th.label m.label th.own then 0 else 6) else 7) := hid (by rw [HM.out, if_pos h0])
  clear HM
  have H0 := hid h0
  clear h0
  obtain ⟨po, co, hvo⟩ := ownV h.thr.2.1
  have HO := hid (own_ints h.thr.2.1 hl)
  have HV := hid hvo
  have HT := hid h
  obtain ⟨t0, t1, _, _, _⟩ := h.cells
  rw [hvo] at t1
  obtain ⟨ptl, ctl, hvl, _⟩ := id h.thr.1.1
  have HTL := hid h.thr.1.1
  have HVL := hid hvl
  rw [hvl] at t0
  clear hvo hvl h
  go_enter Tryz.func102, Tryz.ntmps102
  go_wp2_with (go_at_call 15; refine (hgood _ (below_box _ _)).mono ?_; rintro e w1 ⟨rfl, hw1⟩; have k2 := box_cell hw1 (by simp) 2; have k3 := box_cell hw1 (by simp) 3; have hb1 := below_then (below_box _ _) hw1; have HB1 := hid hw1; clear hw1)
  go_loopw [16] (fun i wr => ∃ k : Nat, k ≤ m.grants.length ∧ i = .int .i64 k ∧ (∀ j (hj : j < k) (hj' : j < m.grants.length), th.own.contains m.grants[j] = true) ∧ wr = w1) (fun i _ => m.grants.length - (intOf i).toNat)
  case atStart => exact ⟨0, Nat.zero_le _, rfl, fun j hj => absurd hj (Nat.not_lt_zero _), rfl⟩
  case round =>
    obtain ⟨k, hk, rfl, hno0, rfl⟩ := hrel
    have HN := hid hno0
    clear hno0
    by_cases hlt : k < m.grants.length
    · obtain ⟨b, ob, rfl, hc⟩ := HC.out (by omega)
      have hck := hc.below hb1 k hlt
      have s1 := hb1.cell (cell_block t1)
      rw [t1] at s1
      have hcon := fun wx (hb : Below w.heap.size w wx) => contains_any _ th.own m.grants[k] wx (HO.out.below hb)
      rw [HV.out] at hcon
      cases hh : th.own.contains m.grants[k] with
      | false =>
        have HE : Hid (mayL th m = 7) := hid (by rw [HM2.out, all_bad (p := (th.own.contains ·)) k hlt hh, if_neg (by simp)])
        have hh2 : hasB th.own m.grants[k] = false := hh
        go_wp2_with (go_at_call 53; refine (hcon _ hb1).mono ?_; rintro e w4 ⟨rfl, rfl⟩; rw [hh2])
        go_ret
        exact ⟨ret_int HE.out.symm, hb1⟩
      | true =>
        have HH := hid hh
        have hh2 : hasB th.own m.grants[k] = true := hh
        go_wp2_with (go_at_call 53; refine (hcon _ hb1).mono ?_; rintro e w4 ⟨rfl, rfl⟩; rw [hh2])
        go_roundw
        case rel => exact ⟨k + 1, hlt, by go_num, fun j hj hj' => by
          by_cases e : j = k
          · subst e; exact HH.out
          · exact HN.out j (by omega) hj', by first | rfl | trivial⟩
        case measure => simp [intOf]; omega
    · have HA : Hid (m.grants.all (th.own.contains ·) = true) := hid (all_good (p := (th.own.contains ·)) fun j hj => HN.out j (by omega) hj)
      have HM3 : Hid (mayL th m = if flowsL th.label m.label th.own then 0 else 6) := hid (by rw [HM2.out, HA.out, if_pos rfl])
      have s0 := hb1.cell (cell_block t0)
      rw [t0] at s0
      have s1 := hb1.cell (cell_block t1)
      rw [t1] at s1
      have hfl := fun wx (hb : Below w.heap.size w wx) => flows_any _ _ _ th.label m.label th.own wx (HTL.out.below hb) (HL.out.below hb) (HO.out.below hb)
      rw [HV.out, HVL.out] at hfl
      have k2' : wr.cell? ⟨w.heap.size, 2, none⟩ = some (.slice pl m.label.length cl) := k2
      clear k2
      have k2 := k2'
      clear k2' k3
      cases hf : flowsL th.label m.label th.own with
      | false =>
        have HE : Hid (mayL th m = 6) := hid (by rw [HM3.out, hf]; rfl)
        rw [hf] at hfl
        go_wp2
        go_region_held3 (fun w' => w'.cell? ⟨kb, o, none⟩ = some (.slice ptl th.label.length ctl) ∧ w'.cell? ⟨kb, o + 1, none⟩ = some (.slice po th.own.length co) ∧ w'.cell? ⟨w.heap.size, 2, none⟩ = some (.slice pl m.label.length cl)) (go_keep)
          (first | (go_at_call 23; refine (hfl _ hb1.drew).mono ?_; rintro e w5 ⟨rfl, hw5⟩; have hb5 := below_then hb1.drew hw5; have r0 := hw5.cell (cell_block s0); rw [World.cell?_drew, s0] at r0; have r1 := hw5.cell (cell_block s1); rw [World.cell?_drew, s1] at r1; have r2 := hw5.cell (cell_block k2); rw [World.cell?_drew, k2] at r2))
        all_goals
          go_wp2
          go_ret
          exact ⟨ret_int HE.out.symm, hb5⟩
      | true =>
        have HE : Hid (mayL th m = 0) := hid (by rw [HM3.out, hf]; rfl)
        rw [hf] at hfl
        go_wp2
        go_region_held3 (fun w' => w'.cell? ⟨kb, o, none⟩ = some (.slice ptl th.label.length ctl) ∧ w'.cell? ⟨kb, o + 1, none⟩ = some (.slice po th.own.length co) ∧ w'.cell? ⟨w.heap.size, 2, none⟩ = some (.slice pl m.label.length cl)) (go_keep)
          (first | (go_at_call 23; refine (hfl _ hb1.drew).mono ?_; rintro e w5 ⟨rfl, hw5⟩; have hb5 := below_then hb1.drew hw5; have r0 := hw5.cell (cell_block s0); rw [World.cell?_drew, s0] at r0; have r1 := hw5.cell (cell_block s1); rw [World.cell?_drew, s1] at r1; have r2 := hw5.cell (cell_block k2); rw [World.cell?_drew, k2] at r2))
        all_goals
          go_wp2
          go_ret
          exact ⟨ret_int HE.out.symm, hb5⟩
end Go.Proofs.YtgpldlbmjakjhaaGreat
namespace Go.Proofs.YtgpldlbmjakjhaaGreat
open Go.RowKit Go.Proofs.Parclose
abbrev st11 (w : World) (b : Nat) (x0 x1 x2 x3 x4 x5 x6 x7 x8 x9 x10 : Value) : World := ((((((((((w.setCell ⟨b, 0, none⟩ x0).setCell ⟨b, 1, none⟩ x1).setCell ⟨b, 2, none⟩ x2).setCell ⟨b, 3, none⟩ x3).setCell ⟨b, 4, none⟩ x4).setCell ⟨b, 5, none⟩ x5).setCell ⟨b, 6, none⟩ x6).setCell ⟨b, 7, none⟩ x7).setCell ⟨b, 8, none⟩ x8).setCell ⟨b, 9, none⟩ x9).setCell ⟨b, 10, none⟩ x10
theorem st11_heap {w : World} {b : Nat} {t : TypeId} {y0 y1 y2 y3 y4 y5 y6 y7 y8 y9 y10 : Value} (x0 x1 x2 x3 x4 x5 x6 x7 x8 x9 x10 : Value) (h : w.heap[b]? = some (.cells #[y0, y1, y2, y3, y4, y5, y6, y7, y8, y9, y10] t (0, 0))) : (st11 w b x0 x1 x2 x3 x4 x5 x6 x7 x8 x9 x10).heap[b]? = some (.cells #[x0, x1, x2, x3, x4, x5, x6, x7, x8, x9, x10] t (0, 0)) := by
  have h0 : (w.setCell ⟨b, 0, none⟩ x0).heap[b]? = some (.cells #[x0, y1, y2, y3, y4, y5, y6, y7, y8, y9, y10] t (0, 0)) := by rw [heap_setCell h x0]; rfl
  have h1 : ((w.setCell ⟨b, 0, none⟩ x0).setCell ⟨b, 1, none⟩ x1).heap[b]? = some (.cells #[x0, x1, y2, y3, y4, y5, y6, y7, y8, y9, y10] t (0, 0)) := by rw [heap_setCell h0 x1]; rfl
  have h2 : (((w.setCell ⟨b, 0, none⟩ x0).setCell ⟨b, 1, none⟩ x1).setCell ⟨b, 2, none⟩ x2).heap[b]? = some (.cells #[x0, x1, x2, y3, y4, y5, y6, y7, y8, y9, y10] t (0, 0)) := by rw [heap_setCell h1 x2]; rfl
  have h3 : ((((w.setCell ⟨b, 0, none⟩ x0).setCell ⟨b, 1, none⟩ x1).setCell ⟨b, 2, none⟩ x2).setCell ⟨b, 3, none⟩ x3).heap[b]? = some (.cells #[x0, x1, x2, x3, y4, y5, y6, y7, y8, y9, y10] t (0, 0)) := by rw [heap_setCell h2 x3]; rfl
  have h4 : (((((w.setCell ⟨b, 0, none⟩ x0).setCell ⟨b, 1, none⟩ x1).setCell ⟨b, 2, none⟩ x2).setCell ⟨b, 3, none⟩ x3).setCell ⟨b, 4, none⟩ x4).heap[b]? = some (.cells #[x0, x1, x2, x3, x4, y5, y6, y7, y8, y9, y10] t (0, 0)) := by rw [heap_setCell h3 x4]; rfl
  have h5 : ((((((w.setCell ⟨b, 0, none⟩ x0).setCell ⟨b, 1, none⟩ x1).setCell ⟨b, 2, none⟩ x2).setCell ⟨b, 3, none⟩ x3).setCell ⟨b, 4, none⟩ x4).setCell ⟨b, 5, none⟩ x5).heap[b]? = some (.cells #[x0, x1, x2, x3, x4, x5, y6, y7, y8, y9, y10] t (0, 0)) := by rw [heap_setCell h4 x5]; rfl
  have h6 : (((((((w.setCell ⟨b, 0, none⟩ x0).setCell ⟨b, 1, none⟩ x1).setCell ⟨b, 2, none⟩ x2).setCell ⟨b, 3, none⟩ x3).setCell ⟨b, 4, none⟩ x4).setCell ⟨b, 5, none⟩ x5).setCell ⟨b, 6, none⟩ x6).heap[b]? = some (.cells #[x0, x1, x2, x3, x4, x5, x6, y7, y8, y9, y10] t (0, 0)) := by rw [heap_setCell h5 x6]; rfl
  have h7 : ((((((((w.setCell ⟨b, 0, none⟩ x0).setCell ⟨b, 1, none⟩ x1).setCell ⟨b, 2, none⟩ x2).setCell ⟨b, 3, none⟩ x3).setCell ⟨b, 4, none⟩ x4).setCell ⟨b, 5, none⟩ x5).setCell ⟨b, 6, none⟩ x6).setCell ⟨b, 7, none⟩ x7).heap[b]? = some (.cells #[x0, x1, x2, x3, x4, x5, x6, x7, y8, y9, y10] t (0, 0)) := by rw [heap_setCell h6 x7]; rfl
  have h8 : (((((((((w.setCell ⟨b, 0, none⟩ x0).setCell ⟨b, 1, none⟩ x1).setCell ⟨b, 2, none⟩ x2).setCell ⟨b, 3, none⟩ x3).setCell ⟨b, 4, none⟩ x4).setCell ⟨b, 5, none⟩ x5).setCell ⟨b, 6, none⟩ x6).setCell ⟨b, 7, none⟩ x7).setCell ⟨b, 8, none⟩ x8).heap[b]? = some (.cells #[x0, x1, x2, x3, x4, x5, x6, x7, x8, y9, y10] t (0, 0)) := by rw [heap_setCell h7 x8]; rfl
  have h9 : ((((((((((w.setCell ⟨b, 0, none⟩ x0).setCell ⟨b, 1, none⟩ x1).setCell ⟨b, 2, none⟩ x2).setCell ⟨b, 3, none⟩ x3).setCell ⟨b, 4, none⟩ x4).setCell ⟨b, 5, none⟩ x5).setCell ⟨b, 6, none⟩ x6).setCell ⟨b, 7, none⟩ x7).setCell ⟨b, 8, none⟩ x8).setCell ⟨b, 9, none⟩ x9).heap[b]? = some (.cells #[x0, x1, x2, x3, x4, x5, x6, x7, x8, x9, y10] t (0, 0)) := by rw [heap_setCell h8 x9]; rfl
  have h10 : (((((((((((w.setCell ⟨b, 0, none⟩ x0).setCell ⟨b, 1, none⟩ x1).setCell ⟨b, 2, none⟩ x2).setCell ⟨b, 3, none⟩ x3).setCell ⟨b, 4, none⟩ x4).setCell ⟨b, 5, none⟩ x5).setCell ⟨b, 6, none⟩ x6).setCell ⟨b, 7, none⟩ x7).setCell ⟨b, 8, none⟩ x8).setCell ⟨b, 9, none⟩ x9).setCell ⟨b, 10, none⟩ x10).heap[b]? = some (.cells #[x0, x1, x2, x3, x4, x5, x6, x7, x8, x9, x10] t (0, 0)) := by rw [heap_setCell h9 x10]; rfl
  exact h10
theorem st11_grown (w : World) (b : Nat) (x0 x1 x2 x3 x4 x5 x6 x7 x8 x9 x10 : Value) : w.grownBy (st11 w b x0 x1 x2 x3 x4 x5 x6 x7 x8 x9 x10) (some b) := grown_trans (grown_trans (grown_trans (grown_trans (grown_trans (grown_trans (grown_trans (grown_trans (grown_trans (grown_trans (grown_setCell w b 0 x0) (grown_setCell _ b 1 x1)) (grown_setCell _ b 2 x2)) (grown_setCell _ b 3 x3)) (grown_setCell _ b 4 x4)) (grown_setCell _ b 5 x5)) (grown_setCell _ b 6 x6)) (grown_setCell _ b 7 x7)) (grown_setCell _ b 8 x8)) (grown_setCell _ b 9 x9)) (grown_setCell _ b 10 x10)
set_option maxRecDepth 100000 in
set_option maxHeartbeats 1600000 in
theorem lcopyFrame_any (v : Value) (f : Frm) (w : World) (hv : FrmAt w v f) :
    Calls Tryz.prog 122 #[v] w fun e w' => ∃ pl cl pg cg pc cc, e = .returned (.agg #[.int .i64 f.fr, .int .i64 f.to, .int .i64 f.seq, .bool f.ack, .int .i64 f.thread, .int .i64 f.mail.host, .int .i64 f.mail.thread, .slice pl f.mail.label.length cl, .slice pg f.mail.grants.length cg, .string ⟨f.mail.text.toArray⟩, .slice pc f.certs.length cc]) ∧ (∀ w'', Since w.heap.size w' w'' → LabAt w'' (.slice pl f.mail.label.length cl) f.mail.label ∧ IntsAt w'' (.slice pg f.mail.grants.length cg) f.mail.grants ∧ CrtsAt w'' (.slice pc f.certs.length cc) f.certs) ∧ Below w.heap.size w w' := by
  obtain ⟨vl, vg, vc, rfl, hl, hg, hc⟩ := hv
  have HL := hid hl
  have HG := hid hg
  have HC := hid hc
  obtain ⟨pl, cl, rfl, _⟩ := id hl
  obtain ⟨pg, cg, rfl, _⟩ := id hg
  obtain ⟨pc, cc, rfl, _⟩ := id hc
  have hll := hl.len
  have hgl := hg.len
  have hcl := hc.len
  unfold frmV
  clear hl hg hc
  have hb0 : Below w.heap.size w ((w.alloc (.cells #[.int .i64 f.fr, .int .i64 f.to, .int .i64 f.seq, .bool f.ack, .int .i64 f.thread, .int .i64 f.mail.host, .int .i64 f.mail.thread, .slice pl f.mail.label.length cl, .slice pg f.mail.grants.length cg, .string ⟨f.mail.text.toArray⟩, .slice pc f.certs.length cc] 51)).alloc (.cells #[.int .i64 0, .int .i64 0, .int .i64 0, .bool false, .int .i64 0, .int .i64 0, .int .i64 0, .slice none 0 0, .slice none 0 0, .string ⟨#[]⟩, .slice none 0 0] 51)) := (below_box w _).alloc (by simp) _
  go_enter Tryz.func122, Tryz.ntmps122
  go_wp2_with fail
  refine (cloneL_any _ f.mail.label _ (HL.out.below hb0)).mono ?_
  rintro e w1 ⟨v1, rfl, hown1, hw1⟩
  have hbx1 := heap_keep (heap_alloc2_old w _ _) hw1
  have hrs1 := heap_keep (heap_alloc2_new w _ _) hw1
  have hbw1 := below_then hb0 hw1
  obtain ⟨p1, q1, rfl⟩ := own_slice hown1
  have hown1 := own_base_le (base' := w.heap.size) hown1 hb0.size
  have c7 := heap_cell hbx1 7
  have k7 := heap_frozen hbx1 7
  have c8 := heap_cell hbx1 8
  go_wp2_with fail
  have hbx1' := heap_setCell (j := 7) hbx1 (.slice p1 f.mail.label.length q1)
  have hrs1' := heap_store hrs1 (show w.heap.size + 1 ≠ w.heap.size by omega) 7 (.slice p1 f.mail.label.length q1)
  have hown1 := own_store hown1 hbx1 (by decide) 7 (.slice p1 f.mail.label.length q1)
  have hbw1' := hbw1.grown (grown_setCell w1 w.heap.size 7 (.slice p1 f.mail.label.length q1)) hbw1.size (fun k hk => by cases hk; exact Nat.le_refl _)
  clear hbx1 hrs1 hbw1 c7 k7 c8 hw1
  generalize w1.setCell ⟨w.heap.size, 7, none⟩ (.slice p1 f.mail.label.length q1) = w1' at *
  refine (cloneI_any _ f.mail.grants _ (HG.out.below hbw1')).mono ?_
  rintro e w2 ⟨v2, rfl, hown2, hw2⟩
  have hbx2 := heap_keep hbx1' hw2
  have hrs2 := heap_keep hrs1' hw2
  have hbw2 := below_then hbw1' hw2
  obtain ⟨p2, q2, rfl⟩ := own_slice hown2
  have hown2 := own_base_le (base' := w.heap.size) hown2 hbw1'.size
  have hown1 := own_later hown1 hw2
  have c8 := heap_cell hbx2 8
  have k8 := heap_frozen hbx2 8
  have c10 := heap_cell hbx2 10
  go_wp2_with fail
  have hbx2' := heap_setCell (j := 8) hbx2 (.slice p2 f.mail.grants.length q2)
  have hrs2' := heap_store hrs2 (show w.heap.size + 1 ≠ w.heap.size by omega) 8 (.slice p2 f.mail.grants.length q2)
  have hown1 := own_store hown1 hbx2 (by decide) 8 (.slice p2 f.mail.grants.length q2)
  have hown2 := own_store hown2 hbx2 (by decide) 8 (.slice p2 f.mail.grants.length q2)
  have hbw2' := hbw2.grown (grown_setCell w2 w.heap.size 8 (.slice p2 f.mail.grants.length q2)) hbw2.size (fun k hk => by cases hk; exact Nat.le_refl _)
  clear hbx2 hrs2 hbw2 c8 k8 c10 hw2
  generalize w2.setCell ⟨w.heap.size, 8, none⟩ (.slice p2 f.mail.grants.length q2) = w2' at *
  refine (cloneK_any _ f.certs _ (HC.out.below hbw2')).mono ?_
  rintro e w3 ⟨v3, rfl, hown3, hw3⟩
  have hbx3 := heap_keep hbx2' hw3
  have hrs3 := heap_keep hrs2' hw3
  have hbw3 := below_then hbw2' hw3
  obtain ⟨p3, q3, rfl⟩ := own_slice hown3
  have hown3 := own_base_le (base' := w.heap.size) hown3 hbw2'.size
  have hown1 := own_later hown1 hw3
  have hown2 := own_later hown2 hw3
  have c10 := heap_cell hbx3 10
  have k10 := heap_frozen hbx3 10
  have c0 := heap_cell hbx3 0
  have c1 := heap_cell hbx3 1
  have c2 := heap_cell hbx3 2
  have c3 := heap_cell hbx3 3
  have c4 := heap_cell hbx3 4
  have c5 := heap_cell hbx3 5
  have c6 := heap_cell hbx3 6
  have c7 := heap_cell hbx3 7
  have c8 := heap_cell hbx3 8
  have c9 := heap_cell hbx3 9
  have d0 := heap_cell hrs3 0
  have e0 := heap_frozen hrs3 0
  have d1 := heap_cell hrs3 1
  have e1 := heap_frozen hrs3 1
  have d2 := heap_cell hrs3 2
  have e2 := heap_frozen hrs3 2
  have d3 := heap_cell hrs3 3
  have e3 := heap_frozen hrs3 3
  have d4 := heap_cell hrs3 4
  have e4 := heap_frozen hrs3 4
  have d5 := heap_cell hrs3 5
  have e5 := heap_frozen hrs3 5
  have d6 := heap_cell hrs3 6
  have e6 := heap_frozen hrs3 6
  have d7 := heap_cell hrs3 7
  have e7 := heap_frozen hrs3 7
  have d8 := heap_cell hrs3 8
  have e8 := heap_frozen hrs3 8
  have d9 := heap_cell hrs3 9
  have e9 := heap_frozen hrs3 9
  have d10 := heap_cell hrs3 10
  have e10 := heap_frozen hrs3 10
  have hne : w.heap.size ≠ w.heap.size + 1 := by omega
  have hne2 : w.heap.size + 1 ≠ w.heap.size := by omega
  have HB := hid hbx3
  have HR := hid hrs3
  clear hbx3 hrs3 hw3
  go_wp2
  have A0 := heap_store HR.out hne2 10 (.slice p3 f.certs.length q3)
  have hown1 := own_store hown1 HB.out (by decide) 10 (.slice p3 f.certs.length q3)
  have hown2 := own_store hown2 HB.out (by decide) 10 (.slice p3 f.certs.length q3)
  have hown3 := own_store hown3 HB.out (by decide) 10 (.slice p3 f.certs.length q3)
  have hb6 := hbw3.grown (grown_setCell w3 w.heap.size 10 (.slice p3 f.certs.length q3)) hbw3.size (fun k hk => by cases hk; exact Nat.le_refl _)
  clear c0 c1 c2 c3 c4 c5 c6 c7 c8 c9 c10 k10 d0 e0 d1 e1 d2 e2 d3 e3 d4 e4 d5 e5 d6 e6 d7 e7 d8 e8 d9 e9 d10 e10
  generalize w3.setCell ⟨w.heap.size, 10, none⟩ (.slice p3 f.certs.length q3) = w6 at *
  have hW := st11_heap (.int .i64 f.fr) (.int .i64 f.to) (.int .i64 f.seq) (.bool f.ack) (.int .i64 f.thread) (.int .i64 f.mail.host) (.int .i64 f.mail.thread) (.slice p1 f.mail.label.length q1) (.slice p2 f.mail.grants.length q2) (.string ⟨f.mail.text.toArray⟩) (.slice p3 f.certs.length q3) A0
  have hS := st11_grown w6 (w.heap.size + 1) (.int .i64 f.fr) (.int .i64 f.to) (.int .i64 f.seq) (.bool f.ack) (.int .i64 f.thread) (.int .i64 f.mail.host) (.int .i64 f.mail.thread) (.slice p1 f.mail.label.length q1) (.slice p2 f.mail.grants.length q2) (.string ⟨f.mail.text.toArray⟩) (.slice p3 f.certs.length q3)
  have hown1 := own_block hown1 A0 (by decide) hS
  have hown2 := own_block hown2 A0 (by decide) hS
  have hown3 := own_block hown3 A0 (by decide) hS
  have hb7 := hb6.grown hS hb6.size (fun k hk => by cases hk; omega)
  refine bodyPost_ret (results_cell_row rfl _ _ (w.heap.size + 1) 51 _ (0, 0) _ rfl hW Tryz.underlying51 rfl (by kernel_rfl)) rfl ⟨p1, q1, p2, q2, p3, q3, rfl, fun w'' hs => ?_, hb7⟩
  exact ⟨labs_of_own (own_since hown1 hs) hll, nums_of_own (own_since hown2 hs) hgl, crts_of_own (own_since hown3 hs) hcl⟩
end Go.Proofs.YtgpldlbmjakjhaaGreat
