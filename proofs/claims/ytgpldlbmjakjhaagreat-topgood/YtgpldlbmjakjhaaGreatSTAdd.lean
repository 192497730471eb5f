/- trust.Add answers the list with a cert more, and the errors number that the document names first. -/
import Derived.Test.YtgpldlbmjakjhaaGreatSTConcat
import Derived.Lib.SliceRun
namespace Go.Proofs.YtgpldlbmjakjhaaGreat
open Go.RowKit Go.Proofs.Parclose
theorem cown_empty (w : World) (base : Nat) (e : TypeId) (size : Nat) (hb : base ≤ w.heap.size) : (w.alloc (.cells #[] e)).ownsRow base e size (.slice (some ⟨w.heap.size, 0, none⟩) 0 0) 0 [] :=
  ⟨by simp, .inr ⟨w.heap.size, 0, #[], rfl, hb, heap_alloc_new w _, Nat.le_refl _, Nat.zero_le _, by simp, by simp⟩⟩
set_option maxRecDepth 100000 in
set_option maxHeartbeats 400000 in
theorem cloneC_some (a : Addr) (n cap : Nat) (xs : List Value) (w : World) (hl : xs.length = n * 4) (hn : n ≤ 4398046511104) (hc : ∀ j u, xs[j]? = some u → w.cell? (a.add j) = some u) (h1 : ∀ u ∈ xs, u.oneCell' = true) :
    Calls Tryz.prog 33 #[.slice (some a) n cap] w fun e w' => ∃ v', e = .returned v' ∧ w'.ownsRow w.heap.size 78 4 v' n xs ∧ Below w.heap.size w w' := by
  obtain ⟨i0, hi, hz0, hz1, hz2⟩ := info_parts info_cert
  have q : ∀ (wx : World) (p : Option Addr) (n c n' c' : Nat), (binOp .eql 37 (.slice p n c) (.slice none n' c')).run Tryz.prog wx = .ok (.bool p.isNone) wx := fun wx p n c n' c' => Lib.run_eql_slice_nil wx _ _ p n c n' c' Tryz.underlying37
  have HC := hid hc
  clear hc
  go_enter Tryz.func33, Tryz.ntmps33
  go_wp2_with (at_builtin; refine wpList_append_own _ rfl _ _ 37 rfl w.heap.size 78 i0 _ 4 32 Tryz.underlying37 hi hz0 hz1 hz2 rfl (by decide) _ 0 [] rfl (cown_empty w _ _ _ (Nat.le_refl _)) a n cap xs rfl hl (fun j u hu => by have := HC.out j u hu; rw [(below_box w _).cell (cell_block this), this]) h1 (by unfold maxLen; omega) (by omega) (by simp) ?_; intro v6 w6 hown6 hgrow6 hnil6)
  have hb6 : Below w.heap.size w w6 := (below_box w (.cells #[] 78)).grown hgrow6 (by simp) (fun k hk => by cases hk; exact Nat.le_refl _)
  clear hgrow6 hnil6
  rw [Nat.zero_add, List.nil_append] at hown6
  go_ret
  exact ⟨v6, rfl, hown6, hb6⟩
theorem cloneC_none (n cap : Nat) (w : World) : Calls Tryz.prog 33 #[.slice none n cap] w fun e w' => e = .returned (.slice none 0 0) ∧ w' = w := by
  have q : ∀ (wx : World) (p : Option Addr) (n c n' c' : Nat), (binOp .eql 37 (.slice p n c) (.slice none n' c')).run Tryz.prog wx = .ok (.bool p.isNone) wx := fun wx p n c n' c' => Lib.run_eql_slice_nil wx _ _ p n c n' c' Tryz.underlying37
  go_enter Tryz.func33, Tryz.ntmps33
  go_wp2
  go_ret
  exact ⟨rfl, rfl⟩
theorem pair_len {l : List Crt} {x : Crt} (h : l.length ≤ 24) : ∀ y ∈ [l, [x]], y.length ≤ 24 := by
  intro y hy
  rcases List.mem_cons.1 hy with e | hy
  · rw [e]; exact h
  · rw [List.mem_singleton.1 hy]; simp
theorem pair_at {w : World} {v : Value} {l : List Crt} {x : Crt} (hv : CrtsAt w v l) : CrtssAt ((w.alloc (.cells #[.int .i64 x.c, .int .i64 x.b, .int .i64 x.h, .int .i64 x.u] 78)).alloc (.cells #[v, .slice (some ⟨w.heap.size, 0, none⟩) 1 1] 37)) (.slice (some ⟨w.heap.size + 1, 0, none⟩) 2 2) [l, [x]] := by
  have hb := below_box (w.alloc (.cells #[.int .i64 x.c, .int .i64 x.b, .int .i64 x.h, .int .i64 x.u] 78)) (.cells #[v, .slice (some ⟨w.heap.size, 0, none⟩) 1 1] 37)
  have hm := fun j => World.cell?_alloc_mark (w.alloc (.cells #[.int .i64 x.c, .int .i64 x.b, .int .i64 x.h, .int .i64 x.u] 78)) #[v, .slice (some ⟨w.heap.size, 0, none⟩) 1 1] 37 (0, 0) j
  simp only [size_box] at hm
  refine ⟨w.heap.size + 1, 0, 2, rfl, fun j hj => ?_⟩
  have : j = 0 ∨ j = 1 := by
    have : j < 2 := hj
    omega
  rcases this with rfl | rfl
  · exact ⟨v, hm 0, (hv.below (below_box _ _)).below hb⟩
  · refine ⟨_, hm 1, CrtsAt.below ?_ hb⟩
    refine ⟨_, _, rfl, ⟨Nat.le_refl _, fun h => by cases h⟩, by simp, fun _ => ⟨w.heap.size, 0, rfl, fun j hj => ?_⟩⟩
    have : j = 0 := by
      have : j < 1 := hj
      omega
    subst this
    exact ⟨World.cell?_alloc_mark w _ _ _ 0, World.cell?_alloc_mark w _ _ _ 1, World.cell?_alloc_mark w _ _ _ 2, World.cell?_alloc_mark w _ _ _ 3⟩
end Go.Proofs.YtgpldlbmjakjhaaGreat
namespace Go.Proofs.YtgpldlbmjakjhaaGreat
open Go.RowKit Go.Proofs.Parclose
theorem cloneC_new (v : Value) (l : List Crt) (w : World) (hv : CrtsAt w v l) :
    Calls Tryz.prog 33 #[v] w fun e w' => ∃ v', e = .returned v' ∧ (CrtsAt w' v' l ∧ ∀ k, v'.ownBlock = some k → w.heap.size ≤ k) ∧ Below w.heap.size w w' := by
  obtain ⟨p, cap, rfl, hlc, hcap, hcells⟩ := hv
  cases p with
  | none =>
    have h0 : l = [] := by
      have := hlc.2 rfl
      exact List.length_eq_zero_iff.1 (by omega)
    subst h0
    refine (cloneC_none 0 cap w).mono ?_
    rintro e w' ⟨rfl, rfl⟩
    exact ⟨_, rfl, ⟨CrtsAt.nil _ _ _ (fun _ => rfl), fun _ h => by cases h⟩, Below.refl _ _⟩
  | some a =>
    refine (cloneC_some a l.length cap (flat4 l) w (flat4_len l) hcap (fun j u hu => ?_) (flat4_one l)).mono ?_
    · have hj := (List.getElem?_eq_some_iff.1 hu).1
      rw [flat4_len] at hj
      obtain ⟨b, o, e, hc⟩ := hcells (by omega)
      cases e
      exact flat4_cell hc j u hu
    · rintro e w' ⟨v', rfl, h1, h2⟩
      exact ⟨v', rfl, ⟨crts_of_own h1 hcap, fun k hk => own_base h1 hk⟩, h2⟩
set_option maxRecDepth 100000 in
set_option maxHeartbeats 3200000 in
theorem add_new (v : Value) (l : List Crt) (x : Crt) (w : World) (hv : CrtsAt w v l) :
    Calls Tryz.prog 106 #[v, crtV x] w fun e w' => ∃ v', e = .returned (.tuple #[v', .int .i64 (addL l x).2]) ∧ (CrtsAt w' v' (addL l x).1 ∧ ∀ k, v'.ownBlock = some k → w.heap.size ≤ k) ∧ Below w.heap.size w w' := by
  have hg := fun wx (h : Below w.heap.size w wx) => tgood_any v l wx (hv.below h)
  have hc := fun wx => goodCert_any x wx
  have hh := fun wx (h : Below w.heap.size w wx) => has_any v l x wx (hv.below h)
  have HV := hid hv
  unfold crtV at hc hh ⊢
  have hA : addL l x = if goodCs l ∧ certB x = true then (if x ∈ l then (l, 0) else if 24 ≤ l.length then ([], 5) else (l ++ [x], 0)) else ([], 2) := rfl
  obtain ⟨p, cap, rfl, _⟩ := id hv
  clear hv
  cases h1 : csB l with
  | false =>
    have HA : Hid (addL l x = ([], 2)) := hid (by rw [hA, if_neg (fun h => of_decide_eq_false h1 h.1)])
    clear hA hh hc
    simp only [HA.out]
    go_enter Tryz.func106, Tryz.ntmps106
    go_wp2_with (go_at_call 11; refine (hg _ (below_box _ _)).mono ?_; rintro e w1 ⟨rfl, hw1⟩)
    go_ret2
    exact ⟨_, rfl, ⟨CrtsAt.nil _ _ _ (fun _ => rfl), fun _ h => by cases h⟩, below_then (below_box _ _) hw1⟩
  | true =>
    cases h2 : certB x with
    | false =>
      have HA : Hid (addL l x = ([], 2)) := hid (by rw [hA, if_neg (fun h => by rw [h2] at h; cases h.2)])
      clear hA hh
      simp only [HA.out]
      go_enter Tryz.func106, Tryz.ntmps106
      go_wp2_with (first
        | (go_at_call 11; refine (hg _ (below_box _ _)).mono ?_; rintro e w1 ⟨rfl, hw1⟩; have x0 : w1.cell? ⟨w.heap.size, 0, none⟩ = some (.int .i64 x.c) := box_cell hw1 (by simp) 0; have x1 : w1.cell? ⟨w.heap.size, 1, none⟩ = some (.int .i64 x.b) := box_cell hw1 (by simp) 1; have x2 : w1.cell? ⟨w.heap.size, 2, none⟩ = some (.int .i64 x.h) := box_cell hw1 (by simp) 2; have x3 : w1.cell? ⟨w.heap.size, 3, none⟩ = some (.int .i64 x.u) := box_cell hw1 (by simp) 3; have hb1 := below_then (below_box _ _) hw1; clear hw1)
        | (go_at_call 30; refine (hc _).mono ?_; rintro e w2 ⟨rfl, hw2⟩))
      go_ret2
      exact ⟨_, rfl, ⟨CrtsAt.nil _ _ _ (fun _ => rfl), fun _ h => by cases h⟩, below_then hb1 hw2⟩
    | true =>
      have hA2 : addL l x = if x ∈ l then (l, 0) else if 24 ≤ l.length then ([], 5) else (l ++ [x], 0) := by rw [hA, if_pos ⟨of_decide_eq_true h1, h2⟩]
      have h24 : l.length ≤ 24 := (of_decide_eq_true h1 : goodCs l).1
      clear hA
      cases h3 : decide (x ∈ l) with
      | true =>
        have HA : Hid (addL l x = (l, 0)) := hid (by rw [hA2, if_pos (of_decide_eq_true h3)])
        clear hA2
        simp only [HA.out]
        rw [h3] at hh
        go_enter Tryz.func106, Tryz.ntmps106
        go_wp2_with (first
          | (go_at_call 11; refine (hg _ (below_box _ _)).mono ?_; rintro e w1 ⟨rfl, hw1⟩; have x0 : w1.cell? ⟨w.heap.size, 0, none⟩ = some (.int .i64 x.c) := box_cell hw1 (by simp) 0; have x1 : w1.cell? ⟨w.heap.size, 1, none⟩ = some (.int .i64 x.b) := box_cell hw1 (by simp) 1; have x2 : w1.cell? ⟨w.heap.size, 2, none⟩ = some (.int .i64 x.h) := box_cell hw1 (by simp) 2; have x3 : w1.cell? ⟨w.heap.size, 3, none⟩ = some (.int .i64 x.u) := box_cell hw1 (by simp) 3; have HW1 := hid hw1; clear hw1)
          | (go_at_call 30; refine (hc _).mono ?_; rintro e w2 ⟨rfl, hw2⟩; have HW2 := hid (below_then HW1.out hw2); clear x0 x1 x2 x3 hw2; have x0 : w2.cell? ⟨w.heap.size, 0, none⟩ = some (.int .i64 x.c) := box_cell HW2.out (by simp) 0; have x1 : w2.cell? ⟨w.heap.size, 1, none⟩ = some (.int .i64 x.b) := box_cell HW2.out (by simp) 1; have x2 : w2.cell? ⟨w.heap.size, 2, none⟩ = some (.int .i64 x.h) := box_cell HW2.out (by simp) 2; have x3 : w2.cell? ⟨w.heap.size, 3, none⟩ = some (.int .i64 x.u) := box_cell HW2.out (by simp) 3; have HB2 := hid (below_then (below_box w _) HW2.out))
          | (go_at_call 31; refine (hh _ HB2.out).mono ?_; rintro e w3 ⟨rfl, hw3⟩; have HB3 := hid (below_then HB2.out hw3); clear hw3)
          | (go_at_call 33; refine (cloneC_new _ l _ (HV.out.below HB3.out)).mono ?_; rintro e w4 ⟨v4, rfl, hv4, hw4⟩))
        go_ret2
        exact ⟨_, rfl, ⟨hv4.1, fun k hk => Nat.le_trans HB3.out.size (hv4.2 k hk)⟩, below_then HB3.out hw4⟩
      | false =>
        rw [h3] at hh
        by_cases h4 : 24 ≤ l.length
        · have HA : Hid (addL l x = ([], 5)) := hid (by rw [hA2, if_neg (of_decide_eq_false h3), if_pos h4])
          clear hA2
          simp only [HA.out]
          go_enter Tryz.func106, Tryz.ntmps106
          go_wp2_with (first
            | (go_at_call 11; refine (hg _ (below_box _ _)).mono ?_; rintro e w1 ⟨rfl, hw1⟩; have x0 : w1.cell? ⟨w.heap.size, 0, none⟩ = some (.int .i64 x.c) := box_cell hw1 (by simp) 0; have x1 : w1.cell? ⟨w.heap.size, 1, none⟩ = some (.int .i64 x.b) := box_cell hw1 (by simp) 1; have x2 : w1.cell? ⟨w.heap.size, 2, none⟩ = some (.int .i64 x.h) := box_cell hw1 (by simp) 2; have x3 : w1.cell? ⟨w.heap.size, 3, none⟩ = some (.int .i64 x.u) := box_cell hw1 (by simp) 3; have HW1 := hid hw1; clear hw1)
            | (go_at_call 30; refine (hc _).mono ?_; rintro e w2 ⟨rfl, hw2⟩; have HW2 := hid (below_then HW1.out hw2); clear x0 x1 x2 x3 hw2; have x0 : w2.cell? ⟨w.heap.size, 0, none⟩ = some (.int .i64 x.c) := box_cell HW2.out (by simp) 0; have x1 : w2.cell? ⟨w.heap.size, 1, none⟩ = some (.int .i64 x.b) := box_cell HW2.out (by simp) 1; have x2 : w2.cell? ⟨w.heap.size, 2, none⟩ = some (.int .i64 x.h) := box_cell HW2.out (by simp) 2; have x3 : w2.cell? ⟨w.heap.size, 3, none⟩ = some (.int .i64 x.u) := box_cell HW2.out (by simp) 3; have HB2 := hid (below_then (below_box w _) HW2.out))
            | (go_at_call 31; refine (hh _ HB2.out).mono ?_; rintro e w3 ⟨rfl, hw3⟩; have HB3 := hid (below_then HB2.out hw3); clear hw3))
          go_ret2
          exact ⟨_, rfl, ⟨CrtsAt.nil _ _ _ (fun _ => rfl), fun _ h => by cases h⟩, HB3.out⟩
        · have HA : Hid (addL l x = (l ++ [x], 0)) := hid (by rw [hA2, if_neg (of_decide_eq_false h3), if_neg h4])
          clear hA2
          simp only [HA.out]
          go_enter Tryz.func106, Tryz.ntmps106
          go_wp2_with (first
            | (go_at_call 11; refine (hg _ (below_box _ _)).mono ?_; rintro e w1 ⟨rfl, hw1⟩; have x0 : w1.cell? ⟨w.heap.size, 0, none⟩ = some (.int .i64 x.c) := box_cell hw1 (by simp) 0; have x1 : w1.cell? ⟨w.heap.size, 1, none⟩ = some (.int .i64 x.b) := box_cell hw1 (by simp) 1; have x2 : w1.cell? ⟨w.heap.size, 2, none⟩ = some (.int .i64 x.h) := box_cell hw1 (by simp) 2; have x3 : w1.cell? ⟨w.heap.size, 3, none⟩ = some (.int .i64 x.u) := box_cell hw1 (by simp) 3; have HW1 := hid hw1; clear hw1)
            | (go_at_call 30; refine (hc _).mono ?_; rintro e w2 ⟨rfl, hw2⟩; have HW2 := hid (below_then HW1.out hw2); clear x0 x1 x2 x3 hw2; have x0 : w2.cell? ⟨w.heap.size, 0, none⟩ = some (.int .i64 x.c) := box_cell HW2.out (by simp) 0; have x1 : w2.cell? ⟨w.heap.size, 1, none⟩ = some (.int .i64 x.b) := box_cell HW2.out (by simp) 1; have x2 : w2.cell? ⟨w.heap.size, 2, none⟩ = some (.int .i64 x.h) := box_cell HW2.out (by simp) 2; have x3 : w2.cell? ⟨w.heap.size, 3, none⟩ = some (.int .i64 x.u) := box_cell HW2.out (by simp) 3; have HB2 := hid (below_then (below_box w _) HW2.out))
            | (go_at_call 31; refine (hh _ HB2.out).mono ?_; rintro e w3 ⟨rfl, hw3⟩; have HW3 := hid (below_then HW2.out hw3); have HB3 := hid (below_then HB2.out hw3); clear x0 x1 x2 x3 hw3; have x0 : w3.cell? ⟨w.heap.size, 0, none⟩ = some (.int .i64 x.c) := box_cell HW3.out (by simp) 0; have x1 : w3.cell? ⟨w.heap.size, 1, none⟩ = some (.int .i64 x.b) := box_cell HW3.out (by simp) 1; have x2 : w3.cell? ⟨w.heap.size, 2, none⟩ = some (.int .i64 x.h) := box_cell HW3.out (by simp) 2; have x3 : w3.cell? ⟨w.heap.size, 3, none⟩ = some (.int .i64 x.u) := box_cell HW3.out (by simp) 3; have hcat := concatC_new _ _ _ (pair_at (x := x) (HV.out.below HB3.out)) (by simp) (pair_len h24))
            | (go_at_call 137; refine hcat.mono ?_; rintro e w4 ⟨v4, rfl, hv4, hw4⟩))
          go_ret2
          rw [show [l, [x]].flatten = l ++ [x] by simp] at hv4
          exact ⟨_, rfl, ⟨hv4.1, fun k hk => Nat.le_trans HB3.out.size (Nat.le_trans (by simp; omega) (hv4.2 k hk))⟩, below_then HB3.out (below_then (two_boxes _ _ _) hw4)⟩
end Go.Proofs.YtgpldlbmjakjhaaGreat
