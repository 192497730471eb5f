/- kernel.copyMail answers mail in memory of its own; kernel.mayMail what forbids a thread to send it. -/
import Derived.Test.YtpdijobakfpnbaaQKClone
import Derived.Test.YtpdijobakfpnbaaQRows0
import Derived.Test.YtpdijobakfpnbaaQWHost
import Derived.Test.YtpdijobakfpnbaaQFromB
import Derived.Laws.ResultCell
import Derived.Deep.QuietTactic
import Derived.BigQuiet
import Derived.Deep.RegionHeld3
namespace Go.Proofs.Ytpdijobakfpnbaa
open Go.RowKit Go.Proofs.Parclose
theorem Qi {w : World} {base : Nat} {e : TypeId} {s : Nat} {v : Value} {n : Nat} {xs : List Value} (h : w.ownsRow base e s v n xs) : ∃ p cap, v = .slice p n cap := by
 obtain ⟨p, cap, rfl, _⟩ := QN h
 exact ⟨p, cap, rfl⟩
theorem Ql {w w' : World} {base : Nat} {e : TypeId} {s : Nat} {v : Value} {n : Nat} {xs : List Value} (h : w.ownsRow base e s v n xs) (hb : Below w.heap.size w w') : w'.ownsRow base e s v n xs := by
 refine ⟨h.1, ?_⟩
 rcases h.2 with hn | ⟨g, cap, cur, rfl, hbg, hgg, rest⟩
 · exact .inl hn
 · exact .inr ⟨g, cap, cur, rfl, hbg, Qc hgg hb, rest⟩
theorem Qs {w : World} {base base' : Nat} {e : TypeId} {s : Nat} {v : Value} {n : Nat} {xs : List Value} (h : w.ownsRow base e s v n xs) (hb : base' ≤ base) : w.ownsRow base' e s v n xs := by
 refine ⟨h.1, ?_⟩
 rcases h.2 with hn | ⟨g, cap, cur, rfl, hbg, rest⟩
 · exact .inl hn
 · exact .inr ⟨g, cap, cur, rfl, by omega, rest⟩
set_option maxRecDepth 100000 in
set_option maxHeartbeats 1600000 in
theorem QbG (v : Value) (m : Mal) (w : World) (hv : MalAt w v m) (hx : m.text.length < 4611686018427387904) :
 Calls Try.prog 20 #[v] w fun e w' => ∃ vl vg, e = .returned (malV { m with text := lastL m.text } vl vg) ∧ w'.ownsRow w.heap.size 86 2 vl m.label.length (flat2 m.label) ∧ w'.ownsRow w.heap.size 3 1 vg m.grants.length (flat1 m.grants) ∧ Below w.heap.size w w' := by
 obtain ⟨vl, vg, rfl, hl, hg⟩ := hv
 have HL := hid hl
 have HG := hid hg
 obtain ⟨pl, cl, rfl, _⟩ := id hl
 obtain ⟨pg, cg, rfl, _⟩ := id hg
 unfold malV
 clear hl hg
 have hb0 : Below w.heap.size w ((w.alloc (.cells #[.int .i64 m.host, .int .i64 m.thread, .slice pl m.label.length cl, .slice pg m.grants.length cg, .string ⟨m.text.toArray⟩] 42)).alloc (.cells #[.int .i64 0, .int .i64 0, .slice none 0 0, .slice none 0 0, .string ⟨#[]⟩] 42)) := (Qe w _).alloc (by simp) _
 go_enter Try.func20, Try.ntmps20
 go_wp2_with fail
 refine (QaG _ m.label _ (HL.out.below hb0)).mono ?_
 rintro e w1 ⟨vl1, rfl, hown1, hw1⟩
 have hbx1 := Qc (heap_alloc2_old w _ _) hw1
 have hrs1 := Qc (heap_alloc2_new w _ _) hw1
 have hbw1 := Qd hb0 hw1
 have hs1 := hw1.size
 obtain ⟨p1, q1, rfl⟩ := Qi hown1
 have c2 := Qa hbx1 2
 have f2 := Qf hbx1 2
 have c3 := Qa hbx1 3
 have hown1 := Qs (base' := w.heap.size) hown1 hb0.size
 go_wp2_with fail
 have hbx2 := heap_setCell (j := 2) hbx1 (.slice p1 m.label.length q1)
 have hrs2 := Qr hrs1 (show w.heap.size + 1 ≠ w.heap.size by omega) 2 (.slice p1 m.label.length q1)
 have hown2 := Qy hown1 hbx1 (by decide) 2 (.slice p1 m.label.length q1)
 have hbw2 := hbw1.grown (Qg w1 w.heap.size 2 (.slice p1 m.label.length q1)) hbw1.size (fun k hk => by cases hk; exact Nat.le_refl _)
 clear hbx1 hrs1 hown1 hbw1 c2 f2 c3 hs1 hw1
 generalize w1.setCell ⟨w.heap.size, 2, none⟩ (.slice p1 m.label.length q1) = w2 at *
 refine (Qbr _ m.grants _ (HG.out.below hbw2)).mono ?_
 rintro e w3 ⟨vg3, rfl, hown3, hw3⟩
 have hbx3 := Qc hbx2 hw3
 have hrs3 := Qc hrs2 hw3
 have hownL3 := Ql hown2 hw3
 have hbw3 := Qd hbw2 hw3
 obtain ⟨p3, q3, rfl⟩ := Qi hown3
 have hown3 := Qs (base' := w.heap.size) hown3 hbw2.size
 have c3 := Qa hbx3 3
 have f3 := Qf hbx3 3
 have c4 := Qa hbx3 4
 clear hbx2 hrs2 hown2 hbw2 hw3
 go_wp2_with fail
 have hbx4 := heap_setCell (j := 3) hbx3 (.slice p3 m.grants.length q3)
 have hrs4 := Qr hrs3 (show w.heap.size + 1 ≠ w.heap.size by omega) 3 (.slice p3 m.grants.length q3)
 have hownL4 := Qy hownL3 hbx3 (by decide) 3 (.slice p3 m.grants.length q3)
 have hownG4 := Qy hown3 hbx3 (by decide) 3 (.slice p3 m.grants.length q3)
 have hbw4 := hbw3.grown (Qg w3 w.heap.size 3 (.slice p3 m.grants.length q3)) hbw3.size (fun k hk => by cases hk; exact Nat.le_refl _)
 clear hbx3 hrs3 hown3 hownL3 hbw3 c3 f3 c4
 generalize w3.setCell ⟨w.heap.size, 3, none⟩ (.slice p3 m.grants.length q3) = w4 at *
 refine (QaO m.text _ hx).mono ?_
 rintro e w5 ⟨rfl, hw5⟩
 have hbx5 := Qc hbx4 hw5
 have hrs5 := Qc hrs4 hw5
 have hownL5 := Ql hownL4 hw5
 have hownG5 := Ql hownG4 hw5
 have hbw5 := Qd hbw4 hw5
 have c0 := Qa hbx5 0
 have c1 := Qa hbx5 1
 have c2 := Qa hbx5 2
 have c3 := Qa hbx5 3
 have c4 := Qa hbx5 4
 have f4 := Qf hbx5 4
 have d0 := Qa hrs5 0
 have d1 := Qa hrs5 1
 have d2 := Qa hrs5 2
 have d3 := Qa hrs5 3
 have d4 := Qa hrs5 4
 have e0 := Qf hrs5 0
 have e1 := Qf hrs5 1
 have e2 := Qf hrs5 2
 have e3 := Qf hrs5 3
 have e4 := Qf hrs5 4
 clear hbx4 hrs4 hownL4 hownG4 hbw4 hw5
 have hne : w.heap.size ≠ w.heap.size + 1 := by omega
 have hne2 : w.heap.size + 1 ≠ w.heap.size := by omega
 go_wp2
 have A0 := Qr hrs5 hne2 4 (.string ⟨(lastL m.text).toArray⟩)
 have hL6 := Qy hownL5 hbx5 (by decide) 4 (.string ⟨(lastL m.text).toArray⟩)
 have hG6 := Qy hownG5 hbx5 (by decide) 4 (.string ⟨(lastL m.text).toArray⟩)
 have hb6 := hbw5.grown (Qg w5 w.heap.size 4 (.string ⟨(lastL m.text).toArray⟩)) hbw5.size (fun k hk => by cases hk; exact Nat.le_refl _)
 clear c0 c1 c2 c3 c4 f4 d0 d1 d2 d3 d4 e0 e1 e2 e3 e4 hbx5 hrs5 hownL5 hownG5 hbw5
 generalize w5.setCell ⟨w.heap.size, 4, none⟩ (.string ⟨(lastL m.text).toArray⟩) = w6 at *
 have hS := Qh (Qh (Qh (Qh (Qg w6 (w.heap.size + 1) 0 (.int .i64 m.host)) (Qg _ (w.heap.size + 1) 1 (.int .i64 m.thread))) (Qg _ (w.heap.size + 1) 2 (.slice p1 m.label.length q1))) (Qg _ (w.heap.size + 1) 3 (.slice p3 m.grants.length q3))) (Qg _ (w.heap.size + 1) 4 (.string ⟨(lastL m.text).toArray⟩))
 have hW := heap_setCell (j := 4) (heap_setCell (j := 3) (heap_setCell (j := 2) (heap_setCell (j := 1) (heap_setCell (j := 0) A0 (.int .i64 m.host)) (.int .i64 m.thread)) (.slice p1 m.label.length q1)) (.slice p3 m.grants.length q3)) (.string ⟨(lastL m.text).toArray⟩)
 have hL7 := Qaz hL6 A0 (by decide) hS
 have hG7 := Qaz hG6 A0 (by decide) hS
 have hb7 := hb6.grown hS hb6.size (fun k hk => by cases hk; omega)
 refine bodyPost_ret (results_cell_row rfl _ _ (w.heap.size + 1) 42 _ (0, 0) _ rfl hW Try.underlying42 rfl (by kernel_rfl)) rfl ⟨_, _, rfl, hL7, hG7, hb7⟩
theorem Qg9 {l : List Int} {p : Int → Bool} (k : Nat) (hk : k < l.length) (h : p l[k] = false) : l.all p = false := by
 cases e : l.all p with
 | false => rfl
 | true =>
  have := List.all_eq_true.1 e l[k] (List.getElem_mem hk)
  rw [h] at this
  cases this
theorem QgF {l : List Int} {p : Int → Bool} (h : ∀ j (hj : j < l.length), p l[j] = true) : l.all p = true := by
 rw [List.all_eq_true]
 intro x hx
 obtain ⟨j, hj, rfl⟩ := List.mem_iff_getElem.1 hx
 exact h j hj
theorem QV {w : World} {v : Value} {l : List Int} (h : OwnAt w v l) (hl : l.length ≤ 1000) : IntsAt w v l := QX h (by omega)
set_option maxRecDepth 100000 in
set_option maxHeartbeats 1600000 in
theorem Qd5 (kb o : Nat) (F : List Nat) (v : ThrV) (th : Thr) (vm : Value) (m : Mal) (w : World) (h : TAt w kb o F v th) (hl : th.own.length ≤ 1000) (hm : MalAt w vm m) :
 Calls Try.prog 19 #[.pointer (some ⟨kb, o, none⟩), vm] w fun e w' => e = .returned (.int .i64 (mayL th m)) ∧ Below w.heap.size w w' := by
 have hgood := fun wx (hb : Below w.heap.size w wx) => Qao _ m wx (hm.below hb)
 obtain ⟨vl, vg, rfl, hml, hmg⟩ := hm
 have HL := hid hml
 have HG := hid hmg
 have HM : Hid (mayL th m = if mailE m = 0 then (if m.grants.all (th.own.contains ·) then (if flowsL th.label m.label th.own then 0 else 6) else 7) else mailE m) := hid rfl
 obtain ⟨pl, cl, rfl, _⟩ := id hml
 obtain ⟨pg, cg, rfl, _, _, hgc⟩ := id hmg
 have HC := hid hgc
 unfold malV at hgood ⊢
 clear hml hmg hgc
 by_cases h0 : mailE m = 0
 rotate_left
 · have HE : Hid (mayL th m = mailE m) := hid (by rw [HM.out, if_neg h0])
   have hne : (mailE m != 0) = true := by simpa using h0
   clear HM h0
   go_enter Try.func19, Try.ntmps19
   go_wp2_with (go_at_call 30; refine (hgood _ (Qe _ _)).mono ?_; rintro e w1 ⟨rfl, hw1⟩)
   go_ret
   exact ⟨QH HE.out.symm, Qd (Qe _ _) hw1⟩
 have hne : (mailE m != 0) = false := by simpa using h0
 have HM2 : Hid (mayL th m = if m.grants.all (th.own.contains ·) then (if flowsL th.label m.label th.own then 0 else 6) else 7) := hid (by rw [HM.out, if_pos h0])
 clear HM
 have H0 := hid h0
 clear h0
 obtain ⟨po, co, hvo⟩ := ownV h.thr.2.1
 have HO := hid (QV h.thr.2.1 hl)
 have HV := hid hvo
 have HT := hid h
 obtain ⟨t0, t1, _, _, _⟩ := h.cells
 rw [hvo] at t1
 obtain ⟨ptl, ctl, hvl, _⟩ := id h.thr.1.1
 have HTL := hid h.thr.1.1
 have HVL := hid hvl
 rw [hvl] at t0
 clear hvo hvl h
 go_enter Try.func19, Try.ntmps19
 go_wp2_with (go_at_call 30; refine (hgood _ (Qe _ _)).mono ?_; rintro e w1 ⟨rfl, hw1⟩; have k2 := QW hw1 (by simp) 2; have k3 := QW hw1 (by simp) 3; have hb1 := Qd (Qe _ _) hw1; have HB1 := hid hw1; clear hw1)
 go_loopw [16] (fun i wr => ∃ k : Nat, k ≤ m.grants.length ∧ i = .int .i64 k ∧ (∀ j (hj : j < k) (hj' : j < m.grants.length), th.own.contains m.grants[j] = true) ∧ wr = w1) (fun i _ => m.grants.length - (intOf i).toNat)
 case atStart => exact ⟨0, Nat.zero_le _, rfl, fun j hj => absurd hj (Nat.not_lt_zero _), rfl⟩
 case round =>
  obtain ⟨k, hk, rfl, hno0, rfl⟩ := hrel
  have HN := hid hno0
  clear hno0
  by_cases hlt : k < m.grants.length
  · obtain ⟨b, ob, rfl, hc⟩ := HC.out (by omega)
    have hck := hc.below hb1 k hlt
    have s1 := hb1.cell (Qb t1)
    rw [t1] at s1
    have hcon := fun wx (hb : Below w.heap.size w wx) => QaZ _ th.own m.grants[k] wx (HO.out.below hb)
    rw [HV.out] at hcon
    cases hh : th.own.contains m.grants[k] with
    | false =>
     have HE : Hid (mayL th m = 7) := hid (by rw [HM2.out, Qg9 (p := (th.own.contains ·)) k hlt hh, if_neg (by simp)])
     have hh2 : hasB th.own m.grants[k] = false := hh
     go_wp2_with (go_at_call 44; refine (hcon _ hb1).mono ?_; rintro e w4 ⟨rfl, rfl⟩; rw [hh2])
     go_ret
     exact ⟨QH HE.out.symm, hb1⟩
    | true =>
     have HH := hid hh
     have hh2 : hasB th.own m.grants[k] = true := hh
     go_wp2_with (go_at_call 44; refine (hcon _ hb1).mono ?_; rintro e w4 ⟨rfl, rfl⟩; rw [hh2])
     go_roundw
     case rel => exact ⟨k + 1, hlt, by go_num, fun j hj hj' => by
      by_cases e : j = k
      · subst e; exact HH.out
      · exact HN.out j (by omega) hj', by first | rfl | trivial⟩
     case measure => simp [intOf]; omega
  · have HA : Hid (m.grants.all (th.own.contains ·) = true) := hid (QgF (p := (th.own.contains ·)) fun j hj => HN.out j (by omega) hj)
    have HM3 : Hid (mayL th m = if flowsL th.label m.label th.own then 0 else 6) := hid (by rw [HM2.out, HA.out, if_pos rfl])
    have s0 := hb1.cell (Qb t0)
    rw [t0] at s0
    have s1 := hb1.cell (Qb t1)
    rw [t1] at s1
    have hfl := fun wx (hb : Below w.heap.size w wx) => QS _ _ _ th.label m.label th.own wx (HTL.out.below hb) (HL.out.below hb) (HO.out.below hb)
    rw [HV.out, HVL.out] at hfl
    have k2' : wr.cell? ⟨w.heap.size, 2, none⟩ = some (.slice pl m.label.length cl) := k2
    clear k2
    have k2 := k2'
    clear k2' k3
    cases hf : flowsL th.label m.label th.own with
    | false =>
     have HE : Hid (mayL th m = 6) := hid (by rw [HM3.out, hf]; rfl)
     rw [hf] at hfl
     go_wp2
     go_region_held3 (fun w' => w'.cell? ⟨kb, o, none⟩ = some (.slice ptl th.label.length ctl) ∧ w'.cell? ⟨kb, o + 1, none⟩ = some (.slice po th.own.length co) ∧ w'.cell? ⟨w.heap.size, 2, none⟩ = some (.slice pl m.label.length cl)) (go_keep)
      (first | (go_at_call 31; refine (hfl _ hb1.drew).mono ?_; rintro e w5 ⟨rfl, hw5⟩; have hb5 := Qd hb1.drew hw5; have r0 := hw5.cell (Qb s0); rw [World.cell?_drew, s0] at r0; have r1 := hw5.cell (Qb s1); rw [World.cell?_drew, s1] at r1; have r2 := hw5.cell (Qb k2); rw [World.cell?_drew, k2] at r2))
     all_goals
      go_wp2
      go_ret
      exact ⟨QH HE.out.symm, hb5⟩
    | true =>
     have HE : Hid (mayL th m = 0) := hid (by rw [HM3.out, hf]; rfl)
     rw [hf] at hfl
     go_wp2
     go_region_held3 (fun w' => w'.cell? ⟨kb, o, none⟩ = some (.slice ptl th.label.length ctl) ∧ w'.cell? ⟨kb, o + 1, none⟩ = some (.slice po th.own.length co) ∧ w'.cell? ⟨w.heap.size, 2, none⟩ = some (.slice pl m.label.length cl)) (go_keep)
      (first | (go_at_call 31; refine (hfl _ hb1.drew).mono ?_; rintro e w5 ⟨rfl, hw5⟩; have hb5 := Qd hb1.drew hw5; have r0 := hw5.cell (Qb s0); rw [World.cell?_drew, s0] at r0; have r1 := hw5.cell (Qb s1); rw [World.cell?_drew, s1] at r1; have r2 := hw5.cell (Qb k2); rw [World.cell?_drew, k2] at r2))
     all_goals
      go_wp2
      go_ret
      exact ⟨QH HE.out.symm, hb5⟩
end Go.Proofs.Ytpdijobakfpnbaa
