/- kernel.setLevel. -/
import Derived.Test.YtichphepfmafjacQKAns
import Derived.Test.YtichphepfmafjacQSet
namespace Go.Proofs.Ytichphepfmafjac
open Go.RowKit Go.Proofs.Parclose

set_option maxRecDepth 100000 in
set_option maxHeartbeats 1600000 in
theorem setLevel_any (kb o : Nat) (F : List Nat) (v : ThrV) (th : Thr) (c n : Int) (w : World) (h : TAt w kb o F v th) (hl : th.own.length ≤ 1000) :
    Calls Try.prog 54 #[.pointer (some ⟨kb, o, none⟩), .int .i64 c, .int .i64 n] w fun e w' => e = .returned (.int .i64 (levelL th c n).2) ∧ ∃ v', TAt w' kb o F v' (levelL th c n).1 ∧ TStep kb o w F v w' F v' := by
  have HL : Hid (levelL th c n = if setE th.label c n = 0 then (if flowsL th.label (setL th.label c n) th.own then ({ th with label := setL th.label c n }, 0) else (th, 6)) else (th, setE th.label c n)) := hid rfl
  have HE : Hid (setE th.label c n = if setB th.label c n = false then 2 else if 8 < (setL th.label c n).length then 5 else 0) := hid rfl
  obtain ⟨t0, t1, _, _, _⟩ := h.cells
  obtain ⟨ptl, ctl, hvl, _⟩ := id h.thr.1.1
  obtain ⟨po, co, hvo⟩ := ownV h.thr.2.1
  have HT := hid h
  have HV := hid hvo
  have HVL := hid hvl
  have hsb := set_bad v.vl th.label c n w h.thr.1.1
  have hsg := set_new v.vl th.label c n w h.thr.1.1
  rw [hvl] at t0 hsb hsg
  rw [hvo] at t1
  clear h hvo hvl
  cases hb : setB th.label c n with
  | false =>
    have HL2 : Hid (levelL th c n = (th, 2)) := hid (by rw [HL.out, HE.out, hb]; rfl)
    have hsb := hsb hb
    clear hsg HL HE
    go_enter Try.func54, Try.ntmps54
    go_wp2_with (go_at_call 90; refine hsb.mono ?_; rintro e w1 ⟨rfl, hw1⟩)
    go_ret
    rw [HL2.out]
    exact ⟨rfl, v, HT.out.below hw1, TStep.below hw1⟩
  | true =>
    have hsg := hsg hb
    clear hsb
    by_cases h8 : 8 < (setL th.label c n).length
    · have HL2 : Hid (levelL th c n = (th, 5)) := hid (by rw [HL.out, HE.out, hb, if_pos h8]; rfl)
      clear HL HE
      simp only [if_pos h8] at hsg
      go_enter Try.func54, Try.ntmps54
      go_wp2_with (go_at_call 90; refine hsg.mono ?_; rintro e w1 ⟨v1, x1, rfl, ⟨rfl, rfl⟩, hw1⟩)
      go_ret
      rw [HL2.out]
      exact ⟨rfl, v, HT.out.below hw1, TStep.below hw1⟩
    · have HL2 : Hid (levelL th c n = if flowsL th.label (setL th.label c n) th.own then ({ th with label := setL th.label c n }, 0) else (th, 6)) := hid (by rw [HL.out, HE.out, hb, if_neg h8]; rfl)
      clear HL HE
      simp only [if_neg h8] at hsg
      generalize setL th.label c n = l2 at *
      have HO := hid (own_ints HT.out.thr.2.1 hl)
      cases hf : flowsL th.label l2 th.own with
      | false =>
        have HL3 : Hid (levelL th c n = (th, 6)) := hid (by rw [HL2.out, hf]; rfl)
        clear HL2
        go_enter Try.func54, Try.ntmps54
        go_wp2_with (go_at_call 90; refine hsg.mono ?_; rintro e w1 ⟨v1, x1, rfl, ⟨rfl, hv1⟩, hw1⟩; obtain ⟨p1, c1, rfl, _⟩ := id hv1.1; have HV1 := hid hv1; have HB1 := hid hw1; have s0 := hw1.cell (cell_block t0); rw [t0] at s0; have s1 := hw1.cell (cell_block t1); rw [t1] at s1; have hfl := fun wx (hbx : Below w1.heap.size w1 wx) => flows_any _ _ _ th.label l2 th.own wx (HT.out.thr.1.1.below (below_then hw1 hbx)) (hv1.1.below hbx) (HO.out.below (below_then hw1 hbx)); rw [HVL.out, HV.out, hf] at hfl; clear hv1 hw1)
        go_region_held3 (fun w' => w'.cell? ⟨kb, o, none⟩ = some (.slice ptl th.label.length ctl) ∧ w'.cell? ⟨kb, o + 1, none⟩ = some (.slice po th.own.length co)) (go_keep)
          (first | (go_at_call 13; refine (hfl _ (Below.refl _ _).drew).mono ?_; rintro e w5 ⟨rfl, hw5d⟩; have hw5 := kundrew hw5d; have hb5 := below_then HB1.out hw5; have r0 := hw5.cell (cell_block s0); rw [s0] at r0; have r1 := hw5.cell (cell_block s1); rw [s1] at r1))
        all_goals
          go_wp2
          go_ret
          rw [HL3.out]
          exact ⟨rfl, v, HT.out.below hb5, TStep.below hb5⟩
      | true =>
        have HL3 : Hid (levelL th c n = ({ th with label := l2 }, 0)) := hid (by rw [HL2.out, hf]; rfl)
        clear HL2
        go_enter Try.func54, Try.ntmps54
        go_wp2_with (go_at_call 90; refine hsg.mono ?_; rintro e w1 ⟨v1, x1, rfl, ⟨rfl, hv1⟩, hw1⟩; obtain ⟨p1, c1, rfl, _⟩ := id hv1.1; have HV1 := hid hv1; have HB1 := hid hw1; have s0 := hw1.cell (cell_block t0); rw [t0] at s0; have s1 := hw1.cell (cell_block t1); rw [t1] at s1; have hfl := fun wx (hbx : Below w1.heap.size w1 wx) => flows_any _ _ _ th.label l2 th.own wx (HT.out.thr.1.1.below (below_then hw1 hbx)) (hv1.1.below hbx) (HO.out.below (below_then hw1 hbx)); rw [HVL.out, HV.out, hf] at hfl; clear hv1 hw1)
        go_region_held3 (fun w' => w'.cell? ⟨kb, o, none⟩ = some (.slice ptl th.label.length ctl) ∧ w'.cell? ⟨kb, o + 1, none⟩ = some (.slice po th.own.length co)) (go_keep)
          (first | (go_at_call 13; refine (hfl _ (Below.refl _ _).drew).mono ?_; rintro e w5 ⟨rfl, hw5d⟩; have hw5 := kundrew hw5d; have hb5 := below_then HB1.out hw5; have r0 := hw5.cell (cell_block s0); rw [s0] at r0; have r1 := hw5.cell (cell_block s1); rw [s1] at r1))
        all_goals
          have h5 := HT.out.below hb5
          have hfr := h5.frozen o
          have hro : RoLab w5 F (.slice p1 l2.length c1) l2 := ⟨HV1.out.1.below hw5, fun _ k hk hF => by have a1 := HV1.out.2 k hk; have a2 := HT.out.fin k hF; omega⟩
          have hst := h5.lab hro
          go_wp2
          go_ret
          rw [HL3.out]
          exact ⟨rfl, _, hst.1, (TStep.below hb5).trans hst.2⟩
end Go.Proofs.Ytichphepfmafjac
