/- The statement TrustAdds: Good and Add answer what the reference does. -/
import Derived.Test.YtichphepfmafjacLAsk
import Derived.Test.YtichphepfmafjacTAdd
import Derived.Test.YtichphepfmafjacRAdd
namespace Go.Proofs.Ytichphepfmafjac
open Go.RowKit Go.Proofs.Parclose

set_option maxRecDepth 100000 in
set_option maxHeartbeats 3200000 in
theorem trustAdds_any (v : Value) (l : List Crt) (x : Crt) (w : World) (hv : CrtsAt w v l) (hwf : ∀ x ∈ l, WfC x) :
    Calls Try.prog 8 #[v, crtV x] w fun e w' => e = .returned (.bool true) ∧ Below w.heap.size w w' := by
  have hcopy := fun wx (hb : Below w.heap.size w wx) => lcerts_any v l wx (hv.below hb)
  have hadd := fun v1 wx (h : CrtsAt wx v1 l) => add_any v1 l x wx h
  have hradd := fun wx (hb : Below w.heap.size w wx) => raddCert_any v l x wx (hv.below hb) hwf
  have hgood := fun v1 wx (h : CrtsAt wx v1 l) => tgood_any v1 l wx h
  have hrgood := fun wx (hb : Below w.heap.size w wx) => rgoodCerts_any v l wx (hv.below hb) hwf
  have HV := hid hv
  obtain ⟨p, cap, rfl, _⟩ := id hv
  obtain ⟨A, E, hA⟩ : ∃ A E, addL l x = (A, E) := ⟨_, _, rfl⟩
  simp only [hA] at hadd hradd
  unfold crtV at hadd hradd ⊢
  clear hv hwf hA
  cases hR : csB l
  all_goals
    rw [hR] at hgood hrgood
    go_enter Try.func8, Try.ntmps8
    go_wp2_with (first
      | (go_at_call 33; refine (hadd _ _ HV1.out).mono ?_; rintro e w2 ⟨v2, rfl, hv2, hw2⟩; obtain ⟨p2, c2, rfl, _⟩ := id hv2; have HW2 := hid (below_then HW1.out hw2); have HB2 := hid (below_then HB1.out hw2); have HV2 := hid hv2; have HX2 := hid (HV1.out.below hw2); clear hw2 hv2 x0 x1 x2 x3; have x0 : w2.cell? ⟨w.heap.size, 0, none⟩ = some (.int .i64 x.c) := box_cell HW2.out (by simp) 0; have x1 : w2.cell? ⟨w.heap.size, 1, none⟩ = some (.int .i64 x.b) := box_cell HW2.out (by simp) 1; have x2 : w2.cell? ⟨w.heap.size, 2, none⟩ = some (.int .i64 x.h) := box_cell HW2.out (by simp) 2; have x3 : w2.cell? ⟨w.heap.size, 3, none⟩ = some (.int .i64 x.u) := box_cell HW2.out (by simp) 3)
      | (go_at_call 34; refine (hradd _ HB2.out).mono ?_; rintro e w3 ⟨v3, rfl, hv3, hw3⟩; obtain ⟨p3, c3, rfl, _⟩ := id hv3; have HB3 := hid (below_then HB2.out hw3); have HV3 := hid (HV2.out.below hw3); have HR3 := hid hv3; have HX3 := hid (HX2.out.below hw3); clear hw3 hv3)
      | (go_at_call_of 35 (Value.slice p2 A.length c2); refine (rsameCerts_eq _ _ A _ HV3.out HR3.out).mono ?_; rintro e w4 ⟨rfl, hw4⟩; have HB4 := hid (below_then HB3.out hw4); have HX4 := hid (HX3.out.below hw4); clear hw4)
      | (go_at_call_of 35 (Value.slice p l.length cap); refine (rsameCerts_eq _ _ l _ HX4.out (HV.out.below HB4.out)).mono ?_; rintro e w5 ⟨rfl, hw5⟩; have HB5 := hid (below_then HB4.out hw5); clear hw5)
      | (go_at_call 32; refine (hcopy _ HB5.out).mono ?_; rintro e w6 ⟨v6, rfl, hv6, hw6⟩; obtain ⟨p6, c6, rfl, _⟩ := id hv6; have HV6 := hid hv6; have HB6 := hid (below_then HB5.out hw6); clear hw6 hv6)
      | (go_at_call 36; refine (hgood _ _ HV6.out).mono ?_; rintro e w7 ⟨rfl, hw7⟩; have HB7 := hid (below_then HB6.out hw7); clear hw7)
      | (go_at_call 37; refine (hrgood _ HB7.out).mono ?_; rintro e w8 ⟨rfl, hw8⟩; have HB8 := hid (below_then HB7.out hw8); clear hw8)
      | (go_at_call 38; refine (ltrusts_any _).mono ?_; rintro e w9 ⟨rfl, hw9⟩)
      | (go_at_call 32; refine (hcopy _ (below_box _ _)).mono ?_; rintro e w1 ⟨v1, rfl, hv1, hw1⟩; obtain ⟨p1, c1, rfl, _⟩ := id hv1; have HW1 := hid hw1; have HB1 := hid (below_then (below_box _ _) hw1); have HV1 := hid hv1; clear hw1 hv1; have x0 : w1.cell? ⟨w.heap.size, 0, none⟩ = some (.int .i64 x.c) := box_cell HW1.out (by simp) 0; have x1 : w1.cell? ⟨w.heap.size, 1, none⟩ = some (.int .i64 x.b) := box_cell HW1.out (by simp) 1; have x2 : w1.cell? ⟨w.heap.size, 2, none⟩ = some (.int .i64 x.h) := box_cell HW1.out (by simp) 2; have x3 : w1.cell? ⟨w.heap.size, 3, none⟩ = some (.int .i64 x.u) := box_cell HW1.out (by simp) 3))
    go_ret
    exact ⟨ret_bool (by simp), below_then HB8.out hw9⟩
end Go.Proofs.Ytichphepfmafjac
