/- The statement TrustMays, where the number is below 0. -/
import Derived.Test.YtichphepfmafjadTMaysC
import Derived.Deep.RegionHeld
namespace Go.Proofs.Ytichphepfmafjad
open Go.RowKit Go.Proofs.Parclose

set_option maxRecDepth 100000 in
set_option maxHeartbeats 12800000 in
theorem trustMays_neg_yes (v vm : Value) (l : List Crt) (c h : Int) (m : Mal) (now : Int) (w : World) (hv : CrtsAt w v l) (hm : MalAt w vm m) (hwl : ∀ x ∈ l, WfC x) (hwm : WfM m) (hc0 : c < 0) (hR : mayB l h m now = true) :
    Calls Try.prog 3 #[v, .int .i64 c, .int .i64 h, vm, .int .i64 now] w fun e w' => e = .returned (.bool true) ∧ Below w.heap.size w w' := by
  have hcopy := hid (fun wx (hb : Below w.heap.size w wx) => lcerts_any v l wx (hv.below hb))
  have hcm := hid (fun wx (hb : Below w.heap.size w wx) => rcopy_at vm m wx (hm.below hb))
  have ht := fun v1 wx (h1 : CrtsAt wx v1 l) => trusted_any v1 l c now wx h1
  have hrt := fun wx (hb : Below w.heap.size w wx) => rtrusted_any v l c now wx (hv.below hb) hwl
  have hmay := fun v1 v2 wx (h1 : CrtsAt wx v1 l) (h2 : MalAt wx v2 m) => may_any v1 v2 l h m now wx h1 h2
  have hrmay := fun wx (hb : Below w.heap.size w wx) => rmay_any v vm l h m now wx (hv.below hb) (hm.below hb) hwl hwm
  have hshow := hid (fun v1 v2 wx (h1 : CrtsAt wx v1 l) (h2 : MalAt wx v2 m) => show_any v1 v2 l m wx h1 h2)
  have hrshow := fun wx (hb : Below w.heap.size w wx) => rshow_any v vm l m wx (hv.below hb) (hm.below hb) hwl hwm
  obtain ⟨vl, vg, rfl, hl, hg⟩ := hm
  obtain ⟨pl, cl, rfl, _⟩ := id hl
  obtain ⟨pg, cg, rfl, _⟩ := id hg
  obtain ⟨p, cap, rfl, _⟩ := id hv
  unfold malV at hcm hrmay hrshow ⊢
  unfold trV at ht hrt
  generalize trB l c now 0 = t0 at *
  generalize trB l c now 1 = t1 at *
  generalize trB l c now 2 = t2 at *
  generalize trB l c now 3 = t3 at *
  have heq := fun wx => eql_hosts t0 t1 t2 t3 wx
  generalize showL l m = S at *
  have hd0 : decide (c < 0) = true := by simpa using hc0
  have HHT := hid ht
  have HRT := hid hrt
  have HRS := hid hrshow
  clear hl hg hv hwl hwm ht hrt hrshow
  all_goals
    rw [hR] at hmay hrmay
    have HM := hid hmay
    have HRM := hid hrmay
    clear hmay hrmay
    go_enter Try.func3, Try.ntmps3
    go_wp2
    have HW0 := hid (Below.refl (w.alloc (.cells #[.int .i64 m.host, .int .i64 m.thread, .slice pl m.label.length cl, .slice pg m.grants.length cg, .string ⟨m.text.toArray⟩] 27)).heap.size (w.alloc (.cells #[.int .i64 m.host, .int .i64 m.thread, .slice pl m.label.length cl, .slice pg m.grants.length cg, .string ⟨m.text.toArray⟩] 27)))
    obtain ⟨y0, y1, y2, y3, y4⟩ := box5 HW0.out
    have HB0 := hid (below_box w (.cells #[.int .i64 m.host, .int .i64 m.thread, .slice pl m.label.length cl, .slice pg m.grants.length cg, .string ⟨m.text.toArray⟩] 27))
    first
    | (go_region_held (fun w' => w'.cell? ⟨w.heap.size, 0, none⟩ = some (.int .i64 m.host) ∧ w'.cell? ⟨w.heap.size, 1, none⟩ = some (.int .i64 m.thread) ∧ w'.cell? ⟨w.heap.size, 2, none⟩ = some (.slice pl m.label.length cl) ∧ w'.cell? ⟨w.heap.size, 3, none⟩ = some (.slice pg m.grants.length cg) ∧ w'.cell? ⟨w.heap.size, 4, none⟩ = some (.string ⟨m.text.toArray⟩)) (go_keep)
        (first
          | (go_at_call 17; refine (ltrusts_any _).mono ?_; rintro e w14 ⟨rfl, hw⟩; have HBE := hid (below_then HB12.out hw); obtain ⟨z140, z141, z142, z143, z144⟩ := box5 (below_then HW12.out hw); clear hw)
          | (go_at_call 13; refine (rsameCerts_eq _ _ S _ HV10.out HV11.out).mono ?_; rintro e w12 ⟨rfl, hw⟩; have HW12 := hid (below_then HW11.out hw); have HB12 := hid (below_then HB11.out hw); obtain ⟨z120, z121, z122, z123, z124⟩ := box5 HW12.out; clear hw)
          | (go_at_call 15; refine (HRS.out _ HB10.out).mono ?_; rintro e w11 ⟨v11, rfl, hv11, hw⟩; obtain ⟨p11, c11, rfl, _⟩ := id hv11; have HV11 := hid hv11; have HV10b := hid (HV10a.out.below hw); have HV10 := HV10b; have HW11 := hid (below_then HW10.out hw); have HB11 := hid (below_then HB10.out hw); obtain ⟨z110, z111, z112, z113, z114⟩ := box5 HW11.out; clear hw; clear hv11)
          | (go_at_call 14; refine (hshow.out _ _ _ HV9.out HM9.out).mono ?_; rintro e w10 ⟨v10, rfl, hv10, hw⟩; obtain ⟨p10, c10, rfl, _⟩ := id hv10; have HV10a := hid hv10; have HW10 := hid (below_then HW9.out hw); have HB10 := hid (below_then HB9.out hw); obtain ⟨z100, z101, z102, z103, z104⟩ := box5 HW10.out; clear hw; clear hv10)
          | (go_at_call 11; refine (hcm.out _ HB8.out).mono ?_; rintro e w9 ⟨pl9, cl9, pg9, cg9, rfl, hm9, hw⟩; have HM9 := hid hm9; have HV9 := hid (HV8.out.below hw); have HW9 := hid (below_then HW8.out hw); have HB9 := hid (below_then HB8.out hw); obtain ⟨z90, z91, z92, z93, z94⟩ := box5 HW9.out; clear hw; clear hm9)
          | (go_at_call 8; refine (hcopy.out _ HB7.out).mono ?_; rintro e w8 ⟨v8, rfl, hv8, hw⟩; obtain ⟨p8, c8, rfl, _⟩ := id hv8; have HV8 := hid hv8; have HW8 := hid (below_then HW7.out hw); have HB8 := hid (below_then HB7.out hw); obtain ⟨z80, z81, z82, z83, z84⟩ := box5 HW8.out; clear hw; clear hv8)
          | (go_at_call 12; refine (HRM.out _ HB6.out).mono ?_; rintro e w7 ⟨rfl, hw⟩; have HW7 := hid (below_then HW6.out hw); have HB7 := hid (below_then HB6.out hw); obtain ⟨z70, z71, z72, z73, z74⟩ := box5 HW7.out; clear hw)
          | (go_at_call 10; refine (HM.out _ _ _ HV5.out HM5.out).mono ?_; rintro e w6 ⟨rfl, hw⟩; have HW6 := hid (below_then HW5.out hw); have HB6 := hid (below_then HB5.out hw); obtain ⟨z60, z61, z62, z63, z64⟩ := box5 HW6.out; clear hw)
          | (go_at_call 11; refine (hcm.out _ HB4.out).mono ?_; rintro e w5 ⟨pl5, cl5, pg5, cg5, rfl, hm5, hw⟩; have HM5 := hid hm5; have HV5 := hid (HV4.out.below hw); have HW5 := hid (below_then HW4.out hw); have HB5 := hid (below_then HB4.out hw); obtain ⟨z50, z51, z52, z53, z54⟩ := box5 HW5.out; clear hw; clear hm5)
          | (go_at_call 8; refine (hcopy.out _ HB3.out).mono ?_; rintro e w4 ⟨v4, rfl, hv4, hw⟩; obtain ⟨p4, c4, rfl, _⟩ := id hv4; have HV4 := hid hv4; have HW4 := hid (below_then HW3.out hw); have HB4 := hid (below_then HB3.out hw); obtain ⟨z40, z41, z42, z43, z44⟩ := box5 HW4.out; clear hw; clear hv4)
          | (go_at_call 9; refine (HRT.out _ HB2.out).mono ?_; rintro e w3 ⟨rfl, hw⟩; have HW3 := hid (below_then HW2.out hw); have HB3 := hid (below_then HB2.out hw); obtain ⟨z30, z31, z32, z33, z34⟩ := box5 HW3.out; clear hw)
          | (go_at_call 7; refine (HHT.out _ _ HV1.out).mono ?_; rintro e w2 ⟨rfl, hw⟩; have HW2 := hid (below_then HW1.out hw); have HB2 := hid (below_then HB1.out hw); obtain ⟨z20, z21, z22, z23, z24⟩ := box5 HW2.out; clear hw)
          | (go_at_call 8; refine (hcopy.out _ HB0.out.drew).mono ?_; rintro e w1 ⟨v1, rfl, hv1, hwd⟩; have hw := tundrew hwd; obtain ⟨p1, c1, rfl, _⟩ := id hv1; have HV1 := hid hv1; have HW1 := hid (below_then HW0.out hw); have HB1 := hid (below_then HB0.out hw); obtain ⟨z10, z11, z12, z13, z14⟩ := box5 HW1.out; clear hw; clear hv1 hwd)))
    | fail
    all_goals
      go_wp2
      go_ret
      exact ⟨rfl, HBE.out⟩
end Go.Proofs.Ytichphepfmafjad
