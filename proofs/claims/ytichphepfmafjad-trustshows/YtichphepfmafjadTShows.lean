/- The statement TrustShows: what is shown of good certs is enough to know who may be trusted. -/
import Derived.Test.YtichphepfmafjadTAsk
import Derived.Test.YtichphepfmafjadTMay
import Derived.Test.YtichphepfmafjadTShow
namespace Go.Proofs.Ytichphepfmafjad
open Go.RowKit Go.Proofs.Parclose

theorem show_len (l : List Crt) (m : Mal) : (showL l m).length ≤ l.length := List.length_filter_le _ _

set_option maxRecDepth 100000 in
set_option maxHeartbeats 6400000 in
theorem trustShows_any (v vm : Value) (l : List Crt) (h : Int) (m : Mal) (now : Int) (w : World) (hv : CrtsAt w v l) (hm : MalAt w vm m) :
    Calls Try.prog 5 #[v, .int .i64 h, vm, .int .i64 now] w fun e w' => e = .returned (.bool true) ∧ Below w.heap.size w w' := by
  have hshow := fun wx (hb : Below w.heap.size w wx) => show_any v vm l m wx (hv.below hb) (hm.below hb)
  have hgood := fun wx (hb : Below w.heap.size w wx) => tgood_any v l wx (hv.below hb)
  have hmayL := fun wx (hb : Below w.heap.size w wx) => may_any v vm l h m now wx (hv.below hb) (hm.below hb)
  have hmayS := fun v1 wx (h1 : CrtsAt wx v1 (showL l m)) (hb : Below w.heap.size w wx) => may_any v1 vm (showL l m) h m now wx h1 (hm.below hb)
  have hlen := show_len l m
  have HLL := hid hv.len
  have HSM : Hid (goodCs l → mayB (showL l m) h m now = mayB l h m now) := hid (fun g => show_may g h m now)
  have HSG : Hid (goodCs l → csB (showL l m) = true) := hid (fun g => decide_eq_true (showL_good g m))
  obtain ⟨vl, vg, rfl, hl, hg⟩ := hm
  obtain ⟨pl, cl, rfl, _⟩ := id hl
  obtain ⟨pg, cg, rfl, _⟩ := id hg
  obtain ⟨p, cap, rfl, _⟩ := id hv
  unfold malV at hshow hmayL hmayS ⊢
  clear hl hg hv
  generalize showL l m = S at *
  cases h1 : csB l with
  | false =>
    rw [h1] at hgood
    clear hmayL hmayS HSM HSG
    go_enter Try.func5, Try.ntmps5
    go_wp2_with (first
      | (go_at_call 14; refine (hshow _ (below_box _ _)).mono ?_; rintro e w1 ⟨v1, rfl, hv1, hw1⟩; have HB1 := hid (below_then (below_box _ _) hw1); clear hw1)
      | (go_at_call 21; refine (hgood _ HB1.out).mono ?_; rintro e w2 ⟨rfl, hw2⟩; have HB2 := hid (below_then HB1.out hw2); clear hw2)
      | (go_at_call 19; refine (ktrusts_any _).mono ?_; rintro e w3 ⟨rfl, hw3⟩))
    go_ret
    exact ⟨rfl, below_then HB2.out hw3⟩
  | true =>
    rw [h1] at hgood
    have hgl : goodCs l := of_decide_eq_true h1
    have hsm := HSM.out hgl
    have hsg := HSG.out hgl
    have hgoodS := fun v1 wx (h1 : CrtsAt wx v1 S) => tgood_any v1 S wx h1
    rw [hsg] at hgoodS
    rw [hsm] at hmayS
    have HGS := hid hgoodS
    have HMS := hid hmayS
    have HML := hid hmayL
    have hlen2 : (S.length : Int) ≤ (l.length : Int) := by omega
    clear HSM HSG hsm hsg hgl hgoodS hmayS hmayL
    cases hR : mayB l h m now
    all_goals
      rw [hR] at HMS HML
      go_enter Try.func5, Try.ntmps5
      go_wp2_with (first
        | (go_at_call 14; refine (hshow _ (below_box _ _)).mono ?_; rintro e w1 ⟨v1, rfl, hv1, hw1⟩; obtain ⟨ps, cs, rfl, _⟩ := id hv1; have HW1 := hid hw1; have HB1 := hid (below_then (below_box _ _) hw1); have HV1 := hid hv1; clear hw1 hv1)
        | (go_at_call_of 21 (Value.slice p l.length cap); refine (hgood _ HB1.out).mono ?_; rintro e w2 ⟨rfl, hw2⟩; have HW2 := hid (below_then HW1.out hw2); have HB2 := hid (below_then HB1.out hw2); have HV2 := hid (HV1.out.below hw2); clear hw2)
        | (go_at_call 19; refine (ktrusts_any _).mono ?_; rintro e w3 ⟨rfl, hw3⟩; have HW3 := hid (below_then HW2.out hw3); have HB3 := hid (below_then HB2.out hw3); have HV3 := hid (HV2.out.below hw3); clear hw3; have x0 : w3.cell? ⟨w.heap.size, 0, none⟩ = some (.int .i64 m.host) := box_cell HW3.out (by simp) 0; have x1 : w3.cell? ⟨w.heap.size, 1, none⟩ = some (.int .i64 m.thread) := box_cell HW3.out (by simp) 1; have x2 : w3.cell? ⟨w.heap.size, 2, none⟩ = some (.slice pl m.label.length cl) := box_cell HW3.out (by simp) 2; have x3 : w3.cell? ⟨w.heap.size, 3, none⟩ = some (.slice pg m.grants.length cg) := box_cell HW3.out (by simp) 3; have x4 : w3.cell? ⟨w.heap.size, 4, none⟩ = some (.string ⟨m.text.toArray⟩) := box_cell HW3.out (by simp) 4))
      go_region_held3 (fun w' => w'.cell? ⟨w.heap.size, 0, none⟩ = some (.int .i64 m.host) ∧ w'.cell? ⟨w.heap.size, 1, none⟩ = some (.int .i64 m.thread) ∧ w'.cell? ⟨w.heap.size, 2, none⟩ = some (.slice pl m.label.length cl) ∧ w'.cell? ⟨w.heap.size, 3, none⟩ = some (.slice pg m.grants.length cg) ∧ w'.cell? ⟨w.heap.size, 4, none⟩ = some (.string ⟨m.text.toArray⟩)) (go_keep)
        (first
          | (go_at_call_of 21 (Value.slice ps S.length cs); refine (HGS.out _ _ (HV3.out.below (Below.refl _ _).drew)).mono ?_; rintro e w4 ⟨rfl, hwd⟩; have hw := tundrew hwd; have HW4 := hid (below_then HW3.out hw); have HB4 := hid (below_then HB3.out hw); have HV4 := hid (HV3.out.below hw); clear hw hwd; have y0 : w4.cell? ⟨w.heap.size, 0, none⟩ = some (.int .i64 m.host) := box_cell HW4.out (by simp) 0; have y1 : w4.cell? ⟨w.heap.size, 1, none⟩ = some (.int .i64 m.thread) := box_cell HW4.out (by simp) 1; have y2 : w4.cell? ⟨w.heap.size, 2, none⟩ = some (.slice pl m.label.length cl) := box_cell HW4.out (by simp) 2; have y3 : w4.cell? ⟨w.heap.size, 3, none⟩ = some (.slice pg m.grants.length cg) := box_cell HW4.out (by simp) 3; have y4 : w4.cell? ⟨w.heap.size, 4, none⟩ = some (.string ⟨m.text.toArray⟩) := box_cell HW4.out (by simp) 4)
          | (go_at_call_of 10 (Value.slice p l.length cap); refine (HML.out _ HB5.out).mono ?_; rintro e w6 ⟨rfl, hw⟩; have HW6 := hid (below_then HW5.out hw); have HB6 := hid (below_then HB5.out hw); clear hw; have t0 : w6.cell? ⟨w.heap.size, 0, none⟩ = some (.int .i64 m.host) := box_cell HW6.out (by simp) 0; have t1 : w6.cell? ⟨w.heap.size, 1, none⟩ = some (.int .i64 m.thread) := box_cell HW6.out (by simp) 1; have t2 : w6.cell? ⟨w.heap.size, 2, none⟩ = some (.slice pl m.label.length cl) := box_cell HW6.out (by simp) 2; have t3 : w6.cell? ⟨w.heap.size, 3, none⟩ = some (.slice pg m.grants.length cg) := box_cell HW6.out (by simp) 3; have t4 : w6.cell? ⟨w.heap.size, 4, none⟩ = some (.string ⟨m.text.toArray⟩) := box_cell HW6.out (by simp) 4)
          | (go_at_call_of 10 (Value.slice ps S.length cs); refine (HMS.out _ _ HV4.out HB4.out).mono ?_; rintro e w5 ⟨rfl, hw⟩; have HW5 := hid (below_then HW4.out hw); have HB5 := hid (below_then HB4.out hw); clear hw; have z0 : w5.cell? ⟨w.heap.size, 0, none⟩ = some (.int .i64 m.host) := box_cell HW5.out (by simp) 0; have z1 : w5.cell? ⟨w.heap.size, 1, none⟩ = some (.int .i64 m.thread) := box_cell HW5.out (by simp) 1; have z2 : w5.cell? ⟨w.heap.size, 2, none⟩ = some (.slice pl m.label.length cl) := box_cell HW5.out (by simp) 2; have z3 : w5.cell? ⟨w.heap.size, 3, none⟩ = some (.slice pg m.grants.length cg) := box_cell HW5.out (by simp) 3; have z4 : w5.cell? ⟨w.heap.size, 4, none⟩ = some (.string ⟨m.text.toArray⟩) := box_cell HW5.out (by simp) 4))
      all_goals
        go_wp2
        go_ret
        exact ⟨rfl, HB6.out⟩
end Go.Proofs.Ytichphepfmafjad
