/- The reference: AddCert answers the list with a cert more, and the errors number. -/
import Derived.Test.YtichphepfmafjacRGoods
import Derived.Test.YtichphepfmafjacRCerts
namespace Go.Proofs.Ytichphepfmafjac
open Go.RowKit Go.Proofs.Parclose Go.Maps

set_option maxRecDepth 100000 in
set_option maxHeartbeats 3200000 in
theorem raddCert_any (v : Value) (l : List Crt) (x : Crt) (w : World) (hv : CrtsAt w v l) (hwf : ∀ x ∈ l, WfC x) :
    Calls Try.prog 34 #[v, crtV x] w fun e w' => ∃ v', e = .returned (.tuple #[v', .int .i64 (addL l x).2]) ∧ CrtsAt w' v' (addL l x).1 ∧ Below w.heap.size w w' := by
  have hg := fun wx (h : Below w.heap.size w wx) => rgoodCerts_any v l wx (hv.below h) hwf
  have hc := fun wx => rgoodCert_any x wx
  have HV := hid hv
  have hgd := guard_cert
  obtain ⟨i0, hi, hz0, hz1, hz2⟩ := info_parts info_cert
  unfold crtV at hc ⊢
  have hA : addL l x = if goodCs l ∧ certB x = true then (if x ∈ l then (l, 0) else if 24 ≤ l.length then ([], 5) else (l ++ [x], 0)) else ([], 2) := rfl
  obtain ⟨p, cap, rfl, _, _, hcells⟩ := id hv
  have HCL := hid hcells
  clear hv hcells
  cases h1 : csB l with
  | false =>
    have HA : Hid (addL l x = ([], 2)) := hid (by rw [hA, if_neg (fun h => of_decide_eq_false h1 h.1)])
    clear hA hc
    simp only [HA.out]
    go_enter Try.func34, Try.ntmps34
    go_wp2_with (go_at_call 37; refine (hg _ (below_box _ _)).mono ?_; rintro e w1 ⟨rfl, hw1⟩)
    go_ret2
    exact ⟨_, rfl, CrtsAt.nil _ _ _ (fun _ => rfl), below_then (below_box _ _) hw1⟩
  | true =>
    cases h2 : certB x with
    | false =>
      have HA : Hid (addL l x = ([], 2)) := hid (by rw [hA, if_neg (fun h => by rw [h2] at h; cases h.2)])
      clear hA
      simp only [HA.out]
      go_enter Try.func34, Try.ntmps34
      go_wp2_with (first
        | (go_at_call 37; refine (hg _ (below_box _ _)).mono ?_; rintro e w1 ⟨rfl, hw1⟩; have x0 : w1.cell? ⟨w.heap.size, 0, none⟩ = some (.int .i64 x.c) := box_cell hw1 (by simp) 0; have x1 : w1.cell? ⟨w.heap.size, 1, none⟩ = some (.int .i64 x.b) := box_cell hw1 (by simp) 1; have x2 : w1.cell? ⟨w.heap.size, 2, none⟩ = some (.int .i64 x.h) := box_cell hw1 (by simp) 2; have x3 : w1.cell? ⟨w.heap.size, 3, none⟩ = some (.int .i64 x.u) := box_cell hw1 (by simp) 3; have hb1 := below_then (below_box _ _) hw1; clear hw1)
        | (go_at_call 75; refine (hc _).mono ?_; rintro e w2 ⟨rfl, hw2⟩))
      go_ret2
      exact ⟨_, rfl, CrtsAt.nil _ _ _ (fun _ => rfl), below_then hb1 hw2⟩
    | true =>
      have hA2 : addL l x = if x ∈ l then (l, 0) else if 24 ≤ l.length then ([], 5) else (l ++ [x], 0) := by rw [hA, if_pos ⟨of_decide_eq_true h1, h2⟩]
      have h24 : l.length ≤ 24 := (of_decide_eq_true h1 : goodCs l).1
      have HIN : Hid (x ∈ l → addL l x = (l, 0)) := hid (fun h => by rw [hA2, if_pos h])
      have HFULL : Hid (x ∉ l → 24 ≤ l.length → addL l x = ([], 5)) := hid (fun h g => by rw [hA2, if_neg h, if_pos g])
      have HMORE : Hid (x ∉ l → ¬ 24 ≤ l.length → addL l x = (l ++ [x], 0)) := hid (fun h g => by rw [hA2, if_neg h, if_neg g])
      generalize addL l x = R at *
      clear hA hA2
      go_enter Try.func34, Try.ntmps34
      go_wp2_with (first
        | (go_at_call 37; refine (hg _ (below_box _ _)).mono ?_; rintro e w1 ⟨rfl, hw1⟩; have x0 : w1.cell? ⟨w.heap.size, 0, none⟩ = some (.int .i64 x.c) := box_cell hw1 (by simp) 0; have x1 : w1.cell? ⟨w.heap.size, 1, none⟩ = some (.int .i64 x.b) := box_cell hw1 (by simp) 1; have x2 : w1.cell? ⟨w.heap.size, 2, none⟩ = some (.int .i64 x.h) := box_cell hw1 (by simp) 2; have x3 : w1.cell? ⟨w.heap.size, 3, none⟩ = some (.int .i64 x.u) := box_cell hw1 (by simp) 3; have HW1 := hid hw1; clear hw1)
        | (go_at_call 75; refine (hc _).mono ?_; rintro e w2 ⟨rfl, hw2⟩; have HW2 := hid (below_then HW1.out hw2); clear x0 x1 x2 x3 hw2; have HB2 := hid (below_then (below_box w _) HW2.out); have hs2 := HB2.out.size; have hv2 := HV.out.below HB2.out)
        | (at_builtin; refine wpList_append_crts rfl _ _ rfl w2.heap.size _ 0 [] rfl (World.ownsRow_nil _ _ _ _) _ l rfl hv2 (by omega) (Nat.le_refl _) ?_; intro v3 w3 hown3 hgrow3; have HG3 := hid ((Below.refl _ _).grown hgrow3 (Nat.le_refl _) (fun k hk => by cases hk) : Below w2.heap.size w2 w3); have HO3 := hid hown3; clear hown3 hgrow3))
      have HO4 : Hid (w3.ownsRow w2.heap.size 73 4 v3 l.length (flat4 l)) := hid (by have := HO3.out; rwa [Nat.zero_add, List.nil_append] at this)
      have HW3 := hid (below_then HW2.out HG3.out)
      clear HO3
      go_loopw [21] (fun i wr => ∃ k : Nat, k ≤ l.length ∧ i = .int .i64 k ∧ (∀ j (_ : j < k) (hj : j < l.length), l[j] ≠ x) ∧ Below w3.heap.size w3 wr) (fun i _ => l.length - (intOf i).toNat)
      case atStart => exact ⟨0, Nat.zero_le _, rfl, fun j hj => absurd hj (Nat.not_lt_zero _), Below.refl _ _⟩
      case round =>
        obtain ⟨k, hk, rfl, hall, hb⟩ := hrel
        have HALL := hid hall
        have HB := hid hb
        have hsz := hb.size
        have hbx := below_then HW3.out hb
        have hsx := hbx.size
        rw [size_box] at hsx
        have y0 := box_cell hbx (by simp) 0
        have y1 := box_cell hbx (by simp) 1
        have y2 := box_cell hbx (by simp) 2
        have y3 := box_cell hbx (by simp) 3
        have HBW := hid (below_then (below_box w _) hbx)
        by_cases hlt : k < l.length
        · obtain ⟨b, o, rfl, hcc⟩ := HCL.out (by omega)
          obtain ⟨g1, g2, g3, g4⟩ := hcc.below HBW.out k hlt
          have heq := fun w => eql_cert l[k] x w
          have z0 := fun ob => cell_over ob (y0 : wr.cell? ⟨w.heap.size, 0, none⟩ = some (.int .i64 x.c))
          have z1 := fun ob => cell_over ob (y1 : wr.cell? ⟨w.heap.size, 1, none⟩ = some (.int .i64 x.b))
          have z2 := fun ob => cell_over ob (y2 : wr.cell? ⟨w.heap.size, 2, none⟩ = some (.int .i64 x.h))
          have z3 := fun ob => cell_over ob (y3 : wr.cell? ⟨w.heap.size, 3, none⟩ = some (.int .i64 x.u))
          have HHIT : Hid (l[k] = x → x ∈ l) := hid (fun e => by rw [← e]; exact List.getElem_mem hlt)
          have HSTEP : Hid (l[k] ≠ x → ∀ j (_ : j < k + 1) (hj : j < l.length), l[j] ≠ x) := hid (fun g j h1 h2 => by
            by_cases e : j = k
            · subst e; exact g
            · exact HALL.out j (by omega) h2)
          have HSAME := hid (sameC_iff l[k] x)
          clear hcc hb hall hbx y0 y1 y2 y3
          cases hd : sameC l[k] x with
          | true =>
            have HE := hid (HIN.out (HHIT.out (HSAME.out.1 hd)))
            rw [hd] at heq
            go_wp2
            go_ret2
            rw [HE.out]
            have hob := own_since HO4.out (since_below HB.out)
            exact ⟨_, rfl, crts_of_own (own_since hob (since_below (below_box _ _))) (by omega), HBW.out.alloc (by omega) _⟩
          | false =>
            have HE := hid (HSTEP.out (fun e => by have := HSAME.out.2 e; rw [hd] at this; cases this))
            rw [hd] at heq
            go_wp2
            go_roundw
            case rel => exact ⟨k + 1, hlt, by go_num, HE.out, HB.out.alloc hsz _⟩
            case measure => simp [intOf]; omega
        · have hkl : k = l.length := by omega
          subst hkl
          have HNOT : Hid (x ∉ l) := hid (fun h => by
            obtain ⟨j, hj, e⟩ := List.mem_iff_getElem.1 h
            exact HALL.out j (by omega) hj e)
          have hob := own_since HO4.out (since_below (base := w2.heap.size) HB.out)
          clear hb hall
          by_cases hf : 24 ≤ l.length
          · have he24 : ((l.length : Int) == 24) = true := by simp; omega
            have HE := hid (HFULL.out HNOT.out hf)
            go_wp2
            go_ret2
            rw [HE.out]
            exact ⟨_, rfl, CrtsAt.nil _ _ _ (fun _ => rfl), HBW.out⟩
          · have he24 : ((l.length : Int) == 24) = false := by simp; omega
            have HE := hid (HMORE.out HNOT.out hf)
            have x0 : wr.cell? ⟨w.heap.size, 0, none⟩ = some (.int .i64 x.c) := y0
            have x1 : wr.cell? ⟨w.heap.size, 1, none⟩ = some (.int .i64 x.b) := y1
            have x2 : wr.cell? ⟨w.heap.size, 2, none⟩ = some (.int .i64 x.h) := y2
            have x3 : wr.cell? ⟨w.heap.size, 3, none⟩ = some (.int .i64 x.u) := y3
            have HOB := hid (hob.alloc (.cells #[.int .i64 x.c, .int .i64 x.b, .int .i64 x.h, .int .i64 x.u] 73))
            have hs3 := HG3.out.size
            clear y0 y1 y2 y3 hbx hob
            go_wp2_with (at_builtin; refine wpList_append_own _ rfl _ _ 71 rfl w2.heap.size 73 i0 _ 4 32 Try.underlying71 hi hz0 hz1 hz2 rfl (by decide) _ l.length (flat4 l) rfl HOB.out ⟨wr.heap.size, 0, none⟩ 1 1 [.int .i64 x.c, .int .i64 x.b, .int .i64 x.h, .int .i64 x.u] rfl rfl (laid4 wr _ _ _ _ _) (by intro u hu; simp at hu; rcases hu with rfl | rfl | rfl | rfl <;> rfl) (by unfold maxLen; omega) (by omega) (by simp; omega) ?_; intro v6 w6 hown6 hgrow6 _)
            go_ret2
            rw [HE.out]
            have hb6 : Below w.heap.size w w6 := (HBW.out.alloc (by omega) _).grown hgrow6 (by simp; omega) (fun j hj => by have := own_base HOB.out hj; omega)
            refine ⟨_, rfl, crts_of_own (l := l ++ [x]) (base := w2.heap.size) ?_ (by simp; omega), hb6⟩
            rw [List.length_append, flat4_app]
            exact hown6
end Go.Proofs.Ytichphepfmafjac
