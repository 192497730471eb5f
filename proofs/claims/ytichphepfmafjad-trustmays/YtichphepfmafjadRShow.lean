/- The reference: Show answers the certs of what a mail names, as they stand. -/
import Derived.Test.YtichphepfmafjadRNamesOf
import Derived.Test.YtichphepfmafjadRKey
import Derived.Test.YtichphepfmafjadTShow
namespace Go.Proofs.Ytichphepfmafjad
open Go.RowKit Go.Proofs.Parclose Go.Maps

theorem look_int {w : World} {b n : Nat} {D : DataW Unit} {cl : List Int} (h : w.ownsMap Try.prog 3 (plainElem (H := Unit) Try.prog 4) b n D) (hS : TrueSet D cl) (c : Int) (hc : (Lit.int .i64 c).wf = true) :
    (Instr.lookup 49 (.map (some b)) (.int .i64 c) false).run Try.prog w = .ok (.bool (decide (c ∈ cl))) w := by
  obtain ⟨v, ps, hrun, hv⟩ := h.lookup lawInt Try.underlying49 (z := .bool false) (by kernel_rfl) (plainElem_bool Try.underlying4 false) (keyOf_int_mk Try.underlying3 hc)
  obtain ⟨y, rfl, hz⟩ := plainElem_bool_inv Try.underlying4 hv
  simp only [Prod.mk.injEq] at hz
  rw [hS.2 c] at hz
  have : y = decide (c ∈ cl) := by
    have := hz.1
    simp at this
    exact this.symm
  rw [← this]
  exact hrun

theorem rnamesOf_ex (v : Value) (m : Mal) (w : World) (hv : MalAt w v m) (hwf : WfM m) :
    Calls Try.prog 27 #[v] w fun e w' => ∃ b D, e = .returned (.map (some b)) ∧ w'.ownsMap Try.prog 3 (plainElem (H := Unit) Try.prog 4) b (m.label.length + m.grants.length) D ∧ TrueSet D (m.label.map (·.1) ++ m.grants) ∧ Below w.heap.size w w' :=
  (rnamesOf_any v m w hv hwf).mono fun _ _ ⟨D, h1, h2, h3, h4⟩ => ⟨_, D, h1, h2, h3, h4⟩

set_option maxRecDepth 100000 in
set_option maxHeartbeats 3200000 in
theorem rshow_any (v vm : Value) (l : List Crt) (m : Mal) (w : World) (hv : CrtsAt w v l) (hm : MalAt w vm m) (hwl : ∀ x ∈ l, WfC x) (hwm : WfM m) :
    Calls Try.prog 15 #[v, vm] w fun e w' => ∃ v', e = .returned v' ∧ CrtsAt w' v' (showL l m) ∧ Below w.heap.size w w' := by
  have hnm := fun wx (hb : Below w.heap.size w wx) => rnamesOf_ex vm m wx (hm.below hb) hwm
  obtain ⟨vl, vg, rfl, hl, hg⟩ := hm
  obtain ⟨pl, cl, rfl, _⟩ := id hl
  obtain ⟨pg, cg, rfl, _⟩ := id hg
  obtain ⟨p, cap, rfl, hlc, hcap, hcells⟩ := id hv
  obtain ⟨i0, hi, hz0, hz1, hz2⟩ := info_parts info_cert
  have HCL := hid hcells
  have HWL := hid hwl
  obtain ⟨zs, hz⟩ : ∃ zs, m.label.map (·.1) ++ m.grants = zs := ⟨_, rfl⟩
  have HSH : Hid (showL l m = l.filter fun x => decide (x.c ∈ zs)) := hid (by
    unfold showL
    refine List.filter_congr fun x _ => ?_
    rw [← hz]
    simp only [mem_namesL, List.mem_append])
  rw [hz] at hnm
  generalize showL l m = R at *
  have HN := hid (fun k (hk : k < l.length) h => filter_take_no (p := fun x => decide (x.c ∈ zs)) hk h)
  have HY := hid (fun k (hk : k < l.length) h => filter_take_yes (p := fun x => decide (x.c ∈ zs)) hk h)
  have HLN := hid (filter_take_len l (fun x => decide (x.c ∈ zs)))
  have HTL : Hid ((l.take l.length).filter (fun x => decide (x.c ∈ zs)) = l.filter fun x => decide (x.c ∈ zs)) := hid (by rw [List.take_length])
  obtain ⟨F, hF⟩ : ∃ F : Nat → List Crt, ∀ k, (l.take k).filter (fun x => decide (x.c ∈ zs)) = F k := ⟨_, fun _ => rfl⟩
  simp only [hF] at HN HY HLN HTL
  have HF0 : Hid (F 0 = []) := hid (by rw [← hF]; rfl)
  unfold malV at hnm ⊢
  clear hl hg hv hcells hz hF hwl hwm
  go_enter Try.func15, Try.ntmps15
  go_wp2
  go_loopw [5, 10] (fun v i wr => ∃ k : Nat, k ≤ l.length ∧ i = .int .i64 k ∧ wr.ownsRow (w.heap.size + 1) 39 4 v (F k).length (flat4 (F k)) ∧ Below (w.heap.size + 1) (w.alloc (.cells #[.int .i64 m.host, .int .i64 m.thread, .slice pl m.label.length cl, .slice pg m.grants.length cg, .string ⟨m.text.toArray⟩] 27)) wr) (fun _ i _ => l.length - (intOf i).toNat)
  case atStart => exact ⟨0, Nat.zero_le _, rfl, by rw [HF0.out]; exact World.ownsRow_nil _ _ _ _, Below.refl _ _⟩
  case round =>
    obtain ⟨k, hk, rfl, hown, hbx⟩ := hrel
    have hb : Below w.heap.size w wr := (below_box w _).trans (hbx.mono (by omega))
    have hsz := hbx.size
    rw [size_box] at hsz
    have HBX := hid hbx
    have HB := hid hb
    have HO := hid hown
    have hlen := HLN.out k
    by_cases hlt : k < l.length
    · obtain ⟨b, o, rfl, hc⟩ := HCL.out (by omega)
      obtain ⟨g1, g2, g3, g4⟩ := hc.below hb k hlt
      have HNk := hid (HN.out k hlt)
      have HYk := hid (HY.out k hlt)
      have HWX := hid (HWL.out l[k] (List.getElem_mem hlt)).1.1
      have y0 := fun ob => cell_over ob (box_cell hbx (by omega) 0 : wr.cell? ⟨w.heap.size, 0, none⟩ = some (.int .i64 m.host))
      have y1 := fun ob => cell_over ob (box_cell hbx (by omega) 1 : wr.cell? ⟨w.heap.size, 1, none⟩ = some (.int .i64 m.thread))
      have y2 := fun ob => cell_over ob (box_cell hbx (by omega) 2 : wr.cell? ⟨w.heap.size, 2, none⟩ = some (.slice pl m.label.length cl))
      have y3 := fun ob => cell_over ob (box_cell hbx (by omega) 3 : wr.cell? ⟨w.heap.size, 3, none⟩ = some (.slice pg m.grants.length cg))
      have y4 := fun ob => cell_over ob (box_cell hbx (by omega) 4 : wr.cell? ⟨w.heap.size, 4, none⟩ = some (.string ⟨m.text.toArray⟩))
      generalize l[k] = x at *
      have HB2 := hid (HB.out.alloc (by omega) (.cells #[.int .i64 x.c, .int .i64 x.b, .int .i64 x.h, .int .i64 x.u] 39))
      have HBX2 := hid (HBX.out.alloc hsz (.cells #[.int .i64 x.c, .int .i64 x.b, .int .i64 x.h, .int .i64 x.u] 39))
      have HBW := hid (Below.refl (wr.alloc (.cells #[.int .i64 x.c, .int .i64 x.b, .int .i64 x.h, .int .i64 x.u] 39)).heap.size (wr.alloc (.cells #[.int .i64 x.c, .int .i64 x.b, .int .i64 x.h, .int .i64 x.u] 39)))
      have HOA := hid (HO.out.alloc (.cells #[.int .i64 x.c, .int .i64 x.b, .int .i64 x.h, .int .i64 x.u] 39))
      clear hc hb hbx hown
      cases hd : decide (x.c ∈ zs) with
      | false =>
        have HE := hid (HNk.out hd)
        go_wp2
        go_region_held3 (fun w' => (w'.cell? ⟨w.heap.size, 0, none⟩ = some (.int .i64 m.host) ∧ w'.cell? ⟨w.heap.size, 1, none⟩ = some (.int .i64 m.thread) ∧ w'.cell? ⟨w.heap.size, 2, none⟩ = some (.slice pl m.label.length cl) ∧ w'.cell? ⟨w.heap.size, 3, none⟩ = some (.slice pg m.grants.length cg) ∧ w'.cell? ⟨w.heap.size, 4, none⟩ = some (.string ⟨m.text.toArray⟩)) ∧ w'.cell? ⟨wr.heap.size, 0, none⟩ = some (.int .i64 x.c)) (go_keep)
          (first
            | (go_at_call 27; refine (hnm _ HB2.out.drew).mono ?_; rintro e w2 ⟨bm, D, rfl, hm2, hD2, hwd⟩; have hw := tundrew hwd; have hlk := look_int hm2 hD2 x.c HWX.out; rw [hd] at hlk; have HW2 := hid (below_then HBW.out hw); have HX2 := hid (HBX2.out.trans (hw.mono (by simp; omega))); have z0 : w2.cell? ⟨w.heap.size, 0, none⟩ = some (.int .i64 m.host) := box_cell HX2.out (by omega) 0; have z1 : w2.cell? ⟨w.heap.size, 1, none⟩ = some (.int .i64 m.thread) := box_cell HX2.out (by omega) 1; have z2 : w2.cell? ⟨w.heap.size, 2, none⟩ = some (.slice pl m.label.length cl) := box_cell HX2.out (by omega) 2; have z3 : w2.cell? ⟨w.heap.size, 3, none⟩ = some (.slice pg m.grants.length cg) := box_cell HX2.out (by omega) 3; have z4 : w2.cell? ⟨w.heap.size, 4, none⟩ = some (.string ⟨m.text.toArray⟩) := box_cell HX2.out (by omega) 4; have u0 : w2.cell? ⟨wr.heap.size, 0, none⟩ = some (.int .i64 x.c) := box_cell HW2.out (by simp) 0; have HO2 := hid (own_since HOA.out (since_below hw)); clear hw hwd))
        all_goals
          clear z0 z1 z2 z3 z4 u0
          go_wp2
          go_roundw
          case rel => exact ⟨k + 1, hlt, by go_num, by rw [HE.out]; exact HO2.out, HX2.out⟩
          case measure => simp [intOf]; omega
      | true =>
        have HE := hid (HYk.out hd)
        go_wp2
        go_region_held3 (fun w' => (w'.cell? ⟨w.heap.size, 0, none⟩ = some (.int .i64 m.host) ∧ w'.cell? ⟨w.heap.size, 1, none⟩ = some (.int .i64 m.thread) ∧ w'.cell? ⟨w.heap.size, 2, none⟩ = some (.slice pl m.label.length cl) ∧ w'.cell? ⟨w.heap.size, 3, none⟩ = some (.slice pg m.grants.length cg) ∧ w'.cell? ⟨w.heap.size, 4, none⟩ = some (.string ⟨m.text.toArray⟩)) ∧ w'.cell? ⟨wr.heap.size, 0, none⟩ = some (.int .i64 x.c)) (go_keep)
          (first
            | (go_at_call 27; refine (hnm _ HB2.out.drew).mono ?_; rintro e w2 ⟨bm, D, rfl, hm2, hD2, hwd⟩; have hw := tundrew hwd; have hlk := look_int hm2 hD2 x.c HWX.out; rw [hd] at hlk; have HW2 := hid (below_then HBW.out hw); have HX2 := hid (HBX2.out.trans (hw.mono (by simp; omega))); have z0 : w2.cell? ⟨w.heap.size, 0, none⟩ = some (.int .i64 m.host) := box_cell HX2.out (by omega) 0; have z1 : w2.cell? ⟨w.heap.size, 1, none⟩ = some (.int .i64 m.thread) := box_cell HX2.out (by omega) 1; have z2 : w2.cell? ⟨w.heap.size, 2, none⟩ = some (.slice pl m.label.length cl) := box_cell HX2.out (by omega) 2; have z3 : w2.cell? ⟨w.heap.size, 3, none⟩ = some (.slice pg m.grants.length cg) := box_cell HX2.out (by omega) 3; have z4 : w2.cell? ⟨w.heap.size, 4, none⟩ = some (.string ⟨m.text.toArray⟩) := box_cell HX2.out (by omega) 4; have u0 : w2.cell? ⟨wr.heap.size, 0, none⟩ = some (.int .i64 x.c) := box_cell HW2.out (by simp) 0; have HO2 := hid (own_since HOA.out (since_below hw)); clear hw hwd))
        all_goals
          clear z0 z1 z2 z3 z4 u0
          have x0 : w2.cell? ⟨wr.heap.size, 0, none⟩ = some (.int .i64 x.c) := box_cell HW2.out (by simp) 0
          have x1 : w2.cell? ⟨wr.heap.size, 1, none⟩ = some (.int .i64 x.b) := box_cell HW2.out (by simp) 1
          have x2 : w2.cell? ⟨wr.heap.size, 2, none⟩ = some (.int .i64 x.h) := box_cell HW2.out (by simp) 2
          have x3 : w2.cell? ⟨wr.heap.size, 3, none⟩ = some (.int .i64 x.u) := box_cell HW2.out (by simp) 3
          have hsz3 := HX2.out.size
          rw [size_box] at hsz3
          have HO3 := hid (HO2.out.alloc (.cells #[.int .i64 x.c, .int .i64 x.b, .int .i64 x.h, .int .i64 x.u] 39))
          go_wp2_with (at_builtin; refine wpList_append_own _ rfl _ _ 22 rfl (w.heap.size + 1) 39 i0 _ 4 32 Try.underlying22 hi hz0 hz1 hz2 rfl (by decide) _ (F k).length (flat4 (F k)) rfl HO3.out ⟨w2.heap.size, 0, none⟩ 1 1 [.int .i64 x.c, .int .i64 x.b, .int .i64 x.h, .int .i64 x.u] rfl rfl (news4 rfl _ _ _ _ _) (by intro u hu; simp at hu; rcases hu with rfl | rfl | rfl | rfl <;> rfl) (by unfold maxLen; omega) (by omega) (by simp; omega) ?_; intro v6 w6 hown6 hgrow6 _)
          go_roundw
          case rel => exact ⟨k + 1, hlt, by go_num, by rw [HE.out, List.length_append, flat4_snoc4]; exact hown6, (HX2.out.alloc hsz3 _).grown hgrow6 (by simp; omega) (fun j hj => own_base HO3.out hj)⟩
          case measure => simp [intOf]; omega
    · have hkl : k = l.length := by omega
      subst hkl
      go_wp2
      go_ret
      have hR : F l.length = R := by rw [HSH.out, HTL.out]
      rw [hR] at hown
      exact ⟨_, rfl, crts_of_own hown (by rw [← hR]; omega), hb⟩
end Go.Proofs.Ytichphepfmafjad
