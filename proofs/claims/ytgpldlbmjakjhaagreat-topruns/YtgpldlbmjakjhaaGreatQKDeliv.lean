/- kernel.Deliver of mail that may not come, or for which there is no room. -/
import Derived.Test.YtgpldlbmjakjhaaGreatQPlainInv
namespace Go.Proofs.YtgpldlbmjakjhaaGreat
open Go.RowKit Go.Proofs.Parclose

theorem cell_over2 {w : World} (ob : Obj) {a : Addr} {v : Value} (h : w.cell? a = some v) : (w.alloc ob).cell? a = some v := by
  rw [(below_box w ob).cell (cell_block h), h]
theorem box5k {w w' : World} {a b c d e : Value} {t : TypeId} (h : Below (w.alloc (.cells #[a, b, c, d, e] t)).heap.size (w.alloc (.cells #[a, b, c, d, e] t)) w') :
    w'.cell? ⟨w.heap.size, 0, none⟩ = some a ∧ w'.cell? ⟨w.heap.size, 1, none⟩ = some b ∧ w'.cell? ⟨w.heap.size, 2, none⟩ = some c ∧ w'.cell? ⟨w.heap.size, 3, none⟩ = some d ∧ w'.cell? ⟨w.heap.size, 4, none⟩ = some e :=
  ⟨box_cell h (by simp) 0, box_cell h (by simp) 1, box_cell h (by simp) 2, box_cell h (by simp) 3, box_cell h (by simp) 4⟩
theorem boxL_bad {th : Thr} {m : Mal} (h : mailE m ≠ 0) : boxL th m = th := by unfold boxL; rw [if_neg (fun g => h g.1)]
theorem boxL_not {th : Thr} {m : Mal} (h : flowsL m.label th.label th.own = false) : boxL th m = th := by unfold boxL; rw [if_neg (fun g => by rw [h] at g; cases g.2.1)]
theorem boxL_full {th : Thr} {m : Mal} (h : 6 ≤ th.mails.length) : boxL th m = th := by unfold boxL; rw [if_neg (fun g => by omega)]
theorem set_self {K : Ker} {t : Nat} (h : t < K.ths.length) : { K with ths := K.ths.set t K.ths[t] } = K := by rw [List.set_getElem_self]

set_option maxRecDepth 100000 in
set_option maxHeartbeats 3200000 in
theorem Deliver_not (kb t : Nat) (F : List Nat) (V : List ThrV) (K : Ker) (m : Mal) (vm : Value) (w : World) (h : KerAt w kb F V K) (h1 : t < V.length) (h2 : t < K.ths.length) (hm : MalAt w vm m) (hl : K.ths[t].own.length ≤ 1000) (he : mailE m = 0) (hf : flowsL m.label K.ths[t].label K.ths[t].own = false) :
    Calls Tryz.prog 83 #[.pointer (some ⟨kb, 0, none⟩), .int .i64 t, vm] w fun e w' => e = .returned (.tuple #[]) ∧ Below w.heap.size w w' := by
  have h4 : t < 4 := by rw [← h.len]; exact h1
  have hT := h.tat t h1 h2
  obtain ⟨t0, t1, t2, t3, t4⟩ := hT.cells
  obtain ⟨ptl, ctl, hvl, _⟩ := id hT.thr.1.1
  obtain ⟨po, co, hvo⟩ := ownV hT.thr.2.1
  have hmal := fun wx (hb : Below w.heap.size w wx) => goodMail_any vm m wx (hm.below hb)
  rw [he] at hmal
  have hm0 := hm
  obtain ⟨vl, vg, rfl, hla, hgr⟩ := hm
  have hfl := fun wx (hb : Below w.heap.size w wx) => flows_any _ _ _ m.label K.ths[t].label K.ths[t].own wx (hla.below hb) (hT.thr.1.1.below hb) ((own_ints hT.thr.2.1 hl).below hb)
  rw [hf, hvl, hvo] at hfl
  obtain ⟨pl, cl, rfl, _⟩ := id hla
  obtain ⟨pg, cg, rfl, _⟩ := id hgr
  rw [hvl] at t0
  rw [hvo] at t1
  have hkb := h.fin kb h.kbF
  have s0 := fun ob => cell_over2 ob t0
  have s1 := fun ob => cell_over2 ob t1
  unfold malV at hmal ⊢
  clear hT h hm0 hla hgr
  generalize K.ths[t] = th at *
  go_enter Tryz.func83, Tryz.ntmps83
  go_wp2_with (go_at_call 58; refine (thread_in kb t _ h4).mono ?_; rintro e w1 ⟨rfl, rfl⟩)
  have HW0 := hid (Below.refl (w.alloc (.cells #[.int .i64 m.host, .int .i64 m.thread, .slice pl m.label.length cl, .slice pg m.grants.length cg, .string ⟨m.text.toArray⟩] 46)).heap.size (w.alloc (.cells #[.int .i64 m.host, .int .i64 m.thread, .slice pl m.label.length cl, .slice pg m.grants.length cg, .string ⟨m.text.toArray⟩] 46)))
  have HB0 := hid (below_box w (.cells #[.int .i64 m.host, .int .i64 m.thread, .slice pl m.label.length cl, .slice pg m.grants.length cg, .string ⟨m.text.toArray⟩] 46))
  have HT0 := hid t0
  have HT1 := hid t1
  go_region_held3 (fun w' => (w'.cell? ⟨w.heap.size, 0, none⟩ = some (.int .i64 m.host) ∧ w'.cell? ⟨w.heap.size, 1, none⟩ = some (.int .i64 m.thread) ∧ w'.cell? ⟨w.heap.size, 2, none⟩ = some (.slice pl m.label.length cl) ∧ w'.cell? ⟨w.heap.size, 3, none⟩ = some (.slice pg m.grants.length cg) ∧ w'.cell? ⟨w.heap.size, 4, none⟩ = some (.string ⟨m.text.toArray⟩)) ∧ w'.cell? ⟨kb, 2 + t * 5, none⟩ = some (.slice ptl th.label.length ctl) ∧ w'.cell? ⟨kb, 2 + t * 5 + 1, none⟩ = some (.slice po th.own.length co)) (go_keep)
    (first
      | (go_at_call 15; refine (hmal _ HB0.out.drew).mono ?_; rintro e w2 ⟨rfl, hwd⟩; have hw := kundrew hwd; have HW2 := hid (below_then HW0.out hw); have HB2 := hid (below_then HB0.out hw); obtain ⟨z0, z1, z2, z3, z4⟩ := box5k HW2.out; have u0 := HB2.out.cell (cell_block HT0.out); rw [HT0.out] at u0; have u1 := HB2.out.cell (cell_block HT1.out); rw [HT1.out] at u1; clear hw hwd)
      | (go_at_call 23; refine (hfl _ HB2.out).mono ?_; rintro e w3 ⟨rfl, hw⟩; have HW3 := hid (below_then HW2.out hw); have HB3 := hid (below_then HB2.out hw); obtain ⟨y0, y1, y2, y3, y4⟩ := box5k HW3.out; have v0 := HB3.out.cell (cell_block HT0.out); rw [HT0.out] at v0; have v1 := HB3.out.cell (cell_block HT1.out); rw [HT1.out] at v1; clear hw))
  all_goals
    go_wp2
    exact bodyPost_ret (results_none rfl _ _ _) rfl ⟨rfl, HB3.out⟩

set_option maxRecDepth 100000 in
set_option maxHeartbeats 3200000 in
theorem Deliver_full (kb t : Nat) (F : List Nat) (V : List ThrV) (K : Ker) (m : Mal) (vm : Value) (w : World) (h : KerAt w kb F V K) (h1 : t < V.length) (h2 : t < K.ths.length) (hm : MalAt w vm m) (hl : K.ths[t].own.length ≤ 1000) (he : mailE m = 0) (hf : flowsL m.label K.ths[t].label K.ths[t].own = true) (hfull : 6 ≤ K.ths[t].mails.length) :
    Calls Tryz.prog 83 #[.pointer (some ⟨kb, 0, none⟩), .int .i64 t, vm] w fun e w' => e = .returned (.tuple #[]) ∧ Below w.heap.size w w' := by
  have h4 : t < 4 := by rw [← h.len]; exact h1
  have hT := h.tat t h1 h2
  obtain ⟨t0, t1, t2, t3, t4⟩ := hT.cells
  obtain ⟨ptl, ctl, hvl, _⟩ := id hT.thr.1.1
  obtain ⟨po, co, hvo⟩ := ownV hT.thr.2.1
  obtain ⟨_, _, hmr, _⟩ := hT.thr.2.2.2
  obtain ⟨pm, cm, hvm⟩ := own_slice hmr
  have hmal := fun wx (hb : Below w.heap.size w wx) => goodMail_any vm m wx (hm.below hb)
  rw [he] at hmal
  obtain ⟨vl, vg, rfl, hla, hgr⟩ := hm
  have hfl := fun wx (hb : Below w.heap.size w wx) => flows_any _ _ _ m.label K.ths[t].label K.ths[t].own wx (hla.below hb) (hT.thr.1.1.below hb) ((own_ints hT.thr.2.1 hl).below hb)
  rw [hf, hvl, hvo] at hfl
  obtain ⟨pl, cl, rfl, _⟩ := id hla
  obtain ⟨pg, cg, rfl, _⟩ := id hgr
  rw [hvl] at t0
  rw [hvo] at t1
  rw [hvm] at t4
  have hkb := h.fin kb h.kbF
  have s0 := fun ob => cell_over2 ob t0
  have s1 := fun ob => cell_over2 ob t1
  unfold malV at hmal ⊢
  clear hT h hla hgr hmr hvm
  generalize K.ths[t] = th at *
  have hfull2 : ¬ ((th.mails.length : Int) < 6) := by omega
  go_enter Tryz.func83, Tryz.ntmps83
  go_wp2_with (go_at_call 58; refine (thread_in kb t _ h4).mono ?_; rintro e w1 ⟨rfl, rfl⟩)
  have HW0 := hid (Below.refl (w.alloc (.cells #[.int .i64 m.host, .int .i64 m.thread, .slice pl m.label.length cl, .slice pg m.grants.length cg, .string ⟨m.text.toArray⟩] 46)).heap.size (w.alloc (.cells #[.int .i64 m.host, .int .i64 m.thread, .slice pl m.label.length cl, .slice pg m.grants.length cg, .string ⟨m.text.toArray⟩] 46)))
  have HB0 := hid (below_box w (.cells #[.int .i64 m.host, .int .i64 m.thread, .slice pl m.label.length cl, .slice pg m.grants.length cg, .string ⟨m.text.toArray⟩] 46))
  have HT0 := hid t0
  have HT1 := hid t1
  have HT4 := hid t4
  go_region_held3 (fun w' => (w'.cell? ⟨w.heap.size, 0, none⟩ = some (.int .i64 m.host) ∧ w'.cell? ⟨w.heap.size, 1, none⟩ = some (.int .i64 m.thread) ∧ w'.cell? ⟨w.heap.size, 2, none⟩ = some (.slice pl m.label.length cl) ∧ w'.cell? ⟨w.heap.size, 3, none⟩ = some (.slice pg m.grants.length cg) ∧ w'.cell? ⟨w.heap.size, 4, none⟩ = some (.string ⟨m.text.toArray⟩)) ∧ w'.cell? ⟨kb, 2 + t * 5, none⟩ = some (.slice ptl th.label.length ctl) ∧ w'.cell? ⟨kb, 2 + t * 5 + 1, none⟩ = some (.slice po th.own.length co)) (go_keep)
    (first
      | (go_at_call 15; refine (hmal _ HB0.out.drew).mono ?_; rintro e w2 ⟨rfl, hwd⟩; have hw := kundrew hwd; have HW2 := hid (below_then HW0.out hw); have HB2 := hid (below_then HB0.out hw); obtain ⟨z0, z1, z2, z3, z4⟩ := box5k HW2.out; have u0 := HB2.out.cell (cell_block HT0.out); rw [HT0.out] at u0; have u1 := HB2.out.cell (cell_block HT1.out); rw [HT1.out] at u1; clear hw hwd)
      | (go_at_call 23; refine (hfl _ HB2.out).mono ?_; rintro e w3 ⟨rfl, hw⟩; have HW3 := hid (below_then HW2.out hw); have HB3 := hid (below_then HB2.out hw); obtain ⟨y0, y1, y2, y3, y4⟩ := box5k HW3.out; have v0 := HB3.out.cell (cell_block HT0.out); rw [HT0.out] at v0; have v1 := HB3.out.cell (cell_block HT1.out); rw [HT1.out] at v1; clear hw))
  all_goals
    have v4 := HB3.out.cell (cell_block HT4.out)
    rw [HT4.out] at v4
    go_wp2
    go_end0
    exact ⟨rfl, HB3.out⟩
end Go.Proofs.YtgpldlbmjakjhaaGreat
