/- line.copyLine answers the same line, in memory of its own. -/
import Derived.Test.YtpdijobakfpnbaaGreatJLClone
import Derived.Deep.RegionLaw
namespace Go.Proofs.YtpdijobakfpnbaaGreat
open Go.RowKit Go.Proofs.Parclose
theorem Qdk (args : Array Value) (w : World) : (callFunc 151 args).run Tryz.prog w = .ok (.enter 151 args) w := by kernel_rfl
theorem QaP {w : World} {ops : Array Oper} {o : Oper} {a0 : Act} {K : Act → World → Prop} {Q : Exit → Act → World → Prop} {E : Prop} (hgd : o.guard = none) (x : Operand) (ats : Array TypeId)
 (ho : o.op = .call { callee := .value (.func 151), args := #[x], argTypes := ats }) (v : Value) (f : Frm) (hx : a0.eval x = v) (hf : FrmAt w v f)
 (h : ∀ p1 c1 p2 c2 p3 c3 w', (∀ w'', Since w.heap.size w' w'' → LabAt w'' (.slice p1 f.mail.label.length c1) f.mail.label ∧ IntsAt w'' (.slice p2 f.mail.grants.length c2) f.mail.grants ∧ CrtsAt w'' (.slice p3 f.certs.length c3) f.certs) → Below w.heap.size w w' → K (a0.put o.dst (.agg #[.int .i64 f.fr, .int .i64 f.to, .int .i64 f.seq, .bool f.ack, .int .i64 f.thread, .int .i64 f.mail.host, .int .i64 f.mail.thread, .slice p1 f.mail.label.length c1, .slice p2 f.mail.grants.length c2, .string ⟨f.mail.text.toArray⟩, .slice p3 f.certs.length c3])) w') :
 if Region.wanted o (yielded ops a0.tmps) = true then Oper.wp Tryz.prog o a0 w K Q else E := by
 have hw : Region.wanted o (yielded ops a0.tmps) = true := by simp [Region.wanted, hgd]
 rw [if_pos hw]
 unfold Oper.wp
 obtain ⟨dst, op, ty, pos, after, guard⟩ := o
 simp only at ho
 subst ho
 rw [execOp_call_go]
 have e : (#[] ++ #[x].map a0.eval ++ #[] : Array Value) = #[v] := by simp [hx]
 rw [e, Qdk, Oper.upon_enter]
 refine (QbY v f w hf).mono ?_
 rintro e w' ⟨p1, c1, p2, c2, p3, c3, rfl, h1, h2⟩
 exact h p1 c1 p2 c2 p3 c3 w' h1 h2
set_option maxRecDepth 100000 in
set_option maxHeartbeats 3200000 in
theorem QaJ (v : Value) (L : Lne) (w : World) (hv : LneAt w v L) :
 Calls Tryz.prog 142 #[v] w fun e w' => ∃ vs q, e = .returned (lneV L vs) ∧ q.map (·.s) = L.sent ∧ OwnRow w.heap.size w' vs q ∧ Below w.heap.size w w' := by
 obtain ⟨nx, st, hi, b0, b1, b2, b3, b4, b5, b6, b7, p, cap, rfl, rfl, hs⟩ := hv.spell
 have hlen := hs.len
 obtain ⟨q0, hq0, hok0, hr0⟩ := hs
 have hql : q0.length = st.length := by rw [← hq0, List.length_map]
 have HR := hid hr0
 have HOK := hid hok0
 clear hr0 hok0 hv
 have hb0 : Below w.heap.size w ((w.alloc (.cells #[.int .i64 nx, .slice p st.length cap, .int .i64 hi, .bool b0, .bool b1, .bool b2, .bool b3, .bool b4, .bool b5, .bool b6, .bool b7] 71)).alloc (.cells #[.int .i64 0, .slice none 0 0, .int .i64 0, .bool false, .bool false, .bool false, .bool false, .bool false, .bool false, .bool false, .bool false] 71)) := (Qd w _).alloc (by simp) _
 go_enter Tryz.func142, Tryz.ntmps142
 go_wp2_with fail
 refine (QiE _ q0 _ (HR.out.below hb0) (fun x hx => (HOK.out x hx).below hb0)).mono ?_
 rintro e w1 ⟨v1, rfl, hown1, hw1⟩
 obtain ⟨p1, c1, rfl⟩ := Qo hown1
 rw [hql] at hown1 ⊢
 have hbx1 := Qe (heap_alloc2_old w _ _) hw1
 have hrs1 := Qe (heap_alloc2_new w _ _) hw1
 have hbw1 := Qc hb0 hw1
 have hown1 := Qp (base' := w.heap.size) hown1 hb0.size
 have x1 := Qa hbx1 1
 have y1 := Qb hbx1 1
 clear hw1 hb0
 go_wp2
 have HCP : Hid (CpL w #[.int .i64 nx, .slice p1 st.length c1, .int .i64 hi, .bool b0, .bool b1, .bool b2, .bool b3, .bool b4, .bool b5, .bool b6, .bool b7] (.slice p1 st.length c1) st 0 (w1.setCell ⟨w.heap.size, 1, none⟩ (.slice p1 st.length c1))) := hid
  ⟨heap_setCell (j := 1) hbx1 _, Qr hrs1 (show w.heap.size + 1 ≠ w.heap.size by omega) 1 _, hbw1.grown (Qg w1 w.heap.size 1 _) hbw1.size (fun k hk => by cases hk; exact Nat.le_refl _), q0, hq0, by rw [hql]; exact QA hown1 hbx1 (by decide) 1 _, fun x hx w' ho => (HOK.out x hx).agree fun k hk => by
   have hk1 := Nat.lt_of_lt_of_le hk hbw1.size
   have hne : (Value.slice p1 st.length c1).ownBlock ≠ some k := fun e => by
    have := Qs hown1 e
    omega
   rw [ho k (by simpa using hk1) hne (by omega) (by omega), (Qg w1 w.heap.size 1 (.slice p1 st.length c1)).block k hk1 (fun e => by have := Option.some.inj e; omega), hbw1.block k hk], fun j hj h0 => by omega⟩
 clear hbx1 hrs1 hbw1 hown1 x1 y1
 generalize w1.setCell ⟨w.heap.size, 1, none⟩ (.slice p1 st.length c1) = w2 at *
 go_loopw [11] (fun i wr => ∃ k : Nat, k ≤ st.length ∧ i = .int .i64 k ∧ CpL w #[.int .i64 nx, .slice p1 st.length c1, .int .i64 hi, .bool b0, .bool b1, .bool b2, .bool b3, .bool b4, .bool b5, .bool b6, .bool b7] (.slice p1 st.length c1) st k wr) (fun i _ => st.length - (intOf i).toNat)
 case atStart => exact ⟨0, Nat.zero_le _, rfl, HCP.out⟩
 case round =>
  clear HCP
  obtain ⟨k, hk, rfl, hcp⟩ := hrel
  have HCP := hid hcp
  by_cases hlt : k < st.length
  · have hI : (k : Int) < (st.length : Int) := by omega
    obtain ⟨q, r1, r2, r3, r4⟩ := hcp.row
    have hqs : q.length = st.length := by rw [← r1, List.length_map]
    have hkq : k < q.length := by omega
    rw [hqs] at r2
    obtain ⟨g, hpe⟩ : ∃ g, p1 = some ⟨g, 0, none⟩ := by
     rcases r2.2 with ⟨_, hn⟩ | ⟨g, cap, cur, e, _⟩
     · omega
     · cases e; exact ⟨g, rfl⟩
    subst hpe
    have hsk : (q[k]).s = st[k] := by simp only [← r1, List.getElem_map]
    have hokk := r3 _ (List.getElem_mem hkq) wr (fun _ _ _ _ _ => rfl)
    have hc : ∀ i, i < 13 → ∀ u, (q[k]).cells[i]? = some u → wr.cell? ⟨g, k * 13 + i, none⟩ = some u := fun i hi u hu => by
     have := World.ownsRow.cells r2 (g := g) rfl _ _ ((Qde q k hkq i hi).trans hu)
     rwa [WideShapes.add_plain, Nat.zero_add] at this
    obtain ⟨sk, vl, vg, vc, hqk⟩ : ∃ s vl vg vc, q[k] = ⟨s, vl, vg, vc⟩ := ⟨_, _, _, _, rfl⟩
    rw [hqk] at hc hokk hsk
    obtain ⟨hk1, hk2, hk3⟩ := hokk
    simp only at hk1 hk2 hk3 hsk
    obtain ⟨pl, cl, e1, _⟩ := id hk1
    obtain ⟨pg, cg, e2, _⟩ := id hk2
    obtain ⟨pc, cc, e3, _⟩ := id hk3
    subst e1 e2 e3
    have a0 : wr.cell? ⟨g, k * 13, none⟩ = _ := hc 0 (by omega) _ rfl
    have a1 := hc 1 (by omega) _ rfl
    have a2 := hc 2 (by omega) _ rfl
    have a3 := hc 3 (by omega) _ rfl
    have a4 := hc 4 (by omega) _ rfl
    have a5 := hc 5 (by omega) _ rfl
    have a6 := hc 6 (by omega) _ rfl
    have a7 := hc 7 (by omega) _ rfl
    have a8 := hc 8 (by omega) _ rfl
    have a9 := hc 9 (by omega) _ rfl
    have a10 := hc 10 (by omega) _ rfl
    have hfr : ∀ w7, Below wr.heap.size wr w7 → ∀ j, w7.frozen? ⟨g, j, none⟩ = false := fun w7 hb j => by
     obtain ⟨cur, hg, _⟩ := QaI (Qp (Qk r2 hb) (Nat.zero_le _))
     exact Qb hg _
    have HFR := hid hfr
    have hBl : w.heap.size < wr.heap.size := Qw hcp.box
    have hBl1 : w.heap.size + 1 < wr.heap.size := Qw hcp.res
    have hgl : g < wr.heap.size := Qf a0
    have x1 := Qa hcp.box 1
    have HFRM : Hid (FrmAt wr (.agg #[.int .i64 sk.f.fr, .int .i64 sk.f.to, .int .i64 sk.f.seq, .bool sk.f.ack, .int .i64 sk.f.thread, .int .i64 sk.f.mail.host, .int .i64 sk.f.mail.thread, .slice pl sk.f.mail.label.length cl, .slice pg sk.f.mail.grants.length cg, .string ⟨sk.f.mail.text.toArray⟩, .slice pc sk.f.certs.length cc]) sk.f) := hid ⟨_, _, _, rfl, hk1, hk2, hk3⟩
    have HSTEP := hid (fun (wx : World) (u1 u2 u3 : Value) (hb : Below wr.heap.size wr wx) (hu : ∀ w', Off (w.heap.size + 2) (some g) wx w' → LabAt w' u1 sk.f.mail.label ∧ IntsAt w' u2 sk.f.mail.grants ∧ CrtsAt w' u3 sk.f.certs) => (HCP.out.below' hb).step rfl hlt hsk.symm hu)
    clear hcp r1 r2 r3 r4 hc hqk hk1 hk2 hk3 hfr hqs hkq hsk
    go_wp2
    go_region_law ((refine QaP (by rfl) (.tmp 22) #[111] (by rfl) _ sk.f (by rfl) HFRM.out ?_; intro p6 c6 p7 c7 p8 c8 wA hcopy hwAd; have hwA : Below wr.heap.size wr wA := ⟨hwAd.os, hwAd.tape, hwAd.output, hwAd.size, hwAd.block⟩; have z1 := hwA.cell (Qf x1); rw [x1] at z1; have f0 := HFR.out wA hwA (k * 13); have e0 := hwA.cell (Qf a0); rw [a0] at e0; have f1 := HFR.out wA hwA (k * 13 + 1); have e1 := hwA.cell (Qf a1); rw [a1] at e1; have f2 := HFR.out wA hwA (k * 13 + 2); have e2 := hwA.cell (Qf a2); rw [a2] at e2; have f3 := HFR.out wA hwA (k * 13 + 3); have e3 := hwA.cell (Qf a3); rw [a3] at e3; have f4 := HFR.out wA hwA (k * 13 + 4); have e4 := hwA.cell (Qf a4); rw [a4] at e4; have f5 := HFR.out wA hwA (k * 13 + 5); have e5 := hwA.cell (Qf a5); rw [a5] at e5; have f6 := HFR.out wA hwA (k * 13 + 6); have e6 := hwA.cell (Qf a6); rw [a6] at e6; have f7 := HFR.out wA hwA (k * 13 + 7); have e7 := hwA.cell (Qf a7); rw [a7] at e7; have f8 := HFR.out wA hwA (k * 13 + 8); have e8 := hwA.cell (Qf a8); rw [a8] at e8; have f9 := HFR.out wA hwA (k * 13 + 9); have e9 := hwA.cell (Qf a9); rw [a9] at e9; have f10 := HFR.out wA hwA (k * 13 + 10); have e10 := hwA.cell (Qf a10); rw [a10] at e10; have HS := hid (HSTEP.out wA _ _ _ hwA (fun w' ho => hcopy w' (fun j hj hjs => ho j (by have hj2 : wr.heap.size ≤ j := hj; omega) hjs (by intro e; have := Option.some.inj e; have hj2 : wr.heap.size ≤ j := hj; omega)))); clear hcopy hwAd))
    all_goals
     clear HSTEP HFRM HFR
     go_wp2
     go_roundw
     case rel => exact ⟨k + 1, hlt, by go_num, HS.out⟩
     case measure => simp [intOf]; omega
  · obtain ⟨q, r1, r2, r3, r4⟩ := hcp.row
    have hqs : q.length = st.length := by rw [← r1, List.length_map]
    have hS := Qj wr (w.heap.size + 1) (.int .i64 nx) (.slice p1 st.length c1) (.int .i64 hi) (.bool b0) (.bool b1) (.bool b2) (.bool b3) (.bool b4) (.bool b5) (.bool b6) (.bool b7)
    have HW := hid (Ql (.int .i64 nx) (.slice p1 st.length c1) (.int .i64 hi) (.bool b0) (.bool b1) (.bool b2) (.bool b3) (.bool b4) (.bool b5) (.bool b6) (.bool b7) hcp.res)
    have HO : Hid (OwnRow w.heap.size (st11 wr (w.heap.size + 1) (.int .i64 nx) (.slice p1 st.length c1) (.int .i64 hi) (.bool b0) (.bool b1) (.bool b2) (.bool b3) (.bool b4) (.bool b5) (.bool b6) (.bool b7)) (.slice p1 st.length c1) q) := hid ⟨Qav r2 hcp.res (by decide) hS, fun x hx w' ho => by
     obtain ⟨j, hj, rfl⟩ := List.mem_iff_getElem.1 hx
     exact r4 j hj (by omega) w' (Qja hS (by omega) (fun k hk => ho k (by omega)))⟩
    have HB := hid (hcp.below.grown hS hcp.below.size (fun k hk => by have := Option.some.inj hk; omega))
    have x0 := Qa hcp.box 0
    have d0 := Qa hcp.res 0
    have g0 := Qb hcp.res 0
    have x1 := Qa hcp.box 1
    have d1 := Qa hcp.res 1
    have g1 := Qb hcp.res 1
    have x2 := Qa hcp.box 2
    have d2 := Qa hcp.res 2
    have g2 := Qb hcp.res 2
    have x3 := Qa hcp.box 3
    have d3 := Qa hcp.res 3
    have g3 := Qb hcp.res 3
    have x4 := Qa hcp.box 4
    have d4 := Qa hcp.res 4
    have g4 := Qb hcp.res 4
    have x5 := Qa hcp.box 5
    have d5 := Qa hcp.res 5
    have g5 := Qb hcp.res 5
    have x6 := Qa hcp.box 6
    have d6 := Qa hcp.res 6
    have g6 := Qb hcp.res 6
    have x7 := Qa hcp.box 7
    have d7 := Qa hcp.res 7
    have g7 := Qb hcp.res 7
    have x8 := Qa hcp.box 8
    have d8 := Qa hcp.res 8
    have g8 := Qb hcp.res 8
    have x9 := Qa hcp.box 9
    have d9 := Qa hcp.res 9
    have g9 := Qb hcp.res 9
    have x10 := Qa hcp.box 10
    have d10 := Qa hcp.res 10
    have g10 := Qb hcp.res 10
    have hne : w.heap.size ≠ w.heap.size + 1 := by omega
    have hne2 : w.heap.size + 1 ≠ w.heap.size := by omega
    clear hS hcp HCP r2 r3 r4
    go_wp2
    exact bodyPost_ret (results_cell_row rfl _ _ (w.heap.size + 1) 71 _ (0, 0) _ rfl HW.out Tryz.underlying71 rfl (by kernel_rfl)) rfl ⟨_, q, rfl, r1, HO.out, HB.out⟩
end Go.Proofs.YtpdijobakfpnbaaGreat
