/- wire.Decode answers the frame of bytes, or the errors number; it turns nothing that was there. -/
import Derived.Test.YtpdijobakfpnbaaGreatJLClone
import Derived.Test.YtpdijobakfpnbaaGreatJWTakeM
import Derived.Test.YtpdijobakfpnbaaGreatJWHost
import Derived.Laws.ResultCell
import Derived.Laws.Tables
namespace Go.Proofs.YtpdijobakfpnbaaGreat
open Go.RowKit Go.Proofs.Parclose
theorem MalAt.parts {w : World} {m : Mal} {vl vg : Value} (h : MalAt w (malV m vl vg) m) : LabAt w vl m.label ∧ IntsAt w vg m.grants := by
 obtain ⟨vl', vg', e, h1, h2⟩ := h
 simp [malV] at e
 obtain ⟨rfl, rfl⟩ := e
 exact ⟨h1, h2⟩
set_option maxRecDepth 100000 in
set_option maxHeartbeats 1600000 in
theorem QeK (a : Nat) (t : Tk) (w : World) (h : TkAt w a t) (ha : a < w.heap.size) : Calls Tryz.prog 139 #[.pointer (some ⟨a, 0, none⟩)] w fun e w' => ∃ v', e = .returned v' ∧ (∀ w'', Since w.heap.size w' w'' → FrmAt w'' v' (frameT t).1) ∧ TkAt w' a (frameT t).2 ∧ w.grownBy w' (some a) := by
 have HF : Hid (frameT t = if (headT t).1.1 = 1 then (⟨(headT t).1.2.1, (headT t).1.2.2.1, (headT t).1.2.2.2, true, 0, zeroMal, []⟩, (headT t).2)
  else if (headT t).1.1 = 0 then loadT (headT t).1.2.1 (headT t).1.2.2.1 (headT t).1.2.2.2 (headT t).2
  else (⟨(headT t).1.2.1, (headT t).1.2.2.1, (headT t).1.2.2.2, false, 0, zeroMal, []⟩, ([], true))) := hid rfl
 have HH : Hid (headT t = (((numT 1 t).1, (numT 1 (numT 1 t).2).1, (numT 1 (numT 1 (numT 1 t).2).2).1, (numT 6 (numT 1 (numT 1 (numT 1 t).2).2).2).1), (numT 6 (numT 1 (numT 1 (numT 1 t).2).2).2).2)) := hid rfl
 go_enter Tryz.func139, Tryz.ntmps139
 go_wp2_with fail
 refine (number1 a t _ (h.keep (Qd _ _))).mono ?_
 rintro e w1 ⟨rfl, ht1, hg1⟩
 have hr1 := Qn (heap_alloc_new w _) (by omega) hg1
 have hgw1 := Qh (Q1 (Qd w _) (some a)) hg1
 clear h hg1
 go_wp2_with fail
 refine (number1 a _ _ ht1).mono ?_
 rintro e w2 ⟨rfl, ht2, hg2⟩
 have hr2 := Qn hr1 (by omega) hg2
 have hgw2 := Qh hgw1 hg2
 clear ht1 hg2 hr1 hgw1
 go_wp2_with fail
 refine (number1 a _ _ ht2).mono ?_
 rintro e w3 ⟨rfl, ht3, hg3⟩
 have hr3 := Qn hr2 (by omega) hg3
 have hgw3 := Qh hgw2 hg3
 clear ht2 hg3 hr2 hgw2
 go_wp2_with fail
 refine (number6 a _ _ ht3).mono ?_
 rintro e w4 ⟨rfl, ht4, hg4⟩
 have hr4 := Qn hr3 (by omega) hg4
 have hgw4 := Qh hgw3 hg4
 clear ht3 hg4 hr3 hgw3
 generalize headT t = H at *
 generalize (numT 1 t).1 = kd at *
 generalize (numT 1 (numT 1 t).2).1 = xf at *
 generalize (numT 1 (numT 1 (numT 1 t).2).2).1 = xt at *
 generalize (numT 6 (numT 1 (numT 1 (numT 1 t).2).2).2).1 = xs at *
 generalize (numT 6 (numT 1 (numT 1 (numT 1 t).2).2).2).2 = t4 at *
 have HH2 : Hid (H = ((kd, xf, xt, xs), t4)) := HH.out
 clear HH
 have hs4 := hgw4.size
 have hlt4 := Qw hr4
 have hinfo : (Tryz.prog.info? 111).map (·.size) = some 11 := by kernel_rfl
 by_cases hk1 : kd = 1
 · have hb1 : (kd == 1) = true := by simpa using hk1
   have HK : Hid (kd = 1) := hk1
   clear hk1
   have d0 := Qa hr4 0
   have q0 := Qb hr4 0
   have d1 := Qa hr4 1
   have q1 := Qb hr4 1
   have d2 := Qa hr4 2
   have q2 := Qb hr4 2
   have d3 := Qa hr4 3
   have q3 := Qb hr4 3
   have d4 := Qa hr4 4
   have q4 := Qb hr4 4
   have d5 := Qa hr4 5
   have q5 := Qb hr4 5
   have d6 := Qa hr4 6
   have q6 := Qb hr4 6
   have d7 := Qa hr4 7
   have q7 := Qb hr4 7
   have d8 := Qa hr4 8
   have q8 := Qb hr4 8
   have d9 := Qa hr4 9
   have q9 := Qb hr4 9
   have d10 := Qa hr4 10
   have q10 := Qb hr4 10
   have HW := hid hr4
   clear hr4
   go_wp2
   have hW := Qz (Ql (.int .i64 xf) (.int .i64 xt) (.int .i64 xs) (.bool true) (.int .i64 0) (.int .i64 0) (.int .i64 0) (.slice none 0 0) (.slice none 0 0) (.string ⟨#[]⟩) (.slice none 0 0) HW.out) (.cells #[.int .i64 xf, .int .i64 xt, .int .i64 xs, .bool true, .int .i64 0, .int .i64 0, .int .i64 0, .slice none 0 0, .slice none 0 0, .string ⟨#[]⟩, .slice none 0 0] 111)
   have hS := Qj w4 w.heap.size (.int .i64 xf) (.int .i64 xt) (.int .i64 xs) (.bool true) (.int .i64 0) (.int .i64 0) (.int .i64 0) (.slice none 0 0) (.slice none 0 0) (.string ⟨#[]⟩) (.slice none 0 0)
   have ht5 := (show TkAt _ a t4 from Qn ht4 (show a ≠ w.heap.size by omega) hS).keep (Qd _ (.cells #[.int .i64 xf, .int .i64 xt, .int .i64 xs, .bool true, .int .i64 0, .int .i64 0, .int .i64 0, .slice none 0 0, .slice none 0 0, .string ⟨#[]⟩, .slice none 0 0] 111))
   have hg5 := Qh (Qaw hgw4 (Nat.le_refl _) hS) (Q1 (Qd _ (.cells #[.int .i64 xf, .int .i64 xt, .int .i64 xs, .bool true, .int .i64 0, .int .i64 0, .int .i64 0, .slice none 0 0, .slice none 0 0, .string ⟨#[]⟩, .slice none 0 0] 111)) (some a))
   refine bodyPost_ret (results_cell_row rfl _ _ w.heap.size 111 _ (0, 0) _ rfl hW Tryz.underlying111 rfl (by kernel_rfl)) rfl ⟨_, rfl, ?_, ?_, ?_⟩
   · intro w'' hs
     rw [HF.out, HH2.out]
     simp only [HK.out, if_true]
     exact ⟨.slice none 0 0, .slice none 0 0, .slice none 0 0, rfl, LabAt.nil _ _ _ (fun _ => rfl), IntsAt.nil _ _ _ (fun _ => rfl), CrtsAt.nil _ _ _ (fun _ => rfl)⟩
   · rw [HF.out, HH2.out]
     simp only [HK.out, if_true]
     exact ht5
   · exact hg5
 · have hb1 : (kd == 1) = false := by simpa using hk1
   by_cases hk0 : kd = 0
   · have hb0 : (kd == 0) = true := by simpa using hk0
     have HK : Hid (kd = 0) := hk0
     clear hk1 hk0
     have hf5 := heap_alloc_new w4 (.cells #[.int .i64 xf, .int .i64 xt, .int .i64 xs, .bool false, .int .i64 0, .int .i64 0, .int .i64 0, .slice none 0 0, .slice none 0 0, .string ⟨#[]⟩, .slice none 0 0] 111)
     have hs5 := QM w4 (.cells #[.int .i64 xf, .int .i64 xt, .int .i64 xs, .bool false, .int .i64 0, .int .i64 0, .int .i64 0, .slice none 0 0, .slice none 0 0, .string ⟨#[]⟩, .slice none 0 0] 111)
     have HS5 : Hid ((w4.alloc (.cells #[.int .i64 xf, .int .i64 xt, .int .i64 xs, .bool false, .int .i64 0, .int .i64 0, .int .i64 0, .slice none 0 0, .slice none 0 0, .string ⟨#[]⟩, .slice none 0 0] 111)).heap.size = w4.heap.size + 1) := hs5
     have HF5 : Hid ((w4.alloc (.cells #[.int .i64 xf, .int .i64 xt, .int .i64 xs, .bool false, .int .i64 0, .int .i64 0, .int .i64 0, .slice none 0 0, .slice none 0 0, .string ⟨#[]⟩, .slice none 0 0] 111)).heap[w4.heap.size]? = some (.cells #[.int .i64 xf, .int .i64 xt, .int .i64 xs, .bool false, .int .i64 0, .int .i64 0, .int .i64 0, .slice none 0 0, .slice none 0 0, .string ⟨#[]⟩, .slice none 0 0] 111)) := hf5
     clear hf5 hs5
     go_wp2_with fail
     refine (number1 a t4 _ (ht4.keep (Qd _ _))).mono ?_
     rintro e w6 ⟨rfl, ht6, hg6⟩
     have hf6 := Qn HF5.out (by omega) hg6
     have hr6 := Qn (Qz hr4 _) (by omega) hg6
     have hgw6 := Qh (Qh hgw4 (Q1 (Qd w4 _) (some a))) hg6
     have hs6 : w4.heap.size < w6.heap.size := Qw hf6
     have HLD : Hid (loadT xf xt xs t4 = (⟨xf, xt, xs, false, (numT 1 t4).1, (mailT xf (numT 1 t4).2).1, (certsT (mailT xf (numT 1 t4).2).2).1⟩, (certsT (mailT xf (numT 1 t4).2).2).2)) := hid rfl
     generalize (numT 1 t4).1 = th at *
     generalize (numT 1 t4).2 = t6 at *
     clear HF5 HS5 hg6 ht4 hr4 hgw4
     have c4 := Qa hf6 4
     have k4 := Qb hf6 4
     have c0 := Qa hf6 0
     go_wp2_with fail
     have hf7 := heap_setCell (j := 4) hf6 (.int .i64 th)
     have hr7 := Qr hr6 (show w.heap.size ≠ w4.heap.size by omega) 4 (.int .i64 th)
     have ht7 := Qr ht6 (show a ≠ w4.heap.size by omega) 4 (.int .i64 th)
     have hgw7 := Qbc hgw6 hs4 4 (.int .i64 th)
     have hs7 : w4.heap.size < (w6.setCell ⟨w4.heap.size, 4, none⟩ (.int .i64 th)).heap.size := by simpa using hs6
     clear c4 k4 c0 hf6 hr6 ht6 hgw6
     generalize w6.setCell ⟨w4.heap.size, 4, none⟩ (.int .i64 th) = w7 at *
     refine (Qfw a xf t6 _ ht7 (by omega)).mono ?_
     rintro e w8 ⟨vm, rfl, hmal, ht8, hg8⟩
     have hf8 := Qn hf7 (by omega) hg8
     have hr8 := Qn hr7 (by omega) hg8
     have hgw8 := Qh hgw7 hg8
     have hs78 := hg8.size
     have HMAL : Hid (∀ w'', Since w7.heap.size w8 w'' → MalAt w'' vm (mailT xf t6).1) := hmal
     clear hmal hf7 hr7 ht7 hgw7 hg8
     generalize mailT xf t6 = MT at *
     obtain ⟨m, t8⟩ := MT
     obtain ⟨vl, vg, rfl, ⟨pl, cl, rfl, _⟩, ⟨pg, cg, rfl, _⟩⟩ := id (HMAL.out w8 (Since.refl _ _))
     unfold malV
     have c5 := Qa hf8 5
     have c6 := Qa hf8 6
     have c7 := Qa hf8 7
     have c8 := Qa hf8 8
     have c9 := Qa hf8 9
     have k5 := Qb hf8 5
     have k6 := Qb hf8 6
     have k7 := Qb hf8 7
     have k8 := Qb hf8 8
     have k9 := Qb hf8 9
     simp only at HMAL HLD ht8
     go_wp2_with fail
     have hf9 := heap_setCell (j := 9) (heap_setCell (j := 8) (heap_setCell (j := 7) (heap_setCell (j := 6) (heap_setCell (j := 5) hf8 (.int .i64 m.host)) (.int .i64 m.thread)) (.slice pl m.label.length cl)) (.slice pg m.grants.length cg)) (.string ⟨m.text.toArray⟩)
     have hS9 := Qh (Qh (Qh (Qh (Qg w8 w4.heap.size 5 (.int .i64 m.host)) (Qg _ w4.heap.size 6 (.int .i64 m.thread))) (Qg _ w4.heap.size 7 (.slice pl m.label.length cl))) (Qg _ w4.heap.size 8 (.slice pg m.grants.length cg))) (Qg _ w4.heap.size 9 (.string ⟨m.text.toArray⟩))
     clear c5 c6 c7 c8 c9 k5 k6 k7 k8 k9
     have hr9 := Qn hr8 (show w.heap.size ≠ w4.heap.size by omega) hS9
     have ht9 := Qn ht8 (show a ≠ w4.heap.size by omega) hS9
     have hgw9 := Qaw hgw8 hs4 hS9
     have hsi9 : Since w7.heap.size w8 _ := Q0 hS9 hs7
     have hs9 := hS9.size
     have HMAL9 : Hid (∀ w'', Since w7.heap.size w8 w'' → LabAt w'' (.slice pl m.label.length cl) m.label ∧ IntsAt w'' (.slice pg m.grants.length cg) m.grants) := hid (fun w'' h => (HMAL.out w'' h).parts)
     clear hS9 hf8 hr8 ht8 hgw8 HMAL
     generalize ((((w8.setCell ⟨w4.heap.size, 5, none⟩ (.int .i64 m.host)).setCell ⟨w4.heap.size, 6, none⟩ (.int .i64 m.thread)).setCell ⟨w4.heap.size, 7, none⟩ (.slice pl m.label.length cl)).setCell ⟨w4.heap.size, 8, none⟩ (.slice pg m.grants.length cg)).setCell ⟨w4.heap.size, 9, none⟩ (.string ⟨m.text.toArray⟩) = w9 at *
     refine (QeL a t8 _ ht9 (by omega)).mono ?_
     rintro e w10 ⟨vc, rfl, hcrt, ht10, hg10⟩
     have hf10 := Qn hf9 (by omega) hg10
     have hr10 := Qn hr9 (by omega) hg10
     have hgw10 := Qh hgw9 hg10
     have hsi10 : Since w7.heap.size w8 w10 := hsi9.trans (Q0 hg10 (by omega)) hs9
     have hs10 := hg10.size
     clear hf9 hr9 ht9 hgw9 hg10 hsi9
     have HCRT : Hid (∀ w'', Since w9.heap.size w10 w'' → CrtsAt w'' vc (certsT t8).1) := hcrt
     clear hcrt
     generalize certsT t8 = CT at *
     obtain ⟨cs, t10⟩ := CT
     simp only at HCRT HLD ht10
     obtain ⟨pc, cc, rfl, _⟩ := id (HCRT.out w10 (Since.refl _ _))
     have c0 := Qa hf10 0
     have c1 := Qa hf10 1
     have c2 := Qa hf10 2
     have c3 := Qa hf10 3
     have c4 := Qa hf10 4
     have c5 := Qa hf10 5
     have c6 := Qa hf10 6
     have c7 := Qa hf10 7
     have c8 := Qa hf10 8
     have c9 := Qa hf10 9
     have c10 := Qa hf10 10
     have k10 := Qb hf10 10
     have d0 := Qa hr10 0
     have q0 := Qb hr10 0
     have d1 := Qa hr10 1
     have q1 := Qb hr10 1
     have d2 := Qa hr10 2
     have q2 := Qb hr10 2
     have d3 := Qa hr10 3
     have q3 := Qb hr10 3
     have d4 := Qa hr10 4
     have q4 := Qb hr10 4
     have d5 := Qa hr10 5
     have q5 := Qb hr10 5
     have d6 := Qa hr10 6
     have q6 := Qb hr10 6
     have d7 := Qa hr10 7
     have q7 := Qb hr10 7
     have d8 := Qa hr10 8
     have q8 := Qb hr10 8
     have d9 := Qa hr10 9
     have q9 := Qb hr10 9
     have d10 := Qa hr10 10
     have q10 := Qb hr10 10
     have hne : w.heap.size ≠ w4.heap.size := by omega
     have hne2 : w4.heap.size ≠ w.heap.size := by omega
     have HR11 := hid (Qr hr10 hne 10 (.slice pc cs.length cc))
     clear hr10
     go_wp2
     have hW := Ql (.int .i64 xf) (.int .i64 xt) (.int .i64 xs) (.bool false) (.int .i64 th) (.int .i64 m.host) (.int .i64 m.thread) (.slice pl m.label.length cl) (.slice pg m.grants.length cg) (.string ⟨m.text.toArray⟩) (.slice pc cs.length cc) HR11.out
     have hS11 := Qg w10 w4.heap.size 10 (.slice pc cs.length cc)
     have hS12 := Qj (w10.setCell ⟨w4.heap.size, 10, none⟩ (.slice pc cs.length cc)) w.heap.size (.int .i64 xf) (.int .i64 xt) (.int .i64 xs) (.bool false) (.int .i64 th) (.int .i64 m.host) (.int .i64 m.thread) (.slice pl m.label.length cl) (.slice pg m.grants.length cg) (.string ⟨m.text.toArray⟩) (.slice pc cs.length cc)
     have ht12 := Qn (Qn ht10 (show a ≠ w4.heap.size by omega) hS11) (show a ≠ w.heap.size by omega) hS12
     have hg12 := Qaw (Qaw hgw10 hs4 hS11) (Nat.le_refl _) hS12
     refine bodyPost_ret (results_cell_row rfl _ _ w.heap.size 111 _ (0, 0) _ rfl hW Tryz.underlying111 rfl (by kernel_rfl)) rfl ⟨_, rfl, ?_, ?_, ?_⟩
     · intro w'' hs
       rw [HF.out, HH2.out]
       simp only [HK.out, show ((0 : Int) = 1) = False by simp, if_true, if_false]
       rw [HLD.out]
       have hsa : Since w7.heap.size w10 w'' := (Q0 hS11 hs7).trans ((Q0 hS12 (show w.heap.size < w7.heap.size by omega)).trans (hs.mono (show w.heap.size ≤ w7.heap.size by omega)) hS12.size) hS11.size
       have hsb : Since w7.heap.size w8 w'' := hsi10.trans hsa (by omega)
       have hp := HMAL9.out w'' hsb
       exact ⟨.slice pl m.label.length cl, .slice pg m.grants.length cg, .slice pc cs.length cc, rfl, hp.1, hp.2, HCRT.out w'' (hsa.mono (by omega))⟩
     · rw [HF.out, HH2.out]
       simp only [HK.out, show ((0 : Int) = 1) = False by simp, if_true, if_false]
       rw [HLD.out]
       exact ht12
     · exact hg12
   · have hb0 : (kd == 0) = false := by simpa using hk0
     have HK : Hid (kd ≠ 1 ∧ kd ≠ 0) := hid ⟨hk1, hk0⟩
     clear hk1 hk0
     go_wp2_with fail
     refine (Qgc a t4 _ (ht4.keep (Qd _ _))).mono ?_
     rintro e w6 ⟨rfl, ht6, hg6⟩
     have hf6 := Qn (heap_alloc_new w4 _) (by omega) hg6
     have hr6 := Qn (Qz hr4 _) (by omega) hg6
     have hgw6 := Qh (Qh hgw4 (Q1 (Qd w4 _) (some a))) hg6
     clear hg6 ht4 hr4 hgw4
     have c0 := Qa hf6 0
     have c1 := Qa hf6 1
     have c2 := Qa hf6 2
     have c3 := Qa hf6 3
     have c4 := Qa hf6 4
     have c5 := Qa hf6 5
     have c6 := Qa hf6 6
     have c7 := Qa hf6 7
     have c8 := Qa hf6 8
     have c9 := Qa hf6 9
     have c10 := Qa hf6 10
     have d0 := Qa hr6 0
     have q0 := Qb hr6 0
     have d1 := Qa hr6 1
     have q1 := Qb hr6 1
     have d2 := Qa hr6 2
     have q2 := Qb hr6 2
     have d3 := Qa hr6 3
     have q3 := Qb hr6 3
     have d4 := Qa hr6 4
     have q4 := Qb hr6 4
     have d5 := Qa hr6 5
     have q5 := Qb hr6 5
     have d6 := Qa hr6 6
     have q6 := Qb hr6 6
     have d7 := Qa hr6 7
     have q7 := Qb hr6 7
     have d8 := Qa hr6 8
     have q8 := Qb hr6 8
     have d9 := Qa hr6 9
     have q9 := Qb hr6 9
     have d10 := Qa hr6 10
     have q10 := Qb hr6 10
     have HW : Hid _ := hid hr6
     clear hr6
     go_wp2
     have hW := Ql (.int .i64 xf) (.int .i64 xt) (.int .i64 xs) (.bool false) (.int .i64 0) (.int .i64 0) (.int .i64 0) (.slice none 0 0) (.slice none 0 0) (.string ⟨#[]⟩) (.slice none 0 0) HW.out
     have hS := Qj w6 w.heap.size (.int .i64 xf) (.int .i64 xt) (.int .i64 xs) (.bool false) (.int .i64 0) (.int .i64 0) (.int .i64 0) (.slice none 0 0) (.slice none 0 0) (.string ⟨#[]⟩) (.slice none 0 0)
     have ht7 := Qn ht6 (show a ≠ w.heap.size by omega) hS
     have hg7 := Qaw hgw6 (Nat.le_refl _) hS
     refine bodyPost_ret (results_cell_row rfl _ _ w.heap.size 111 _ (0, 0) _ rfl hW Tryz.underlying111 rfl (by kernel_rfl)) rfl ⟨_, rfl, ?_, ?_, ?_⟩
     · intro w'' hs
       rw [HF.out, HH2.out]
       simp only [HK.out.1, HK.out.2, if_false]
       exact ⟨.slice none 0 0, .slice none 0 0, .slice none 0 0, rfl, LabAt.nil _ _ _ (fun _ => rfl), IntsAt.nil _ _ _ (fun _ => rfl), CrtsAt.nil _ _ _ (fun _ => rfl)⟩
     · rw [HF.out, HH2.out]
       simp only [HK.out.1, HK.out.2, if_false]
       exact ht7
     · exact hg7
end Go.Proofs.YtpdijobakfpnbaaGreat
