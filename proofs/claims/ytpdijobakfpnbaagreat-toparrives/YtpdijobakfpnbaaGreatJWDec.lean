/- wire.Decode answers the frame of bytes, or the errors number; it turns nothing that was there. -/
import Derived.Test.YtpdijobakfpnbaaGreatJLSend
import Derived.Test.YtpdijobakfpnbaaGreatJWDecode
namespace Go.Proofs.YtpdijobakfpnbaaGreat
open Go.RowKit Go.Proofs.Parclose
theorem Qcp {fn : Func} {p u : Tmp} {ty : TypeId} (h : fn.results = #[.cell p ty, .tmp u]) (tmps : Array Value) (w : World) (g : Nat) (cs : Array Value)
 (hp : tmps.getD p undef = .pointer (some ⟨g, 0, none⟩)) (hl : (loadVar ty ⟨g, 0, none⟩).run Tryz.prog w = .ok (.agg cs) w) :
 (results fn tmps).run Tryz.prog w = .ok (.tuple #[.agg cs, tmps.getD u undef]) w := by
 rw [results_cell_tmp h, hp]
 simp [asAddr, hl]
theorem Qct {w : World} {g : Nat} {cs : Array Value} (hc : cs.size = 11) (hg : w.heap[g]? = some (.cells cs 111 (0, 0))) : (loadVar 111 ⟨g, 0, none⟩).run Tryz.prog w = .ok (.agg cs) w :=
 run_loadVar_row w g 111 111 cs (0, 0) _ hg Tryz.underlying111 rfl (by rw [hc]; kernel_rfl)
set_option maxRecDepth 100000 in
set_option maxHeartbeats 1600000 in
theorem Qiy (x : List UInt8) (w : World) : Calls Tryz.prog 98 #[.string ⟨x.toArray⟩] w fun e w' => ∃ v', e = .returned (.tuple #[v', .int .i64 (decL x).2]) ∧ (∀ w'', Since w.heap.size w' w'' → FrmAt w'' v' (decL x).1) ∧ Below w.heap.size w w' := by
 have HD : Hid (decL x = if doneB (frameT (x, false)).2 then (if frameE (frameT (x, false)).1 = 0 then ((frameT (x, false)).1, 0) else (zeroFrm, frameE (frameT (x, false)).1)) else (zeroFrm, 1)) := hid rfl
 go_enter Tryz.func98, Tryz.ntmps98
 go_wp2_with fail
 refine (QeK (w.heap.size + 1) (x, false) _ (heap_alloc2_new w _ _) (by simp)).mono ?_
 rintro e w1 ⟨vf, rfl, hfrm, ht1, hg1⟩
 have hr1 := Qn (heap_alloc2_old w _ _) (by omega) hg1
 have hb1 := ((Qd w _).alloc (by simp) _).grown hg1 (by simp; omega) (fun k hk => by have := Option.some.inj hk; omega)
 have hs1 := hg1.size
 have hss : w.heap.size + 2 ≤ w1.heap.size := by simpa using hs1
 have HFRM : Hid (∀ w'', Since (w.heap.size + 2) w1 w'' → FrmAt w'' vf (frameT (x, false)).1) := hid (fun w'' h => hfrm w'' (by simpa using h))
 clear hfrm hg1 hs1
 generalize frameT (x, false) = FT at *
 obtain ⟨f, t1⟩ := FT
 simp only at HFRM HD ht1
 obtain ⟨vl, vg, vc, rfl, ⟨pl, cl, rfl, _⟩, ⟨pg, cg, rfl, _⟩, ⟨pc, cc, rfl, _⟩⟩ := id (HFRM.out w1 (Since.refl _ _))
 have hgood := fun wx (h : Since (w.heap.size + 2) w1 wx) => QeV _ f wx (HFRM.out wx h)
 unfold frmV at HFRM hgood ⊢
 have htd := ht1.keep (Qd w1 (.cells #[.int .i64 f.fr, .int .i64 f.to, .int .i64 f.seq, .bool f.ack, .int .i64 f.thread, .int .i64 f.mail.host, .int .i64 f.mail.thread, .slice pl f.mail.label.length cl, .slice pg f.mail.grants.length cg, .string ⟨f.mail.text.toArray⟩, .slice pc f.certs.length cc] 111))
 have hf2 := heap_alloc_new w1 (.cells #[.int .i64 f.fr, .int .i64 f.to, .int .i64 f.seq, .bool f.ack, .int .i64 f.thread, .int .i64 f.mail.host, .int .i64 f.mail.thread, .slice pl f.mail.label.length cl, .slice pg f.mail.grants.length cg, .string ⟨f.mail.text.toArray⟩, .slice pc f.certs.length cc] 111)
 have hr2 := Qz hr1 (.cells #[.int .i64 f.fr, .int .i64 f.to, .int .i64 f.seq, .bool f.ack, .int .i64 f.thread, .int .i64 f.mail.host, .int .i64 f.mail.thread, .slice pl f.mail.label.length cl, .slice pg f.mail.grants.length cg, .string ⟨f.mail.text.toArray⟩, .slice pc f.certs.length cc] 111)
 have hbb := Qd w1 (.cells #[.int .i64 f.fr, .int .i64 f.to, .int .i64 f.seq, .bool f.ack, .int .i64 f.thread, .int .i64 f.mail.host, .int .i64 f.mail.thread, .slice pl f.mail.label.length cl, .slice pg f.mail.grants.length cg, .string ⟨f.mail.text.toArray⟩, .slice pc f.certs.length cc] 111)
 have hlt : w.heap.size < w1.heap.size := by omega
 have HF2 := hid hf2
 have HR2 := hid hr2
 clear hf2 hr2
 cases hd : doneB t1 with
 | false =>
  have HD2 : Hid (decL x = (zeroFrm, 1)) := hid (by rw [HD.out, hd]; rfl)
  have HR1 := hid hr1
  have d0 := Qa hr1 0
  have q0 := Qb hr1 0
  have d1 := Qa hr1 1
  have q1 := Qb hr1 1
  have d2 := Qa hr1 2
  have q2 := Qb hr1 2
  have d3 := Qa hr1 3
  have q3 := Qb hr1 3
  have d4 := Qa hr1 4
  have q4 := Qb hr1 4
  have d5 := Qa hr1 5
  have q5 := Qb hr1 5
  have d6 := Qa hr1 6
  have q6 := Qb hr1 6
  have d7 := Qa hr1 7
  have q7 := Qb hr1 7
  have d8 := Qa hr1 8
  have q8 := Qb hr1 8
  have d9 := Qa hr1 9
  have q9 := Qb hr1 9
  have d10 := Qa hr1 10
  have q10 := Qb hr1 10
  clear hr1 hgood HFRM
  go_wp2_with (go_at_call 140; refine (QdV _ t1 _ htd).mono ?_; rintro e w' ⟨rfl, rfl⟩)
  have hW := Qz (Ql (.int .i64 0) (.int .i64 0) (.int .i64 0) (.bool false) (.int .i64 0) (.int .i64 0) (.int .i64 0) (.slice none 0 0) (.slice none 0 0) (.string ⟨#[]⟩) (.slice none 0 0) HR1.out) (.cells #[.int .i64 f.fr, .int .i64 f.to, .int .i64 f.seq, .bool f.ack, .int .i64 f.thread, .int .i64 f.mail.host, .int .i64 f.mail.thread, .slice pl f.mail.label.length cl, .slice pg f.mail.grants.length cg, .string ⟨f.mail.text.toArray⟩, .slice pc f.certs.length cc] 111)
  have hS := Qj w1 w.heap.size (.int .i64 0) (.int .i64 0) (.int .i64 0) (.bool false) (.int .i64 0) (.int .i64 0) (.int .i64 0) (.slice none 0 0) (.slice none 0 0) (.string ⟨#[]⟩) (.slice none 0 0)
  refine bodyPost_ret (Qcp rfl _ _ w.heap.size _ rfl (Qct rfl hW)) rfl ⟨.agg #[.int .i64 0, .int .i64 0, .int .i64 0, .bool false, .int .i64 0, .int .i64 0, .int .i64 0, .slice none 0 0, .slice none 0 0, .string ⟨#[]⟩, .slice none 0 0], ?_, ?_, ?_⟩
  · rw [HD2.out]; rfl
  · intro w'' _; rw [HD2.out]; exact Qbg _
  · exact (hb1.grown hS (by omega) (fun k hk => by have := Option.some.inj hk; omega)).alloc (by have := hS.size; omega) _
 | true =>
  by_cases h0 : frameE f = 0
  rotate_left
  · have HD2 : Hid (decL x = (zeroFrm, frameE f)) := hid (by rw [HD.out, hd, if_pos rfl, if_neg h0])
    have hne : (frameE f != 0) = true := by simpa using h0
    clear h0
    clear hr1
    go_wp2_with (first | (go_at_call 140; refine (QdV _ t1 _ htd).mono ?_; rintro e w' ⟨rfl, rfl⟩) | (go_at_call 141; refine (hgood _ (QU hbb)).mono ?_; rintro e w2 ⟨rfl, hw2⟩; have hr3 := Qe HR2.out hw2; have d0 := Qa hr3 0; have q0 := Qb hr3 0; have d1 := Qa hr3 1; have q1 := Qb hr3 1; have d2 := Qa hr3 2; have q2 := Qb hr3 2; have d3 := Qa hr3 3; have q3 := Qb hr3 3; have d4 := Qa hr3 4; have q4 := Qb hr3 4; have d5 := Qa hr3 5; have q5 := Qb hr3 5; have d6 := Qa hr3 6; have q6 := Qb hr3 6; have d7 := Qa hr3 7; have q7 := Qb hr3 7; have d8 := Qa hr3 8; have q8 := Qb hr3 8; have d9 := Qa hr3 9; have q9 := Qb hr3 9; have d10 := Qa hr3 10; have q10 := Qb hr3 10; have HR3 := hid hr3; clear hr3; have hb2 := Qc hbb hw2; clear hw2))
    have hW := Ql (.int .i64 0) (.int .i64 0) (.int .i64 0) (.bool false) (.int .i64 0) (.int .i64 0) (.int .i64 0) (.slice none 0 0) (.slice none 0 0) (.string ⟨#[]⟩) (.slice none 0 0) HR3.out
    have hS := Qj w2 w.heap.size (.int .i64 0) (.int .i64 0) (.int .i64 0) (.bool false) (.int .i64 0) (.int .i64 0) (.int .i64 0) (.slice none 0 0) (.slice none 0 0) (.string ⟨#[]⟩) (.slice none 0 0)
    refine bodyPost_ret (Qcp rfl _ _ w.heap.size _ rfl (Qct rfl hW)) rfl ⟨.agg #[.int .i64 0, .int .i64 0, .int .i64 0, .bool false, .int .i64 0, .int .i64 0, .int .i64 0, .slice none 0 0, .slice none 0 0, .string ⟨#[]⟩, .slice none 0 0], ?_, ?_, ?_⟩
    · rw [HD2.out]; rfl
    · intro w'' _; rw [HD2.out]; exact Qbg _
    · exact (Qc hb1 hb2).grown hS (by have := hb2.size; omega) (fun k hk => by have := Option.some.inj hk; omega)
  · have HD2 : Hid (decL x = (f, 0)) := hid (by rw [HD.out, hd, if_pos rfl, if_pos h0])
    have hne : (frameE f != 0) = false := by simpa using h0
    have H0 := hid h0
    clear h0 hr1
    go_wp2_with (first | (go_at_call 140; refine (QdV _ t1 _ htd).mono ?_; rintro e w' ⟨rfl, rfl⟩) | (go_at_call 141; refine (hgood _ (QU hbb)).mono ?_; rintro e w2 ⟨rfl, hw2⟩; have hr3 := Qe HR2.out hw2; have hf3 := Qe HF2.out hw2; have d0 := Qa hr3 0; have q0 := Qb hr3 0; have d1 := Qa hr3 1; have q1 := Qb hr3 1; have d2 := Qa hr3 2; have q2 := Qb hr3 2; have d3 := Qa hr3 3; have q3 := Qb hr3 3; have d4 := Qa hr3 4; have q4 := Qb hr3 4; have d5 := Qa hr3 5; have q5 := Qb hr3 5; have d6 := Qa hr3 6; have q6 := Qb hr3 6; have d7 := Qa hr3 7; have q7 := Qb hr3 7; have d8 := Qa hr3 8; have q8 := Qb hr3 8; have d9 := Qa hr3 9; have q9 := Qb hr3 9; have d10 := Qa hr3 10; have q10 := Qb hr3 10; have c0 := Qa hf3 0; have c1 := Qa hf3 1; have c2 := Qa hf3 2; have c3 := Qa hf3 3; have c4 := Qa hf3 4; have c5 := Qa hf3 5; have c6 := Qa hf3 6; have c7 := Qa hf3 7; have c8 := Qa hf3 8; have c9 := Qa hf3 9; have c10 := Qa hf3 10; have HR3 := hid hr3; clear hr3 hf3; have hb2 := Qc hbb hw2; clear hw2))
    have hW := Ql (.int .i64 f.fr) (.int .i64 f.to) (.int .i64 f.seq) (.bool f.ack) (.int .i64 f.thread) (.int .i64 f.mail.host) (.int .i64 f.mail.thread) (.slice pl f.mail.label.length cl) (.slice pg f.mail.grants.length cg) (.string ⟨f.mail.text.toArray⟩) (.slice pc f.certs.length cc) HR3.out
    have hS := Qj w2 w.heap.size (.int .i64 f.fr) (.int .i64 f.to) (.int .i64 f.seq) (.bool f.ack) (.int .i64 f.thread) (.int .i64 f.mail.host) (.int .i64 f.mail.thread) (.slice pl f.mail.label.length cl) (.slice pg f.mail.grants.length cg) (.string ⟨f.mail.text.toArray⟩) (.slice pc f.certs.length cc)
    refine bodyPost_ret (Qcp rfl _ _ w.heap.size _ rfl (Qct rfl hW)) rfl ⟨.agg #[.int .i64 f.fr, .int .i64 f.to, .int .i64 f.seq, .bool f.ack, .int .i64 f.thread, .int .i64 f.mail.host, .int .i64 f.mail.thread, .slice pl f.mail.label.length cl, .slice pg f.mail.grants.length cg, .string ⟨f.mail.text.toArray⟩, .slice pc f.certs.length cc], ?_, ?_, ?_⟩
    · rw [HD2.out]; rfl
    · intro w'' hs''
      rw [HD2.out]
      exact HFRM.out _ (((QU hb2).trans (Q0 hS (by omega)) hb2.size).trans (hs''.mono (by omega)) (Nat.le_trans hb2.size hS.size))
    · exact (Qc hb1 hb2).grown hS (by have := hb2.size; omega) (fun k hk => by have := Option.some.inj hk; omega)
end Go.Proofs.YtpdijobakfpnbaaGreat
