/- WireBack, WireOnly and WireCut answer true. -/
import Derived.Test.YtaeikpiinpmecabWSameF
import Derived.Test.YtaeikpiinpmecabWDec
import Derived.Laws.Concat
namespace Go.Proofs.Ytaeikpiinpmecab
open Go.RowKit Go.Proofs.Parclose

theorem str_app (x y : List UInt8) : (⟨x.toArray⟩ : ByteArray) ++ ⟨y.toArray⟩ = ⟨(x ++ y).toArray⟩ := ByteArray.mk_append_mk x y
theorem enc_short {f : Frm} (h : frameE f = 0) : (encL f).length ≤ 400 := by
  unfold frameE at h
  split at h
  · unfold encL
    cases ha : f.ack with
    | true => simp [headL, timeL]
    | false =>
      rw [ha, if_neg (by simp)] at h
      obtain ⟨h1, h2, h3⟩ := loadE_zero h
      obtain ⟨_, _, hgl, hgg, htx⟩ := mailE_zero h1
      have hl8 : f.mail.label.length ≤ 8 := (of_decide_eq_true hgl).1
      have hg8 : f.mail.grants.length ≤ 8 := ((grantsB_iff _).1 hgg).1
      have hc24 := (certsE_zero h3).1
      have hq : ∀ q : List (Int × Int), (levelsL q).length = 2 * q.length := fun q => by
        unfold levelsL
        induction q with
        | nil => rfl
        | cons x r ih => rw [List.flatMap_cons, List.length_append, ih]; simp; omega
      have hcq : ∀ q : List Crt, (q.flatMap certL).length = 9 * q.length := fun q => by
        induction q with
        | nil => rfl
        | cons x r ih => rw [List.flatMap_cons, List.length_append, ih]; simp [certL, timeL]; omega
      simp only [Bool.false_eq_true, if_false, List.length_append, headL, timeL, mailL, certsL, hq, hcq, List.length_map, List.length_cons, List.length_nil]
      omega
  · simp at h
theorem enc_pos (f : Frm) : 0 < (encL f).length := by
  unfold encL
  split <;> simp [headL]

set_option maxHeartbeats 3200000 in
theorem wireBack_any (v : Value) (f : Frm) (w : World) (hv : FrmAt w v f) :
    Calls Try.prog 5 #[v] w fun e w' => e = .returned (.bool true) ∧ Below w.heap.size w w' := by
  have HV := hid hv
  obtain ⟨vl, vg, vc, rfl, hl, hg, hc⟩ := hv
  obtain ⟨pl, cl, rfl, _⟩ := id hl
  obtain ⟨pg, cg, rfl, _⟩ := id hg
  obtain ⟨pc, cc, rfl, _⟩ := id hc
  have henc := fun wx (h : Below w.heap.size w wx) => encode_any _ f wx (HV.out.below h)
  have hgood := fun wx (h : Below w.heap.size w wx) => wgood_any _ f wx (HV.out.below h)
  unfold frmV at HV henc hgood ⊢
  clear hl hg hc
  by_cases h0 : frameE f = 0
  rotate_left
  · have hE : encE f = [] := by unfold encE; rw [if_neg h0]
    have hne : (frameE f != 0) = true := by simpa using h0
    rw [hE] at henc
    clear hE h0
    go_enter Try.func5, Try.ntmps5
    go_wp2_with (go_at_call 8; refine (henc _ (below_box _ _)).mono ?_; rintro e w1 ⟨rfl, hw1⟩; have c0 := box_cell hw1 (by simp) 0; have c1 := box_cell hw1 (by simp) 1; have c2 := box_cell hw1 (by simp) 2; have c3 := box_cell hw1 (by simp) 3; have c4 := box_cell hw1 (by simp) 4; have c5 := box_cell hw1 (by simp) 5; have c6 := box_cell hw1 (by simp) 6; have c7 := box_cell hw1 (by simp) 7; have c8 := box_cell hw1 (by simp) 8; have c9 := box_cell hw1 (by simp) 9; have c10 := box_cell hw1 (by simp) 10; have hb1 := below_then (below_box _ _) hw1; clear hw1)
    go_wp2_with (first | (go_at_call 11; refine (hgood _ hb1).mono ?_; rintro e w2 ⟨rfl, hw2⟩; have hb2 := below_then hb1 hw2; clear hw2) | (go_at_call 22; refine (kcodes_any _).mono ?_; rintro e w3 ⟨rfl, hw3⟩))
    go_ret
    exact ⟨ret_bool (by simp), below_then hb2 hw3⟩
  have hne : (frameE f != 0) = false := by simpa using h0
  have hE : encE f = encL f := by unfold encE; rw [if_pos h0]
  have hD1 := fun wx => decode_any (encL f) wx
  rw [back f h0] at hD1
  have hD2 := fun wx => decode_any (encL f ++ [120]) wx
  rw [back_more f h0 [120] (by simp), ← str_app] at hD2
  rw [hE, h0] at henc
  have hsz := enc_short h0
  have H0 := hid h0
  clear h0 hE hgood
  generalize encL f = x at *
  go_enter Try.func5, Try.ntmps5
  go_wp2_with fail
  refine (henc _ (below_box _ _)).mono ?_
  rintro e w1 ⟨rfl, hw1⟩
  have hB1 := hid hw1
  have hb1 := below_then (below_box _ _) hw1
  clear hw1 henc
  go_wp2_with fail
  refine (kcodes_any _).mono ?_
  rintro e w2 ⟨rfl, hw2⟩
  have hB2 := hid (below_then hB1.out hw2)
  have hb2 := below_then hb1 hw2
  clear hw2 hB1 hb1
  go_wp2_with fail
  refine (hD1 _).mono ?_
  rintro e w3 ⟨v3, rfl, hf3, hw3⟩
  have hB3 := hid (below_then hB2.out hw3)
  have hb3 := below_then hb2 hw3
  clear hw3 hB2 hb2 hD1
  have HF3 := hid hf3
  obtain ⟨vl', vg', vc', rfl, ⟨pl', cl', rfl, _⟩, ⟨pg', cg', rfl, _⟩, ⟨pc', cc', rfl, _⟩⟩ := hf3
  unfold frmV at HF3 ⊢
  have hm3 := hid (heap_alloc_new w3 (.cells #[.int .i64 f.fr, .int .i64 f.to, .int .i64 f.seq, .bool f.ack, .int .i64 f.thread, .int .i64 f.mail.host, .int .i64 f.mail.thread, .slice pl' f.mail.label.length cl', .slice pg' f.mail.grants.length cg', .string ⟨f.mail.text.toArray⟩, .slice pc' f.certs.length cc'] 29))
  go_wp2_with fail
  refine (hD2 _).mono ?_
  rintro e w4 ⟨v4, rfl, hf4, hw4⟩
  have hb34 := below_then (below_box w3 _) hw4
  have hm4 := heap_keep hm3.out hw4
  have hB4 := below_then hB3.out hb34
  have hb4 := below_then hb3 hb34
  clear hw4 hB3 hb3 hm3 hD2
  generalize zeroFrm = z at *
  obtain ⟨vl2, vg2, vc2, rfl, ⟨pl2, cl2, rfl, _⟩, ⟨pg2, cg2, rfl, _⟩, ⟨pc2, cc2, rfl, _⟩⟩ := hf4
  unfold frmV
  have hlt : w.heap.size < w4.heap.size := by have := hB4.size; simp at this; omega
  have hlt3 : w3.heap.size < w4.heap.size := heap_lt hm4
  have c0 := box_cell hB4 (by simp) 0
  have c1 := box_cell hB4 (by simp) 1
  have c2 := box_cell hB4 (by simp) 2
  have c3 := box_cell hB4 (by simp) 3
  have c4 := box_cell hB4 (by simp) 4
  have c5 := box_cell hB4 (by simp) 5
  have c6 := box_cell hB4 (by simp) 6
  have c7 := box_cell hB4 (by simp) 7
  have c8 := box_cell hB4 (by simp) 8
  have c9 := box_cell hB4 (by simp) 9
  have c10 := box_cell hB4 (by simp) 10
  have d0 := heap_cell hm4 0
  have d1 := heap_cell hm4 1
  have d2 := heap_cell hm4 2
  have d3 := heap_cell hm4 3
  have d4 := heap_cell hm4 4
  have d5 := heap_cell hm4 5
  have d6 := heap_cell hm4 6
  have d7 := heap_cell hm4 7
  have d8 := heap_cell hm4 8
  have d9 := heap_cell hm4 9
  have d10 := heap_cell hm4 10
  have hs4 := fun wx (h : Below w4.heap.size w4 wx) => ksameFrame_eq _ _ f wx (HV.out.below (below_then hb4 h)) (HF3.out.below (below_then hb34 h))
  clear hm4 hB4
  go_wp2_with (go_at_call 23; refine (hs4 _ (below_box _ _)).mono ?_; rintro e w5 ⟨rfl, hw5⟩)
  go_ret
  exact ⟨ret_bool (by simp), below_then hb4 (below_then (below_box _ _) hw5)⟩

set_option maxHeartbeats 3200000 in
theorem wireOnly_any (x : List UInt8) (w : World) : Calls Try.prog 6 #[.string ⟨x.toArray⟩] w fun e w' => e = .returned (.bool true) ∧ Below w.heap.size w w' := by
  have hD := fun wx => decode_any x wx
  by_cases h0 : (decL x).2 = 0
  rotate_left
  · have hz := only_zero h0
    have hne : ((decL x).2 != 0) = true := by simpa using h0
    rw [hz] at hD
    generalize (decL x).2 = n at *
    clear hz h0
    go_enter Try.func6, Try.ntmps6
    go_wp2_with fail
    refine (hD _).mono ?_
    rintro e w1 ⟨v1, rfl, hf1, hw1⟩
    have HF1 := hid hf1
    have hz : ∀ wx, FrmAt wx (.agg #[.int .i64 0, .int .i64 0, .int .i64 0, .bool false, .int .i64 0, .int .i64 0, .int .i64 0, .slice none 0 0, .slice none 0 0, .string ⟨#[]⟩, .slice none 0 0]) zeroFrm := zero_frm
    generalize zeroFrm = z at *
    obtain ⟨vl2, vg2, vc2, rfl, ⟨pl2, cl2, rfl, _⟩, ⟨pg2, cg2, rfl, _⟩, ⟨pc2, cc2, rfl, _⟩⟩ := hf1
    unfold frmV at HF1 ⊢
    have hs := fun wx (h : Below w1.heap.size w1 wx) => ksameFrame_eq _ _ z wx (HF1.out.below h) (hz wx)
    clear hD
    go_wp2_with (first | (go_at_call 23; refine (hs _ (below_box _ _)).mono ?_; rintro e w2 ⟨rfl, hw2⟩) | (go_at_call 22; refine (kcodes_any _).mono ?_; rintro e w3 ⟨rfl, hw3⟩))
    go_ret
    exact ⟨ret_bool (by simp), below_then hw1 (below_then (below_box _ _) (below_then hw2 hw3))⟩
  · obtain ⟨ho, hg⟩ := only h0
    have hE : encE (decL x).1 = x := by unfold encE; rw [if_pos hg, ho]
    have henc := fun v wx h => encode_any v (decL x).1 wx h
    rw [hE, hg] at henc
    rw [h0] at hD
    generalize (decL x).1 = f at *
    clear ho hg hE h0
    go_enter Try.func6, Try.ntmps6
    go_wp2_with fail
    refine (hD _).mono ?_
    rintro e w1 ⟨v1, rfl, hf1, hw1⟩
    have HF1 := hid hf1
    obtain ⟨vl2, vg2, vc2, rfl, ⟨pl2, cl2, rfl, _⟩, ⟨pg2, cg2, rfl, _⟩, ⟨pc2, cc2, rfl, _⟩⟩ := hf1
    unfold frmV at HF1 ⊢
    clear hD
    have hne : ((0 : Int) != 0) = false := rfl
    go_wp2_with fail
    refine (kcodes_any _).mono ?_
    rintro e w2 ⟨rfl, hw2⟩
    have c0 := box_cell hw2 (by simp) 0
    have c1 := box_cell hw2 (by simp) 1
    have c2 := box_cell hw2 (by simp) 2
    have c3 := box_cell hw2 (by simp) 3
    have c4 := box_cell hw2 (by simp) 4
    have c5 := box_cell hw2 (by simp) 5
    have c6 := box_cell hw2 (by simp) 6
    have c7 := box_cell hw2 (by simp) 7
    have c8 := box_cell hw2 (by simp) 8
    have c9 := box_cell hw2 (by simp) 9
    have c10 := box_cell hw2 (by simp) 10
    have hb2 := below_then (below_box _ _) hw2
    have hen2 := henc _ w2 (HF1.out.below hb2)
    clear hw2 henc
    go_wp2_with fail
    refine hen2.mono ?_
    rintro e w3 ⟨rfl, hw3⟩
    clear hen2
    go_wp2
    go_ret
    exact ⟨ret_bool (by simp), below_then hw1 (below_then hb2 hw3)⟩

set_option maxHeartbeats 3200000 in
theorem wireCut_any (v : Value) (f : Frm) (at' : Int) (w : World) (hv : FrmAt w v f) :
    Calls Try.prog 7 #[v, .int .i64 at'] w fun e w' => e = .returned (.bool true) ∧ Below w.heap.size w w' := by
  have HV := hid hv
  obtain ⟨vl, vg, vc, rfl, hl, hg, hc⟩ := hv
  obtain ⟨pl, cl, rfl, _⟩ := id hl
  obtain ⟨pg, cg, rfl, _⟩ := id hg
  obtain ⟨pc, cc, rfl, _⟩ := id hc
  have henc := fun wx (h : Below w.heap.size w wx) => encode_any _ f wx (HV.out.below h)
  unfold frmV at HV henc ⊢
  clear hl hg hc
  by_cases h0 : frameE f = 0
  rotate_left
  · have hne : (frameE f != 0) = true := by simpa using h0
    clear h0
    generalize encE f = x at *
    go_enter Try.func7, Try.ntmps7
    go_wp2_with (first | (go_at_call 8; refine (henc _ (below_box _ _)).mono ?_; rintro e w1 ⟨rfl, hw1⟩; have hb1 := below_then (below_box _ _) hw1; clear hw1) | (go_at_call 22; refine (kcodes_any _).mono ?_; rintro e w3 ⟨rfl, hw3⟩))
    go_ret
    exact ⟨ret_bool (by simp), below_then hb1 hw3⟩
  have hE : encE f = encL f := by unfold encE; rw [if_pos h0]
  have hD := fun (p : Nat) (hp : p < (encL f).length) wx => (decode_any ((encL f).take p) wx)
  have hcut := fun (p : Nat) (hp : p < (encL f).length) => cut f h0 p hp
  have HC : Hid (∀ p, p < (encL f).length → ∀ wx, Calls Try.prog 19 #[.string ((⟨(encL f).toArray⟩ : ByteArray).extract 0 p)] wx fun e w' => ∃ v', e = .returned (.tuple #[v', .int .i64 1]) ∧ (∃ g, FrmAt w' v' g) ∧ Below wx.heap.size wx w') := hid (fun p hp wx => by
    have e : (⟨(encL f).toArray⟩ : ByteArray).extract 0 p = ⟨((encL f).take p).toArray⟩ := by rw [ByteArray.extract_mk]; simp
    rw [e]
    refine (decode_any ((encL f).take p) wx).mono ?_
    rintro e w' ⟨v', rfl, h1, h2⟩
    rw [cut f h0 p hp]
    exact ⟨v', rfl, ⟨_, h1⟩, h2⟩)
  clear hD hcut
  have hsz := enc_short h0
  have hpos := enc_pos f
  rw [hE, h0] at henc
  have hnil : (encL f).isEmpty = false := by cases h : encL f with
    | nil => rw [h] at hpos; simp at hpos
    | cons a r => rfl
  clear hE h0
  generalize encL f = x at *
  have hne : ((0 : Int) != 0) = false := rfl
  go_enter Try.func7, Try.ntmps7
  go_wp2_with fail
  refine (henc _ (below_box _ _)).mono ?_
  rintro e w1 ⟨rfl, hw1⟩
  have hb1 := below_then (below_box _ _) hw1
  clear hw1 henc
  go_wp2_with fail
  refine (kcodes_any _).mono ?_
  rintro e w2 ⟨rfl, hw2⟩
  have hb2 := below_then hb1 hw2
  clear hw2
  go_wp2_with fail
  refine (kpick_any at' (x.length : Int) _ (by omega) (by omega)).mono ?_
  rintro e w3 ⟨p, rfl, hp, rfl⟩
  have hp2 : p < x.length := by omega
  go_wp2_with fail
  refine (HC.out p hp2 _).mono ?_
  rintro e w4 ⟨v4, rfl, ⟨g, hf4⟩, hw4⟩
  obtain ⟨vl2, vg2, vc2, rfl, ⟨pl2, cl2, rfl, _⟩, ⟨pg2, cg2, rfl, _⟩, ⟨pc2, cc2, rfl, _⟩⟩ := hf4
  unfold frmV
  go_wp2
  go_ret
  exact ⟨ret_bool (by simp), below_then hb2 (below_then hw4 (below_box _ _))⟩
end Go.Proofs.Ytaeikpiinpmecab
