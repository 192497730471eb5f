/- The reference: EncodeFrame answers the bytes of a good frame, and the errors number of another one. -/
import Derived.Test.YtaeikpiinpmecabWRefB
import Derived.Test.YtaeikpiinpmecabWPutM
import Derived.Deep.RegionHeld3
import Derived.Deep.RegionWith
namespace Go.Proofs.Ytaeikpiinpmecab
open Go.RowKit Go.Proofs.Parclose

theorem below_undrew {w w' : World} (h : Below w.drew.heap.size w.drew w') : Below w.heap.size w w' := ⟨h.os, h.tape, h.output, h.size, h.block⟩

set_option maxHeartbeats 3200000 in
theorem rencode_any (v : Value) (f : Frm) (w : World) (hv : FrmAt w v f) :
    Calls Try.prog 10 #[v] w fun e w' => e = .returned (.tuple #[.string ⟨(encE f).toArray⟩, .int .i64 (frameE f)]) ∧ Below w.heap.size w w' := by
  have hv0 := hv
  obtain ⟨vl, vg, vc, rfl, hl, hg, hc⟩ := hv
  obtain ⟨pl, cl, rfl, _⟩ := id hl
  obtain ⟨pg, cg, rfl, _⟩ := id hg
  obtain ⟨pc, cc, rfl, _⟩ := id hc
  have hgood := fun wx (h : Below w.heap.size w wx) => rgoodFrame_any _ f wx (hv0.below h)
  unfold frmV at hgood ⊢
  clear hv0
  by_cases h0 : frameE f = 0
  rotate_left
  · have HE : Hid (encE f = []) := hid (by unfold encE; rw [if_neg h0])
    have hne : (frameE f != 0) = true := by simpa using h0
    clear h0
    go_enter Try.func10, Try.ntmps10
    go_wp2_with (go_at_call 12; refine (hgood _ (below_box _ _)).mono ?_; rintro e w1 ⟨rfl, hw1⟩)
    go_ret2
    exact ⟨by rw [HE.out]; rfl, below_then (below_box _ _) hw1⟩
  have hne : (frameE f != 0) = false := by simpa using h0
  have hencE : encE f = encL f := by unfold encE; rw [if_pos h0]
  have HF : Hid (frameE f = 0) := h0
  have hencL : encL f = if f.ack then headL 1 f else headL 0 f ++ [byteL f.thread] ++ mailL f.mail ++ certsL f.certs := rfl
  have hhb : headB f = true := by
    unfold frameE at h0
    split at h0
    · assumption
    · simp at h0
  obtain ⟨b1, b2, _, _, b5, b6⟩ := (headB_iff f).1 hhb
  have r1 : 0 ≤ f.fr ∧ f.fr < 4611686018427387904 := by omega
  have r2 : 0 ≤ f.to ∧ f.to < 4611686018427387904 := by omega
  have r3 : 0 ≤ f.seq ∧ f.seq < 4611686018427387904 := by omega
  have r4 : 0 ≤ f.thread ∧ f.thread < 4611686018427387904 := by omega
  have hjoin := str_join
  have htl : ∀ n : Int, (timeL n).length = 6 := fun _ => rfl
  cases ha : f.ack with
  | true =>
    have HE : Hid (encE f = headL 1 f) := hid (by rw [hencE, hencL, ha]; rfl)
    have HHD : Hid (headL 1 f = 1 :: (byteL f.fr :: byteL f.to :: timeL f.seq)) := hid (by simp [headL]; rfl)
    clear h0 hencE hencL hhb b1 b2 b5 b6
    rw [ha] at hgood
    go_enter Try.func10, Try.ntmps10
    go_wp2_with (go_at_call 12; refine (hgood _ (below_box _ _)).mono ?_; rintro e w1 ⟨rfl, hw1⟩; have HB1 := hid hw1; have c0 := box_cell hw1 (by simp) 0; have c1 := box_cell hw1 (by simp) 1; have c2 := box_cell hw1 (by simp) 2; have c3 := box_cell hw1 (by simp) 3; have hb1 := below_then (below_box _ _) hw1; clear hw1)
    go_region_held3 (fun w' => w'.cell? ⟨w.heap.size, 0, none⟩ = some (.int .i64 f.fr) ∧ w'.cell? ⟨w.heap.size, 1, none⟩ = some (.int .i64 f.to) ∧ w'.cell? ⟨w.heap.size, 2, none⟩ = some (.int .i64 f.seq) ∧ w'.cell? ⟨w.heap.size, 3, none⟩ = some (.bool true)) (go_keep)
      (first
        | (go_at_call_of 29 (Value.int IntKind.i64 f.seq); refine (rbytes6 f.seq _ r3).mono ?_; rintro e w4 ⟨rfl, hw4⟩; have HB4 := hid (below_then HB3.out hw4); have d0 := box_cell HB4.out (by simp) 0; have d1 := box_cell HB4.out (by simp) 1; have d2 := box_cell HB4.out (by simp) 2; have d3 := box_cell HB4.out (by simp) 3; have hb4 := below_then hb3 hw4; clear hw4)
        | (go_at_call_of 29 (Value.int IntKind.i64 f.to); refine (rbytes1 f.to _ r2).mono ?_; rintro e w3 ⟨rfl, hw3⟩; have HB3 := hid (below_then HB2.out hw3); have d0 := box_cell HB3.out (by simp) 0; have d1 := box_cell HB3.out (by simp) 1; have d2 := box_cell HB3.out (by simp) 2; have d3 := box_cell HB3.out (by simp) 3; have hb3 := below_then hb2 hw3; clear hw3)
        | (go_at_call_of 29 (Value.int IntKind.i64 f.fr); refine (rbytes1 f.fr _ r1).mono ?_; rintro e w2 ⟨rfl, hw2d⟩; have hw2 := below_undrew hw2d; have HB2 := hid (below_then HB1.out hw2); have d0 := box_cell HB2.out (by simp) 0; have d1 := box_cell HB2.out (by simp) 1; have d2 := box_cell HB2.out (by simp) 2; have d3 := box_cell HB2.out (by simp) 3; have hb2 := below_then hb1 hw2; clear hw2 hw2d))
    all_goals
      go_wp2
      go_ret2
      refine ⟨?_, hb4⟩
      show Ending.returned (.tuple #[.string ⟨(1 :: byteL f.fr :: byteL f.to :: timeL f.seq).toArray⟩, .int .i64 0]) = _
      rw [HE.out, HF.out, HHD.out]
  | false =>
    have HE : Hid (encE f = headL 0 f ++ [byteL f.thread] ++ mailL f.mail ++ certsL f.certs) := hid (by rw [hencE, hencL, ha]; rfl)
    obtain ⟨hld, hhost, hcs⟩ := loadE_zero (f := f) (by
      unfold frameE at h0
      split at h0
      · rw [ha] at h0; exact h0
      · rename_i hx
        exact absurd hhb hx)
    obtain ⟨_, bm, hgl, hgg, htx⟩ := mailE_zero hld
    obtain ⟨hl8, hlv, _⟩ := of_decide_eq_true hgl
    obtain ⟨hg8, hgv, _⟩ := (grantsB_iff _).1 hgg
    obtain ⟨hc24, hcv⟩ := certsE_zero hcs
    have r6 : 0 ≤ f.mail.thread ∧ f.mail.thread < 4611686018427387904 := by omega
    have r7 : 0 ≤ (f.mail.label.length : Int) ∧ (f.mail.label.length : Int) < 4611686018427387904 := by omega
    have r8 : 0 ≤ (f.mail.grants.length : Int) ∧ (f.mail.grants.length : Int) < 4611686018427387904 := by omega
    have r9 : 0 ≤ (f.mail.text.length : Int) ∧ (f.mail.text.length : Int) < 4611686018427387904 := by omega
    have r10 : 0 ≤ (f.certs.length : Int) ∧ (f.certs.length : Int) < 4611686018427387904 := by omega
    have HLV := hid hlv
    have HGV := hid hgv
    have HCV := hid hcv
    have HP : Hid (encE f = certsTo (levTo (0 :: byteL f.fr :: byteL f.to :: (timeL f.seq ++ [byteL f.thread, byteL f.mail.thread, byteL (f.mail.label.length : Int)])) f.mail.label f.mail.label.length ++ [byteL (f.mail.grants.length : Int)] ++ f.mail.grants.map byteL ++ ([byteL (f.mail.text.length : Int)] ++ f.mail.text)) f.certs f.certs.length) := hid (by
      rw [HE.out, levTo_all, certsTo_all]
      simp [headL, mailL]
      rfl)
    clear h0 hencE hencL hhb b1 b2 b5 b6 hld hhost hcs hgl hgg hlv hgv hcv bm HE
    rw [ha] at hgood
    go_enter Try.func10, Try.ntmps10
    go_wp2_with (go_at_call 12; refine (hgood _ (below_box _ _)).mono ?_; rintro e w1 ⟨rfl, hw1⟩; have HB1 := hid hw1; have d0 := box_cell hw1 (by simp) 0; have d1 := box_cell hw1 (by simp) 1; have d2 := box_cell hw1 (by simp) 2; have d3 := box_cell hw1 (by simp) 3; have hb1 := below_then (below_box _ _) hw1; clear hw1)
    go_region_held3 (fun w' => w'.cell? ⟨w.heap.size, 0, none⟩ = some (.int .i64 f.fr) ∧ w'.cell? ⟨w.heap.size, 1, none⟩ = some (.int .i64 f.to) ∧ w'.cell? ⟨w.heap.size, 2, none⟩ = some (.int .i64 f.seq) ∧ w'.cell? ⟨w.heap.size, 3, none⟩ = some (.bool false)) (go_keep)
      (first
        | (go_at_call_of 29 (Value.int IntKind.i64 f.seq); refine (rbytes6 (f.seq) _ r3).mono ?_; rintro e w4 ⟨rfl, hw⟩; have HB4 := hid (below_then HB3.out hw); have d0 := box_cell HB4.out (by simp) 0; have d1 := box_cell HB4.out (by simp) 1; have d2 := box_cell HB4.out (by simp) 2; have d3 := box_cell HB4.out (by simp) 3; have hb4 := below_then hb3 hw; clear hw)
        | (go_at_call_of 29 (Value.int IntKind.i64 f.to); refine (rbytes1 (f.to) _ r2).mono ?_; rintro e w3 ⟨rfl, hw⟩; have HB3 := hid (below_then HB2.out hw); have d0 := box_cell HB3.out (by simp) 0; have d1 := box_cell HB3.out (by simp) 1; have d2 := box_cell HB3.out (by simp) 2; have d3 := box_cell HB3.out (by simp) 3; have hb3 := below_then hb2 hw; clear hw)
        | (go_at_call_of 29 (Value.int IntKind.i64 f.fr); refine (rbytes1 (f.fr) _ r1).mono ?_; rintro e w2 ⟨rfl, hwd⟩; have hw := below_undrew hwd; have HB2 := hid (below_then HB1.out hw); have d0 := box_cell HB2.out (by simp) 0; have d1 := box_cell HB2.out (by simp) 1; have d2 := box_cell HB2.out (by simp) 2; have d3 := box_cell HB2.out (by simp) 3; have hb2 := below_then hb1 hw; clear hw hwd))
    all_goals
      have d4 := box_cell HB4.out (by simp) 4
      have d6 := box_cell HB4.out (by simp) 6
      have d7 := box_cell HB4.out (by simp) 7
      clear hgood
      go_wp2
      go_region_held3 (fun w' => w'.cell? ⟨w.heap.size, 4, none⟩ = some (.int .i64 f.thread) ∧ w'.cell? ⟨w.heap.size, 6, none⟩ = some (.int .i64 f.mail.thread) ∧ w'.cell? ⟨w.heap.size, 7, none⟩ = some (.slice pl f.mail.label.length cl)) (go_keep)
        (first
          | (go_at_call_of 29 (Value.int IntKind.i64 (f.mail.label.length : Int)); refine (rbytes1 ((f.mail.label.length : Int)) _ r7).mono ?_; rintro e w7 ⟨rfl, hw⟩; have HB7 := hid (below_then HB6.out hw); have d4 := box_cell HB7.out (by simp) 4; have d6 := box_cell HB7.out (by simp) 6; have d7 := box_cell HB7.out (by simp) 7; have hb7 := below_then hb6 hw; clear hw)
          | (go_at_call_of 29 (Value.int IntKind.i64 f.mail.thread); refine (rbytes1 (f.mail.thread) _ r6).mono ?_; rintro e w6 ⟨rfl, hw⟩; have HB6 := hid (below_then HB5.out hw); have d4 := box_cell HB6.out (by simp) 4; have d6 := box_cell HB6.out (by simp) 6; have d7 := box_cell HB6.out (by simp) 7; have hb6 := below_then hb5 hw; clear hw)
          | (go_at_call_of 29 (Value.int IntKind.i64 f.thread); refine (rbytes1 (f.thread) _ r4).mono ?_; rintro e w5 ⟨rfl, hwd⟩; have hw := below_undrew hwd; have HB5 := hid (below_then HB4.out hw); have d4 := box_cell HB5.out (by simp) 4; have d6 := box_cell HB5.out (by simp) 6; have d7 := box_cell HB5.out (by simp) 7; have hb5 := below_then hb4 hw; clear hw hwd))
    all_goals
      go_wp2
      go_loopw [6, 54] (fun s i wr => ∃ k : Nat, k ≤ f.mail.label.length ∧ i = .int .i64 k ∧ s = .string ⟨(levTo (0 :: byteL f.fr :: byteL f.to :: (timeL f.seq ++ [byteL f.thread, byteL f.mail.thread, byteL (f.mail.label.length : Int)])) f.mail.label k).toArray⟩ ∧ Below (w.alloc (.cells #[.int .i64 f.fr, .int .i64 f.to, .int .i64 f.seq, .bool false, .int .i64 f.thread, .int .i64 f.mail.host, .int .i64 f.mail.thread, .slice pl f.mail.label.length cl, .slice pg f.mail.grants.length cg, .string ⟨f.mail.text.toArray⟩, .slice pc f.certs.length cc] 29)).heap.size (w.alloc (.cells #[.int .i64 f.fr, .int .i64 f.to, .int .i64 f.seq, .bool false, .int .i64 f.thread, .int .i64 f.mail.host, .int .i64 f.mail.thread, .slice pl f.mail.label.length cl, .slice pg f.mail.grants.length cg, .string ⟨f.mail.text.toArray⟩, .slice pc f.certs.length cc] 29)) wr) (fun _ i _ => f.mail.label.length - (intOf i).toNat)
      case atStart => exact ⟨0, Nat.zero_le _, rfl, by rw [levTo_zero], HB7.out⟩
      case round =>
        clear hb1 hb2 hb3 hb4 hb5 hb6 hb7 d0 d1 d2 d3 d4 d6 d7
        obtain ⟨k, hk, rfl, rfl, hB⟩ := hrel
        have hbw := below_then (below_box w _) hB
        have hlen : (levTo (0 :: byteL f.fr :: byteL f.to :: (timeL f.seq ++ [byteL f.thread, byteL f.mail.thread, byteL (f.mail.label.length : Int)])) f.mail.label k).length ≤ 100 := by have := levTo_length (0 :: byteL f.fr :: byteL f.to :: (timeL f.seq ++ [byteL f.thread, byteL f.mail.thread, byteL (f.mail.label.length : Int)])) f.mail.label k; simp [htl] at this; omega
        by_cases hlt : k < f.mail.label.length
        · obtain ⟨b, o, rfl, hcl⟩ := (hl.below hbw).cells (by omega)
          obtain ⟨g1, g2⟩ := hcl k hlt
          obtain ⟨v1, v2, v3, v4, _⟩ := HLV.out f.mail.label[k] (List.getElem_mem hlt)
          have q1 : 0 ≤ f.mail.label[k].1 ∧ f.mail.label[k].1 < 4611686018427387904 := by omega
          have q2 : 0 ≤ f.mail.label[k].2 ∧ f.mail.label[k].2 < 4611686018427387904 := by omega
          have HS := hid (levTo_succ (0 :: byteL f.fr :: byteL f.to :: (timeL f.seq ++ [byteL f.thread, byteL f.mail.thread, byteL (f.mail.label.length : Int)])) f.mail.label k hlt)
          have HB := hid hB
          clear hcl hB v1 v2 v3 v4
          generalize hout : levTo (0 :: byteL f.fr :: byteL f.to :: (timeL f.seq ++ [byteL f.thread, byteL f.mail.thread, byteL (f.mail.label.length : Int)])) f.mail.label k = out at *
          generalize hx1 : f.mail.label[k].1 = x1 at *
          generalize hx2 : f.mail.label[k].2 = x2 at *
          have HO := hid hout
          clear hout hx1 hx2
          have s1 : ¬ (9223372036854775807 < out.length + 2) := by omega
          have s2 : ¬ (9223372036854775807 < out.length + (1 + 1)) := by omega
          go_wp2
          have HB8 := hid (Below.refl (wr.alloc (.cells #[.int .i64 x1, .int .i64 x2] 55)).heap.size (wr.alloc (.cells #[.int .i64 x1, .int .i64 x2] 55)))
          go_region_held3 (fun w' => w'.cell? ⟨wr.heap.size, 0, none⟩ = some (.int .i64 x1) ∧ w'.cell? ⟨wr.heap.size, 1, none⟩ = some (.int .i64 x2)) (go_keep)
            (first
              | (go_at_call_of 29 (Value.int IntKind.i64 x2); refine (rbytes1 (x2) _ q2).mono ?_; rintro e w10 ⟨rfl, hw⟩; have HB10 := hid (below_then HB9.out hw); have e0 := box_cell HB10.out (by simp) 0; have e1 := box_cell HB10.out (by simp) 1; clear hw)
              | (go_at_call_of 29 (Value.int IntKind.i64 x1); refine (rbytes1 (x1) _ q1).mono ?_; rintro e w9 ⟨rfl, hwd⟩; have hw := below_undrew hwd; have HB9 := hid (below_then HB8.out hw); have e0 := box_cell HB9.out (by simp) 0; have e1 := box_cell HB9.out (by simp) 1; clear hw hwd))
          all_goals
            have hB10 := below_then HB.out (below_then (below_box wr _) HB10.out)
            go_wp2
            go_roundw
            case rel =>
              refine ⟨k + 1, hlt, by go_num, ?_, hB10⟩
              rw [HS.out]
              simp
            case measure => simp [intOf]; omega
        · have hkl : k = f.mail.label.length := by omega
          subst hkl
          generalize hout : levTo (0 :: byteL f.fr :: byteL f.to :: (timeL f.seq ++ [byteL f.thread, byteL f.mail.thread, byteL (f.mail.label.length : Int)])) f.mail.label f.mail.label.length = out at *
          have HP2 : Hid (encE f = certsTo (out ++ [byteL (f.mail.grants.length : Int)] ++ f.mail.grants.map byteL ++ ([byteL (f.mail.text.length : Int)] ++ f.mail.text)) f.certs f.certs.length) := HP.out
          have HB := hid hB
          have e8 := box_cell hB (by simp) 8
          clear hout HP hB hbw hk hlt
          go_wp2_with fail
          refine (rbytes1 _ _ r8).mono ?_
          rintro e w9 ⟨rfl, hw9⟩
          have HB9 := hid (below_then HB.out hw9)
          have e8b := box_cell HB9.out (by simp) 8
          clear hw9 e8
          go_wp2
          go_loopw [6, 79] (fun s i wr => ∃ k : Nat, k ≤ f.mail.grants.length ∧ i = .int .i64 k ∧ s = .string ⟨(bytesTo (out ++ [byteL (f.mail.grants.length : Int)]) f.mail.grants k).toArray⟩ ∧ Below (w.alloc (.cells #[.int .i64 f.fr, .int .i64 f.to, .int .i64 f.seq, .bool false, .int .i64 f.thread, .int .i64 f.mail.host, .int .i64 f.mail.thread, .slice pl f.mail.label.length cl, .slice pg f.mail.grants.length cg, .string ⟨f.mail.text.toArray⟩, .slice pc f.certs.length cc] 29)).heap.size (w.alloc (.cells #[.int .i64 f.fr, .int .i64 f.to, .int .i64 f.seq, .bool false, .int .i64 f.thread, .int .i64 f.mail.host, .int .i64 f.mail.thread, .slice pl f.mail.label.length cl, .slice pg f.mail.grants.length cg, .string ⟨f.mail.text.toArray⟩, .slice pc f.certs.length cc] 29)) wr) (fun _ i _ => f.mail.grants.length - (intOf i).toNat)
          case atStart => exact ⟨0, Nat.zero_le _, rfl, by rw [bytesTo_zero], HB9.out⟩
          case round =>
            clear e8b
            obtain ⟨k, hk, rfl, rfl, hB⟩ := hrel
            have hbw := below_then (below_box w _) hB
            have hlen2 : (bytesTo (out ++ [byteL (f.mail.grants.length : Int)]) f.mail.grants k).length ≤ 200 := by have := bytesTo_length (out ++ [byteL (f.mail.grants.length : Int)]) f.mail.grants k; simp at this; omega
            by_cases hlt : k < f.mail.grants.length
            · obtain ⟨b, o, rfl, hcl⟩ := (hg.below hbw).cells (by omega)
              have g1 := hcl k hlt
              obtain ⟨v1, v2⟩ := HGV.out f.mail.grants[k] (List.getElem_mem hlt)
              have q1 : 0 ≤ f.mail.grants[k] ∧ f.mail.grants[k] < 4611686018427387904 := by omega
              have HS := hid (bytesTo_succ (out ++ [byteL (f.mail.grants.length : Int)]) f.mail.grants k hlt)
              have HBk := hid hB
              clear hcl hB v1 v2 hbw
              generalize hout2 : bytesTo (out ++ [byteL (f.mail.grants.length : Int)]) f.mail.grants k = out2 at *
              generalize f.mail.grants[k] = x1 at *
              clear hout2
              go_wp2_with fail
              refine (rbytes1 _ _ q1).mono ?_
              rintro e w10 ⟨rfl, hw10⟩
              have hB10 := below_then HBk.out hw10
              clear hw10
              go_wp2
              go_roundw
              case rel =>
                refine ⟨k + 1, hlt, by go_num, ?_, hB10⟩
                rw [HS.out]
              case measure => simp [intOf]; omega
            · have hkl : k = f.mail.grants.length := by omega
              subst hkl
              have HP3 : Hid (encE f = certsTo (bytesTo (out ++ [byteL (f.mail.grants.length : Int)]) f.mail.grants f.mail.grants.length ++ ([byteL (f.mail.text.length : Int)] ++ f.mail.text)) f.certs f.certs.length) := hid (by rw [bytesTo_all]; exact HP2.out)
              generalize bytesTo (out ++ [byteL (f.mail.grants.length : Int)]) f.mail.grants f.mail.grants.length = out2 at *
              have HB11 := hid hB
              have e9 := box_cell hB (by simp) 9
              have e10 := box_cell hB (by simp) 10
              clear HP2 hB hbw hk hlt
              have s1 : ¬ (9223372036854775807 < 1 + f.mail.text.length) := by omega
              have s2 : ¬ (9223372036854775807 < f.mail.text.length + 1) := by omega
              have s3 : ¬ (9223372036854775807 < f.mail.text.length + 1 + 1) := by omega
              have s4 : ¬ (9223372036854775807 < f.mail.text.length + 2) := by omega
              have s5 : ¬ (9223372036854775807 < out2.length + (f.mail.text.length + 1 + 1)) := by omega
              have s6 : ¬ (9223372036854775807 < out2.length + (f.mail.text.length + 2)) := by omega
              have s7 : ¬ (9223372036854775807 < 1 + f.mail.text.length + 1) := by omega
              go_wp2
              go_region_held3 (fun w' => w'.cell? ⟨w.heap.size, 9, none⟩ = some (.string ⟨f.mail.text.toArray⟩) ∧ w'.cell? ⟨w.heap.size, 10, none⟩ = some (.slice pc f.certs.length cc)) (go_keep)
                (first
                  | (go_at_call_of 29 (Value.int IntKind.i64 (f.certs.length : Int)); refine (rbytes1 ((f.certs.length : Int)) _ r10).mono ?_; rintro e w13 ⟨rfl, hw⟩; have HB13 := hid (below_then HB12.out hw); have d9 := box_cell HB13.out (by simp) 9; have d10 := box_cell HB13.out (by simp) 10; clear hw)
                  | (go_at_call_of 29 (Value.int IntKind.i64 (f.mail.text.length : Int)); refine (rbytes1 ((f.mail.text.length : Int)) _ r9).mono ?_; rintro e w12 ⟨rfl, hwd⟩; have hw := below_undrew hwd; have HB12 := hid (below_then HB11.out hw); have d9 := box_cell HB12.out (by simp) 9; have d10 := box_cell HB12.out (by simp) 10; clear hw hwd))
              all_goals
                clear s1 s2 s3 s4 s5 s6 s7 e9 e10
                go_wp2
                go_loopw [6, 107] (fun s i wr => ∃ k : Nat, k ≤ f.certs.length ∧ i = .int .i64 k ∧ s = .string ⟨(certsTo (out2 ++ ([byteL (f.mail.text.length : Int)] ++ f.mail.text)) f.certs k).toArray⟩ ∧ Below (w.alloc (.cells #[.int .i64 f.fr, .int .i64 f.to, .int .i64 f.seq, .bool false, .int .i64 f.thread, .int .i64 f.mail.host, .int .i64 f.mail.thread, .slice pl f.mail.label.length cl, .slice pg f.mail.grants.length cg, .string ⟨f.mail.text.toArray⟩, .slice pc f.certs.length cc] 29)).heap.size (w.alloc (.cells #[.int .i64 f.fr, .int .i64 f.to, .int .i64 f.seq, .bool false, .int .i64 f.thread, .int .i64 f.mail.host, .int .i64 f.mail.thread, .slice pl f.mail.label.length cl, .slice pg f.mail.grants.length cg, .string ⟨f.mail.text.toArray⟩, .slice pc f.certs.length cc] 29)) wr) (fun _ i _ => f.certs.length - (intOf i).toNat)
                case atStart => exact ⟨0, Nat.zero_le _, rfl, by rw [certsTo_zero]; simp, HB13.out⟩
                case round =>
                  clear d9 d10
                  obtain ⟨k, hk, rfl, rfl, hB⟩ := hrel
                  have hbw := below_then (below_box w _) hB
                  have hlen3 : (certsTo (out2 ++ ([byteL (f.mail.text.length : Int)] ++ f.mail.text)) f.certs k).length ≤ 600 := by have := certsTo_length (out2 ++ ([byteL (f.mail.text.length : Int)] ++ f.mail.text)) f.certs k; simp only [List.length_append, List.length_cons, List.length_nil] at this; omega
                  by_cases hlt : k < f.certs.length
                  · obtain ⟨b, o, rfl, hcl⟩ := (hc.below hbw).cells (by omega)
                    obtain ⟨g1, g2, g3, g4⟩ := hcl k hlt
                    obtain ⟨v1, v2, v3, _, v5⟩ := (certB_iff _).1 (HCV.out f.certs[k] (List.getElem_mem hlt))
                    have q1 : 0 ≤ f.certs[k].c ∧ f.certs[k].c < 4611686018427387904 := by omega
                    have q2 : 0 ≤ f.certs[k].b ∧ f.certs[k].b < 4611686018427387904 := by omega
                    have q3 : 0 ≤ f.certs[k].h ∧ f.certs[k].h < 4611686018427387904 := by omega
                    have q4 : 0 ≤ f.certs[k].u ∧ f.certs[k].u < 4611686018427387904 := by omega
                    have HS := hid (certsTo_succ (out2 ++ ([byteL (f.mail.text.length : Int)] ++ f.mail.text)) f.certs k hlt)
                    have HB := hid hB
                    clear hcl hB v1 v2 v3 v5
                    generalize hout3 : certsTo (out2 ++ ([byteL (f.mail.text.length : Int)] ++ f.mail.text)) f.certs k = out3 at *
                    generalize f.certs[k].c = x1 at *
                    generalize f.certs[k].b = x2 at *
                    generalize f.certs[k].h = x3 at *
                    generalize f.certs[k].u = x4 at *
                    clear hout3
                    have s1 : ¬ (9223372036854775807 < out3.length + 9) := by omega
                    go_wp2
                    have HB14 := hid (Below.refl (wr.alloc (.cells #[.int .i64 x1, .int .i64 x2, .int .i64 x3, .int .i64 x4] 39)).heap.size (wr.alloc (.cells #[.int .i64 x1, .int .i64 x2, .int .i64 x3, .int .i64 x4] 39)))
                    go_region_held3 (fun w' => w'.cell? ⟨wr.heap.size, 0, none⟩ = some (.int .i64 x1) ∧ w'.cell? ⟨wr.heap.size, 1, none⟩ = some (.int .i64 x2) ∧ w'.cell? ⟨wr.heap.size, 2, none⟩ = some (.int .i64 x3) ∧ w'.cell? ⟨wr.heap.size, 3, none⟩ = some (.int .i64 x4)) (go_keep)
                      (first
                        | (go_at_call_of 29 (Value.int IntKind.i64 x4); refine (rbytes6 (x4) _ q4).mono ?_; rintro e w18 ⟨rfl, hw⟩; have HB18 := hid (below_then HB17.out hw); have e0 := box_cell HB18.out (by simp) 0; have e1 := box_cell HB18.out (by simp) 1; have e2 := box_cell HB18.out (by simp) 2; have e3 := box_cell HB18.out (by simp) 3; clear hw)
                        | (go_at_call_of 29 (Value.int IntKind.i64 x3); refine (rbytes1 (x3) _ q3).mono ?_; rintro e w17 ⟨rfl, hw⟩; have HB17 := hid (below_then HB16.out hw); have e0 := box_cell HB17.out (by simp) 0; have e1 := box_cell HB17.out (by simp) 1; have e2 := box_cell HB17.out (by simp) 2; have e3 := box_cell HB17.out (by simp) 3; clear hw)
                        | (go_at_call_of 29 (Value.int IntKind.i64 x2); refine (rbytes1 (x2) _ q2).mono ?_; rintro e w16 ⟨rfl, hw⟩; have HB16 := hid (below_then HB15.out hw); have e0 := box_cell HB16.out (by simp) 0; have e1 := box_cell HB16.out (by simp) 1; have e2 := box_cell HB16.out (by simp) 2; have e3 := box_cell HB16.out (by simp) 3; clear hw)
                        | (go_at_call_of 29 (Value.int IntKind.i64 x1); refine (rbytes1 (x1) _ q1).mono ?_; rintro e w15 ⟨rfl, hwd⟩; have hw := below_undrew hwd; have HB15 := hid (below_then HB14.out hw); have e0 := box_cell HB15.out (by simp) 0; have e1 := box_cell HB15.out (by simp) 1; have e2 := box_cell HB15.out (by simp) 2; have e3 := box_cell HB15.out (by simp) 3; clear hw hwd))
                    all_goals
                      have hB18 := below_then HB.out (below_then (below_box wr _) HB18.out)
                      go_wp2
                      go_roundw
                      case rel =>
                        refine ⟨k + 1, hlt, by go_num, ?_, hB18⟩
                        rw [HS.out]
                        simp
                      case measure => simp [intOf]; omega
                  · have hkl : k = f.certs.length := by omega
                    subst hkl
                    have HX := hid (HP3.out)
                    generalize certsTo (out2 ++ ([byteL (f.mail.text.length : Int)] ++ f.mail.text)) f.certs f.certs.length = fin at *
                    clear HP3 hlen3
                    go_wp2
                    go_ret2
                    refine ⟨?_, hbw⟩
                    show Ending.returned (.tuple #[.string ⟨fin.toArray⟩, .int .i64 0]) = _
                    rw [HX.out, HF.out]
end Go.Proofs.Ytaeikpiinpmecab
