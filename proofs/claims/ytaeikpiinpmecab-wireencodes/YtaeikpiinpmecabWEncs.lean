/- For every frame WireEncodes answers true. -/
import Derived.Test.YtaeikpiinpmecabWCopyF
import Derived.Test.YtaeikpiinpmecabWRefE
import Derived.Test.YtaeikpiinpmecabWSameF
namespace Go.Proofs.Ytaeikpiinpmecab
open Go.RowKit Go.Proofs.Parclose

theorem lcodes_any (w : World) : Calls Try.prog 18 #[] w fun e w' => e = .returned (.bool true) ∧ Below w.heap.size w w' := by
  have henc := fun wx => encode_any _ codeF wx (codeF_at wx)
  have hl : (encE codeF).length = 9 := by unfold encE; rw [if_pos codeF_good]; rfl
  rw [codeF_good] at henc
  generalize encE codeF = x at *
  go_enter Try.func18, Try.ntmps18
  go_wp2_with (go_at_call 8; refine (henc _).mono ?_; rintro e w1 ⟨rfl, hw1⟩)
  go_ret
  exact ⟨ret_bool (by simp), hw1⟩

theorem below_drewd {w w' : World} (h : Below w.heap.size w w') : Below w.heap.size w w'.drew := h.drew

set_option maxHeartbeats 3200000 in
theorem wireEncodes_any (v : Value) (f : Frm) (w : World) (hv : FrmAt w v f) :
    Calls Try.prog 3 #[v] w fun e w' => e = .returned (.bool true) ∧ Below w.heap.size w w' := by
  have HV := hid hv
  obtain ⟨vl, vg, vc, rfl, hl, hg, hc⟩ := hv
  have hml := mal_of_frm hl hg
  obtain ⟨pl, cl, rfl, _⟩ := id hl
  obtain ⟨pg, cg, rfl, _⟩ := id hg
  obtain ⟨pc, cc, rfl, _, _, hcells⟩ := id hc
  have hcopy := fun wx (h : Below w.heap.size w wx) => rcopyFrame_any _ f wx (HV.out.below h)
  have hrenc := fun wx (h : Below w.heap.size w wx) => rencode_any _ f wx (HV.out.below h)
  have hrgood := fun wx (h : Below w.heap.size w wx) => rgoodFrame_any _ f wx (HV.out.below h)
  have hcopyM := fun wx (h : Below w.heap.size w wx) => rcopyMail_any _ f.mail wx (hml.below h)
  have hrgoodM := fun wx (h : Below w.heap.size w wx) => rgoodMail_any _ f.mail wx (hml.below h)
  unfold frmV at HV hcopy hrenc hrgood ⊢
  have hself : ∀ n : Int, (n != n) = false := fun n => by simp
  go_enter Try.func3, Try.ntmps3
  go_wp2_with fail
  refine (hcopy _ (below_box _ _)).mono ?_
  rintro e w1 ⟨v1, rfl, hf1, hw1⟩
  have HB1 := hid hw1
  have hb1 := below_then (below_box _ _) hw1
  clear hw1
  go_wp2_with fail
  refine (encode_any v1 f _ hf1).mono ?_
  rintro e w2 ⟨rfl, hw2⟩
  have HB2 := hid (below_then HB1.out hw2)
  have hb2 := below_then hb1 hw2
  clear hw2 hf1 HB1
  have c0 := box_cell HB2.out (by simp) 0
  have c1 := box_cell HB2.out (by simp) 1
  have c2 := box_cell HB2.out (by simp) 2
  have c3 := box_cell HB2.out (by simp) 3
  have c4 := box_cell HB2.out (by simp) 4
  have c5 := box_cell HB2.out (by simp) 5
  have c6 := box_cell HB2.out (by simp) 6
  have c7 := box_cell HB2.out (by simp) 7
  have c8 := box_cell HB2.out (by simp) 8
  have c9 := box_cell HB2.out (by simp) 9
  have c10 := box_cell HB2.out (by simp) 10
  go_wp2_with fail
  refine (hrenc _ hb2).mono ?_
  rintro e w3 ⟨rfl, hw3⟩
  have HB3 := hid (below_then HB2.out hw3)
  have hb3 := below_then hb2 hw3
  clear hw3 HB2 c0 c1 c2 c3 c4 c5 c6 c7 c8 c9 c10 hb1 hb2
  have c0 := box_cell HB3.out (by simp) 0
  have c1 := box_cell HB3.out (by simp) 1
  have c2 := box_cell HB3.out (by simp) 2
  have c3 := box_cell HB3.out (by simp) 3
  have c4 := box_cell HB3.out (by simp) 4
  have c5 := box_cell HB3.out (by simp) 5
  have c6 := box_cell HB3.out (by simp) 6
  have c7 := box_cell HB3.out (by simp) 7
  have c8 := box_cell HB3.out (by simp) 8
  have c9 := box_cell HB3.out (by simp) 9
  have c10 := box_cell HB3.out (by simp) 10
  generalize encE f = x at *
  generalize hfe : frameE f = fe at *
  generalize hme : mailE f.mail = me at *
  go_wp2
  go_region_held3 (fun w' => w'.cell? ⟨w.heap.size, 0, none⟩ = some (.int .i64 f.fr) ∧ w'.cell? ⟨w.heap.size, 1, none⟩ = some (.int .i64 f.to) ∧ w'.cell? ⟨w.heap.size, 2, none⟩ = some (.int .i64 f.seq) ∧ w'.cell? ⟨w.heap.size, 3, none⟩ = some (.bool f.ack) ∧ w'.cell? ⟨w.heap.size, 4, none⟩ = some (.int .i64 f.thread) ∧ w'.cell? ⟨w.heap.size, 5, none⟩ = some (.int .i64 f.mail.host) ∧ w'.cell? ⟨w.heap.size, 6, none⟩ = some (.int .i64 f.mail.thread) ∧ w'.cell? ⟨w.heap.size, 7, none⟩ = some (.slice pl f.mail.label.length cl) ∧ w'.cell? ⟨w.heap.size, 8, none⟩ = some (.slice pg f.mail.grants.length cg) ∧ w'.cell? ⟨w.heap.size, 9, none⟩ = some (.string ⟨f.mail.text.toArray⟩) ∧ w'.cell? ⟨w.heap.size, 10, none⟩ = some (.slice pc f.certs.length cc)) (go_keep)
    (first
      | (go_at_call 15; refine (hrgoodM _ hb8).mono ?_; rintro e w9 ⟨rfl, hw⟩; have HB9 := hid (below_then HB8.out hw); have hb9 := below_then hb8 hw; have c0 := box_cell HB9.out (by simp) 0; have c1 := box_cell HB9.out (by simp) 1; have c2 := box_cell HB9.out (by simp) 2; have c3 := box_cell HB9.out (by simp) 3; have c4 := box_cell HB9.out (by simp) 4; have c5 := box_cell HB9.out (by simp) 5; have c6 := box_cell HB9.out (by simp) 6; have c7 := box_cell HB9.out (by simp) 7; have c8 := box_cell HB9.out (by simp) 8; have c9 := box_cell HB9.out (by simp) 9; have c10 := box_cell HB9.out (by simp) 10; clear hw)
      | (go_at_call 13; refine (goodMail_any v7 f.mail _ (hf7 _ (Since.refl _ _))).mono ?_; rintro e w8 ⟨rfl, hw⟩; have HB8 := hid (below_then HB7.out hw); have hb8 := below_then hb7 hw; have c0 := box_cell HB8.out (by simp) 0; have c1 := box_cell HB8.out (by simp) 1; have c2 := box_cell HB8.out (by simp) 2; have c3 := box_cell HB8.out (by simp) 3; have c4 := box_cell HB8.out (by simp) 4; have c5 := box_cell HB8.out (by simp) 5; have c6 := box_cell HB8.out (by simp) 6; have c7 := box_cell HB8.out (by simp) 7; have c8 := box_cell HB8.out (by simp) 8; have c9 := box_cell HB8.out (by simp) 9; have c10 := box_cell HB8.out (by simp) 10; clear hw)
      | (go_at_call 14; refine (hcopyM _ hb6).mono ?_; rintro e w7 ⟨v7, rfl, hf7, hw⟩; have HB7 := hid (below_then HB6.out hw); have hb7 := below_then hb6 hw; have c0 := box_cell HB7.out (by simp) 0; have c1 := box_cell HB7.out (by simp) 1; have c2 := box_cell HB7.out (by simp) 2; have c3 := box_cell HB7.out (by simp) 3; have c4 := box_cell HB7.out (by simp) 4; have c5 := box_cell HB7.out (by simp) 5; have c6 := box_cell HB7.out (by simp) 6; have c7 := box_cell HB7.out (by simp) 7; have c8 := box_cell HB7.out (by simp) 8; have c9 := box_cell HB7.out (by simp) 9; have c10 := box_cell HB7.out (by simp) 10; clear hw)
      | (go_at_call 12; refine (hrgood _ hb5).mono ?_; rintro e w6 ⟨rfl, hw⟩; have HB6 := hid (below_then HB5.out hw); have hb6 := below_then hb5 hw; have c0 := box_cell HB6.out (by simp) 0; have c1 := box_cell HB6.out (by simp) 1; have c2 := box_cell HB6.out (by simp) 2; have c3 := box_cell HB6.out (by simp) 3; have c4 := box_cell HB6.out (by simp) 4; have c5 := box_cell HB6.out (by simp) 5; have c6 := box_cell HB6.out (by simp) 6; have c7 := box_cell HB6.out (by simp) 7; have c8 := box_cell HB6.out (by simp) 8; have c9 := box_cell HB6.out (by simp) 9; have c10 := box_cell HB6.out (by simp) 10; clear hw)
      | (go_at_call 11; refine (wgood_any v4 f _ hf4).mono ?_; rintro e w5 ⟨rfl, hw⟩; have HB5 := hid (below_then HB4.out hw); have hb5 := below_then hb4 hw; have c0 := box_cell HB5.out (by simp) 0; have c1 := box_cell HB5.out (by simp) 1; have c2 := box_cell HB5.out (by simp) 2; have c3 := box_cell HB5.out (by simp) 3; have c4 := box_cell HB5.out (by simp) 4; have c5 := box_cell HB5.out (by simp) 5; have c6 := box_cell HB5.out (by simp) 6; have c7 := box_cell HB5.out (by simp) 7; have c8 := box_cell HB5.out (by simp) 8; have c9 := box_cell HB5.out (by simp) 9; have c10 := box_cell HB5.out (by simp) 10; clear hw)
      | (go_at_call 9; refine (hcopy _ (below_drewd hb3)).mono ?_; rintro e w4 ⟨v4, rfl, hf4, hwd⟩; have hw := below_undrew hwd; have HB4 := hid (below_then HB3.out hw); have hb4 := below_then hb3 hw; have c0 := box_cell HB4.out (by simp) 0; have c1 := box_cell HB4.out (by simp) 1; have c2 := box_cell HB4.out (by simp) 2; have c3 := box_cell HB4.out (by simp) 3; have c4 := box_cell HB4.out (by simp) 4; have c5 := box_cell HB4.out (by simp) 5; have c6 := box_cell HB4.out (by simp) 6; have c7 := box_cell HB4.out (by simp) 7; have c8 := box_cell HB4.out (by simp) 8; have c9 := box_cell HB4.out (by simp) 9; have c10 := box_cell HB4.out (by simp) 10; clear hw hwd))
  all_goals
    clear hcopy hrenc hrgood hcopyM hrgoodM hfe hme c0 c1 c2 c3 c4 c5 c6 c7 c8 c9 c10
    go_wp2
    go_loopw [7] (fun i wr => ∃ k : Nat, k ≤ f.certs.length ∧ i = .int .i64 k ∧ Below (w.alloc (.cells #[.int .i64 f.fr, .int .i64 f.to, .int .i64 f.seq, .bool f.ack, .int .i64 f.thread, .int .i64 f.mail.host, .int .i64 f.mail.thread, .slice pl f.mail.label.length cl, .slice pg f.mail.grants.length cg, .string ⟨f.mail.text.toArray⟩, .slice pc f.certs.length cc] 29)).heap.size (w.alloc (.cells #[.int .i64 f.fr, .int .i64 f.to, .int .i64 f.seq, .bool f.ack, .int .i64 f.thread, .int .i64 f.mail.host, .int .i64 f.mail.thread, .slice pl f.mail.label.length cl, .slice pg f.mail.grants.length cg, .string ⟨f.mail.text.toArray⟩, .slice pc f.certs.length cc] 29)) wr) (fun i _ => f.certs.length - (intOf i).toNat)
    case atStart => exact ⟨0, Nat.zero_le _, rfl, HB9.out⟩
    case round =>
      clear hb3 hb4 hb5 hb6 hb7 hb8 hb9
      obtain ⟨k, hk, rfl, hB⟩ := hrel
      have z10 := box_cell hB (by simp) 10
      have hbw := below_then (below_box w _) hB
      by_cases hlt : k < f.certs.length
      · obtain ⟨b, o, rfl, hcl⟩ := hcells (by omega)
        obtain ⟨y1, y2, y3, y4⟩ := hcl.below hbw k hlt
        have hI : (k : Int) < (f.certs.length : Int) := by omega
        have hI0 : (0 : Int) ≤ (k : Int) := by omega
        have hgc := fun wx => goodCert_any f.certs[k] wx
        have hrc := fun wx => rgoodCert_any f.certs[k] wx
        unfold crtV at hgc hrc
        have HB := hid hB
        have HCL := hid hcl
        have hbb : ∀ x : Bool, (x != x) = false := fun x => by simp
        clear hcells hB hcl
        go_wp2
        go_region_held3 (fun w' => w'.cell? ⟨w.heap.size, 10, none⟩ = some (.slice (some ⟨b, o, none⟩) f.certs.length cc) ∧ w'.cell? ⟨b, o + k * 4, none⟩ = some (.int .i64 f.certs[k].c) ∧ w'.cell? ⟨b, o + k * 4 + 1, none⟩ = some (.int .i64 f.certs[k].b) ∧ w'.cell? ⟨b, o + k * 4 + 2, none⟩ = some (.int .i64 f.certs[k].h) ∧ w'.cell? ⟨b, o + k * 4 + 3, none⟩ = some (.int .i64 f.certs[k].u)) (go_keep)
          (first
            | (go_at_call 17; refine (hrc _).mono ?_; rintro e wB ⟨rfl, hw⟩; have HBB := hid (below_then HBA.out hw); have z10 := box_cell HBB.out (by simp) 10; have y := HCL.out.below (below_then (below_box w _) HBB.out) k hlt; have y1 := y.1; have y2 := y.2.1; have y3 := y.2.2.1; have y4 := y.2.2.2; clear y hw)
            | (go_at_call 16; refine (hgc _).mono ?_; rintro e wA ⟨rfl, hwd⟩; have hw := below_undrew hwd; have HBA := hid (below_then HB.out hw); have z10 := box_cell HBA.out (by simp) 10; have y := HCL.out.below (below_then (below_box w _) HBA.out) k hlt; have y1 := y.1; have y2 := y.2.1; have y3 := y.2.2.1; have y4 := y.2.2.2; clear y hw hwd))
        all_goals
          go_wp2
          go_roundw
          case rel => exact ⟨k + 1, hlt, by go_num, HBB.out⟩
          case measure => simp [intOf]; omega
      · go_wp2_with (go_at_call 18; refine (lcodes_any _).mono ?_; rintro e wC ⟨rfl, hwC⟩)
        go_ret
        exact ⟨rfl, below_then hbw hwC⟩
end Go.Proofs.Ytaeikpiinpmecab
