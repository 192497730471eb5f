/- For all bytes WireDecodes answers true. -/
import Derived.Test.YtagmnfghkfeplaaWDecD
import Derived.Test.YtagmnfghkfeplaaWSameR
namespace Go.Proofs.Ytagmnfghkfeplaa
open Go.RowKit Go.Proofs.Parclose

theorem lcodes_any (w : World) : Calls Try.prog 18 #[] w fun e w' => e = .returned (.bool true) ∧ Below w.heap.size w w' := by
  have henc := fun wx => encode_any _ codeF wx (codeF_at wx)
  have hl : (encE codeF).length = 9 := by unfold encE; rw [if_pos codeF_good]; rfl
  rw [codeF_good] at henc
  generalize encE codeF = x at *
  go_enter Try.func18, Try.ntmps18
  go_wp2_with (go_at_call 8; refine (henc _).mono ?_; rintro e w1 ⟨rfl, hw1⟩)
  go_ret
  exact ⟨ret_bool (by simp), hw1⟩
theorem rdecode_any (s : List UInt8) (w : World) : Calls Try.prog 20 #[.string ⟨s.toArray⟩] w fun e w' => ∃ v', e = .returned (.tuple #[v', .int .i64 (refDec s).2]) ∧ FrmAt w' v' (refDec s).1 ∧ Below w.heap.size w w' := by
  by_cases h9 : s.length < 9
  · exact rdecode_short s w h9
  · obtain ⟨a, b, c, y, r, rfl, hy⟩ := list9more h9
    by_cases h1 : 1 < a.toNat
    · exact rdecode_bad a b c y r hy h1 w
    · exact rdecode_go a b c y r hy (by omega) w

set_option maxRecDepth 100000 in
set_option maxHeartbeats 3200000 in
theorem wireDecodes_any (x : List UInt8) (w : World) : Calls Try.prog 4 #[.string ⟨x.toArray⟩] w fun e w' => e = .returned (.bool true) ∧ Below w.heap.size w w' := by
  obtain ⟨f, cd, hD⟩ : ∃ f cd, decL x = (f, cd) := ⟨_, _, rfl⟩
  have hdec := fun wx => decode_any x wx
  have href := fun wx => rdecode_any x wx
  rw [hD] at hdec
  rw [refDec_eq, hD] at href
  simp only at hdec href
  have HDEC := hid hdec
  have HREF := hid href
  clear hdec href hD
  go_enter Try.func4, Try.ntmps4
  go_wp2_with fail
  refine (HDEC.out _).mono ?_
  rintro e w1 ⟨v1, rfl, hf1, hw1⟩
  have HF1 := hid hf1
  obtain ⟨vl, vg, vc, rfl, ⟨pl, cl, rfl, _⟩, ⟨pg, cg, rfl, _⟩, ⟨pc, cc, rfl, _⟩⟩ := hf1
  unfold frmV at HF1
  unfold frmV
  go_wp2_with fail
  refine (HREF.out _).mono ?_
  rintro e w2 ⟨v2, rfl, hf2, hw2⟩
  have HF2 := hid hf2
  obtain ⟨vl', vg', vc', rfl, ⟨pl', cl', rfl, _⟩, ⟨pg', cg', rfl, _⟩, ⟨pc', cc', rfl, _⟩⟩ := hf2
  unfold frmV at HF2
  unfold frmV
  have hb12 := below_then (below_box w1 _) hw2
  have HA := hid (heap_keep (heap_alloc_new w1 _) hw2)
  have hlt := heap_lt HA.out
  have n1 : w1.heap.size ≠ w2.heap.size := by omega
  obtain ⟨k0, k1, k2, k3, k4, k5, k6, k7, k8, k9, k10⟩ := cells11 (heap_new HA.out (.cells #[.int .i64 f.fr, .int .i64 f.to, .int .i64 f.seq, .bool f.ack, .int .i64 f.thread, .int .i64 f.mail.host, .int .i64 f.mail.thread, .slice pl' f.mail.label.length cl', .slice pg' f.mail.grants.length cg', .string ⟨f.mail.text.toArray⟩, .slice pc' f.certs.length cc'] 29))
  go_wp2_with (first
    | (go_at_call 21; refine (rsameFrame_eq _ _ f _ ((HF1.out.below hb12).below (below_box w2 _)) (HF2.out.below (below_box w2 _))).mono ?_; rintro e w3 ⟨rfl, hw3⟩)
    | (go_at_call 18; refine (lcodes_any _).mono ?_; rintro e w4 ⟨rfl, hw4⟩))
  go_ret
  exact ⟨rfl, below_then (below_then (below_then (below_then hw1 hb12) (below_box w2 _)) hw3) hw4⟩
end Go.Proofs.Ytagmnfghkfeplaa
