/- cluster.put: a frame is put under way, where it is good and there is room. -/
import Derived.Test.YtpdijobakfpnbaaGreatJCClu
import Derived.Test.YtpdijobakfpnbaaGreatJWPutH
namespace Go.Proofs.YtpdijobakfpnbaaGreat
open Go.RowKit Go.Proofs.Parclose
theorem QaM {w : World} {B : Nat} {v : Value} {l : List (List UInt8)} (h : w.ownsRow B 9 1 v l.length (strs l)) : ∃ p c, v = .slice p l.length c := by
 rcases h.2 with ⟨rfl, h0⟩ | ⟨g, cap, cur, rfl, _⟩
 · exact ⟨none, 0, by rw [h0]⟩
 · exact ⟨_, cap, rfl⟩
set_option maxRecDepth 100000 in
set_option maxHeartbeats 1600000 in
theorem QdW (cb : Nat) (F : List Nat) (Z : CluV) (C : Clu) (vf : Value) (f : Frm) (w : World) (h : CluAt w cb F Z C) (h60 : C.net.length ≤ 60) (hf : FrmAt w vf f) :
 Calls Tryz.prog 101 #[.pointer (some ⟨cb, 0, none⟩), vf] w fun e w' => e = .returned (.tuple #[]) ∧ ∃ G Z', CluAt w' cb G Z' (putC C f) ∧ CStep cb w F Z w' G Z' := by
 have henc := fun wx (hb : Below w.heap.size w wx) => Qiw vf f wx (hf.below hb)
 obtain ⟨vl, vg, vc, rfl, ⟨pl, cl, rfl, _⟩, ⟨pg, cg, rfl, _⟩, ⟨pc, cc, rfl, _⟩⟩ := hf
 unfold frmV at henc ⊢
 have hP : putC C f = if frameE f = 0 ∧ C.net.length < 60 then { C with net := C.net ++ [encL f] } else C := rfl
 have hE : encE f = if frameE f = 0 then encL f else [] := rfl
 have HC := hid h
 clear h
 obtain ⟨pn, cn, hvn⟩ := QaM HC.out.net
 by_cases h0 : frameE f = 0
 rotate_left
 · have HP : Hid (putC C f = C) := hid (by rw [hP, if_neg (fun e => h0 e.1)])
   have he : (frameE f == 0) = false := by simpa using h0
   clear hP hE h0
   go_enter Tryz.func101, Tryz.ntmps101
   go_wp2_with (go_at_call 148; refine (henc _ (Qd _ _)).mono ?_; rintro e w1 ⟨rfl, hw1⟩)
   rw [HP.out]
   exact bodyPost_end (results_none rfl _ _ _) rfl ⟨rfl, F, Z, HC.out.below (Qc (Qd _ _) hw1), CStep.below (Qc (Qd _ _) hw1)⟩
 · have he : (frameE f == 0) = true := by simpa using h0
   rw [if_pos h0] at hE
   by_cases hn : C.net.length < 60
   rotate_left
   · have HP : Hid (putC C f = C) := hid (by rw [hP, if_neg (fun e => hn e.2)])
     clear hP hE h0
     go_enter Tryz.func101, Tryz.ntmps101
     go_wp2_with (go_at_call 148; refine (henc _ (Qd _ _)).mono ?_; rintro e w1 ⟨rfl, hw1⟩; have HW1 := hid (Qc (Qd _ _) hw1); have HC1 := hid (HC.out.below HW1.out); obtain ⟨A, hA, hB⟩ := HC1.out.box; have c186 := (Qa hA 186).trans hB.net; rw [hvn] at c186; clear hA hB hw1)
     rw [HP.out]
     exact bodyPost_end (results_none rfl _ _ _) rfl ⟨rfl, F, Z, HC1.out, CStep.below HW1.out⟩
   · have HP : Hid (putC C f = { C with net := C.net ++ [encL f] }) := hid (by rw [hP, if_pos ⟨h0, hn⟩])
     clear hP h0
     rw [hE] at henc
     go_enter Tryz.func101, Tryz.ntmps101
     go_wp2_with (first
      | (go_at_call 148; refine (henc _ (Qd _ _)).mono ?_; rintro e w1 ⟨rfl, hw1⟩; have HW1 := hid (Qc (Qd _ _) hw1); have HC1 := hid (HC.out.below HW1.out); obtain ⟨A, hA, hB⟩ := HC1.out.box; have c186 := (Qa hA 186).trans hB.net; rw [hvn] at c186; have HA := hid hA; have hlt := Qw hA; have HN1 : Hid (w1.ownsRow 0 9 1 (.slice pn C.net.length cn) C.net.length (strs C.net)) := hid (by rw [← hvn]; exact HC1.out.net); clear hA hB hw1)
      | (at_builtin; refine Qgg rfl _ _ rfl _ C.net (encL f) rfl (Qk HN1.out (Qd _ _)) w1.heap.size 1 rfl (World.cell?_alloc_mark w1 _ _ _ 0) (by omega) ?_; intro v2 w2 hown2 hgrow2 hwh2; obtain ⟨p2, c2, hv2⟩ := QaM hown2; subst hv2; have hA2 := Qa0 (Qz HA.out _) (Qk HN1.out (Qd _ _)) (by decide) hgrow2; have d186 := Qa hA2 186; rw [Qa HA.out 186] at c186; rw [c186] at d186; have q186 := Qb hA2 186))
     have hS := (HC1.out.below (Qd w1 (.cells #[.string ⟨(encL f).toArray⟩] 9))).setNet (v := .slice p2 (C.net ++ [encL f]).length c2) (l := C.net ++ [encL f]) (by rw [hvn]; exact hgrow2) hown2 (by rw [hvn]; exact hwh2)
     simp only [List.length_append, List.length_singleton] at hS
     rw [HP.out]
     exact bodyPost_end (results_none rfl _ _ _) rfl ⟨rfl, _, _, hS.1, (CStep.below (Qc HW1.out (Qd _ _))).trans hS.2⟩
end Go.Proofs.YtpdijobakfpnbaaGreat
