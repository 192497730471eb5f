/- cluster.accept: the certs of a frame, and then its mail. -/
import Derived.Test.YtpdijobakfpnbaaGreatJCClu
import Derived.Test.YtpdijobakfpnbaaGreatJTNamed
import Derived.Test.YtpdijobakfpnbaaGreatJKTake
namespace Go.Proofs.YtpdijobakfpnbaaGreat
open Go.RowKit Go.Proofs.Parclose
theorem Qd3 : ∀ (l : List Crt) (C : Clu) (h : Int) (x : Crt), takeC C h (l ++ [x]) = (addC (takeC C h l) h x).1
 | [], _, _, _ => rfl
 | y :: r, C, h, x => Qd3 r (addC C h y).1 h x
theorem Qc3 : ∀ (l : List Crt) (C : Clu) (h : Int), (takeC C h l).now = C.now
 | [], _, _ => rfl
 | x :: r, C, h => by
  rw [takeC, Qc3 r]
  unfold addC
  split <;> rfl
theorem cells11 {w : World} {b : Nat} {t : TypeId} {y0 y1 y2 y3 y4 y5 y6 y7 y8 y9 y10 : Value} (h : w.heap[b]? = some (.cells #[y0, y1, y2, y3, y4, y5, y6, y7, y8, y9, y10] t (0, 0))) : w.cell? ⟨b, 0, none⟩ = some y0 ∧ w.cell? ⟨b, 1, none⟩ = some y1 ∧ w.cell? ⟨b, 2, none⟩ = some y2 ∧ w.cell? ⟨b, 3, none⟩ = some y3 ∧ w.cell? ⟨b, 4, none⟩ = some y4 ∧ w.cell? ⟨b, 5, none⟩ = some y5 ∧ w.cell? ⟨b, 6, none⟩ = some y6 ∧ w.cell? ⟨b, 7, none⟩ = some y7 ∧ w.cell? ⟨b, 8, none⟩ = some y8 ∧ w.cell? ⟨b, 9, none⟩ = some y9 ∧ w.cell? ⟨b, 10, none⟩ = some y10 :=
 ⟨Qa h 0, Qa h 1, Qa h 2, Qa h 3, Qa h 4, Qa h 5, Qa h 6, Qa h 7, Qa h 8, Qa h 9, Qa h 10⟩
theorem FrmAt.mail {w : World} {f : Frm} {vl vg vc : Value} (h : FrmAt w (frmV f vl vg vc) f) : MalAt w (malV f.mail vl vg) f.mail ∧ CrtsAt w vc f.certs := by
 obtain ⟨a, b, c, e, h1, h2, h3⟩ := h
 unfold frmV at e
 injection e with e
 simp only [Array.mk.injEq, List.cons.injEq, true_and, and_true] at e
 obtain ⟨rfl, rfl, rfl⟩ := e
 exact ⟨⟨_, _, rfl, h1, h2⟩, h3⟩
set_option maxRecDepth 100000 in
set_option maxHeartbeats 3200000 in
theorem Qhd (cb : Nat) (F : List Nat) (Z : CluV) (C : Clu) (vf : Value) (f : Frm) (w : World) (hc : CluAt w cb F Z C) (hg : GoodC C) (hf : ∀ w'', KeptF F w w'' → FrmAt w'' vf f) (hh : hostB f.to = true) :
 Calls Tryz.prog 102 #[.pointer (some ⟨cb, 0, none⟩), vf] w fun e w' => e = .returned (.tuple #[]) ∧ ∃ G Z', CluAt w' cb G Z' (acceptC C f) ∧ CStep cb w F Z w' G Z' := by
 obtain ⟨a, ha, ha4⟩ : ∃ a : Nat, f.to = a ∧ a < 4 := by
  have : 0 ≤ f.to ∧ f.to < 4 := of_decide_eq_true hh
  exact ⟨f.to.toNat, by omega, by omega⟩
 have HA : Hid (acceptC C f = if mayB ((takeC C a f.certs).certs a) f.fr f.mail C.now then setK (takeC C a f.certs) a (deliverL ((takeC C a f.certs).ks a) f.thread f.mail) else takeC C a f.certs) := hid (by
  unfold acceptC
  simp only [ha, crtC, kerC, Int.toNat_natCast, Qc3])
 obtain ⟨vl, vg, vc, rfl, ⟨pl, cl, rfl, _⟩, ⟨pg, cg, rfl, _⟩, ⟨pc, cc, rfl, hcc⟩⟩ := id (hf w (KeptF.refl _ _))
 have HF := hid hf
 have hlen := hcc.2.1
 clear hcc hf
 have hbb := Qd w (.cells #[.int .i64 f.fr, .int .i64 f.to, .int .i64 f.seq, .bool f.ack, .int .i64 f.thread, .int .i64 f.mail.host, .int .i64 f.mail.thread, .slice pl f.mail.label.length cl, .slice pg f.mail.grants.length cg, .string ⟨f.mail.text.toArray⟩, .slice pc f.certs.length cc] 111)
 have HC0 := hid (hc.below hbb)
 have HX0 := hid (heap_alloc_new w (.cells #[.int .i64 f.fr, .int .i64 f.to, .int .i64 f.seq, .bool f.ack, .int .i64 f.thread, .int .i64 f.mail.host, .int .i64 f.mail.thread, .slice pl f.mail.label.length cl, .slice pg f.mail.grants.length cg, .string ⟨f.mail.text.toArray⟩, .slice pc f.certs.length cc] 111))
 have HSI : Hid (∀ w', KeptF F (w.alloc (.cells #[.int .i64 f.fr, .int .i64 f.to, .int .i64 f.seq, .bool f.ack, .int .i64 f.thread, .int .i64 f.mail.host, .int .i64 f.mail.thread, .slice pl f.mail.label.length cl, .slice pg f.mail.grants.length cg, .string ⟨f.mail.text.toArray⟩, .slice pc f.certs.length cc] 111)) w' → FrmAt w' (frmV f (.slice pl f.mail.label.length cl) (.slice pg f.mail.grants.length cg) (.slice pc f.certs.length cc)) f) := hid (fun w' h => HF.out w' ((Qx _ hbb).trans h))
 have HSB : Hid (CStep cb w F Z (w.alloc (.cells #[.int .i64 f.fr, .int .i64 f.to, .int .i64 f.seq, .bool f.ack, .int .i64 f.thread, .int .i64 f.mail.host, .int .i64 f.mail.thread, .slice pl f.mail.label.length cl, .slice pg f.mail.grants.length cg, .string ⟨f.mail.text.toArray⟩, .slice pc f.certs.length cc] 111)) F Z) := hid (CStep.below hbb)
 have HGC := hid hg
 clear hbb hc hg HF
 unfold frmV
 rw [ha] at HX0 HSI HSB HC0 ⊢
 have i0 : ¬ ((a : Int) < 0) := by omega
 have i1 : ¬ ((4 : Int) ≤ a) := by omega
 have i2 : (a : Int) < 4 := by omega
 have i3 : (0 : Int) ≤ a := by omega
 go_enter Tryz.func102, Tryz.ntmps102
 go_wp2_with fail
 have hbx0 := Qw HX0.out
 generalize (w.alloc (.cells #[.int .i64 f.fr, .int .i64 a, .int .i64 f.seq, .bool f.ack, .int .i64 f.thread, .int .i64 f.mail.host, .int .i64 f.mail.thread, .slice pl f.mail.label.length cl, .slice pg f.mail.grants.length cg, .string ⟨f.mail.text.toArray⟩, .slice pc f.certs.length cc] 111)) = w0 at *
 go_loopw [9] (fun i wr => ∃ (k : Nat) (G : List Nat) (Z' : CluV), k ≤ f.certs.length ∧ i = .int .i64 k ∧ CluAt wr cb G Z' (takeC C a (f.certs.take k)) ∧ CStep cb w0 F Z wr G Z') (fun i _ => f.certs.length - (intOf i).toNat)
 case atStart => exact ⟨0, F, Z, Nat.zero_le _, rfl, HC0.out, CStep.refl _ _ _ _⟩
 case round =>
  obtain ⟨k, G, Z', hk, rfl, hCk, hSk⟩ := hrel
  have HCk := hid hCk
  have HSk := hid hSk
  have HXk := hid (QI hSk HC0.out HX0.out (by decide) (by decide) (by decide) (by decide) (by decide) (by decide))
  have HFk := hid (HSI.out wr (HSk.out.keptF HC0.out)).mail
  have hbk := Qw HXk.out
  clear hCk hSk
  by_cases hlt : k < f.certs.length
  · have hI : (k : Int) < (f.certs.length : Int) := by omega
    obtain ⟨bc, oc, rfl, hc4⟩ := HFk.out.2.cells (by omega)
    obtain ⟨x0, x1, x2, x3⟩ := hc4 k hlt
    have hlb := Qf x0
    have HTK : Hid (takeC C a (f.certs.take (k + 1)) = (addC (takeC C a (f.certs.take k)) a f.certs[k]).1) := hid (by rw [← List.take_append_getElem hlt, Qd3])
    have e1 := Qa HXk.out 1
    clear hc4
    generalize f.certs[k] = x at *
    generalize takeC C a (f.certs.take k) = Ck at *
    have hadd := Qge cb a G Z' Ck x _ (HCk.out.below (Qd wr (.cells #[.int .i64 x.c, .int .i64 x.b, .int .i64 x.h, .int .i64 x.u] 60))) ha4
    unfold crtV at hadd
    go_wp2_with (go_at_call 89; refine hadd.mono ?_; rintro e w3 ⟨rfl, G3, Z3, hC3, hS3⟩)
    go_roundw
    case rel => exact ⟨k + 1, G3, Z3, hlt, by go_num, by rw [HTK.out]; exact hC3, HSk.out.trans ((CStep.below (Qd _ _)).trans hS3)⟩
    case measure => simp [intOf]; omega
  · have hkl : k = f.certs.length := by omega
    subst hkl
    have HE : Hid (f.certs.take f.certs.length = f.certs) := hid List.take_length
    have hCk := HCk.out
    rw [HE.out] at hCk
    have HCk2 := hid hCk
    have HGk : Hid (GoodK ((takeC C a f.certs).ks a)) := hid ((Qa2 f.certs HGC.out a).ks a ha4)
    have HN : Hid ((takeC C a f.certs).now = C.now) := hid (Qc3 _ _ _)
    have kn := hCk.cnow
    rw [HN.out] at kn
    have k6 := hCk.ccrt ha4
    have k2 := hCk.cker ha4
    obtain ⟨pk, ck, hvk, _⟩ := id (hCk.crt a ha4).1
    have hmay := fun wx (hb : Below wr.heap.size wr wx) => Qjc _ (.agg #[.int .i64 f.mail.host, .int .i64 f.mail.thread, .slice pl f.mail.label.length cl, .slice pg f.mail.grants.length cg, .string ⟨f.mail.text.toArray⟩]) _ f.fr f.mail C.now wx ((hCk.crt a ha4).1.below hb) (HFk.out.1.below hb)
    rw [hvk] at k6 hmay
    have hcbl := hCk.lt
    clear hCk hvk HCk HE HN HSI HGC
    generalize takeC C a f.certs = Ck at *
    generalize Ck.certs a = lk at *
    have HC6 := hid k6
    have HCN := hid kn
    have HC2 := hid k2
    obtain ⟨e0, e1, e2, e3, e4, e5, e6, e7, e8, e9, e10⟩ := cells11 HXk.out
    have HB0 := hid (Below.refl wr.heap.size wr)
    go_wp2_with fail
    go_region_held3 (fun w' => (w'.cell? ⟨w.heap.size, 0, none⟩ = some (.int .i64 f.fr) ∧ w'.cell? ⟨w.heap.size, 1, none⟩ = some (.int .i64 a) ∧ w'.cell? ⟨w.heap.size, 2, none⟩ = some (.int .i64 f.seq) ∧ w'.cell? ⟨w.heap.size, 3, none⟩ = some (.bool f.ack) ∧ w'.cell? ⟨w.heap.size, 4, none⟩ = some (.int .i64 f.thread) ∧ w'.cell? ⟨w.heap.size, 5, none⟩ = some (.int .i64 f.mail.host) ∧ w'.cell? ⟨w.heap.size, 6, none⟩ = some (.int .i64 f.mail.thread) ∧ w'.cell? ⟨w.heap.size, 7, none⟩ = some (.slice pl f.mail.label.length cl) ∧ w'.cell? ⟨w.heap.size, 8, none⟩ = some (.slice pg f.mail.grants.length cg) ∧ w'.cell? ⟨w.heap.size, 9, none⟩ = some (.string ⟨f.mail.text.toArray⟩) ∧ w'.cell? ⟨w.heap.size, 10, none⟩ = some (.slice pc f.certs.length cc)) ∧ w'.cell? ⟨cb, 6 + a, none⟩ = some (.slice pk lk.length ck) ∧ w'.cell? ⟨cb, 0, none⟩ = some (.int .i64 C.now)) (go_keep)
     (first
      | (go_at_call 128; refine (hmay _ HB0.out.drew).mono ?_; rintro e w4 ⟨rfl, hwd⟩; have hw := kundrew hwd; have HB4 := hid hw; obtain ⟨z0, z1, z2, z3, z4, z5, z6, z7, z8, z9, z10⟩ := cells11 (Qe HXk.out hw); have u6 := (hw.cell (Qf HC6.out)).trans HC6.out; have un := (hw.cell (Qf HCN.out)).trans HCN.out; have u2 := (hw.cell (Qf HC2.out)).trans HC2.out; clear hw hwd)
      | fail)
    all_goals
     have HC4 := hid (HCk2.out.below HB4.out)
     have HX4 := hid (Qe HXk.out HB4.out)
     cases hmb : mayB lk f.fr f.mail C.now with
     | false =>
      have HA2 : Hid (acceptC C f = Ck) := hid (by rw [HA.out, hmb]; rfl)
      go_wp2
      rw [HA2.out]
      exact bodyPost_end (results_none rfl _ _ _) rfl ⟨rfl, _, _, HC4.out, HSB.out.trans (HSk.out.trans (CStep.below HB4.out))⟩
     | true =>
      have HA2 : Hid (acceptC C f = setK Ck a (deliverL (Ck.ks a) f.thread f.mail)) := hid (by rw [HA.out, hmb]; rfl)
      have hdel := QdB (Z'.kp a) f.thread G (Z'.V a) (Ck.ks a) f.mail (.agg #[.int .i64 f.mail.host, .int .i64 f.mail.thread, .slice pl f.mail.label.length cl, .slice pg f.mail.grants.length cg, .string ⟨f.mail.text.toArray⟩]) w4.drew ((HC4.out.ker a ha4).below (Below.refl _ _).drew) HGk.out ((HFk.out.1.below HB4.out).below (Below.refl _ _).drew)
      obtain ⟨A4, hA4, hB4⟩ := HC4.out.box
      have HA4 := hid hA4
      have HB4k := hid (hB4.ker a ha4)
      clear hA4 hB4 hmay
      go_wp2_with fail
      go_region_held3 (fun w' => (w'.cell? ⟨w.heap.size, 0, none⟩ = some (.int .i64 f.fr) ∧ w'.cell? ⟨w.heap.size, 1, none⟩ = some (.int .i64 a) ∧ w'.cell? ⟨w.heap.size, 2, none⟩ = some (.int .i64 f.seq) ∧ w'.cell? ⟨w.heap.size, 3, none⟩ = some (.bool f.ack) ∧ w'.cell? ⟨w.heap.size, 4, none⟩ = some (.int .i64 f.thread) ∧ w'.cell? ⟨w.heap.size, 5, none⟩ = some (.int .i64 f.mail.host) ∧ w'.cell? ⟨w.heap.size, 6, none⟩ = some (.int .i64 f.mail.thread) ∧ w'.cell? ⟨w.heap.size, 7, none⟩ = some (.slice pl f.mail.label.length cl) ∧ w'.cell? ⟨w.heap.size, 8, none⟩ = some (.slice pg f.mail.grants.length cg) ∧ w'.cell? ⟨w.heap.size, 9, none⟩ = some (.string ⟨f.mail.text.toArray⟩) ∧ w'.cell? ⟨w.heap.size, 10, none⟩ = some (.slice pc f.certs.length cc)) ∧ w'.cell? ⟨cb, 2 + a, none⟩ = some (.pointer (some ⟨Z'.kp a, 0, none⟩))) (go_keep)
       (first
        | (go_at_call 86; refine hdel.mono ?_; rintro e w5 ⟨rfl, G5, V5, hK5, hS5d⟩; have hS5 : KStep (Z'.kp a) w4 G (Z'.V a) w5 G5 V5 := ⟨⟨hS5d.kept.os, hS5d.kept.tape, hS5d.kept.output, hS5d.kept.size, hS5d.kept.block⟩, hS5d.rows, hS5d.more⟩; obtain ⟨y0, y1, y2, y3, y4, y5, y6, y7, y8, y9, y10⟩ := cells11 (QY hS5 (HC4.out.ker a ha4) HX4.out (by decide) (by decide) (by decide) (by decide)); have v2 := (Qa (QY hS5 (HC4.out.ker a ha4) HA4.out (by decide) (by decide) (by decide) (by decide)) (2 + a)).trans HB4k.out; have HK5 := hid hK5; have HS5 := hid hS5; clear hK5 hS5 hS5d)
        | fail)
      all_goals
       have hKK := HC4.out.kernel ha4 HK5.out HS5.out
       go_wp2
       rw [HA2.out]
       exact bodyPost_end (results_none rfl _ _ _) rfl ⟨rfl, _, _, hKK.1, HSB.out.trans (HSk.out.trans ((CStep.below HB4.out).trans hKK.2))⟩
end Go.Proofs.YtpdijobakfpnbaaGreat
