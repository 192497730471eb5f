/- The statement TopEnds. -/
import Derived.Test.YtgpldlbmjakjhaaGreatSCMove
import Derived.Test.YtgpldlbmjakjhaaGreatSTakeD
import Derived.Test.YtgpldlbmjakjhaaGreatSPlain
import Derived.Test.YtgpldlbmjakjhaaGreatSWDec
import Derived.Deep.RegionHeld3
namespace Go.Proofs.YtgpldlbmjakjhaaGreat
open Go.RowKit Go.Proofs.Parclose
theorem thrC_good {C : Clu} (h : GoodC C) (x t : Int) : GoodT (thrC C x t) := by
  unfold thrC
  split
  · rename_i h1
    have h2 : 0 ≤ x ∧ x < 4 := of_decide_eq_true h1
    have hk := h.ks x.toNat (by omega)
    unfold thrOf
    cases ht : getT (C.ks x.toNat) t with
    | none => exact zero_good
    | some th =>
      obtain ⟨n, _, hn, e⟩ := getT_some ht
      exact hk.ths th (e ▸ List.getElem_mem hn)
  · exact zero_good
end Go.Proofs.YtgpldlbmjakjhaaGreat
namespace Go.Proofs.YtgpldlbmjakjhaaGreat
open Go.RowKit Go.Proofs.Parclose
set_option maxRecDepth 100000 in
set_option maxHeartbeats 12800000 in
theorem lookGood_any (cb : Nat) (F : List Nat) (Z : CluV) (C : Clu) (a : Ac) (r : Rep) (pl pg : Option Addr) (cl cg : Nat) (w : World) (hc : CluAt w cb F Z C) (hg : GoodC C) (hn : GoodN C) :
    Calls Tryz.prog 10 #[.pointer (some ⟨cb, 0, none⟩), (.agg #[.int .i64 a.kind, .int .i64 a.h, .int .i64 a.t, .int .i64 a.n, .int .i64 a.call.kind, .int .i64 a.call.h, .int .i64 a.call.t, .int .i64 a.call.n, .int .i64 a.call.c, .slice pl a.call.label.length cl, .slice pg a.call.grants.length cg, .string ⟨a.call.text.toArray⟩]), (.agg #[.int .i64 r.code, .int .i64 r.n, .string ⟨r.text.toArray⟩])] w fun e w' => e = .returned (.bool true) ∧ Below w.heap.size w w' := by
  have HC := hid hc
  have HG := hid hg
  have HN := hid hn
  have h60 := hg.net
  clear hc hg hn
  go_enter Tryz.func10, Tryz.ntmps10
  go_wp2_with fail
  go_loopw [7] (fun c wr => ∃ i : Nat, i ≤ 4 ∧ c = .int .i64 i ∧ Below w.heap.size w wr) (fun c _ => 4 - (intOf c).toNat)
  case atStart => exact ⟨0, by omega, rfl, (below_box w _).alloc (below_box w _).size _⟩
  case round =>
    obtain ⟨i, hi, rfl, hbr⟩ := hrel
    obtain ⟨wo, hwo⟩ : ∃ wo, wo = wr := ⟨_, rfl⟩
    subst hwo
    have HBo := hid hbr
    clear hbr
    by_cases hi4 : i < 4
    · have hI : (i : Int) < 4 := by omega
      have HCB : Hid (csB (crtsC C i) = true) := hid (decide_eq_true (by unfold crtsC; split; exact HN.out.certs _; exact HN.out.certs 0 |>.elim (fun _ _ => by decide)))
      go_upto_region 6 with (first
        | (go_at_call 12; refine (ccerts_any cb i F Z C wo (HC.out.below HBo.out)).mono ?_; rintro e w1 ⟨pc, cc, rfl, hcr, _, hw1⟩)
        | (go_at_call 11; refine (tgood_any _ (crtsC C i) w1 hcr).mono ?_; rw [HCB.out]; rintro e w2 ⟨rfl, hw2⟩))
      have HB2 := hid (below_then (below_then HBo.out hw1) hw2)
      clear hcr hw1 hw2 HCB HBo
      go_wp2_with fail
      go_loopw [8] (fun c wr => ∃ j : Nat, j ≤ 4 ∧ c = .int .i64 j ∧ Below w.heap.size w wr) (fun c _ => 4 - (intOf c).toNat)
      case atStart => exact ⟨0, by omega, rfl, HB2.out⟩
      case round =>
        clear HB2
        obtain ⟨j, hj, rfl, hbr⟩ := hrel
        obtain ⟨wi, hwi⟩ : ∃ wi, wi = wr := ⟨_, rfl⟩
        subst hwi
        have HBi := hid hbr
        clear hbr
        by_cases hj4 : j < 4
        · have hJ : (j : Int) < 4 := by omega
          have hthr := cthread_any cb i j F Z C wi (HC.out.below HBi.out) HG.out
          have HGT := hid (thrC_good HG.out i j)
          generalize thrC C i j = th at *
          have hgl : goodB th.label = true := (goodB_iff _).2 HGT.out.label
          have hol := HGT.out.own
          have hob := HGT.out.objs
          have hml := HGT.out.mails
          have htx := HGT.out.text
          have hl8 := HGT.out.label.1
          have t1 : ¬ ((8 : Int) < th.own.length) := by omega
          have t2 : ¬ ((4 : Int) < th.objs.length) := by omega
          have t3 : ¬ ((6 : Int) < th.mails.length) := by omega
          have t4 : ¬ ((64 : Int) < th.text.length) := by omega
          go_upto_region 10 with (go_at_call 13; refine hthr.mono ?_; rintro e w3 ⟨p1, q1, p2, q2, p3, q3, p4, q4, rfl, hn3, hw3⟩)
          have hbx := below_box w3 (.cells #[.slice p1 th.label.length q1, .slice p2 th.own.length q2, .string ⟨th.text.toArray⟩, .slice p3 th.objs.length q3, .slice p4 th.mails.length q4] 42)
          have HX4 := hid (heap_alloc_new w3 (.cells #[.slice p1 th.label.length q1, .slice p2 th.own.length q2, .string ⟨th.text.toArray⟩, .slice p3 th.objs.length q3, .slice p4 th.mails.length q4] 42))
          have HN4 := hid (hn3.below hbx)
          have HB4 := hid (below_then (below_then HBi.out hw3) hbx)
          generalize w3.alloc (.cells #[.slice p1 th.label.length q1, .slice p2 th.own.length q2, .string ⟨th.text.toArray⟩, .slice p3 th.objs.length q3, .slice p4 th.mails.length q4] 42) = w4 at *
          have hgd := good_any (.slice p1 th.label.length q1) th.label w4 (labs_of_own HN4.out.lab (by omega))
          rw [hgl] at hgd
          obtain ⟨b0, b1, b2, b3, b4⟩ : w4.cell? ⟨w3.heap.size, 0, none⟩ = some (.slice p1 th.label.length q1) ∧ w4.cell? ⟨w3.heap.size, 1, none⟩ = some (.slice p2 th.own.length q2) ∧ w4.cell? ⟨w3.heap.size, 2, none⟩ = some (.string ⟨th.text.toArray⟩) ∧ w4.cell? ⟨w3.heap.size, 3, none⟩ = some (.slice p3 th.objs.length q3) ∧ w4.cell? ⟨w3.heap.size, 4, none⟩ = some (.slice p4 th.mails.length q4) := ⟨heap_cell HX4.out 0, heap_cell HX4.out 1, heap_cell HX4.out 2, heap_cell HX4.out 3, heap_cell HX4.out 4⟩
          clear hthr hn3 hbx hgl
          go_upto_region 12 with (go_at_call 14; refine hgd.mono ?_; rintro e w5 ⟨rfl, hw5⟩; clear b0 b1 b2 b3 b4; obtain ⟨b0, b1, b2, b3, b4⟩ : w5.cell? ⟨w3.heap.size, 0, none⟩ = some (.slice p1 th.label.length q1) ∧ w5.cell? ⟨w3.heap.size, 1, none⟩ = some (.slice p2 th.own.length q2) ∧ w5.cell? ⟨w3.heap.size, 2, none⟩ = some (.string ⟨th.text.toArray⟩) ∧ w5.cell? ⟨w3.heap.size, 3, none⟩ = some (.slice p3 th.objs.length q3) ∧ w5.cell? ⟨w3.heap.size, 4, none⟩ = some (.slice p4 th.mails.length q4) := ⟨heap_cell (heap_keep HX4.out hw5) 0, heap_cell (heap_keep HX4.out hw5) 1, heap_cell (heap_keep HX4.out hw5) 2, heap_cell (heap_keep HX4.out hw5) 3, heap_cell (heap_keep HX4.out hw5) 4⟩)
          have HB5 := hid (below_then HB4.out hw5)
          have HN5 := hid (HN4.out.below hw5)
          clear hgd hw5
          go_wp2_with fail
          go_loopw [64] (fun c wr => ∃ k : Nat, k ≤ th.mails.length ∧ c = .int .i64 k ∧ Below w5.heap.size w5 wr) (fun c _ => th.mails.length - (intOf c).toNat)
          case atStart => exact ⟨0, Nat.zero_le _, rfl, Below.refl _ _⟩
          case round =>
            clear b0 b1 b2 b3 b4 t1 t2 t3 t4
            obtain ⟨k, hk, rfl, hbr⟩ := hrel
            have HBr := hid hbr
            clear hbr
            by_cases hlt : k < th.mails.length
            · have hK : (k : Int) < (th.mails.length : Int) := by omega
              have K0 : (0 : Int) ≤ k := by omega
              obtain ⟨ga, la, ka, na, ma, e1, c0, c1, c2, c3, c4, o1, o2⟩ := (HN5.out.below HBr.out).mails.get k hlt
              have hme := HGT.out.mail _ (List.getElem_mem hlt)
              subst e1
              generalize th.mails[k] = x at *
              have hln := mail_len hme
              have hgm := goodMail_any _ x (wr.alloc (.cells #[.int .i64 x.host, .int .i64 x.thread, .slice la x.label.length ka, .slice na x.grants.length ma, .string ⟨x.text.toArray⟩] 46)) ⟨_, _, rfl, (labs_of_own o1 (by omega)).below (below_box wr _), (nums_of_own o2 (by omega)).below (below_box wr _)⟩
              unfold malV at hgm
              rw [hme] at hgm
              have hlb := cell_block c0
              clear o1 o2 hme hln
              go_wp2_with (go_at_call 15; refine hgm.mono ?_; rintro e w7 ⟨rfl, hw7⟩)
              go_roundw
              case rel => exact ⟨k + 1, hlt, by go_num, below_then (below_then HBr.out (below_box wr _)) hw7⟩
              case measure => simp [intOf]; omega
            · have hkl : k = th.mails.length := by omega
              subst hkl
              go_wp2
              go_roundw
              case rel => exact ⟨j + 1, hj4, by go_num, below_then HB5.out HBr.out⟩
              case measure => simp [intOf]; omega
        · have hj5 : j = 4 := by omega
          subst hj5
          go_wp2
          go_roundw
          case rel => exact ⟨i + 1, hi4, by go_num, HBi.out⟩
          case measure => simp [intOf]; omega
    · have hi5 : i = 4 := by omega
      subst hi5
      go_upto_region 19 with (go_at_call 16; refine (cnet_any cb F Z C wo (HC.out.below HBo.out) h60).mono ?_; rintro e w1 ⟨pn, cn, rfl, hrow, hw1⟩)
      have HROW := hid hrow
      have HB1 := hid (below_then HBo.out hw1)
      clear hrow hw1 HBo
      go_loopw [75] (fun c wr => ∃ k : Nat, k ≤ C.net.length ∧ c = .int .i64 k ∧ Below w1.heap.size w1 wr) (fun c _ => C.net.length - (intOf c).toNat)
      case atStart => exact ⟨0, Nat.zero_le _, rfl, Below.refl _ _⟩
      case round =>
        obtain ⟨k, hk, rfl, hbr⟩ := hrel
        have HBr := hid hbr
        clear hbr
        by_cases hlt : k < C.net.length
        · have hK : (k : Int) < (C.net.length : Int) := by omega
          have K0 : (0 : Int) ≤ k := by omega
          have hrw := own_later HROW.out HBr.out
          obtain ⟨g, hpn⟩ : ∃ g, pn = some ⟨g, 0, none⟩ := by
            rcases hrw.2 with ⟨h, h0⟩ | ⟨g, cap, cur, h, _⟩
            · omega
            · injection h with h _ _; exact ⟨g, h⟩
          subst hpn
          have xk : wr.cell? ⟨g, k, none⟩ = some (.string ⟨(C.net.getD k []).toArray⟩) := by
            have := World.ownsRow.cells hrw (g := g) rfl k _ (strs_get C.net k hlt)
            rwa [WideShapes.add_plain, Nat.zero_add] at this
          obtain ⟨f, hfe, hse⟩ := HN.out.net (C.net.getD k []) (by rw [List.getD_eq_getElem?_getD, List.getElem?_eq_getElem hlt]; exact List.getElem_mem hlt)
          have hdec := decode_new (C.net.getD k []) wr
          rw [hse, back f hfe] at hdec
          rw [hse] at xk
          simp only at hdec
          have hgl := cell_block xk
          clear hrw hse
          go_upto_region 22 with (go_at_call 17; refine hdec.mono ?_; rintro e w3 ⟨v3, rfl, hfr, hw3⟩; obtain ⟨vl3, vg3, vc3, e3, ⟨fl, ml, e4, _⟩, ⟨fg, mg, e5, _⟩, ⟨fc, mc, e6, _⟩⟩ := id (hfr w3 (Since.refl _ _)); subst e4 e5 e6 e3; unfold frmV at hfr; unfold frmV)
          have hbx := below_box w3 (.cells #[.int .i64 f.fr, .int .i64 f.to, .int .i64 f.seq, .bool f.ack, .int .i64 f.thread, .int .i64 f.mail.host, .int .i64 f.mail.thread, .slice fl f.mail.label.length ml, .slice fg f.mail.grants.length mg, .string ⟨f.mail.text.toArray⟩, .slice fc f.certs.length mc] 51)
          have HX4 := hid (heap_alloc_new w3 (.cells #[.int .i64 f.fr, .int .i64 f.to, .int .i64 f.seq, .bool f.ack, .int .i64 f.thread, .int .i64 f.mail.host, .int .i64 f.mail.thread, .slice fl f.mail.label.length ml, .slice fg f.mail.grants.length mg, .string ⟨f.mail.text.toArray⟩, .slice fc f.certs.length mc] 51))
          have hwg := wgood_any (.agg #[.int .i64 f.fr, .int .i64 f.to, .int .i64 f.seq, .bool f.ack, .int .i64 f.thread, .int .i64 f.mail.host, .int .i64 f.mail.thread, .slice fl f.mail.label.length ml, .slice fg f.mail.grants.length mg, .string ⟨f.mail.text.toArray⟩, .slice fc f.certs.length mc]) f _ (hfr _ (since_below hbx))
          rw [hfe] at hwg
          have HB4 := hid (below_then (below_then HBr.out hw3) hbx)
          clear hfr hdec hw3 hbx xk
          generalize w3.alloc (.cells #[.int .i64 f.fr, .int .i64 f.to, .int .i64 f.seq, .bool f.ack, .int .i64 f.thread, .int .i64 f.mail.host, .int .i64 f.mail.thread, .slice fl f.mail.label.length ml, .slice fg f.mail.grants.length mg, .string ⟨f.mail.text.toArray⟩, .slice fc f.certs.length mc] 51) = w4 at *
          obtain ⟨y0, y1, y2, y3, y4, y5, y6, y7, y8, y9, y10⟩ := cells11 HX4.out
          go_wp2_with (go_at_call 18; refine hwg.mono ?_; rintro e w5 ⟨rfl, hw5⟩)
          go_roundw
          case rel => exact ⟨k + 1, hlt, by go_num, below_then HB4.out hw5⟩
          case measure => simp [intOf]; omega
        · have hkl : k = C.net.length := by omega
          subst hkl
          have hle : (C.net.length : Int) ≤ 60 := by omega
          have HBB := hid (below_then HB1.out HBr.out)
          go_wp2_with (go_at_call 16; refine (cnet_any cb F Z C wr (HC.out.below HBB.out) h60).mono ?_; rintro e w9 ⟨pz, cz, rfl, _, hw9⟩)
          go_ret
          exact ⟨rfl, below_then HBB.out hw9⟩
end Go.Proofs.YtgpldlbmjakjhaaGreat
namespace Go.Proofs.YtgpldlbmjakjhaaGreat
open Go.RowKit Go.Proofs.Parclose
set_option maxRecDepth 100000 in
set_option maxHeartbeats 6400000 in
theorem play_good (v : Value) (l : List Ac) (w : World) (hv : AcsAt w v l) :
    Calls Tryz.prog 9 #[v, .func (.func 10) #[] #[]] w fun e w' => ∃ cb, e = .returned (.tuple #[.pointer (some ⟨cb, 0, none⟩), .bool true]) ∧ w.heap.size ≤ cb ∧ Below w.heap.size w w' ∧ ∃ F, (∃ Z, CluAt w' cb F Z (playC freshClu (l.take 120))) ∧ ∀ k ∈ F, w.heap.size ≤ k := by
  have HV := hid hv
  obtain ⟨p, cap, rfl, hlc, _⟩ := hv.slice
  clear hv
  go_enter Tryz.func9, Tryz.ntmps9
  go_upto_region 3 with (go_at_call 26; refine (talive_any _).mono ?_; rintro e w1 ⟨rfl, hw1⟩)
  go_upto_region 4 with (go_at_call 28; refine (cnew_any _).mono ?_; rintro e w2 ⟨rfl, ⟨kp, F, hc2, hF⟩, hw2⟩)
  have HB2 := hid (below_then hw1 hw2)
  have HF2 : Hid (∀ k ∈ F, w.heap.size ≤ k) := hid (fun k hk => Nat.le_trans hw1.size (hF k hk))
  have HC2 := hid hc2
  have HCB := hid hw1.size
  clear hc2 hF hw1 hw2
  go_wp2_with fail
  go_loopw [7] (fun i wr => ∃ (k : Nat) (G : List Nat) (Z' : CluV), k ≤ l.length ∧ k ≤ 120 ∧ i = .int .i64 k ∧ CluAt wr w1.heap.size G Z' (playC freshClu (l.take k)) ∧ Below w.heap.size w wr ∧ (∀ b ∈ G, w.heap.size ≤ b)) (fun i _ => l.length - (intOf i).toNat)
  case atStart => exact ⟨0, F, _, Nat.zero_le _, Nat.zero_le _, rfl, HC2.out, HB2.out, HF2.out⟩
  case round =>
    clear HC2 HB2 HF2
    obtain ⟨k, G, Z', hk, hk120, rfl, hck, hbw, hG⟩ := hrel
    have HCK := hid hck
    have HBW := hid hbw
    have HGG := hid hG
    have hsz := hbw.size
    clear hck hbw hG
    by_cases hlt : k < l.length
    · have hI : (k : Int) < (l.length : Int) := by omega
      by_cases h120 : k < 120
      · have hJ : (k : Int) < 120 := by omega
        obtain ⟨b, o, pl, cl, pg, cg, rfl, hla, hin2, q0, q1, q2, q3, q4, q5, q6, q7, q8, q9, q10, q11⟩ := HV.out.get k hlt
        have HPS : Hid (playC freshClu (l.take (k + 1)) = (doC (playC freshClu (l.take k)) l[k]).1) := hid (by rw [← List.take_append_getElem hlt, playC_snoc])
        have HGD := hid (playC_good (l.take k) freshC_good)
        have HG2 := hid (doC_good HGD.out l[k])
        have HN2 := hid (doC_n (playC_n (l.take k) freshN) l[k])
        generalize l[k] = a at *
        generalize playC freshClu (l.take k) = Ck at *
        have r0 := (HBW.out.cell (cell_block q0)).trans q0
        have r1 := (HBW.out.cell (cell_block q1)).trans q1
        have r2 := (HBW.out.cell (cell_block q2)).trans q2
        have r3 := (HBW.out.cell (cell_block q3)).trans q3
        have r4 := (HBW.out.cell (cell_block q4)).trans q4
        have r5 := (HBW.out.cell (cell_block q5)).trans q5
        have r6 := (HBW.out.cell (cell_block q6)).trans q6
        have r7 := (HBW.out.cell (cell_block q7)).trans q7
        have r8 := (HBW.out.cell (cell_block q8)).trans q8
        have r9 := (HBW.out.cell (cell_block q9)).trans q9
        have r10 := (HBW.out.cell (cell_block q10)).trans q10
        have r11 := (HBW.out.cell (cell_block q11)).trans q11
        have hbl := Nat.lt_of_lt_of_le (cell_block q0) hsz
        have hdo := cdo_any w1.heap.size G Z' Ck _ a wr HCK.out HGD.out ⟨_, _, rfl, roLab_old hla HGG.out (hla.below HBW.out), roInts_old hin2 HGG.out (hin2.below HBW.out)⟩
        unfold acV at hdo
        generalize doC Ck a = R at *
        obtain ⟨C2, r⟩ := R
        simp only at hdo HPS
        have HQ : Hid (∀ w', Below w.heap.size w w' → w'.cell? ⟨b, o + k * 12, none⟩ = some (.int .i64 a.kind) ∧ w'.cell? ⟨b, o + k * 12 + 1, none⟩ = some (.int .i64 a.h) ∧ w'.cell? ⟨b, o + k * 12 + 2, none⟩ = some (.int .i64 a.t) ∧ w'.cell? ⟨b, o + k * 12 + 3, none⟩ = some (.int .i64 a.n) ∧ w'.cell? ⟨b, o + k * 12 + 4, none⟩ = some (.int .i64 a.call.kind) ∧ w'.cell? ⟨b, o + k * 12 + 5, none⟩ = some (.int .i64 a.call.h) ∧ w'.cell? ⟨b, o + k * 12 + 6, none⟩ = some (.int .i64 a.call.t) ∧ w'.cell? ⟨b, o + k * 12 + 7, none⟩ = some (.int .i64 a.call.n) ∧ w'.cell? ⟨b, o + k * 12 + 8, none⟩ = some (.int .i64 a.call.c) ∧ w'.cell? ⟨b, o + k * 12 + 9, none⟩ = some (.slice pl a.call.label.length cl) ∧ w'.cell? ⟨b, o + k * 12 + 10, none⟩ = some (.slice pg a.call.grants.length cg) ∧ w'.cell? ⟨b, o + k * 12 + 11, none⟩ = some (.string ⟨a.call.text.toArray⟩)) := hid (fun w' h => ⟨(h.cell (cell_block q0)).trans q0, (h.cell (cell_block q1)).trans q1, (h.cell (cell_block q2)).trans q2, (h.cell (cell_block q3)).trans q3, (h.cell (cell_block q4)).trans q4, (h.cell (cell_block q5)).trans q5, (h.cell (cell_block q6)).trans q6, (h.cell (cell_block q7)).trans q7, (h.cell (cell_block q8)).trans q8, (h.cell (cell_block q9)).trans q9, (h.cell (cell_block q10)).trans q10, (h.cell (cell_block q11)).trans q11⟩)
        clear q0 q1 q2 q3 q4 q5 q6 q7 q8 q9 q10 q11 hla hin2
        go_upto_region 8 with (go_at_call 22; refine hdo.mono ?_; rintro e w5 ⟨rfl, G5, Z5, hc5, hs5⟩)
        obtain ⟨hb5, hG5⟩ := hs5.low HCK.out HGG.out hsz
        have HB5 := hid (Below.trans' HBW.out hb5)
        have hbx := below_box w5 (.cells #[.int .i64 r.code, .int .i64 r.n, .string ⟨r.text.toArray⟩] 35)
        have HB6 := hid (below_then HB5.out hbx)
        have HX6 := hid (heap_alloc_new w5 (.cells #[.int .i64 r.code, .int .i64 r.n, .string ⟨r.text.toArray⟩] 35))
        have HC6 := hid (hc5.below hbx)
        have HG5 := hid hG5
        obtain ⟨s0, s1, s2, s3, s4, s5, s6, s7, s8, s9, s10, s11⟩ := HQ.out _ HB6.out
        obtain ⟨t0, t1, t2, _⟩ := cells3 HX6.out
        have hlt6 := heap_lt HX6.out
        have hbl5 : b < w5.heap.size := Nat.lt_of_lt_of_le hbl hs5.kept.size
        clear hdo hs5 hc5 hb5 hG5 hbx r0 r1 r2 r3 r4 r5 r6 r7 r8 r9 r10 r11
        generalize hw6 : w5.alloc (.cells #[.int .i64 r.code, .int .i64 r.n, .string ⟨r.text.toArray⟩] 35) = w6 at *
        have HW6 := hid (Below.refl w6.heap.size w6)
        clear hw6
        go_region_held3 (fun w' => (w'.cell? ⟨b, o + k * 12, none⟩ = some (.int .i64 a.kind) ∧ w'.cell? ⟨b, o + k * 12 + 1, none⟩ = some (.int .i64 a.h) ∧ w'.cell? ⟨b, o + k * 12 + 2, none⟩ = some (.int .i64 a.t) ∧ w'.cell? ⟨b, o + k * 12 + 3, none⟩ = some (.int .i64 a.n) ∧ w'.cell? ⟨b, o + k * 12 + 4, none⟩ = some (.int .i64 a.call.kind) ∧ w'.cell? ⟨b, o + k * 12 + 5, none⟩ = some (.int .i64 a.call.h) ∧ w'.cell? ⟨b, o + k * 12 + 6, none⟩ = some (.int .i64 a.call.t) ∧ w'.cell? ⟨b, o + k * 12 + 7, none⟩ = some (.int .i64 a.call.n) ∧ w'.cell? ⟨b, o + k * 12 + 8, none⟩ = some (.int .i64 a.call.c) ∧ w'.cell? ⟨b, o + k * 12 + 9, none⟩ = some (.slice pl a.call.label.length cl) ∧ w'.cell? ⟨b, o + k * 12 + 10, none⟩ = some (.slice pg a.call.grants.length cg) ∧ w'.cell? ⟨b, o + k * 12 + 11, none⟩ = some (.string ⟨a.call.text.toArray⟩)) ∧ w'.cell? ⟨w5.heap.size, 0, none⟩ = some (.int .i64 r.code) ∧ w'.cell? ⟨w5.heap.size, 1, none⟩ = some (.int .i64 r.n) ∧ w'.cell? ⟨w5.heap.size, 2, none⟩ = some (.string ⟨r.text.toArray⟩)) (go_keep)
          (first
            | (go_at_call 10; refine (lookGood_any _ G5 Z5 C2 a r pl pg cl cg _ (HC6.out.below (Below.refl _ _).drew) HG2.out HN2.out).mono ?_; rintro e w7 ⟨rfl, hwd⟩; have hw := kundrew hwd; have HW7 := hid hw; obtain ⟨u0, u1, u2, u3, u4, u5, u6, u7, u8, u9, u10, u11⟩ := HQ.out _ (below_then HB6.out hw); obtain ⟨y0, y1, y2, _⟩ := cells3 (heap_keep HX6.out hw); clear hw hwd)
            | fail)
        all_goals
          go_wp2
          go_roundw
          case rel => exact ⟨k + 1, G5, Z5, hlt, h120, by go_num, by rw [HPS.out]; exact HC6.out.below HW7.out, below_then HB6.out HW7.out, HG5.out⟩
          case measure => simp [intOf]; omega
      · have hk5 : k = 120 := by omega
        have hJ : ¬ ((k : Int) < 120) := by omega
        have HE : Hid (l.take k = l.take 120) := hid (by rw [hk5])
        clear hk5
        go_wp2
        go_ret2
        have hC := HCK.out
        rw [HE.out] at hC
        exact ⟨w1.heap.size, rfl, HCB.out, HBW.out, G, ⟨Z', hC⟩, HGG.out⟩
    · have hI : ¬ ((k : Int) < (l.length : Int)) := by omega
      have HE : Hid (l.take k = l.take 120) := hid (by rw [List.take_of_length_le (by omega), List.take_of_length_le (by omega)])
      go_wp2
      go_ret2
      have hC := HCK.out
      rw [HE.out] at hC
      exact ⟨w1.heap.size, rfl, HCB.out, HBW.out, G, ⟨Z', hC⟩, HGG.out⟩
end Go.Proofs.YtgpldlbmjakjhaaGreat
namespace Go.Proofs.YtgpldlbmjakjhaaGreat
open Go.RowKit Go.Proofs.Parclose
set_option maxRecDepth 100000 in
theorem topGood_any (v : Value) (l : List Ac) (w : World) (hv : AcsAt w v l) : Calls Tryz.prog 3 #[v] w fun e w' => e = .returned (.bool true) ∧ Below w.heap.size w w' := by
  have hplay := play_good v l w hv
  obtain ⟨p, cap, rfl, _⟩ := hv.slice
  clear hv
  go_enter Tryz.func3, Tryz.ntmps3
  go_wp2_with (go_at_call 9; refine hplay.mono ?_; rintro e w1 ⟨cb, rfl, _, hw1, _⟩)
  go_ret
  exact ⟨rfl, hw1⟩
end Go.Proofs.YtgpldlbmjakjhaaGreat
