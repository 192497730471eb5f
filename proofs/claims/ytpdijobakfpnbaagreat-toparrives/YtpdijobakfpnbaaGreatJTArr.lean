/- The statement TopArrives. -/
import Derived.Test.YtpdijobakfpnbaaGreatJCNet
import Derived.Test.YtpdijobakfpnbaaGreatJRows0
import Derived.Test.YtpdijobakfpnbaaGreatJKTake
import Derived.Test.YtpdijobakfpnbaaGreatJNamed
import Derived.Deep.DeepCutAuto
namespace Go.Proofs.YtpdijobakfpnbaaGreat
open Go.RowKit Go.Proofs.Parclose
theorem QkU {w : World} {B n cap : Nat} {p : Option Addr} {l : List (List UInt8)} (h : w.ownsRow B 9 1 (.slice p n cap) n (strs l)) (hl : l.length = n) (i : Nat) (hi : i < n) : ∃ g, p = some ⟨g, 0, none⟩ ∧ w.cell? ⟨g, i, none⟩ = some (.string ⟨(l[i]'(by omega)).toArray⟩) := by
 obtain ⟨g, hpe⟩ : ∃ g, p = some ⟨g, 0, none⟩ := by
  rcases h.2 with ⟨_, e⟩ | ⟨g, cap, cur, e, _⟩
  · omega
  · cases e; exact ⟨g, rfl⟩
 subst hpe
 have a0 := World.ownsRow.cells h (g := g) rfl i _ (Qf1 l i (by omega))
 rw [WideShapes.add_plain, Nat.zero_add] at a0
 rw [List.getD_eq_getElem?_getD, List.getElem?_eq_getElem (by omega)] at a0
 exact ⟨g, rfl, a0⟩
def roomB (th : Thr) : Bool := decide (th.mails.length < 6) && flowsL [] th.label th.own
theorem QkB {th : Thr} {m : Mal} (hm : mailE m = 0) (hl : m.label = []) (h : roomB th = true) : boxL th m = { th with mails := th.mails ++ [m] } := by
 unfold roomB at h
 rw [Bool.and_eq_true] at h
 unfold boxL
 rw [if_pos ⟨hm, by rw [hl]; exact h.2, of_decide_eq_true h.1⟩]
theorem QkC {th : Thr} {m : Mal} (hl : m.label = []) (h : roomB th = false) : boxL th m = th := by
 unfold boxL
 rw [if_neg]
 rintro ⟨_, h1, h2⟩
 rw [hl] at h1
 unfold roomB at h
 rw [h1, decide_eq_true h2] at h
 cases h
theorem Qjt {C : Clu} (hg : GoodC C) (hh : HostC C) (hi : ∀ a b, (C.lines a b).high ≤ (C.lines a b).next) {h t tz u : Int} (h1 : hostB h = true) (h2 : hostB t = true) (h3 : hostB tz = true) (h4 : hostB u = true) (hne : tz ≠ h) {text : List UInt8} (htx : ¬ 64 < text.length) (hnet : C.net = []) :
 ((doC C (sendA h t tz u text)).2.code ≠ 0 → (doC C (sendA h t tz u text)).1.net = []) ∧ ((doC C (sendA h t tz u text)).2.code = 0 → ∃ f, SentF C (doC C (sendA h t tz u text)).1 f h t tz u) := Qlc hg hh hi h1 h2 h3 h4 hne htx hnet
theorem QjT {f : Frm} (h : frameE f = 0) (ha : f.ack = false) : mailE f.mail = 0 := by
 unfold frameE at h
 split at h
 · rw [ha] at h
   simp only [Bool.false_eq_true, if_false] at h
   unfold loadE at h
   split at h
   · assumption
   · exact h
 · cases h
set_option maxRecDepth 100000 in
set_option maxHeartbeats 12800000 in
theorem Qev (v : Value) (l : List Ac) (h t tz u lost : Int) (x : List UInt8) (w : World) (hv : AcsAt w v l) :
 Calls Tryz.prog 3 #[v, .int .i64 h, .int .i64 t, .int .i64 tz, .int .i64 u, .int .i64 lost, .string ⟨x.toArray⟩] w fun e w' => e = .returned (.bool true) ∧ Below w.heap.size w w' := by
 have HV := hid hv
 have hfc := Qel
 obtain ⟨p, cap, rfl, hlc, hpc⟩ := hv.slice
 clear hv
 go_enter Tryz.func3, Tryz.ntmps3
 go_upto_if 31 with fail
 go_cut [0] (fun q wq => (∃ l', AcsAt w q l') ∧ wq = w)
 case first =>
  by_cases h60 : (60 : Int) < (l.length : Int)
  · have h1 : 60 ≤ l.length := by omega
    have h2 : (60 : Int) ≤ (cap : Int) := by omega
    cases p with
    | none => exact absurd (hpc rfl) (by omega)
    | some ap =>
     clear hpc
     go_wp2_with fail
     go_meet
     exact ⟨⟨_, HV.out.take 60 h1⟩, rfl⟩
  · go_wp2_with fail
    go_meet
    exact ⟨⟨_, HV.out⟩, rfl⟩
 obtain ⟨⟨l', hv'⟩, hwq⟩ := hcut
 rw [hwq]
 clear hwq wc HV hlc hpc
 have hplay := QhR _ l' w hv'
 obtain ⟨p', cap', rfl, _⟩ := hv'.slice
 clear hv'
 go_upto_region 4 with (go_at_call 7; refine hplay.mono ?_; rintro e w1 ⟨cb, rfl, hcb, hw1, F, ⟨Z, hc1⟩, hF⟩)
 have HG0 := hid (Qcr (l'.take 120) QaN)
 have HH0 := hid (Qi7 (l'.take 120) freshH)
 have HI0 := hid (Qea (l'.take 120) Qii QaN freshH)
 generalize playC freshClu (l'.take 120) = C0 at *
 have HC1 := hid hc1
 have HB1 := hid hw1
 have HF1 := hid hF
 clear hplay hc1 hw1 hF hcb
 go_wp2_with fail
 refine (Qbo h 4 _ (by omega) (by omega)).mono ?_
 rintro e w2 ⟨ph, rfl, hph, hw2⟩
 rw [hw2]
 clear hw2
 go_wp2_with fail
 refine (Qbo t 4 _ (by omega) (by omega)).mono ?_
 rintro e w2 ⟨pt, rfl, hpt, hw2⟩
 rw [hw2]
 clear hw2
 go_wp2_with fail
 refine (Qbo tz 4 _ (by omega) (by omega)).mono ?_
 rintro e w2 ⟨po, rfl, hpo, hw2⟩
 rw [hw2]
 clear hw2
 go_wp2_with fail
 refine (Qbo u 4 _ (by omega) (by omega)).mono ?_
 rintro e w2 ⟨pu, rfl, hpu, hw2⟩
 rw [hw2]
 clear hw2
 go_wp2_with fail
 refine (Qbo lost 5 _ (by omega) (by omega)).mono ?_
 rintro e w2 ⟨pl, rfl, hpl, hw2⟩
 rw [hw2]
 clear hw2
 have q1 : hostB (ph : Int) = true := decide_eq_true ⟨by omega, hph⟩
 have q2 : hostB (pt : Int) = true := decide_eq_true ⟨by omega, hpt⟩
 have q3 : hostB (po : Int) = true := decide_eq_true ⟨by omega, hpo⟩
 have q4 : hostB (pu : Int) = true := decide_eq_true ⟨by omega, hpu⟩
 have HQ1 := hid q1
 have HQ2 := hid q2
 have HQ3 := hid q3
 have HQ4 := hid q4
 clear q1 q2 q3 q4
 go_upto_region 7 with fail
 by_cases h64 : (64 : Int) < (x.length : Int)
 · go_wp2_with fail
   go_ret
   exact ⟨rfl, HB1.out⟩
 cases heq : ((ph : Int) == (po : Int)) with
 | true =>
  go_wp2_with fail
  go_ret
  exact ⟨rfl, HB1.out⟩
 | false =>
  have HNE : Hid ((po : Int) ≠ (ph : Int)) := hid (fun e => by rw [e] at heq; simp at heq)
  have HTX : Hid (¬ 64 < x.length) := hid (by omega)
  go_upto_region 9 with fail
  clear h64 heq
  go_wp2_with fail
  refine (Qdt cb F Z C0 w1 HC1.out HG0.out).mono ?_
  rintro e w2 ⟨bb, D, G, Z2, rfl, hc2, hs2, hem, hgd, hnt⟩
  obtain ⟨hb2, hG2⟩ := hs2.low HC1.out HF1.out HB1.out.size
  have HB2 := hid (Below.trans' HB1.out hb2)
  have HF2 := hid hG2
  have HC2 := hid hc2
  have HE2 := hid hem
  have HGD := hid hgd
  clear hs2 hb2 hG2 hc2 hem hgd
  cases bb with
  | false =>
   go_wp2_with fail
   go_ret
   exact ⟨rfl, HB2.out⟩
  | true =>
   have HNT := hid (hnt rfl)
   clear hnt
   have HHD : Hid (HostC D) := hid (fun g => by rw [HE2.out.ks]; exact HH0.out g)
   have HHI : Hid (∀ a b, (D.lines a b).high ≤ (D.lines a b).next) := hid (fun a b => by rw [HE2.out.lines]; exact HI0.out.2 a b)
   have hdo := Qbx cb G Z2 D _ (sendA ph pt po pu x) w2 HC2.out HGD.out (Qbn w2 G 1 ph pt 0 6 po pu 0 0 x)
   have HG3 := hid (QaL HGD.out (sendA ph pt po pu x))
   have HSB := hid (Qjt HGD.out HHD.out HHI.out HQ1.out HQ2.out HQ3.out HQ4.out HNE.out HTX.out HNT.out)
   generalize doC D (sendA ph pt po pu x) = R at *
   obtain ⟨C3, r⟩ := R
   simp only at hdo
   go_upto_region 12 with (go_at_call 11; refine hdo.mono ?_; rintro e w3 ⟨rfl, G3, Z3, hc3, hs3⟩)
   obtain ⟨hb3, hG3⟩ := hs3.low HC2.out HF2.out HB2.out.size
   have hbx := Qd w3 (.cells #[.int .i64 r.code, .int .i64 r.n, .string ⟨r.text.toArray⟩] 31)
   have HX4 := hid (heap_alloc_new w3 (.cells #[.int .i64 r.code, .int .i64 r.n, .string ⟨r.text.toArray⟩] 31))
   have HC4 := hid (hc3.below hbx)
   have HB4 := hid (Below.trans' (Below.trans' HB2.out hb3) (hbx.mono (Nat.le_trans HB2.out.size hb3.size)))
   have HF4 := hid hG3
   clear hdo hc3 hs3 hb3 hG3 hbx
   generalize w3.alloc (.cells #[.int .i64 r.code, .int .i64 r.n, .string ⟨r.text.toArray⟩] 31) = w4 at *
   have hnet := Qbl cb G3 Z3 C3 w4 HC4.out HG3.out.net
   by_cases hcd : r.code = 0
   · obtain ⟨f, hsf⟩ := HSB.out.2 hcd
     have HSF := hid hsf
     have hl1 : C3.net.length = 1 := by rw [hsf.net]; rfl
     rw [hl1, hsf.net] at hnet
     have x0 : w4.cell? ⟨w3.heap.size, 0, none⟩ = some (.int .i64 0) := by rw [← hcd]; exact Qa HX4.out 0
     clear hsf hl1 hcd HSB
     go_upto_region 13 with (go_at_call 12; refine hnet.mono ?_; rintro e w5 ⟨pz, cz, rfl, hrz, hw5⟩)
     obtain ⟨gz, e1, z0⟩ := QkU hrz rfl 0 (by omega)
     subst e1
     replace z0 : w5.cell? ⟨gz, 0, none⟩ = some (.string ⟨(encL f).toArray⟩) := z0
     have y0 : w5.cell? ⟨w3.heap.size, 0, none⟩ = some (.int .i64 0) := (hw5.cell (Qf x0)).trans x0
     have hzb := Qf z0
     have HB5 := hid (Qc HB4.out hw5)
     have HC5 := hid (HC4.out.below hw5)
     clear hnet hrz hw5 x0
     go_upto_region 18 with fail
     clear y0 z0 hzb
     obtain ⟨fb, hfb⟩ : ∃ fb, fb = encL f := ⟨_, rfl⟩
     rw [← hfb]
     have HFM := hid hfb.symm
     clear hfb
     go_wp2_with fail
     go_loopw [20, 21] (fun a b wr => ∃ (i : Nat) (pw : Int) (H : List Nat) (Zq : CluV) (C : Clu), i ≤ pl ∧ b = .int .i64 i ∧ a = .int .i64 pw ∧ pw = 2 ^ (i + 1) ∧ CluAt wr cb H Zq C ∧ GoodC C ∧ Arr C f i ∧ There C f ∧ C.ks = D.ks ∧ Below w.heap.size w wr ∧ (∀ k ∈ H, w.heap.size ≤ k)) (fun _ b _ => pl - (intOf b).toNat)
     case atStart => exact ⟨0, 2, G3, Z3, C3, Nat.zero_le _, rfl, rfl, rfl, HC5.out, HG3.out, HSF.out.arr, .inl (by rw [HSF.out.net]; exact List.mem_singleton.2 rfl), HSF.out.ks, HB5.out, HF4.out⟩
     case round =>
      clear HC5 HB5 HX4 HC4 HB4 HF4 HG3
      obtain ⟨i, pw, H, Zq, C, hi, rfl, rfl, hpw, hcc, hgc, harr, hth, hks, hbw, hfl⟩ := hrel
      obtain ⟨wi, hwi⟩ : ∃ wi, wi = wr := ⟨_, rfl⟩
      subst hwi
      have HPW := hid hpw
      have HCC := hid hcc
      have HGC := hid hgc
      have HAR := hid harr
      have HTH := hid hth
      have HKS := hid hks
      have HBW := hid hbw
      have HFL := hid hfl
      clear hpw hcc hgc harr hth hks hbw hfl
      by_cases hlt : i < pl
      · have hI : (i : Int) < (pl : Int) := by omega
        have hi4 : i < 4 := by omega
        have hp1 : 2 ≤ pw ∧ pw ≤ 16 := by
         rw [HPW.out]
         have : i = 0 ∨ i = 1 ∨ i = 2 ∨ i = 3 := by omega
         rcases this with rfl | rfl | rfl | rfl <;> decide
        obtain ⟨hp1, hp2⟩ := hp1
        go_wp2_with fail
        refine (Qdt cb H Zq C wi HCC.out HGC.out).mono ?_
        rintro e w6 ⟨bb, E, K, Z6, rfl, hc6, hs6, hem, hge, _⟩
        obtain ⟨hb6, hK6⟩ := hs6.low HCC.out HFL.out HBW.out.size
        have HB6 := hid (Below.trans' HBW.out hb6)
        have HK6 := hid hK6
        have HC6 := hid hc6
        have HGE := hid hge
        have HAE := hid (HAR.out.emp hem)
        have HEK := hid hem.ks
        clear hc6 hs6 hb6 hK6 hem hge
        cases bb with
        | false =>
         go_wp2_with fail
         go_ret
         exact ⟨rfl, HB6.out⟩
        | true =>
         have hdo := Qbx cb K Z6 E _ (tickA pw) w6 HC6.out HGE.out (Qbn w6 K 5 0 0 pw 0 0 0 0 0 [])
         have HT := hid (fun hc => Qk0 HGE.out HSF.out.good HAE.out hi4 hc)
         rw [← HPW.out] at HT
         have HG7 := hid (QaL HGE.out (tickA pw))
         generalize doC E (tickA pw) = R at *
         obtain ⟨C7, r7⟩ := R
         simp only at hdo
         by_cases hcd : r7.code = 0
         · obtain ⟨ta, tt, tk⟩ := HT.out hcd
           have HTA := hid ta
           have HTT := hid tt
           have HTK := hid tk
           rw [hcd] at hdo
           clear hcd ta tt tk HT
           go_wp2_with (go_at_call 11; refine hdo.mono ?_; rintro e w7 ⟨rfl, G7, Z7, hc7, hs7⟩)
           obtain ⟨hb7, hG7⟩ := hs7.low HC6.out HK6.out HB6.out.size
           have HC7 := hid hc7
           have HB7 := hid (Below.trans' HB6.out hb7)
           have HF7 := hid hG7
           clear hdo hc7 hs7 hb7 hG7
           go_roundw
           case rel => exact ⟨i + 1, pw * 2, G7, Z7, C7, hlt, by go_num, by go_num, by rw [HPW.out, ← Int.pow_succ], HC7.out, HG7.out, HTA.out, HTT.out, by rw [HTK.out, HEK.out, HKS.out], HB7.out, HF7.out⟩
           case measure => simp [intOf]; omega
         · have hcb : (r7.code == 0) = false := by simpa using hcd
           clear hcd HT
           go_wp2_with (go_at_call 11; refine hdo.mono ?_; rintro e w7 ⟨rfl, G7, Z7, hc7, hs7⟩)
           obtain ⟨hb7, _⟩ := hs7.low HC6.out HK6.out HB6.out.size
           go_ret
           exact ⟨rfl, Below.trans' HB6.out hb7⟩
      · have hil : i = pl := by omega
        subst hil
        have hthr := Qdw cb po pu H Zq C wi HCC.out HGC.out
        have HGT := hid (Qjl HGC.out po pu)
        have HTH2 : Hid (thrC C po pu = thrC C po pu) := hid rfl
        generalize hth : thrC C po pu = th at *
        replace HTH2 : Hid (thrC C po pu = th) := hid hth
        clear hth
        go_upto_region 26 with (go_at_call 13; refine hthr.mono ?_; rintro e w6 ⟨x1, xa, x2, xb, x3, xc, x4, xd, rfl, hn6, hw6⟩)
        have hbx := Qd w6 (.cells #[.slice x1 th.label.length xa, .slice x2 th.own.length xb, .string ⟨th.text.toArray⟩, .slice x3 th.objs.length xc, .slice x4 th.mails.length xd] 45)
        have HX7 := hid (heap_alloc_new w6 (.cells #[.slice x1 th.label.length xa, .slice x2 th.own.length xb, .string ⟨th.text.toArray⟩, .slice x3 th.objs.length xc, .slice x4 th.mails.length xd] 45))
        have HN7 := hid (hn6.below hbx)
        have HB7 := hid (Qc hw6 hbx)
        clear hthr hn6 hw6 hbx
        generalize w6.alloc (.cells #[.slice x1 th.label.length xa, .slice x2 th.own.length xb, .string ⟨th.text.toArray⟩, .slice x3 th.objs.length xc, .slice x4 th.mails.length xd] 45) = w7 at *
        have hm6 := HGT.out.mails
        have hll := HGT.out.label.1
        have hol := HGT.out.own
        have HLX := hid (fun wx (hb : Below w7.heap.size w7 wx) => QR (HN7.out.below hb).lab (by omega))
        have HOX := hid (fun wx (hb : Below w7.heap.size w7 wx) => QV (HN7.out.below hb).own (by omega))
        have x4 : w7.cell? ⟨w6.heap.size, 4, none⟩ = some (.slice x4 th.mails.length xd) := Qa HX7.out 4
        have x0 : w7.cell? ⟨w6.heap.size, 0, none⟩ = some (.slice x1 th.label.length xa) := Qa HX7.out 0
        have x1' : w7.cell? ⟨w6.heap.size, 1, none⟩ = some (.slice x2 th.own.length xb) := Qa HX7.out 1
        clear hll hol
        go_cut [23] (fun q wq => q = .bool (roomB th) ∧ Below w7.heap.size w7 wq)
        case first =>
         have hfl := Q4 (.slice none 0 0) _ _ [] th.label th.own w7 (LabAt.nil _ _ _ (fun _ => rfl)) (HLX.out _ (Below.refl _ _)) (HOX.out _ (Below.refl _ _))
         by_cases h6 : (th.mails.length : Int) < 6
         · have HR : Hid (roomB th = flowsL [] th.label th.own) := hid (by unfold roomB; rw [decide_eq_true (show th.mails.length < 6 by omega)]; rfl)
           generalize flowsL [] th.label th.own = fb at *
           go_wp2_with (go_at_call 14; refine hfl.mono ?_; rintro e w8 ⟨rfl, hw8⟩)
           go_meet
           exact ⟨by rw [HR.out], hw8⟩
         · have HR : Hid (roomB th = false) := hid (by unfold roomB; rw [decide_eq_false (show ¬ th.mails.length < 6 by omega)]; rfl)
           clear hfl
           go_wp2_with fail
           go_meet
           exact ⟨by rw [HR.out], Below.refl _ _⟩
        obtain ⟨rfl, hw8⟩ := hcut
        have HB8 := hid hw8
        clear hw8 x4 x0 x1'
        obtain ⟨w8, hw8e⟩ : ∃ w8, w8 = wc := ⟨_, rfl⟩
        rw [← hw8e] at HB8 ⊢
        clear hw8e
        have hnet := Qbl cb H Zq C w8 (HCC.out.below (Qc HB7.out HB8.out)) HGC.out.net
        have hn60 := HGC.out.net
        have HNL : Hid (C.net.length = C.net.length) := hid rfl
        generalize hnn : C.net.length = nn at *
        replace HNL : Hid (C.net.length = nn) := hid hnn
        clear hnn
        go_upto_region 28 with (go_at_call 12; refine hnet.mono ?_; rintro e w9 ⟨pz, cz, rfl, hrz, hw9⟩)
        have HRZ := hid hrz
        have HB9 := hid (Qc HB8.out hw9)
        clear hnet hrz hw9 HB8
        go_wp2_with fail
        go_loopw [121] (fun c wr => ∃ k : Nat, k ≤ nn ∧ c = .int .i64 k ∧ wr = w9 ∧ ∀ j (hj : j < k) (hl : j < C.net.length), C.net[j] ≠ encL f) (fun c _ => nn - (intOf c).toNat)
        case atStart => exact ⟨0, Nat.zero_le _, rfl, rfl, fun j hj => absurd hj (Nat.not_lt_zero _)⟩
        case round =>
         obtain ⟨k, hk, rfl, hwr, hno⟩ := hrel
         rw [hwr]
         clear hwr wr
         have HNO := hid hno
         clear hno
         by_cases hlt : k < nn
         · have hK : (k : Int) < (nn : Int) := by omega
           have K0 : (0 : Int) ≤ k := by omega
           have hkl : k < C.net.length := by rw [HNL.out]; exact hlt
           obtain ⟨g, e1, z0⟩ := QkU HRZ.out HNL.out k hlt
           subst e1
           have hzb := Qf z0
           by_cases hse : C.net[k] = encL f
           · have HSE : Hid (C.net[k]? = some (encL f)) := hid (by rw [List.getElem?_eq_getElem hkl, hse])
             rw [hse, HFM.out] at z0
             have HCA := hid (QlX HSF.out.good HSF.out.ack HSF.out.certs HSF.out.label HSF.out.grants HAR.out HSE.out)
             have HGA := hid (QaL HGC.out (comeA k))
             have hdo := Qbx cb H Zq C _ (comeA k) w9 (HCC.out.below (Qc HB7.out HB9.out)) HGC.out (Qbn w9 H 2 0 0 k 0 0 0 0 0 [])
             generalize doC C (comeA k) = R at *
             obtain ⟨CA, ra⟩ := R
             simp only at hdo HCA HGA
             clear hse HSE
             rcases HCA.out with ⟨hcd, hks⟩ | hcd
             · have HTA : Hid (thrC CA po pu = boxL th f.mail) := hid (by
                rw [← HTH2.out]
                unfold thrC
                rw [if_pos HQ3.out, if_pos HQ3.out, hks]
                show thrOf (if (po : Int).toNat = f.to.toNat then deliverL (kerC C f.to) f.thread f.mail else C.ks (po : Int).toNat) pu = _
                rw [HSF.out.dst, HSF.out.thr, if_pos rfl]
                exact QgN (HGC.out.ks _ (by omega)).four HQ4.out _)
               rw [hcd] at hdo
               clear hcd hks HCA
               go_upto_region 34 with (go_at_call 11; refine hdo.mono ?_; rintro e wA ⟨rfl, GA, ZA, hcA, hsA⟩)
               have hCw := HCC.out.below (Qc HB7.out HB9.out)
               obtain ⟨hbA, _⟩ := hsA.low hCw HFL.out (Nat.le_trans HBW.out.size (Qc HB7.out HB9.out).size)
               have HXA := hid (QI hsA hCw (Qe HX7.out HB9.out) (by decide) (by decide) (by decide) (by decide) (by decide) (by decide))
               have HNA := hid (ThrNew.keep (HN7.out.below HB9.out) (QcC (fun k hk => HCC.out.fin k (HCC.out.ownF k hk))) hsA.kept)
               have HBA := hid (Below.trans' (Qc HBW.out (Qc HB7.out HB9.out)) hbA)
               have hthr := Qdw cb po pu GA ZA CA wA hcA HGA.out
               rw [HTA.out] at hthr
               clear hdo hcA hsA hCw hbA z0 hzb
               cases hrm : roomB th with
               | false =>
                rw [QkC HSF.out.label hrm] at hthr
                go_upto_region 35 with (go_at_call 13; refine hthr.mono ?_; rintro e wB ⟨y1, ya, y2, yb, y3, yc, y4, yd, rfl, hnB, hwB⟩)
                have hbx := Qd wB (.cells #[.slice y1 th.label.length ya, .slice y2 th.own.length yb, .string ⟨th.text.toArray⟩, .slice y3 th.objs.length yc, .slice y4 th.mails.length yd] 45)
                have HXB := hid (heap_alloc_new wB (.cells #[.slice y1 th.label.length ya, .slice y2 th.own.length yb, .string ⟨th.text.toArray⟩, .slice y3 th.objs.length yc, .slice y4 th.mails.length yd] 45))
                have HNB := hid (hnB.below hbx)
                have HXC := hid (Qe HXA.out (Qc hwB hbx))
                have HNC := hid (HNA.out.below (Qc hwB hbx))
                have HBB := hid (Qc HBA.out (Qc hwB hbx))
                clear hthr hnB hwB hbx
                generalize wB.alloc (.cells #[.slice y1 th.label.length ya, .slice y2 th.own.length yb, .string ⟨th.text.toArray⟩, .slice y3 th.objs.length yc, .slice y4 th.mails.length yd] 45) = wD at *
                obtain ⟨⟨a0, a1, a2, a3, a4⟩, _⟩ := cells5 HXC.out
                obtain ⟨⟨b0, b1, b2, b3, b4⟩, _⟩ := cells5 HXB.out
                go_wp2_with (go_at_call 15; refine (Qeu _ _ th x1 x2 x3 x4 y1 y2 y3 y4 xa xb xc xd ya yb yc yd wD HNC.out HNB.out HGT.out).mono ?_; rintro e wE ⟨rfl, hwE⟩)
                go_ret
                exact ⟨rfl, Qc HBB.out hwE⟩
               | true =>
                have hme := QjT HSF.out.good HSF.out.ack
                rw [QkB hme HSF.out.label hrm] at hthr
                have hl1 : (th.mails ++ [f.mail]).length = th.mails.length + 1 := by simp
                simp only [hl1] at hthr
                have HM6 : Hid (th.mails.length < 6) := hid (by unfold roomB at hrm; rw [Bool.and_eq_true] at hrm; exact of_decide_eq_true hrm.1)
                have hm6b := HM6.out
                clear hl1 hme
                go_upto_region 35 with (go_at_call 13; refine hthr.mono ?_; rintro e wB ⟨y1, ya, y2, yb, y3, yc, y4, yd, rfl, hnB, hwB⟩)
                have hbx := Qd wB (.cells #[.slice y1 th.label.length ya, .slice y2 th.own.length yb, .string ⟨th.text.toArray⟩, .slice y3 th.objs.length yc, .slice y4 (th.mails.length + 1) yd] 45)
                have HXB := hid (heap_alloc_new wB (.cells #[.slice y1 th.label.length ya, .slice y2 th.own.length yb, .string ⟨th.text.toArray⟩, .slice y3 th.objs.length yc, .slice y4 (th.mails.length + 1) yd] 45))
                have hmB := hnB.mails
                simp only at hmB
                obtain ⟨gm, la, lb, na, nb, e1, c0, c1, c2, c3, c4, _, _⟩ := (hnB.below hbx).mails.get th.mails.length (by simp)
                simp only [List.getElem_concat_length] at c0 c1 c2 c3 c4
                subst e1
                have HXC := hid (Qe HXA.out (Qc hwB hbx))
                have HBB := hid (Qc HBA.out (Qc hwB hbx))
                clear hthr hnB hwB hbx hmB
                generalize wB.alloc (.cells #[.slice y1 th.label.length ya, .slice y2 th.own.length yb, .string ⟨th.text.toArray⟩, .slice y3 th.objs.length yc, .slice (some ⟨gm, 0, none⟩) (th.mails.length + 1) yd] 45) = wD at *
                obtain ⟨⟨a0, a1, a2, a3, a4⟩, _⟩ := cells5 HXC.out
                obtain ⟨⟨b0, b1, b2, b3, b4⟩, _⟩ := cells5 HXB.out
                have hgm := Qf c0
                have hS1 := HSF.out.host
                have hS2 := HSF.out.mthr
                have hS3 := HSF.out.label
                have hS4 := HSF.out.grants
                rw [hS1] at c0
                rw [hS2] at c1
                rw [hS3] at c2
                rw [hS4] at c3
                clear hS1 hS2 hS3 hS4
                have hsub : ((th.mails.length + 1 : Nat) : Int) - (th.mails.length : Int) = 1 := by omega
                go_wp2_with fail
                go_ret
                exact ⟨rfl, HBB.out.alloc HBB.out.size _⟩
             · rw [hcd] at hdo
               clear hcd HCA
               go_wp2_with (go_at_call 11; refine hdo.mono ?_; rintro e wA ⟨rfl, GA, ZA, hcA, hsA⟩)
               obtain ⟨hbA, _⟩ := hsA.low (HCC.out.below (Qc HB7.out HB9.out)) HFL.out (Nat.le_trans HBW.out.size (Qc HB7.out HB9.out).size)
               go_ret
               exact ⟨rfl, Below.trans' (Qc HBW.out (Qc HB7.out HB9.out)) hbA⟩
           · have HSE := hid hse
             have hnb : (C.net[k] == fb) = false := by
              rw [← HFM.out]
              simpa using hse
             generalize hnk : C.net[k] = s at *
             have HNK := hid hnk
             clear hse hnk
             go_wp2_with fail
             go_roundw
             case rel => exact ⟨k + 1, hlt, by go_num, by first | rfl | trivial, fun j hj hl => by
              by_cases ej : j = k
              · subst ej; rw [HNK.out]; exact HSE.out
              · exact HNO.out j (by omega) hl⟩
             case measure => simp [intOf]; omega
         · have hkl : k = nn := by omega
           subst hkl
           have h60 : 60 ≤ k := by
            rcases HTH.out with e | e
            · obtain ⟨j, hj, e2⟩ := List.getElem_of_mem e
              exact absurd e2 (HNO.out j (by rw [← HNL.out]; exact hj) hj)
            · rw [← HNL.out]; exact e
           have h60' : (60 : Int) ≤ (k : Int) := by omega
           have hnet2 := Qbl cb H Zq C w9 (HCC.out.below (Qc HB7.out HB9.out)) HGC.out.net
           rw [HNL.out] at hnet2
           go_wp2_with (go_at_call 12; refine hnet2.mono ?_; rintro e wA ⟨py, cy, rfl, _, hwA⟩)
           go_ret
           exact ⟨rfl, Qc (Qc HBW.out (Qc HB7.out HB9.out)) hwA⟩
   · have hcb : (r.code == 0) = false := by simpa using hcd
     rw [HSB.out.1 hcd] at hnet
     have x0 : w4.cell? ⟨w3.heap.size, 0, none⟩ = some (.int .i64 r.code) := Qa HX4.out 0
     clear hcd HSB
     go_wp2_with (go_at_call 12; refine hnet.mono ?_; rintro e w5 ⟨pz, cz, rfl, _, hw5⟩; have y0 : w5.cell? ⟨w3.heap.size, 0, none⟩ = some (.int .i64 r.code) := (hw5.cell (Qf x0)).trans x0)
     go_ret
     exact ⟨rfl, Qc HB4.out hw5⟩
end Go.Proofs.YtpdijobakfpnbaaGreat
