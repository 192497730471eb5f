/- The statement TopSecret. -/
import Derived.Test.YtlbdaklmlknmbaaGreatYCCome
import Derived.Test.YtlbdaklmlknmbaaGreatYWCert
import Derived.Test.YtlbdaklmlknmbaaGreatYKTake
import Derived.Test.YtlbdaklmlknmbaaGreatYSame
import Derived.Test.YtlbdaklmlknmbaaGreatYMem
import Derived.Deep.DeepCutAuto
namespace Go.Proofs.YtlbdaklmlknmbaaGreat
open Go.RowKit Go.Proofs.Parclose
theorem Qip {α β : Type} {R : α → β → Prop} {l : List α} {m : List β} (h : All2 R l m) {n : Nat} (h1 : n < l.length) (h2 : n < m.length) : R l[n] m[n] := by
 rcases h.get n with ⟨e, _⟩ | ⟨x, y, e1, e2, e3⟩
 · rw [List.getElem?_eq_getElem h1] at e; cases e
 · rw [List.getElem?_eq_getElem h1] at e1
   rw [List.getElem?_eq_getElem h2] at e2
   rw [Option.some.inj e1, Option.some.inj e2]
   exact e3
set_option maxRecDepth 100000 in
set_option maxHeartbeats 25600000 in
theorem Qea (v : Value) (l : List Ac) (c : Int) (y : List UInt8) (w : World) (hv : AcsAt w v l) (htx : ∀ a ∈ l, a.call.text.length ≤ maxLen) :
 Calls Tryz.prog 3 #[v, .int .i64 c, .string ⟨y.toArray⟩] w fun e w' => e = .returned (.bool true) ∧ Below w.heap.size w w' := by
 have HV := hid hv
 have HTX := hid htx
 obtain ⟨p, cap, rfl, hlc, _⟩ := hv.slice
 clear hv htx
 go_enter Tryz.func3, Tryz.ntmps3
 go_upto_region 3 with (go_at_call 9; refine (QgR _).mono ?_; rintro e w1 ⟨rfl, hw1⟩)
 go_wp2_with fail
 refine (Qdw _).mono ?_
 rintro e w2 ⟨rfl, ⟨kp, F1, hc2, hF1⟩, hw2⟩
 go_wp2_with fail
 refine (Qdw _).mono ?_
 rintro e w3 ⟨rfl, ⟨kq, F2, hc3, hF2⟩, hw3⟩
 have HT0 := hid (Qk0 hc2 hc3 hw3 hF2)
 have HB0 := hid (Qc (Qc hw1 hw2) hw3)
 have HF0 : Hid (∀ k ∈ F1 ++ F2, w.heap.size ≤ k) := hid (fun k hk => by
  rcases List.mem_append.1 hk with e | e
  · exact Nat.le_trans hw1.size (hF1 k e)
  · exact Nat.le_trans hw1.size (Nat.le_trans hw2.size (hF2 k e)))
 clear hc2 hc3 hF1 hF2 hw1 hw2 hw3
 go_wp2_with fail
 go_loopw [9] (fun i wr => ∃ (k : Nat) (G : List Nat) (Za Zb : CluV) (A B : Clu), k ≤ l.length ∧ k ≤ 120 ∧ i = .int .i64 k ∧ Two wr G w1.heap.size Za A w2.heap.size Zb B ∧ CluR c A B ∧ GoodC A ∧ GoodC B ∧ Below w.heap.size w wr ∧ (∀ b ∈ G, w.heap.size ≤ b)) (fun i _ => l.length - (intOf i).toNat)
 case atStart => exact ⟨0, _, _, _, _, _, Nat.zero_le _, Nat.zero_le _, rfl, HT0.out, freshR, Qba, Qba, HB0.out, HF0.out⟩
 case round =>
  clear HT0 HB0 HF0
  obtain ⟨k, G, Za, Zb, A, B, hk, hk120, rfl, htw, hcr, hga, hgb, hbw, hfl⟩ := hrel
  have HTW := hid htw
  have HCR := hid hcr
  have HGA := hid hga
  have HGB := hid hgb
  have HBW := hid hbw
  have HFL := hid hfl
  have hsz := hbw.size
  clear htw hcr hga hgb hbw hfl
  go_upto_region 5 with fail
  go_cut [36] (fun q wq => q = .bool (decide (k < l.length ∧ k < 120)) ∧ wq = wr)
  case first =>
   by_cases h1 : (k : Int) < (l.length : Int)
   · by_cases h2 : (k : Int) < 120
     · have HD := hid (decide_eq_true (show k < l.length ∧ k < 120 by omega))
       go_wp2
       go_meet
       exact ⟨by rw [HD.out], rfl⟩
     · have HD := hid (decide_eq_false (show ¬ (k < l.length ∧ k < 120) by omega))
       go_wp2
       go_meet
       exact ⟨by rw [HD.out], rfl⟩
   · have HD := hid (decide_eq_false (show ¬ (k < l.length ∧ k < 120) by omega))
     go_wp2
     go_meet
     exact ⟨by rw [HD.out], rfl⟩
  obtain ⟨rfl, hwq⟩ := hcut
  rw [hwq]
  clear hwq wc
  by_cases hend : k < l.length ∧ k < 120
  · rw [decide_eq_true hend]
    obtain ⟨hlt, h120⟩ := hend
    have hI : (k : Int) < (l.length : Int) := by omega
    have hJ : (k : Int) < 120 := by omega
    obtain ⟨b, o, pl, cl, pg, cg, rfl, hla, hin2, q0, q1, q2, q3, q4, q5, q6, q7, q8, q9, q10, q11⟩ := HV.out.get k hlt
    have HTL := hid (HTX.out _ (List.getElem_mem hlt))
    generalize l[k] = a at *
    have HLA := hid hla
    have HIA := hid hin2
    have r0 := (HBW.out.cell (Qf q0)).trans q0
    have r1 := (HBW.out.cell (Qf q1)).trans q1
    have r2 := (HBW.out.cell (Qf q2)).trans q2
    have r3 := (HBW.out.cell (Qf q3)).trans q3
    have r4 := (HBW.out.cell (Qf q4)).trans q4
    have r5 := (HBW.out.cell (Qf q5)).trans q5
    have r6 := (HBW.out.cell (Qf q6)).trans q6
    have r7 := (HBW.out.cell (Qf q7)).trans q7
    have r8 := (HBW.out.cell (Qf q8)).trans q8
    have r9 := (HBW.out.cell (Qf q9)).trans q9
    have r10 := (HBW.out.cell (Qf q10)).trans q10
    have r11 := (HBW.out.cell (Qf q11)).trans q11
    have hbl := Nat.lt_of_lt_of_le (Qf q0) hsz
    clear q0 q1 q2 q3 q4 q5 q6 q7 q8 q9 q10 q11 hla hin2
    go_upto_region 8 with fail
    have hb1 := Qd wr (.cells #[.int .i64 a.kind, .int .i64 a.h, .int .i64 a.t, .int .i64 a.n, .int .i64 a.call.kind, .int .i64 a.call.h, .int .i64 a.call.t, .int .i64 a.call.n, .int .i64 a.call.c, .slice pl a.call.label.length cl, .slice pg a.call.grants.length cg, .string ⟨a.call.text.toArray⟩] 32)
    have HX1 := hid (heap_alloc_new wr (.cells #[.int .i64 a.kind, .int .i64 a.h, .int .i64 a.t, .int .i64 a.n, .int .i64 a.call.kind, .int .i64 a.call.h, .int .i64 a.call.t, .int .i64 a.call.n, .int .i64 a.call.c, .slice pl a.call.label.length cl, .slice pg a.call.grants.length cg, .string ⟨a.call.text.toArray⟩] 32))
    have HT1 := hid (HTW.out.reserve (.cells #[.int .i64 a.kind, .int .i64 a.h, .int .i64 a.t, .int .i64 a.n, .int .i64 a.call.kind, .int .i64 a.call.h, .int .i64 a.call.t, .int .i64 a.call.n, .int .i64 a.call.c, .slice pl a.call.label.length cl, .slice pg a.call.grants.length cg, .string ⟨a.call.text.toArray⟩] 32))
    have hl1 : wr.heap.size < (wr.alloc (.cells #[.int .i64 a.kind, .int .i64 a.h, .int .i64 a.t, .int .i64 a.n, .int .i64 a.call.kind, .int .i64 a.call.h, .int .i64 a.call.t, .int .i64 a.call.n, .int .i64 a.call.c, .slice pl a.call.label.length cl, .slice pg a.call.grants.length cg, .string ⟨a.call.text.toArray⟩] 32)).heap.size := by simp
    clear r0 r1 r2 r3 r4 r5 r6 r7 r8 r9 r10 r11 hbl
    generalize wr.alloc (.cells #[.int .i64 a.kind, .int .i64 a.h, .int .i64 a.t, .int .i64 a.n, .int .i64 a.call.kind, .int .i64 a.call.h, .int .i64 a.call.t, .int .i64 a.call.n, .int .i64 a.call.c, .slice pl a.call.label.length cl, .slice pg a.call.grants.length cg, .string ⟨a.call.text.toArray⟩] 32) = wx at *
    obtain ⟨x0, x1, x2, x3, x4, x5, x6, x7, x8, x9, x10, x11⟩ : wx.cell? ⟨wr.heap.size, 0, none⟩ = some (.int .i64 a.kind) ∧ wx.cell? ⟨wr.heap.size, 1, none⟩ = some (.int .i64 a.h) ∧ wx.cell? ⟨wr.heap.size, 2, none⟩ = some (.int .i64 a.t) ∧ wx.cell? ⟨wr.heap.size, 3, none⟩ = some (.int .i64 a.n) ∧ wx.cell? ⟨wr.heap.size, 4, none⟩ = some (.int .i64 a.call.kind) ∧ wx.cell? ⟨wr.heap.size, 5, none⟩ = some (.int .i64 a.call.h) ∧ wx.cell? ⟨wr.heap.size, 6, none⟩ = some (.int .i64 a.call.t) ∧ wx.cell? ⟨wr.heap.size, 7, none⟩ = some (.int .i64 a.call.n) ∧ wx.cell? ⟨wr.heap.size, 8, none⟩ = some (.int .i64 a.call.c) ∧ wx.cell? ⟨wr.heap.size, 9, none⟩ = some (.slice pl a.call.label.length cl) ∧ wx.cell? ⟨wr.heap.size, 10, none⟩ = some (.slice pg a.call.grants.length cg) ∧ wx.cell? ⟨wr.heap.size, 11, none⟩ = some (.string ⟨a.call.text.toArray⟩) := ⟨Qa HX1.out 0, Qa HX1.out 1, Qa HX1.out 2, Qa HX1.out 3, Qa HX1.out 4, Qa HX1.out 5, Qa HX1.out 6, Qa HX1.out 7, Qa HX1.out 8, Qa HX1.out 9, Qa HX1.out 10, Qa HX1.out 11⟩
    go_upto_region 9 with fail
    have hb2 := Qd wx (.cells #[.int .i64 a.kind, .int .i64 a.h, .int .i64 a.t, .int .i64 a.n, .int .i64 a.call.kind, .int .i64 a.call.h, .int .i64 a.call.t, .int .i64 a.call.n, .int .i64 a.call.c, .slice pl a.call.label.length cl, .slice pg a.call.grants.length cg, .string ⟨a.call.text.toArray⟩] 32)
    have HX2 := hid (Qe HX1.out hb2)
    have HY2 := hid (heap_alloc_new wx (.cells #[.int .i64 a.kind, .int .i64 a.h, .int .i64 a.t, .int .i64 a.n, .int .i64 a.call.kind, .int .i64 a.call.h, .int .i64 a.call.t, .int .i64 a.call.n, .int .i64 a.call.c, .slice pl a.call.label.length cl, .slice pg a.call.grants.length cg, .string ⟨a.call.text.toArray⟩] 32))
    have HT2 := hid (HT1.out.reserve (.cells #[.int .i64 a.kind, .int .i64 a.h, .int .i64 a.t, .int .i64 a.n, .int .i64 a.call.kind, .int .i64 a.call.h, .int .i64 a.call.t, .int .i64 a.call.n, .int .i64 a.call.c, .slice pl a.call.label.length cl, .slice pg a.call.grants.length cg, .string ⟨a.call.text.toArray⟩] 32))
    have hl2 : wx.heap.size < (wx.alloc (.cells #[.int .i64 a.kind, .int .i64 a.h, .int .i64 a.t, .int .i64 a.n, .int .i64 a.call.kind, .int .i64 a.call.h, .int .i64 a.call.t, .int .i64 a.call.n, .int .i64 a.call.c, .slice pl a.call.label.length cl, .slice pg a.call.grants.length cg, .string ⟨a.call.text.toArray⟩] 32)).heap.size := by simp
    have HBy := hid (Below.trans' HBW.out ((Qc hb1 hb2).mono hsz))
    have HFy : Hid (∀ k ∈ G ++ [wr.heap.size] ++ [wx.heap.size], w.heap.size ≤ k) := hid (fun k hk => by
     simp only [List.mem_append, List.mem_singleton] at hk
     rcases hk with (e | e) | e
     · exact HFL.out k e
     · rw [e]; exact hsz
     · rw [e]; omega)
    have HIN : Hid (wx.heap.size ∈ G ++ [wr.heap.size] ++ [wx.heap.size]) := hid (by simp)
    clear x0 x1 x2 x3 x4 x5 x6 x7 x8 x9 x10 x11 hb1 hb2
    generalize wx.alloc (.cells #[.int .i64 a.kind, .int .i64 a.h, .int .i64 a.t, .int .i64 a.n, .int .i64 a.call.kind, .int .i64 a.call.h, .int .i64 a.call.t, .int .i64 a.call.n, .int .i64 a.call.c, .slice pl a.call.label.length cl, .slice pg a.call.grants.length cg, .string ⟨a.call.text.toArray⟩] 32) = wy at *
    generalize G ++ [wr.heap.size] ++ [wx.heap.size] = G2 at *
    obtain ⟨x1, x2⟩ : wy.cell? ⟨wr.heap.size, 1, none⟩ = some (.int .i64 a.h) ∧ wy.cell? ⟨wr.heap.size, 2, none⟩ = some (.int .i64 a.t) := ⟨Qa HX2.out 1, Qa HX2.out 2⟩
    have hthr := QbI w1.heap.size a.h a.t G2 Za A wy HT2.out.one HGA.out
    have HGT := hid (Qen HGA.out a.h a.t)
    have HTH : Hid (thrC A a.h a.t = thrC A a.h a.t) := hid rfl
    generalize hth : thrC A a.h a.t = th at *
    replace HTH : Hid (thrC A a.h a.t = th) := hid hth
    clear hth
    go_upto_region 10 with (go_at_call 11; refine hthr.mono ?_; rintro e w5 ⟨p1, pa, p2, pb, p3, pc, p4, pd, rfl, hn5, hw5⟩)
    have hbx := Qd w5 (.cells #[.slice p1 th.label.length pa, .slice p2 th.own.length pb, .string ⟨th.text.toArray⟩, .slice p3 th.objs.length pc, .slice p4 th.mails.length pd] 36)
    have HSE : Hid (Sec w wy.heap.size (w5.alloc (.cells #[.slice p1 th.label.length pa, .slice p2 th.own.length pb, .string ⟨th.text.toArray⟩, .slice p3 th.objs.length pc, .slice p4 th.mails.length pd] 36)).heap.size wr.heap.size wx.heap.size w5.heap.size #[.int .i64 a.kind, .int .i64 a.h, .int .i64 a.t, .int .i64 a.n, .int .i64 a.call.kind, .int .i64 a.call.h, .int .i64 a.call.t, .int .i64 a.call.n, .int .i64 a.call.c, .slice pl a.call.label.length cl, .slice pg a.call.grants.length cg, .string ⟨a.call.text.toArray⟩] #[.int .i64 a.kind, .int .i64 a.h, .int .i64 a.t, .int .i64 a.n, .int .i64 a.call.kind, .int .i64 a.call.h, .int .i64 a.call.t, .int .i64 a.call.n, .int .i64 a.call.c, .slice pl a.call.label.length cl, .slice pg a.call.grants.length cg, .string ⟨a.call.text.toArray⟩] #[.slice p1 th.label.length pa, .slice p2 th.own.length pb, .string ⟨th.text.toArray⟩, .slice p3 th.objs.length pc, .slice p4 th.mails.length pd] ⟨p1, pa, p2, pb, p3, pc, p4, pd⟩ th (w5.alloc (.cells #[.slice p1 th.label.length pa, .slice p2 th.own.length pb, .string ⟨th.text.toArray⟩, .slice p3 th.objs.length pc, .slice p4 th.mails.length pd] 36)) G2 w1.heap.size Za A w2.heap.size Zb B) := hid ⟨(HT2.out.below hw5).below hbx, Below.trans' HBy.out ((Qc hw5 hbx).mono HBy.out.size), HFy.out, Qe HX2.out (Qc hw5 hbx), Qe HY2.out (Qc hw5 hbx), heap_alloc_new w5 _, wy.heap.size, w5, Nat.le_refl _, hbx.size, hn5, Qz _ hbx, fun k hk => .inl (HT2.out.one.fin k (HT2.out.one.ownF k hk)), fun k hk => .inl (HT2.out.two.fin k (HT2.out.two.ownF k hk))⟩
    clear hthr hn5 hw5 hbx x1 x2 HX1 HX2 HY2 HT1 HT2 HBy HFy HTW HBW HFL
    generalize w5.alloc (.cells #[.slice p1 th.label.length pa, .slice p2 th.own.length pb, .string ⟨th.text.toArray⟩, .slice p3 th.objs.length pc, .slice p4 th.mails.length pd] 36) = w6 at *
    have hgo := HGT.out.own
    have hgl := HGT.out.label.1
    have HHD : Hid (∀ W F Za' Zb' A' B' Yq, Sec w wy.heap.size w6.heap.size wr.heap.size wx.heap.size w5.heap.size #[.int .i64 a.kind, .int .i64 a.h, .int .i64 a.t, .int .i64 a.n, .int .i64 a.call.kind, .int .i64 a.call.h, .int .i64 a.call.t, .int .i64 a.call.n, .int .i64 a.call.c, .slice pl a.call.label.length cl, .slice pg a.call.grants.length cg, .string ⟨a.call.text.toArray⟩] Yq #[.slice p1 th.label.length pa, .slice p2 th.own.length pb, .string ⟨th.text.toArray⟩, .slice p3 th.objs.length pc, .slice p4 th.mails.length pd] ⟨p1, pa, p2, pb, p3, pc, p4, pd⟩ th W F w1.heap.size Za' A' w2.heap.size Zb' B' → LabAt W (.slice p1 th.label.length pa) th.label ∧ IntsAt W (.slice p2 th.own.length pb) th.own) := hid (fun W F Za' Zb' A' B' Yq hs => ⟨QS hs.held.new.lab (by omega), Q9 hs.held.new.own (by omega)⟩)
    clear hgo hgl
    have HNB : Hid (wr.heap.size ≠ wx.heap.size) := hid (by omega)
    by_cases hown : a.kind = 1 ∧ c ∈ th.own
    · obtain ⟨hk1, hco⟩ := hown
      have HDC := hid (decide_eq_true hco)
      have hkb : (a.kind == 1) = true := by simpa using hk1
      clear hk1 hco
      have z0 : w6.cell? ⟨wr.heap.size, 0, none⟩ = some (.int .i64 a.kind) := Qa HSE.out.hx 0
      have z1 : w6.cell? ⟨w5.heap.size, 1, none⟩ = some (.slice p2 th.own.length pb) := Qa HSE.out.ht 1
      go_wp2_with (go_at_call 12; refine (Qbo _ th.own c w6 (HHD.out _ _ _ _ _ _ _ HSE.out).2).mono ?_; rw [HDC.out]; rintro e w9 ⟨rfl, hwe⟩; rw [hwe]; clear hwe)
      go_roundw
      case rel => exact ⟨k + 1, G2, Za, Zb, A, B, hlt, h120, by go_num, HSE.out.two, HCR.out, HGA.out, HGB.out, HSE.out.low, HSE.out.fl⟩
      case measure => simp [intOf]; omega
    · have HOW := hid hown
      clear hown
      have z0 : w6.cell? ⟨wr.heap.size, 0, none⟩ = some (.int .i64 a.kind) := Qa HSE.out.hx 0
      go_upto_if 52 with fail
      go_cut [13] (fun _ wq => ∃ t' : List UInt8, t'.length = a.call.text.length ∧ (¬ (a.kind = 1 ∧ 1 < atL th.label c) → t' = a.call.text) ∧ Sec w wy.heap.size w6.heap.size wr.heap.size wx.heap.size w5.heap.size #[.int .i64 a.kind, .int .i64 a.h, .int .i64 a.t, .int .i64 a.n, .int .i64 a.call.kind, .int .i64 a.call.h, .int .i64 a.call.t, .int .i64 a.call.n, .int .i64 a.call.c, .slice pl a.call.label.length cl, .slice pg a.call.grants.length cg, .string ⟨a.call.text.toArray⟩] #[.int .i64 a.kind, .int .i64 a.h, .int .i64 a.t, .int .i64 a.n, .int .i64 a.call.kind, .int .i64 a.call.h, .int .i64 a.call.t, .int .i64 a.call.n, .int .i64 a.call.c, .slice pl a.call.label.length cl, .slice pg a.call.grants.length cg, .string ⟨t'.toArray⟩] #[.slice p1 th.label.length pa, .slice p2 th.own.length pb, .string ⟨th.text.toArray⟩, .slice p3 th.objs.length pc, .slice p4 th.mails.length pd] ⟨p1, pa, p2, pb, p3, pc, p4, pd⟩ th wq G2 w1.heap.size Za A w2.heap.size Zb B ∧ w6.heap.size ≤ wq.heap.size)
      case first =>
       cases hkb : (a.kind == 1) with
       | false =>
        go_wp2_with fail
        go_meet
        exact ⟨_, rfl, fun _ => rfl, HSE.out, Nat.le_refl _⟩
       | true =>
        have HK1 : Hid (a.kind = 1) := hid (by simpa using hkb)
        have HDC := hid (decide_eq_false (fun e => HOW.out ⟨HK1.out, e⟩))
        have z1 : w6.cell? ⟨w5.heap.size, 1, none⟩ = some (.slice p2 th.own.length pb) := Qa HSE.out.ht 1
        obtain ⟨⟨t0, t1, t2, t3, t4⟩, _⟩ := cells5 HSE.out.ht
        have htn := Qes th c p1 p2 p3 p4 pa pb pc pd w6 (HHD.out _ _ _ _ _ _ _ HSE.out).1 (HHD.out _ _ _ _ _ _ _ HSE.out).2
        cases htb : taintB th c with
        | false =>
         rw [htb] at htn
         clear htb
         go_wp2_with (first
          | (go_at_call 12; refine (Qbo _ th.own c w6 (HHD.out _ _ _ _ _ _ _ HSE.out).2).mono ?_; rw [HDC.out]; rintro e w9 ⟨rfl, hwe⟩; rw [hwe]; clear hwe)
          | (go_at_call 13; refine htn.mono ?_; rintro e w7 ⟨rfl, hw7⟩))
         go_meet
         exact ⟨_, rfl, fun _ => rfl, HSE.out.below hw7, hw7.size⟩
        | true =>
         have HTB : Hid (1 < atL th.label c) := hid (by unfold taintB at htb; simp only [Bool.and_eq_true, decide_eq_true_eq] at htb; exact htb.1)
         rw [htb] at htn
         clear htb
         have HYC : Hid (∀ W, Below w6.heap.size w6 W → W.cell? ⟨wr.heap.size, 11, none⟩ = some (.string ⟨a.call.text.toArray⟩)) := hid (fun W hb => Qa (Qe HSE.out.hx hb) 11)
         have HYD : Hid (∀ W, Below w6.heap.size w6 W → W.cell? ⟨wx.heap.size, 11, none⟩ = some (.string ⟨a.call.text.toArray⟩) ∧ W.frozen? ⟨wx.heap.size, 11, none⟩ = false) := hid (fun W hb => ⟨Qa (Qe HSE.out.hy hb) 11, Qb (Qe HSE.out.hy hb) 11⟩)
         go_wp2_with (first
          | (go_at_call 12; refine (Qbo _ th.own c w6 (HHD.out _ _ _ _ _ _ _ HSE.out).2).mono ?_; rw [HDC.out]; rintro e w9 ⟨rfl, hwe⟩; rw [hwe]; clear hwe)
          | (go_at_call 13; refine htn.mono ?_; rintro e w7 ⟨rfl, hw7⟩; have y11 := HYC.out w7 hw7)
          | (go_at_call 14; refine (Qkp a.call.text y w7 HTL.out).mono ?_; rintro e w8 ⟨⟨t', ht', rfl⟩, hw8⟩; obtain ⟨y12, y13⟩ := HYD.out w8 (Qc hw7 hw8)))
         go_meet
         have hS8 := (HSE.out.below hw7).below hw8
         exact ⟨t', ht', fun hq => absurd ⟨HK1.out, HTB.out⟩ hq, hS8.putY (Qg w8 wx.heap.size 11 (.string ⟨t'.toArray⟩)) (by rw [heap_setCell hS8.hy]; rfl) HIN.out hl2 HNB.out, by simpa using Nat.le_trans hw7.size hw8.size⟩
      case rest =>
       obtain ⟨t', htl, hte, hsec, hsw⟩ := hcut
       obtain ⟨hR, hcd, hnn, htt⟩ := Qg4 HCR.out a t' (by rw [HTH.out]; exact HOW.out) htl (by rw [HTH.out]; exact hte)
       rw [HTH.out] at htt
       have HRR := hid hR
       have HCD := hid hcd
       have HNN := hid hnn
       have HTT := hid htt
       have HG1 := hid (Qcl HGA.out a)
       have HG2 := hid (Qcl HGB.out (likeA a t'))
       have hdoA := fun (W : World) (F : List Nat) (Zq : CluV) (hc : CluAt W w1.heap.size F Zq A) (hv : AcRo W F (acV a (.slice pl a.call.label.length cl) (.slice pg a.call.grants.length cg)) a) => Qdm w1.heap.size F Zq A _ a W hc HGA.out hv
       have hdoB := fun (W : World) (F : List Nat) (Zq : CluV) (hc : CluAt W w2.heap.size F Zq B) (hv : AcRo W F (acV (likeA a t') (.slice pl a.call.label.length cl) (.slice pg a.call.grants.length cg)) (likeA a t')) => Qdm w2.heap.size F Zq B _ (likeA a t') W hc HGB.out hv
       generalize doC A a = RA at *
       generalize doC B (likeA a t') = RB at *
       unfold acV at hdoA hdoB
       simp only [likeA] at hdoB
       have HSD : Hid (Sec w wy.heap.size w6.heap.size wr.heap.size wx.heap.size w5.heap.size #[.int .i64 a.kind, .int .i64 a.h, .int .i64 a.t, .int .i64 a.n, .int .i64 a.call.kind, .int .i64 a.call.h, .int .i64 a.call.t, .int .i64 a.call.n, .int .i64 a.call.c, .slice pl a.call.label.length cl, .slice pg a.call.grants.length cg, .string ⟨a.call.text.toArray⟩] #[.int .i64 a.kind, .int .i64 a.h, .int .i64 a.t, .int .i64 a.n, .int .i64 a.call.kind, .int .i64 a.call.h, .int .i64 a.call.t, .int .i64 a.call.n, .int .i64 a.call.c, .slice pl a.call.label.length cl, .slice pg a.call.grants.length cg, .string ⟨t'.toArray⟩] #[.slice p1 th.label.length pa, .slice p2 th.own.length pb, .string ⟨th.text.toArray⟩, .slice p3 th.objs.length pc, .slice p4 th.mails.length pd] ⟨p1, pa, p2, pb, p3, pc, p4, pd⟩ th wc.drew G2 w1.heap.size Za A w2.heap.size Zb B) := hid (hsec.below (Below.refl _ _).drew)
       have HSS : Hid (∀ W F Za' Zb' A' B', Sec w wy.heap.size w6.heap.size wr.heap.size wx.heap.size w5.heap.size #[.int .i64 a.kind, .int .i64 a.h, .int .i64 a.t, .int .i64 a.n, .int .i64 a.call.kind, .int .i64 a.call.h, .int .i64 a.call.t, .int .i64 a.call.n, .int .i64 a.call.c, .slice pl a.call.label.length cl, .slice pg a.call.grants.length cg, .string ⟨a.call.text.toArray⟩] #[.int .i64 a.kind, .int .i64 a.h, .int .i64 a.t, .int .i64 a.n, .int .i64 a.call.kind, .int .i64 a.call.h, .int .i64 a.call.t, .int .i64 a.call.n, .int .i64 a.call.c, .slice pl a.call.label.length cl, .slice pg a.call.grants.length cg, .string ⟨t'.toArray⟩] #[.slice p1 th.label.length pa, .slice p2 th.own.length pb, .string ⟨th.text.toArray⟩, .slice p3 th.objs.length pc, .slice p4 th.mails.length pd] ⟨p1, pa, p2, pb, p3, pc, p4, pd⟩ th W F w1.heap.size Za' A' w2.heap.size Zb' B' → (W.cell? ⟨wr.heap.size, 0, none⟩ = some (.int .i64 a.kind) ∧ W.cell? ⟨wr.heap.size, 1, none⟩ = some (.int .i64 a.h) ∧ W.cell? ⟨wr.heap.size, 2, none⟩ = some (.int .i64 a.t) ∧ W.cell? ⟨wr.heap.size, 3, none⟩ = some (.int .i64 a.n) ∧ W.cell? ⟨wr.heap.size, 4, none⟩ = some (.int .i64 a.call.kind) ∧ W.cell? ⟨wr.heap.size, 5, none⟩ = some (.int .i64 a.call.h) ∧ W.cell? ⟨wr.heap.size, 6, none⟩ = some (.int .i64 a.call.t) ∧ W.cell? ⟨wr.heap.size, 7, none⟩ = some (.int .i64 a.call.n) ∧ W.cell? ⟨wr.heap.size, 8, none⟩ = some (.int .i64 a.call.c) ∧ W.cell? ⟨wr.heap.size, 9, none⟩ = some (.slice pl a.call.label.length cl) ∧ W.cell? ⟨wr.heap.size, 10, none⟩ = some (.slice pg a.call.grants.length cg) ∧ W.cell? ⟨wr.heap.size, 11, none⟩ = some (.string ⟨a.call.text.toArray⟩)) ∧ W.cell? ⟨wx.heap.size, 0, none⟩ = some (.int .i64 a.kind) ∧ W.cell? ⟨wx.heap.size, 1, none⟩ = some (.int .i64 a.h) ∧ W.cell? ⟨wx.heap.size, 2, none⟩ = some (.int .i64 a.t) ∧ W.cell? ⟨wx.heap.size, 3, none⟩ = some (.int .i64 a.n) ∧ W.cell? ⟨wx.heap.size, 4, none⟩ = some (.int .i64 a.call.kind) ∧ W.cell? ⟨wx.heap.size, 5, none⟩ = some (.int .i64 a.call.h) ∧ W.cell? ⟨wx.heap.size, 6, none⟩ = some (.int .i64 a.call.t) ∧ W.cell? ⟨wx.heap.size, 7, none⟩ = some (.int .i64 a.call.n) ∧ W.cell? ⟨wx.heap.size, 8, none⟩ = some (.int .i64 a.call.c) ∧ W.cell? ⟨wx.heap.size, 9, none⟩ = some (.slice pl a.call.label.length cl) ∧ W.cell? ⟨wx.heap.size, 10, none⟩ = some (.slice pg a.call.grants.length cg) ∧ W.cell? ⟨wx.heap.size, 11, none⟩ = some (.string ⟨t'.toArray⟩)) := hid (fun W F Za' Zb' A' B' hs => ⟨⟨Qa hs.hx 0, Qa hs.hx 1, Qa hs.hx 2, Qa hs.hx 3, Qa hs.hx 4, Qa hs.hx 5, Qa hs.hx 6, Qa hs.hx 7, Qa hs.hx 8, Qa hs.hx 9, Qa hs.hx 10, Qa hs.hx 11⟩, Qa hs.hy 0, Qa hs.hy 1, Qa hs.hy 2, Qa hs.hy 3, Qa hs.hy 4, Qa hs.hy 5, Qa hs.hy 6, Qa hs.hy 7, Qa hs.hy 8, Qa hs.hy 9, Qa hs.hy 10, Qa hs.hy 11⟩)
       have HLT : Hid (w6.heap.size ≤ wc.drew.heap.size) := hid hsw
       clear hsec hsw hR hcd hnn htt htl hte
       go_upto_region 14 with fail
       go_cut [13, 14] (fun va vb wq => ∃ (ra rb : Nat) (H : List Nat) (Zc Ze : CluV), va = .pointer (some ⟨ra, 0, none⟩) ∧ vb = .pointer (some ⟨rb, 0, none⟩) ∧ Sec w wy.heap.size w6.heap.size wr.heap.size wx.heap.size w5.heap.size #[.int .i64 a.kind, .int .i64 a.h, .int .i64 a.t, .int .i64 a.n, .int .i64 a.call.kind, .int .i64 a.call.h, .int .i64 a.call.t, .int .i64 a.call.n, .int .i64 a.call.c, .slice pl a.call.label.length cl, .slice pg a.call.grants.length cg, .string ⟨a.call.text.toArray⟩] #[.int .i64 a.kind, .int .i64 a.h, .int .i64 a.t, .int .i64 a.n, .int .i64 a.call.kind, .int .i64 a.call.h, .int .i64 a.call.t, .int .i64 a.call.n, .int .i64 a.call.c, .slice pl a.call.label.length cl, .slice pg a.call.grants.length cg, .string ⟨t'.toArray⟩] #[.slice p1 th.label.length pa, .slice p2 th.own.length pb, .string ⟨th.text.toArray⟩, .slice p3 th.objs.length pc, .slice p4 th.mails.length pd] ⟨p1, pa, p2, pb, p3, pc, p4, pd⟩ th wq H w1.heap.size Zc RA.1 w2.heap.size Ze RB.1 ∧ wq.heap[ra]? = some (.cells #[.int .i64 RA.2.code, .int .i64 RA.2.n, .string ⟨RA.2.text.toArray⟩] 43 (0, 0)) ∧ wq.heap[rb]? = some (.cells #[.int .i64 RB.2.code, .int .i64 RB.2.n, .string ⟨RB.2.text.toArray⟩] 43 (0, 0)))
       case first =>
        as_aux_lemma =>
         refine wp_region_held_drew (S := (fun w' => (w'.cell? ⟨wr.heap.size, 0, none⟩ = some (.int .i64 a.kind) ∧ w'.cell? ⟨wr.heap.size, 1, none⟩ = some (.int .i64 a.h) ∧ w'.cell? ⟨wr.heap.size, 2, none⟩ = some (.int .i64 a.t) ∧ w'.cell? ⟨wr.heap.size, 3, none⟩ = some (.int .i64 a.n) ∧ w'.cell? ⟨wr.heap.size, 4, none⟩ = some (.int .i64 a.call.kind) ∧ w'.cell? ⟨wr.heap.size, 5, none⟩ = some (.int .i64 a.call.h) ∧ w'.cell? ⟨wr.heap.size, 6, none⟩ = some (.int .i64 a.call.t) ∧ w'.cell? ⟨wr.heap.size, 7, none⟩ = some (.int .i64 a.call.n) ∧ w'.cell? ⟨wr.heap.size, 8, none⟩ = some (.int .i64 a.call.c) ∧ w'.cell? ⟨wr.heap.size, 9, none⟩ = some (.slice pl a.call.label.length cl) ∧ w'.cell? ⟨wr.heap.size, 10, none⟩ = some (.slice pg a.call.grants.length cg) ∧ w'.cell? ⟨wr.heap.size, 11, none⟩ = some (.string ⟨a.call.text.toArray⟩)) ∧ w'.cell? ⟨wx.heap.size, 0, none⟩ = some (.int .i64 a.kind) ∧ w'.cell? ⟨wx.heap.size, 1, none⟩ = some (.int .i64 a.h) ∧ w'.cell? ⟨wx.heap.size, 2, none⟩ = some (.int .i64 a.t) ∧ w'.cell? ⟨wx.heap.size, 3, none⟩ = some (.int .i64 a.n) ∧ w'.cell? ⟨wx.heap.size, 4, none⟩ = some (.int .i64 a.call.kind) ∧ w'.cell? ⟨wx.heap.size, 5, none⟩ = some (.int .i64 a.call.h) ∧ w'.cell? ⟨wx.heap.size, 6, none⟩ = some (.int .i64 a.call.t) ∧ w'.cell? ⟨wx.heap.size, 7, none⟩ = some (.int .i64 a.call.n) ∧ w'.cell? ⟨wx.heap.size, 8, none⟩ = some (.int .i64 a.call.c) ∧ w'.cell? ⟨wx.heap.size, 9, none⟩ = some (.slice pl a.call.label.length cl) ∧ w'.cell? ⟨wx.heap.size, 10, none⟩ = some (.slice pg a.call.grants.length cg) ∧ w'.cell? ⟨wx.heap.size, 11, none⟩ = some (.string ⟨t'.toArray⟩))) (by as_aux_lemma => kernel_rfl) (HSS.out _ _ _ _ _ _ HSD.out) (fun _hHeld => ?_)
         refine takeF 0 67 ?v1 rfl (Or.inl ⟨by rfl, ?hy1⟩) ?rest1
         case hy1 => intro wz hSw; (try dsimp only at hSw); go_simp; try with_reducible rfl
         simp only [Act.put, List.setIfInBounds_toArray, List.set_cons_zero, List.set_cons_succ]
         refine takeF 1 68 ?v2 rfl (Or.inl ⟨by rfl, ?hy2⟩) ?rest2
         case hy2 => intro wz hSw; (try dsimp only at hSw); go_simp; try with_reducible rfl
         simp only [Act.put, List.setIfInBounds_toArray, List.set_cons_zero, List.set_cons_succ]
         refine takeF 3 70 ?v3 rfl (Or.inl ⟨by rfl, ?hy3⟩) ?rest3
         case hy3 => intro wz hSw; (try dsimp only at hSw); go_simp; try with_reducible rfl
         simp only [Act.put, List.setIfInBounds_toArray, List.set_cons_zero, List.set_cons_succ]
         refine takeF 4 71 ?v4 rfl (Or.inl ⟨by rfl, ?hy4⟩) ?rest4
         case hy4 => intro wz hSw; (try dsimp only at hSw); go_simp; try with_reducible rfl
         simp only [Act.put, List.setIfInBounds_toArray, List.set_cons_zero, List.set_cons_succ]
         obtain ⟨wd, hwd⟩ : ∃ wd, wd = wc.drew := ⟨_, rfl⟩
         rw [← hwd] at HSD HLT ⊢
         clear hwd
         have hwd6 := HLT.out
         refine wpAnyH_ready (rs := [2, 6, 7]) (by as_aux_lemma => kernel_rfl) (by simp) ?_
         refine (AllReadyH.cons rfl (fun K' hK => ?_) (AllReadyH.cons rfl (fun K' hK => ?_) (AllReadyH.cons rfl (fun K' hK => ?_) AllReadyH.nil)))
         · skip
           go_simp
           go_wp2_with (go_at_call 15; refine (hdoA wd G2 Za HSD.out.two.one ⟨_, _, rfl, QR HLA.out HSD.out.fl (HLA.out.below HSD.out.low), QM HIA.out HSD.out.fl (HIA.out.below HSD.out.low)⟩).mono ?_; rintro e wv1 ⟨rfl, G2, Z3, hc6, hs5⟩)
           have HS4 := hid (HSD.out.stepA hs5 hc6)
           have hl7 := hs5.kept.size
           refine hK.out _ _ (HSS.out _ _ _ _ _ _ HS4.out) (fun _ => ?_)
           clear hK K'
           clear hs5 hc6
           refine wpAnyH_ready (rs := [5, 6, 7]) (by as_aux_lemma => kernel_rfl) (by simp) ?_
           refine (AllReadyH.cons rfl (fun K' hK => ?_) (AllReadyH.cons rfl (fun K' hK => ?_) (AllReadyH.cons rfl (fun K' hK => ?_) AllReadyH.nil)))
           · skip
             go_simp
             go_wp2_with (go_at_call 15; refine (hdoB wv1 G2 Zb HS4.out.two.two ⟨_, _, rfl, QR HLA.out HS4.out.fl (HLA.out.below HS4.out.low), QM HIA.out HS4.out.fl (HIA.out.below HS4.out.low)⟩).mono ?_; rintro e wv8 ⟨rfl, G9, Z10, hc13, hs12⟩)
             have HS11 := hid (HS4.out.stepB hs12 hc13)
             have hl14 := hs12.kept.size
             refine hK.out _ _ (HSS.out _ _ _ _ _ _ HS11.out) (fun _ => ?_)
             clear hK K'
             clear hs12 hc13
             refine wpAnyH_ready (rs := [6, 7]) (by as_aux_lemma => kernel_rfl) (by simp) ?_
             refine (AllReadyH.cons rfl (fun K' hK => ?_) (AllReadyH.cons rfl (fun K' hK => ?_) AllReadyH.nil))
             · skip
               go_simp
               have HS17 := hid (HS11.out.alloc (.cells #[.int .i64 0, .int .i64 0, .string ⟨#[]⟩] 43))
               have HR18 := hid (QT wv8 G9 #[.int .i64 0, .int .i64 0, .string ⟨#[]⟩])
               have hl19 : wv8.heap.size < (wv8.alloc (.cells #[.int .i64 0, .int .i64 0, .string ⟨#[]⟩] 43)).heap.size := by simp
               refine hK.out _ _ (HSS.out _ _ _ _ _ _ HS17.out) (fun _ => ?_)
               clear hK K'
               generalize G9 ++ [wv8.heap.size] = F16 at *
               generalize wv8.alloc (.cells #[.int .i64 0, .int .i64 0, .string ⟨#[]⟩] 43) = wz15 at *
               refine wpAnyH_ready (rs := [7]) (by as_aux_lemma => kernel_rfl) (by simp) ?_
               refine (AllReadyH.cons rfl (fun K' hK => ?_) AllReadyH.nil)
               go_simp
               have HS22 := hid (HS17.out.alloc (.cells #[.int .i64 0, .int .i64 0, .string ⟨#[]⟩] 43))
               have HR23 := hid (QT wz15 F16 #[.int .i64 0, .int .i64 0, .string ⟨#[]⟩])
               have hl24 : wz15.heap.size < (wz15.alloc (.cells #[.int .i64 0, .int .i64 0, .string ⟨#[]⟩] 43)).heap.size := by simp
               refine hK.out _ _ (HSS.out _ _ _ _ _ _ HS22.out) (fun _ => ?_)
               clear hK K'
               have HR25 := hid (HR18.out.alloc (.cells #[.int .i64 0, .int .i64 0, .string ⟨#[]⟩] 43))
               generalize F16 ++ [wz15.heap.size] = F21 at *
               generalize wz15.alloc (.cells #[.int .i64 0, .int .i64 0, .string ⟨#[]⟩] 43) = wz20 at *
               obtain ⟨d0, d1, d2, d3, d4, d5⟩ := cells3 HR25.out.1
               have hab : wv8.heap.size ≠ wz15.heap.size := by omega
               refine wpAnyH_ready (rs := [8]) (by as_aux_lemma => kernel_rfl) (by simp) ?_
               refine (AllReadyH.cons rfl (fun K' hK => ?_) AllReadyH.nil)
               go_simp
               have hg1 := Qo wz20 (wv8.heap.size) (.int .i64 RA.2.code) (.int .i64 RA.2.n) (.string ⟨RA.2.text.toArray⟩)
               have HSa := hid (HS22.out.put HR25.out hg1 (by omega))
               refine hK.out _ _ (HSS.out _ _ _ _ _ _ HSa.out) (fun _ => ?_)
               clear hK K'
               clear d0 d1 d2 d3 d4 d5
               have HXa := hid (Qt (.int .i64 RA.2.code) (.int .i64 RA.2.n) (.string ⟨RA.2.text.toArray⟩) HR25.out.1)
               have HYa := hid (Qj HR23.out.1 (Ne.symm hab) hg1)
               unfold st3 at HSa HXa HYa
               obtain ⟨wm, hwm⟩ : ∃ wm, wm = ((wz20.setCell ⟨wv8.heap.size, 0, none⟩ (.int .i64 RA.2.code)).setCell ⟨wv8.heap.size, 1, none⟩ (.int .i64 RA.2.n)).setCell ⟨wv8.heap.size, 2, none⟩ (.string ⟨RA.2.text.toArray⟩) := ⟨_, rfl⟩
               rw [← hwm] at HSa HXa HYa ⊢
               clear hwm hg1
               obtain ⟨d0, d1, d2, d3, d4, d5⟩ := cells3 HYa.out
               refine wpAnyH_ready (rs := [9]) (by as_aux_lemma => kernel_rfl) (by simp) ?_
               refine (AllReadyH.cons rfl (fun K' hK => ?_) AllReadyH.nil)
               go_simp
               have hg2 := Qo wm (wz15.heap.size) (.int .i64 RB.2.code) (.int .i64 RB.2.n) (.string ⟨RB.2.text.toArray⟩)
               have HSb := hid (HSa.out.put ⟨HYa.out, HR23.out.2⟩ hg2 (by omega))
               refine hK.out _ _ (HSS.out _ _ _ _ _ _ HSb.out) (fun _ => ?_)
               clear hK K'
               refine wpAnyH_done (by as_aux_lemma => kernel_rfl) ?_ _
               go_wp2_with fail
               go_meet
               exact ⟨_, _, _, _, _, rfl, rfl, HSb.out, Qj HXa.out hab hg2, Qt (.int .i64 RB.2.code) (.int .i64 RB.2.n) (.string ⟨RB.2.text.toArray⟩) HYa.out⟩
             · skip
               go_simp
               have HS28 := hid (HS11.out.alloc (.cells #[.int .i64 0, .int .i64 0, .string ⟨#[]⟩] 43))
               have HR29 := hid (QT wv8 G9 #[.int .i64 0, .int .i64 0, .string ⟨#[]⟩])
               have hl30 : wv8.heap.size < (wv8.alloc (.cells #[.int .i64 0, .int .i64 0, .string ⟨#[]⟩] 43)).heap.size := by simp
               refine hK.out _ _ (HSS.out _ _ _ _ _ _ HS28.out) (fun _ => ?_)
               clear hK K'
               generalize G9 ++ [wv8.heap.size] = F27 at *
               generalize wv8.alloc (.cells #[.int .i64 0, .int .i64 0, .string ⟨#[]⟩] 43) = wz26 at *
               refine wpAnyH_ready (rs := [6]) (by as_aux_lemma => kernel_rfl) (by simp) ?_
               refine (AllReadyH.cons rfl (fun K' hK => ?_) AllReadyH.nil)
               go_simp
               have HS33 := hid (HS28.out.alloc (.cells #[.int .i64 0, .int .i64 0, .string ⟨#[]⟩] 43))
               have HR34 := hid (QT wz26 F27 #[.int .i64 0, .int .i64 0, .string ⟨#[]⟩])
               have hl35 : wz26.heap.size < (wz26.alloc (.cells #[.int .i64 0, .int .i64 0, .string ⟨#[]⟩] 43)).heap.size := by simp
               refine hK.out _ _ (HSS.out _ _ _ _ _ _ HS33.out) (fun _ => ?_)
               clear hK K'
               have HR36 := hid (HR29.out.alloc (.cells #[.int .i64 0, .int .i64 0, .string ⟨#[]⟩] 43))
               generalize F27 ++ [wz26.heap.size] = F32 at *
               generalize wz26.alloc (.cells #[.int .i64 0, .int .i64 0, .string ⟨#[]⟩] 43) = wz31 at *
               obtain ⟨d0, d1, d2, d3, d4, d5⟩ := cells3 HR34.out.1
               have hab : wz26.heap.size ≠ wv8.heap.size := by omega
               refine wpAnyH_ready (rs := [8]) (by as_aux_lemma => kernel_rfl) (by simp) ?_
               refine (AllReadyH.cons rfl (fun K' hK => ?_) AllReadyH.nil)
               go_simp
               have hg1 := Qo wz31 (wz26.heap.size) (.int .i64 RA.2.code) (.int .i64 RA.2.n) (.string ⟨RA.2.text.toArray⟩)
               have HSa := hid (HS33.out.put HR34.out hg1 (by omega))
               refine hK.out _ _ (HSS.out _ _ _ _ _ _ HSa.out) (fun _ => ?_)
               clear hK K'
               clear d0 d1 d2 d3 d4 d5
               have HXa := hid (Qt (.int .i64 RA.2.code) (.int .i64 RA.2.n) (.string ⟨RA.2.text.toArray⟩) HR34.out.1)
               have HYa := hid (Qj HR36.out.1 (Ne.symm hab) hg1)
               unfold st3 at HSa HXa HYa
               obtain ⟨wm, hwm⟩ : ∃ wm, wm = ((wz31.setCell ⟨wz26.heap.size, 0, none⟩ (.int .i64 RA.2.code)).setCell ⟨wz26.heap.size, 1, none⟩ (.int .i64 RA.2.n)).setCell ⟨wz26.heap.size, 2, none⟩ (.string ⟨RA.2.text.toArray⟩) := ⟨_, rfl⟩
               rw [← hwm] at HSa HXa HYa ⊢
               clear hwm hg1
               obtain ⟨d0, d1, d2, d3, d4, d5⟩ := cells3 HYa.out
               refine wpAnyH_ready (rs := [9]) (by as_aux_lemma => kernel_rfl) (by simp) ?_
               refine (AllReadyH.cons rfl (fun K' hK => ?_) AllReadyH.nil)
               go_simp
               have hg2 := Qo wm (wv8.heap.size) (.int .i64 RB.2.code) (.int .i64 RB.2.n) (.string ⟨RB.2.text.toArray⟩)
               have HSb := hid (HSa.out.put ⟨HYa.out, HR36.out.2⟩ hg2 (by omega))
               refine hK.out _ _ (HSS.out _ _ _ _ _ _ HSb.out) (fun _ => ?_)
               clear hK K'
               refine wpAnyH_done (by as_aux_lemma => kernel_rfl) ?_ _
               go_wp2_with fail
               go_meet
               exact ⟨_, _, _, _, _, rfl, rfl, HSb.out, Qj HXa.out hab hg2, Qt (.int .i64 RB.2.code) (.int .i64 RB.2.n) (.string ⟨RB.2.text.toArray⟩) HYa.out⟩
           · skip
             go_simp
             have HS39 := hid (HS4.out.alloc (.cells #[.int .i64 0, .int .i64 0, .string ⟨#[]⟩] 43))
             have HR40 := hid (QT wv1 G2 #[.int .i64 0, .int .i64 0, .string ⟨#[]⟩])
             have hl41 : wv1.heap.size < (wv1.alloc (.cells #[.int .i64 0, .int .i64 0, .string ⟨#[]⟩] 43)).heap.size := by simp
             refine hK.out _ _ (HSS.out _ _ _ _ _ _ HS39.out) (fun _ => ?_)
             clear hK K'
             generalize G2 ++ [wv1.heap.size] = F38 at *
             generalize wv1.alloc (.cells #[.int .i64 0, .int .i64 0, .string ⟨#[]⟩] 43) = wz37 at *
             refine wpAnyH_ready (rs := [5, 7]) (by as_aux_lemma => kernel_rfl) (by simp) ?_
             refine (AllReadyH.cons rfl (fun K' hK => ?_) (AllReadyH.cons rfl (fun K' hK => ?_) AllReadyH.nil))
             · skip
               go_simp
               go_wp2_with (go_at_call 15; refine (hdoB wz37 F38 Zb HS39.out.two.two ⟨_, _, rfl, QR HLA.out HS39.out.fl (HLA.out.below HS39.out.low), QM HIA.out HS39.out.fl (HIA.out.below HS39.out.low)⟩).mono ?_; rintro e wv42 ⟨rfl, G43, Z44, hc47, hs46⟩)
               have HS45 := hid (HS39.out.stepB hs46 hc47)
               have hl48 := hs46.kept.size
               refine hK.out _ _ (HSS.out _ _ _ _ _ _ HS45.out) (fun _ => ?_)
               clear hK K'
               have HR49 := hid (HR40.out.step hs46 HS39.out.two.two)
               clear hs46 hc47
               refine wpAnyH_ready (rs := [7]) (by as_aux_lemma => kernel_rfl) (by simp) ?_
               refine (AllReadyH.cons rfl (fun K' hK => ?_) AllReadyH.nil)
               go_simp
               have HS52 := hid (HS45.out.alloc (.cells #[.int .i64 0, .int .i64 0, .string ⟨#[]⟩] 43))
               have HR53 := hid (QT wv42 G43 #[.int .i64 0, .int .i64 0, .string ⟨#[]⟩])
               have hl54 : wv42.heap.size < (wv42.alloc (.cells #[.int .i64 0, .int .i64 0, .string ⟨#[]⟩] 43)).heap.size := by simp
               refine hK.out _ _ (HSS.out _ _ _ _ _ _ HS52.out) (fun _ => ?_)
               clear hK K'
               have HR55 := hid (HR49.out.alloc (.cells #[.int .i64 0, .int .i64 0, .string ⟨#[]⟩] 43))
               generalize G43 ++ [wv42.heap.size] = F51 at *
               generalize wv42.alloc (.cells #[.int .i64 0, .int .i64 0, .string ⟨#[]⟩] 43) = wz50 at *
               obtain ⟨d0, d1, d2, d3, d4, d5⟩ := cells3 HR55.out.1
               have hab : wv1.heap.size ≠ wv42.heap.size := by omega
               refine wpAnyH_ready (rs := [8]) (by as_aux_lemma => kernel_rfl) (by simp) ?_
               refine (AllReadyH.cons rfl (fun K' hK => ?_) AllReadyH.nil)
               go_simp
               have hg1 := Qo wz50 (wv1.heap.size) (.int .i64 RA.2.code) (.int .i64 RA.2.n) (.string ⟨RA.2.text.toArray⟩)
               have HSa := hid (HS52.out.put HR55.out hg1 (by omega))
               refine hK.out _ _ (HSS.out _ _ _ _ _ _ HSa.out) (fun _ => ?_)
               clear hK K'
               clear d0 d1 d2 d3 d4 d5
               have HXa := hid (Qt (.int .i64 RA.2.code) (.int .i64 RA.2.n) (.string ⟨RA.2.text.toArray⟩) HR55.out.1)
               have HYa := hid (Qj HR53.out.1 (Ne.symm hab) hg1)
               unfold st3 at HSa HXa HYa
               obtain ⟨wm, hwm⟩ : ∃ wm, wm = ((wz50.setCell ⟨wv1.heap.size, 0, none⟩ (.int .i64 RA.2.code)).setCell ⟨wv1.heap.size, 1, none⟩ (.int .i64 RA.2.n)).setCell ⟨wv1.heap.size, 2, none⟩ (.string ⟨RA.2.text.toArray⟩) := ⟨_, rfl⟩
               rw [← hwm] at HSa HXa HYa ⊢
               clear hwm hg1
               obtain ⟨d0, d1, d2, d3, d4, d5⟩ := cells3 HYa.out
               refine wpAnyH_ready (rs := [9]) (by as_aux_lemma => kernel_rfl) (by simp) ?_
               refine (AllReadyH.cons rfl (fun K' hK => ?_) AllReadyH.nil)
               go_simp
               have hg2 := Qo wm (wv42.heap.size) (.int .i64 RB.2.code) (.int .i64 RB.2.n) (.string ⟨RB.2.text.toArray⟩)
               have HSb := hid (HSa.out.put ⟨HYa.out, HR53.out.2⟩ hg2 (by omega))
               refine hK.out _ _ (HSS.out _ _ _ _ _ _ HSb.out) (fun _ => ?_)
               clear hK K'
               refine wpAnyH_done (by as_aux_lemma => kernel_rfl) ?_ _
               go_wp2_with fail
               go_meet
               exact ⟨_, _, _, _, _, rfl, rfl, HSb.out, Qj HXa.out hab hg2, Qt (.int .i64 RB.2.code) (.int .i64 RB.2.n) (.string ⟨RB.2.text.toArray⟩) HYa.out⟩
             · skip
               go_simp
               have HS58 := hid (HS39.out.alloc (.cells #[.int .i64 0, .int .i64 0, .string ⟨#[]⟩] 43))
               have HR59 := hid (QT wz37 F38 #[.int .i64 0, .int .i64 0, .string ⟨#[]⟩])
               have hl60 : wz37.heap.size < (wz37.alloc (.cells #[.int .i64 0, .int .i64 0, .string ⟨#[]⟩] 43)).heap.size := by simp
               refine hK.out _ _ (HSS.out _ _ _ _ _ _ HS58.out) (fun _ => ?_)
               clear hK K'
               have HR61 := hid (HR40.out.alloc (.cells #[.int .i64 0, .int .i64 0, .string ⟨#[]⟩] 43))
               generalize F38 ++ [wz37.heap.size] = F57 at *
               generalize wz37.alloc (.cells #[.int .i64 0, .int .i64 0, .string ⟨#[]⟩] 43) = wz56 at *
               refine wpAnyH_ready (rs := [5]) (by as_aux_lemma => kernel_rfl) (by simp) ?_
               refine (AllReadyH.cons rfl (fun K' hK => ?_) AllReadyH.nil)
               go_simp
               go_wp2_with (go_at_call 15; refine (hdoB wz56 F57 Zb HS58.out.two.two ⟨_, _, rfl, QR HLA.out HS58.out.fl (HLA.out.below HS58.out.low), QM HIA.out HS58.out.fl (HIA.out.below HS58.out.low)⟩).mono ?_; rintro e wv62 ⟨rfl, G63, Z64, hc67, hs66⟩)
               have HS65 := hid (HS58.out.stepB hs66 hc67)
               have hl68 := hs66.kept.size
               refine hK.out _ _ (HSS.out _ _ _ _ _ _ HS65.out) (fun _ => ?_)
               clear hK K'
               have HR69 := hid (HR61.out.step hs66 HS58.out.two.two)
               have HR70 := hid (HR59.out.step hs66 HS58.out.two.two)
               clear hs66 hc67
               obtain ⟨d0, d1, d2, d3, d4, d5⟩ := cells3 HR69.out.1
               have hab : wv1.heap.size ≠ wz37.heap.size := by omega
               refine wpAnyH_ready (rs := [8]) (by as_aux_lemma => kernel_rfl) (by simp) ?_
               refine (AllReadyH.cons rfl (fun K' hK => ?_) AllReadyH.nil)
               go_simp
               have hg1 := Qo wv62 (wv1.heap.size) (.int .i64 RA.2.code) (.int .i64 RA.2.n) (.string ⟨RA.2.text.toArray⟩)
               have HSa := hid (HS65.out.put HR69.out hg1 (by omega))
               refine hK.out _ _ (HSS.out _ _ _ _ _ _ HSa.out) (fun _ => ?_)
               clear hK K'
               clear d0 d1 d2 d3 d4 d5
               have HXa := hid (Qt (.int .i64 RA.2.code) (.int .i64 RA.2.n) (.string ⟨RA.2.text.toArray⟩) HR69.out.1)
               have HYa := hid (Qj HR70.out.1 (Ne.symm hab) hg1)
               unfold st3 at HSa HXa HYa
               obtain ⟨wm, hwm⟩ : ∃ wm, wm = ((wv62.setCell ⟨wv1.heap.size, 0, none⟩ (.int .i64 RA.2.code)).setCell ⟨wv1.heap.size, 1, none⟩ (.int .i64 RA.2.n)).setCell ⟨wv1.heap.size, 2, none⟩ (.string ⟨RA.2.text.toArray⟩) := ⟨_, rfl⟩
               rw [← hwm] at HSa HXa HYa ⊢
               clear hwm hg1
               obtain ⟨d0, d1, d2, d3, d4, d5⟩ := cells3 HYa.out
               refine wpAnyH_ready (rs := [9]) (by as_aux_lemma => kernel_rfl) (by simp) ?_
               refine (AllReadyH.cons rfl (fun K' hK => ?_) AllReadyH.nil)
               go_simp
               have hg2 := Qo wm (wz37.heap.size) (.int .i64 RB.2.code) (.int .i64 RB.2.n) (.string ⟨RB.2.text.toArray⟩)
               have HSb := hid (HSa.out.put ⟨HYa.out, HR70.out.2⟩ hg2 (by omega))
               refine hK.out _ _ (HSS.out _ _ _ _ _ _ HSb.out) (fun _ => ?_)
               clear hK K'
               refine wpAnyH_done (by as_aux_lemma => kernel_rfl) ?_ _
               go_wp2_with fail
               go_meet
               exact ⟨_, _, _, _, _, rfl, rfl, HSb.out, Qj HXa.out hab hg2, Qt (.int .i64 RB.2.code) (.int .i64 RB.2.n) (.string ⟨RB.2.text.toArray⟩) HYa.out⟩
           · skip
             go_simp
             have HS73 := hid (HS4.out.alloc (.cells #[.int .i64 0, .int .i64 0, .string ⟨#[]⟩] 43))
             have HR74 := hid (QT wv1 G2 #[.int .i64 0, .int .i64 0, .string ⟨#[]⟩])
             have hl75 : wv1.heap.size < (wv1.alloc (.cells #[.int .i64 0, .int .i64 0, .string ⟨#[]⟩] 43)).heap.size := by simp
             refine hK.out _ _ (HSS.out _ _ _ _ _ _ HS73.out) (fun _ => ?_)
             clear hK K'
             generalize G2 ++ [wv1.heap.size] = F72 at *
             generalize wv1.alloc (.cells #[.int .i64 0, .int .i64 0, .string ⟨#[]⟩] 43) = wz71 at *
             refine wpAnyH_ready (rs := [5, 6]) (by as_aux_lemma => kernel_rfl) (by simp) ?_
             refine (AllReadyH.cons rfl (fun K' hK => ?_) (AllReadyH.cons rfl (fun K' hK => ?_) AllReadyH.nil))
             · skip
               go_simp
               go_wp2_with (go_at_call 15; refine (hdoB wz71 F72 Zb HS73.out.two.two ⟨_, _, rfl, QR HLA.out HS73.out.fl (HLA.out.below HS73.out.low), QM HIA.out HS73.out.fl (HIA.out.below HS73.out.low)⟩).mono ?_; rintro e wv76 ⟨rfl, G77, Z78, hc81, hs80⟩)
               have HS79 := hid (HS73.out.stepB hs80 hc81)
               have hl82 := hs80.kept.size
               refine hK.out _ _ (HSS.out _ _ _ _ _ _ HS79.out) (fun _ => ?_)
               clear hK K'
               have HR83 := hid (HR74.out.step hs80 HS73.out.two.two)
               clear hs80 hc81
               refine wpAnyH_ready (rs := [6]) (by as_aux_lemma => kernel_rfl) (by simp) ?_
               refine (AllReadyH.cons rfl (fun K' hK => ?_) AllReadyH.nil)
               go_simp
               have HS86 := hid (HS79.out.alloc (.cells #[.int .i64 0, .int .i64 0, .string ⟨#[]⟩] 43))
               have HR87 := hid (QT wv76 G77 #[.int .i64 0, .int .i64 0, .string ⟨#[]⟩])
               have hl88 : wv76.heap.size < (wv76.alloc (.cells #[.int .i64 0, .int .i64 0, .string ⟨#[]⟩] 43)).heap.size := by simp
               refine hK.out _ _ (HSS.out _ _ _ _ _ _ HS86.out) (fun _ => ?_)
               clear hK K'
               have HR89 := hid (HR83.out.alloc (.cells #[.int .i64 0, .int .i64 0, .string ⟨#[]⟩] 43))
               generalize G77 ++ [wv76.heap.size] = F85 at *
               generalize wv76.alloc (.cells #[.int .i64 0, .int .i64 0, .string ⟨#[]⟩] 43) = wz84 at *
               obtain ⟨d0, d1, d2, d3, d4, d5⟩ := cells3 HR87.out.1
               have hab : wv76.heap.size ≠ wv1.heap.size := by omega
               refine wpAnyH_ready (rs := [8]) (by as_aux_lemma => kernel_rfl) (by simp) ?_
               refine (AllReadyH.cons rfl (fun K' hK => ?_) AllReadyH.nil)
               go_simp
               have hg1 := Qo wz84 (wv76.heap.size) (.int .i64 RA.2.code) (.int .i64 RA.2.n) (.string ⟨RA.2.text.toArray⟩)
               have HSa := hid (HS86.out.put HR87.out hg1 (by omega))
               refine hK.out _ _ (HSS.out _ _ _ _ _ _ HSa.out) (fun _ => ?_)
               clear hK K'
               clear d0 d1 d2 d3 d4 d5
               have HXa := hid (Qt (.int .i64 RA.2.code) (.int .i64 RA.2.n) (.string ⟨RA.2.text.toArray⟩) HR87.out.1)
               have HYa := hid (Qj HR89.out.1 (Ne.symm hab) hg1)
               unfold st3 at HSa HXa HYa
               obtain ⟨wm, hwm⟩ : ∃ wm, wm = ((wz84.setCell ⟨wv76.heap.size, 0, none⟩ (.int .i64 RA.2.code)).setCell ⟨wv76.heap.size, 1, none⟩ (.int .i64 RA.2.n)).setCell ⟨wv76.heap.size, 2, none⟩ (.string ⟨RA.2.text.toArray⟩) := ⟨_, rfl⟩
               rw [← hwm] at HSa HXa HYa ⊢
               clear hwm hg1
               obtain ⟨d0, d1, d2, d3, d4, d5⟩ := cells3 HYa.out
               refine wpAnyH_ready (rs := [9]) (by as_aux_lemma => kernel_rfl) (by simp) ?_
               refine (AllReadyH.cons rfl (fun K' hK => ?_) AllReadyH.nil)
               go_simp
               have hg2 := Qo wm (wv1.heap.size) (.int .i64 RB.2.code) (.int .i64 RB.2.n) (.string ⟨RB.2.text.toArray⟩)
               have HSb := hid (HSa.out.put ⟨HYa.out, HR89.out.2⟩ hg2 (by omega))
               refine hK.out _ _ (HSS.out _ _ _ _ _ _ HSb.out) (fun _ => ?_)
               clear hK K'
               refine wpAnyH_done (by as_aux_lemma => kernel_rfl) ?_ _
               go_wp2_with fail
               go_meet
               exact ⟨_, _, _, _, _, rfl, rfl, HSb.out, Qj HXa.out hab hg2, Qt (.int .i64 RB.2.code) (.int .i64 RB.2.n) (.string ⟨RB.2.text.toArray⟩) HYa.out⟩
             · skip
               go_simp
               have HS92 := hid (HS73.out.alloc (.cells #[.int .i64 0, .int .i64 0, .string ⟨#[]⟩] 43))
               have HR93 := hid (QT wz71 F72 #[.int .i64 0, .int .i64 0, .string ⟨#[]⟩])
               have hl94 : wz71.heap.size < (wz71.alloc (.cells #[.int .i64 0, .int .i64 0, .string ⟨#[]⟩] 43)).heap.size := by simp
               refine hK.out _ _ (HSS.out _ _ _ _ _ _ HS92.out) (fun _ => ?_)
               clear hK K'
               have HR95 := hid (HR74.out.alloc (.cells #[.int .i64 0, .int .i64 0, .string ⟨#[]⟩] 43))
               generalize F72 ++ [wz71.heap.size] = F91 at *
               generalize wz71.alloc (.cells #[.int .i64 0, .int .i64 0, .string ⟨#[]⟩] 43) = wz90 at *
               refine wpAnyH_ready (rs := [5]) (by as_aux_lemma => kernel_rfl) (by simp) ?_
               refine (AllReadyH.cons rfl (fun K' hK => ?_) AllReadyH.nil)
               go_simp
               go_wp2_with (go_at_call 15; refine (hdoB wz90 F91 Zb HS92.out.two.two ⟨_, _, rfl, QR HLA.out HS92.out.fl (HLA.out.below HS92.out.low), QM HIA.out HS92.out.fl (HIA.out.below HS92.out.low)⟩).mono ?_; rintro e wv96 ⟨rfl, G97, Z98, hc101, hs100⟩)
               have HS99 := hid (HS92.out.stepB hs100 hc101)
               have hl102 := hs100.kept.size
               refine hK.out _ _ (HSS.out _ _ _ _ _ _ HS99.out) (fun _ => ?_)
               clear hK K'
               have HR103 := hid (HR93.out.step hs100 HS92.out.two.two)
               have HR104 := hid (HR95.out.step hs100 HS92.out.two.two)
               clear hs100 hc101
               obtain ⟨d0, d1, d2, d3, d4, d5⟩ := cells3 HR103.out.1
               have hab : wz71.heap.size ≠ wv1.heap.size := by omega
               refine wpAnyH_ready (rs := [8]) (by as_aux_lemma => kernel_rfl) (by simp) ?_
               refine (AllReadyH.cons rfl (fun K' hK => ?_) AllReadyH.nil)
               go_simp
               have hg1 := Qo wv96 (wz71.heap.size) (.int .i64 RA.2.code) (.int .i64 RA.2.n) (.string ⟨RA.2.text.toArray⟩)
               have HSa := hid (HS99.out.put HR103.out hg1 (by omega))
               refine hK.out _ _ (HSS.out _ _ _ _ _ _ HSa.out) (fun _ => ?_)
               clear hK K'
               clear d0 d1 d2 d3 d4 d5
               have HXa := hid (Qt (.int .i64 RA.2.code) (.int .i64 RA.2.n) (.string ⟨RA.2.text.toArray⟩) HR103.out.1)
               have HYa := hid (Qj HR104.out.1 (Ne.symm hab) hg1)
               unfold st3 at HSa HXa HYa
               obtain ⟨wm, hwm⟩ : ∃ wm, wm = ((wv96.setCell ⟨wz71.heap.size, 0, none⟩ (.int .i64 RA.2.code)).setCell ⟨wz71.heap.size, 1, none⟩ (.int .i64 RA.2.n)).setCell ⟨wz71.heap.size, 2, none⟩ (.string ⟨RA.2.text.toArray⟩) := ⟨_, rfl⟩
               rw [← hwm] at HSa HXa HYa ⊢
               clear hwm hg1
               obtain ⟨d0, d1, d2, d3, d4, d5⟩ := cells3 HYa.out
               refine wpAnyH_ready (rs := [9]) (by as_aux_lemma => kernel_rfl) (by simp) ?_
               refine (AllReadyH.cons rfl (fun K' hK => ?_) AllReadyH.nil)
               go_simp
               have hg2 := Qo wm (wv1.heap.size) (.int .i64 RB.2.code) (.int .i64 RB.2.n) (.string ⟨RB.2.text.toArray⟩)
               have HSb := hid (HSa.out.put ⟨HYa.out, HR104.out.2⟩ hg2 (by omega))
               refine hK.out _ _ (HSS.out _ _ _ _ _ _ HSb.out) (fun _ => ?_)
               clear hK K'
               refine wpAnyH_done (by as_aux_lemma => kernel_rfl) ?_ _
               go_wp2_with fail
               go_meet
               exact ⟨_, _, _, _, _, rfl, rfl, HSb.out, Qj HXa.out hab hg2, Qt (.int .i64 RB.2.code) (.int .i64 RB.2.n) (.string ⟨RB.2.text.toArray⟩) HYa.out⟩
         · skip
           go_simp
           have HS107 := hid (HSD.out.alloc (.cells #[.int .i64 0, .int .i64 0, .string ⟨#[]⟩] 43))
           have HR108 := hid (QT wd G2 #[.int .i64 0, .int .i64 0, .string ⟨#[]⟩])
           have hl109 : wd.heap.size < (wd.alloc (.cells #[.int .i64 0, .int .i64 0, .string ⟨#[]⟩] 43)).heap.size := by simp
           refine hK.out _ _ (HSS.out _ _ _ _ _ _ HS107.out) (fun _ => ?_)
           clear hK K'
           generalize G2 ++ [wd.heap.size] = F106 at *
           generalize wd.alloc (.cells #[.int .i64 0, .int .i64 0, .string ⟨#[]⟩] 43) = wz105 at *
           refine wpAnyH_ready (rs := [2, 7]) (by as_aux_lemma => kernel_rfl) (by simp) ?_
           refine (AllReadyH.cons rfl (fun K' hK => ?_) (AllReadyH.cons rfl (fun K' hK => ?_) AllReadyH.nil))
           · skip
             go_simp
             go_wp2_with (go_at_call 15; refine (hdoA wz105 F106 Za HS107.out.two.one ⟨_, _, rfl, QR HLA.out HS107.out.fl (HLA.out.below HS107.out.low), QM HIA.out HS107.out.fl (HIA.out.below HS107.out.low)⟩).mono ?_; rintro e wv110 ⟨rfl, G111, Z112, hc115, hs114⟩)
             have HS113 := hid (HS107.out.stepA hs114 hc115)
             have hl116 := hs114.kept.size
             refine hK.out _ _ (HSS.out _ _ _ _ _ _ HS113.out) (fun _ => ?_)
             clear hK K'
             have HR117 := hid (HR108.out.step hs114 HS107.out.two.one)
             clear hs114 hc115
             refine wpAnyH_ready (rs := [5, 7]) (by as_aux_lemma => kernel_rfl) (by simp) ?_
             refine (AllReadyH.cons rfl (fun K' hK => ?_) (AllReadyH.cons rfl (fun K' hK => ?_) AllReadyH.nil))
             · skip
               go_simp
               go_wp2_with (go_at_call 15; refine (hdoB wv110 G111 Zb HS113.out.two.two ⟨_, _, rfl, QR HLA.out HS113.out.fl (HLA.out.below HS113.out.low), QM HIA.out HS113.out.fl (HIA.out.below HS113.out.low)⟩).mono ?_; rintro e wv118 ⟨rfl, G119, Z120, hc123, hs122⟩)
               have HS121 := hid (HS113.out.stepB hs122 hc123)
               have hl124 := hs122.kept.size
               refine hK.out _ _ (HSS.out _ _ _ _ _ _ HS121.out) (fun _ => ?_)
               clear hK K'
               have HR125 := hid (HR117.out.step hs122 HS113.out.two.two)
               clear hs122 hc123
               refine wpAnyH_ready (rs := [7]) (by as_aux_lemma => kernel_rfl) (by simp) ?_
               refine (AllReadyH.cons rfl (fun K' hK => ?_) AllReadyH.nil)
               go_simp
               have HS128 := hid (HS121.out.alloc (.cells #[.int .i64 0, .int .i64 0, .string ⟨#[]⟩] 43))
               have HR129 := hid (QT wv118 G119 #[.int .i64 0, .int .i64 0, .string ⟨#[]⟩])
               have hl130 : wv118.heap.size < (wv118.alloc (.cells #[.int .i64 0, .int .i64 0, .string ⟨#[]⟩] 43)).heap.size := by simp
               refine hK.out _ _ (HSS.out _ _ _ _ _ _ HS128.out) (fun _ => ?_)
               clear hK K'
               have HR131 := hid (HR125.out.alloc (.cells #[.int .i64 0, .int .i64 0, .string ⟨#[]⟩] 43))
               generalize G119 ++ [wv118.heap.size] = F127 at *
               generalize wv118.alloc (.cells #[.int .i64 0, .int .i64 0, .string ⟨#[]⟩] 43) = wz126 at *
               obtain ⟨d0, d1, d2, d3, d4, d5⟩ := cells3 HR131.out.1
               have hab : wd.heap.size ≠ wv118.heap.size := by omega
               refine wpAnyH_ready (rs := [8]) (by as_aux_lemma => kernel_rfl) (by simp) ?_
               refine (AllReadyH.cons rfl (fun K' hK => ?_) AllReadyH.nil)
               go_simp
               have hg1 := Qo wz126 (wd.heap.size) (.int .i64 RA.2.code) (.int .i64 RA.2.n) (.string ⟨RA.2.text.toArray⟩)
               have HSa := hid (HS128.out.put HR131.out hg1 (by omega))
               refine hK.out _ _ (HSS.out _ _ _ _ _ _ HSa.out) (fun _ => ?_)
               clear hK K'
               clear d0 d1 d2 d3 d4 d5
               have HXa := hid (Qt (.int .i64 RA.2.code) (.int .i64 RA.2.n) (.string ⟨RA.2.text.toArray⟩) HR131.out.1)
               have HYa := hid (Qj HR129.out.1 (Ne.symm hab) hg1)
               unfold st3 at HSa HXa HYa
               obtain ⟨wm, hwm⟩ : ∃ wm, wm = ((wz126.setCell ⟨wd.heap.size, 0, none⟩ (.int .i64 RA.2.code)).setCell ⟨wd.heap.size, 1, none⟩ (.int .i64 RA.2.n)).setCell ⟨wd.heap.size, 2, none⟩ (.string ⟨RA.2.text.toArray⟩) := ⟨_, rfl⟩
               rw [← hwm] at HSa HXa HYa ⊢
               clear hwm hg1
               obtain ⟨d0, d1, d2, d3, d4, d5⟩ := cells3 HYa.out
               refine wpAnyH_ready (rs := [9]) (by as_aux_lemma => kernel_rfl) (by simp) ?_
               refine (AllReadyH.cons rfl (fun K' hK => ?_) AllReadyH.nil)
               go_simp
               have hg2 := Qo wm (wv118.heap.size) (.int .i64 RB.2.code) (.int .i64 RB.2.n) (.string ⟨RB.2.text.toArray⟩)
               have HSb := hid (HSa.out.put ⟨HYa.out, HR129.out.2⟩ hg2 (by omega))
               refine hK.out _ _ (HSS.out _ _ _ _ _ _ HSb.out) (fun _ => ?_)
               clear hK K'
               refine wpAnyH_done (by as_aux_lemma => kernel_rfl) ?_ _
               go_wp2_with fail
               go_meet
               exact ⟨_, _, _, _, _, rfl, rfl, HSb.out, Qj HXa.out hab hg2, Qt (.int .i64 RB.2.code) (.int .i64 RB.2.n) (.string ⟨RB.2.text.toArray⟩) HYa.out⟩
             · skip
               go_simp
               have HS134 := hid (HS113.out.alloc (.cells #[.int .i64 0, .int .i64 0, .string ⟨#[]⟩] 43))
               have HR135 := hid (QT wv110 G111 #[.int .i64 0, .int .i64 0, .string ⟨#[]⟩])
               have hl136 : wv110.heap.size < (wv110.alloc (.cells #[.int .i64 0, .int .i64 0, .string ⟨#[]⟩] 43)).heap.size := by simp
               refine hK.out _ _ (HSS.out _ _ _ _ _ _ HS134.out) (fun _ => ?_)
               clear hK K'
               have HR137 := hid (HR117.out.alloc (.cells #[.int .i64 0, .int .i64 0, .string ⟨#[]⟩] 43))
               generalize G111 ++ [wv110.heap.size] = F133 at *
               generalize wv110.alloc (.cells #[.int .i64 0, .int .i64 0, .string ⟨#[]⟩] 43) = wz132 at *
               refine wpAnyH_ready (rs := [5]) (by as_aux_lemma => kernel_rfl) (by simp) ?_
               refine (AllReadyH.cons rfl (fun K' hK => ?_) AllReadyH.nil)
               go_simp
               go_wp2_with (go_at_call 15; refine (hdoB wz132 F133 Zb HS134.out.two.two ⟨_, _, rfl, QR HLA.out HS134.out.fl (HLA.out.below HS134.out.low), QM HIA.out HS134.out.fl (HIA.out.below HS134.out.low)⟩).mono ?_; rintro e wv138 ⟨rfl, G139, Z140, hc143, hs142⟩)
               have HS141 := hid (HS134.out.stepB hs142 hc143)
               have hl144 := hs142.kept.size
               refine hK.out _ _ (HSS.out _ _ _ _ _ _ HS141.out) (fun _ => ?_)
               clear hK K'
               have HR145 := hid (HR137.out.step hs142 HS134.out.two.two)
               have HR146 := hid (HR135.out.step hs142 HS134.out.two.two)
               clear hs142 hc143
               obtain ⟨d0, d1, d2, d3, d4, d5⟩ := cells3 HR145.out.1
               have hab : wd.heap.size ≠ wv110.heap.size := by omega
               refine wpAnyH_ready (rs := [8]) (by as_aux_lemma => kernel_rfl) (by simp) ?_
               refine (AllReadyH.cons rfl (fun K' hK => ?_) AllReadyH.nil)
               go_simp
               have hg1 := Qo wv138 (wd.heap.size) (.int .i64 RA.2.code) (.int .i64 RA.2.n) (.string ⟨RA.2.text.toArray⟩)
               have HSa := hid (HS141.out.put HR145.out hg1 (by omega))
               refine hK.out _ _ (HSS.out _ _ _ _ _ _ HSa.out) (fun _ => ?_)
               clear hK K'
               clear d0 d1 d2 d3 d4 d5
               have HXa := hid (Qt (.int .i64 RA.2.code) (.int .i64 RA.2.n) (.string ⟨RA.2.text.toArray⟩) HR145.out.1)
               have HYa := hid (Qj HR146.out.1 (Ne.symm hab) hg1)
               unfold st3 at HSa HXa HYa
               obtain ⟨wm, hwm⟩ : ∃ wm, wm = ((wv138.setCell ⟨wd.heap.size, 0, none⟩ (.int .i64 RA.2.code)).setCell ⟨wd.heap.size, 1, none⟩ (.int .i64 RA.2.n)).setCell ⟨wd.heap.size, 2, none⟩ (.string ⟨RA.2.text.toArray⟩) := ⟨_, rfl⟩
               rw [← hwm] at HSa HXa HYa ⊢
               clear hwm hg1
               obtain ⟨d0, d1, d2, d3, d4, d5⟩ := cells3 HYa.out
               refine wpAnyH_ready (rs := [9]) (by as_aux_lemma => kernel_rfl) (by simp) ?_
               refine (AllReadyH.cons rfl (fun K' hK => ?_) AllReadyH.nil)
               go_simp
               have hg2 := Qo wm (wv110.heap.size) (.int .i64 RB.2.code) (.int .i64 RB.2.n) (.string ⟨RB.2.text.toArray⟩)
               have HSb := hid (HSa.out.put ⟨HYa.out, HR146.out.2⟩ hg2 (by omega))
               refine hK.out _ _ (HSS.out _ _ _ _ _ _ HSb.out) (fun _ => ?_)
               clear hK K'
               refine wpAnyH_done (by as_aux_lemma => kernel_rfl) ?_ _
               go_wp2_with fail
               go_meet
               exact ⟨_, _, _, _, _, rfl, rfl, HSb.out, Qj HXa.out hab hg2, Qt (.int .i64 RB.2.code) (.int .i64 RB.2.n) (.string ⟨RB.2.text.toArray⟩) HYa.out⟩
           · skip
             go_simp
             have HS149 := hid (HS107.out.alloc (.cells #[.int .i64 0, .int .i64 0, .string ⟨#[]⟩] 43))
             have HR150 := hid (QT wz105 F106 #[.int .i64 0, .int .i64 0, .string ⟨#[]⟩])
             have hl151 : wz105.heap.size < (wz105.alloc (.cells #[.int .i64 0, .int .i64 0, .string ⟨#[]⟩] 43)).heap.size := by simp
             refine hK.out _ _ (HSS.out _ _ _ _ _ _ HS149.out) (fun _ => ?_)
             clear hK K'
             have HR152 := hid (HR108.out.alloc (.cells #[.int .i64 0, .int .i64 0, .string ⟨#[]⟩] 43))
             generalize F106 ++ [wz105.heap.size] = F148 at *
             generalize wz105.alloc (.cells #[.int .i64 0, .int .i64 0, .string ⟨#[]⟩] 43) = wz147 at *
             refine wpAnyH_ready (rs := [2]) (by as_aux_lemma => kernel_rfl) (by simp) ?_
             refine (AllReadyH.cons rfl (fun K' hK => ?_) AllReadyH.nil)
             go_simp
             go_wp2_with (go_at_call 15; refine (hdoA wz147 F148 Za HS149.out.two.one ⟨_, _, rfl, QR HLA.out HS149.out.fl (HLA.out.below HS149.out.low), QM HIA.out HS149.out.fl (HIA.out.below HS149.out.low)⟩).mono ?_; rintro e wv153 ⟨rfl, G154, Z155, hc158, hs157⟩)
             have HS156 := hid (HS149.out.stepA hs157 hc158)
             have hl159 := hs157.kept.size
             refine hK.out _ _ (HSS.out _ _ _ _ _ _ HS156.out) (fun _ => ?_)
             clear hK K'
             have HR160 := hid (HR152.out.step hs157 HS149.out.two.one)
             have HR161 := hid (HR150.out.step hs157 HS149.out.two.one)
             clear hs157 hc158
             refine wpAnyH_ready (rs := [5]) (by as_aux_lemma => kernel_rfl) (by simp) ?_
             refine (AllReadyH.cons rfl (fun K' hK => ?_) AllReadyH.nil)
             go_simp
             go_wp2_with (go_at_call 15; refine (hdoB wv153 G154 Zb HS156.out.two.two ⟨_, _, rfl, QR HLA.out HS156.out.fl (HLA.out.below HS156.out.low), QM HIA.out HS156.out.fl (HIA.out.below HS156.out.low)⟩).mono ?_; rintro e wv162 ⟨rfl, G163, Z164, hc167, hs166⟩)
             have HS165 := hid (HS156.out.stepB hs166 hc167)
             have hl168 := hs166.kept.size
             refine hK.out _ _ (HSS.out _ _ _ _ _ _ HS165.out) (fun _ => ?_)
             clear hK K'
             have HR169 := hid (HR160.out.step hs166 HS156.out.two.two)
             have HR170 := hid (HR161.out.step hs166 HS156.out.two.two)
             clear hs166 hc167
             obtain ⟨d0, d1, d2, d3, d4, d5⟩ := cells3 HR169.out.1
             have hab : wd.heap.size ≠ wz105.heap.size := by omega
             refine wpAnyH_ready (rs := [8]) (by as_aux_lemma => kernel_rfl) (by simp) ?_
             refine (AllReadyH.cons rfl (fun K' hK => ?_) AllReadyH.nil)
             go_simp
             have hg1 := Qo wv162 (wd.heap.size) (.int .i64 RA.2.code) (.int .i64 RA.2.n) (.string ⟨RA.2.text.toArray⟩)
             have HSa := hid (HS165.out.put HR169.out hg1 (by omega))
             refine hK.out _ _ (HSS.out _ _ _ _ _ _ HSa.out) (fun _ => ?_)
             clear hK K'
             clear d0 d1 d2 d3 d4 d5
             have HXa := hid (Qt (.int .i64 RA.2.code) (.int .i64 RA.2.n) (.string ⟨RA.2.text.toArray⟩) HR169.out.1)
             have HYa := hid (Qj HR170.out.1 (Ne.symm hab) hg1)
             unfold st3 at HSa HXa HYa
             obtain ⟨wm, hwm⟩ : ∃ wm, wm = ((wv162.setCell ⟨wd.heap.size, 0, none⟩ (.int .i64 RA.2.code)).setCell ⟨wd.heap.size, 1, none⟩ (.int .i64 RA.2.n)).setCell ⟨wd.heap.size, 2, none⟩ (.string ⟨RA.2.text.toArray⟩) := ⟨_, rfl⟩
             rw [← hwm] at HSa HXa HYa ⊢
             clear hwm hg1
             obtain ⟨d0, d1, d2, d3, d4, d5⟩ := cells3 HYa.out
             refine wpAnyH_ready (rs := [9]) (by as_aux_lemma => kernel_rfl) (by simp) ?_
             refine (AllReadyH.cons rfl (fun K' hK => ?_) AllReadyH.nil)
             go_simp
             have hg2 := Qo wm (wz105.heap.size) (.int .i64 RB.2.code) (.int .i64 RB.2.n) (.string ⟨RB.2.text.toArray⟩)
             have HSb := hid (HSa.out.put ⟨HYa.out, HR170.out.2⟩ hg2 (by omega))
             refine hK.out _ _ (HSS.out _ _ _ _ _ _ HSb.out) (fun _ => ?_)
             clear hK K'
             refine wpAnyH_done (by as_aux_lemma => kernel_rfl) ?_ _
             go_wp2_with fail
             go_meet
             exact ⟨_, _, _, _, _, rfl, rfl, HSb.out, Qj HXa.out hab hg2, Qt (.int .i64 RB.2.code) (.int .i64 RB.2.n) (.string ⟨RB.2.text.toArray⟩) HYa.out⟩
         · skip
           go_simp
           have HS173 := hid (HSD.out.alloc (.cells #[.int .i64 0, .int .i64 0, .string ⟨#[]⟩] 43))
           have HR174 := hid (QT wd G2 #[.int .i64 0, .int .i64 0, .string ⟨#[]⟩])
           have hl175 : wd.heap.size < (wd.alloc (.cells #[.int .i64 0, .int .i64 0, .string ⟨#[]⟩] 43)).heap.size := by simp
           refine hK.out _ _ (HSS.out _ _ _ _ _ _ HS173.out) (fun _ => ?_)
           clear hK K'
           generalize G2 ++ [wd.heap.size] = F172 at *
           generalize wd.alloc (.cells #[.int .i64 0, .int .i64 0, .string ⟨#[]⟩] 43) = wz171 at *
           refine wpAnyH_ready (rs := [2, 6]) (by as_aux_lemma => kernel_rfl) (by simp) ?_
           refine (AllReadyH.cons rfl (fun K' hK => ?_) (AllReadyH.cons rfl (fun K' hK => ?_) AllReadyH.nil))
           · skip
             go_simp
             go_wp2_with (go_at_call 15; refine (hdoA wz171 F172 Za HS173.out.two.one ⟨_, _, rfl, QR HLA.out HS173.out.fl (HLA.out.below HS173.out.low), QM HIA.out HS173.out.fl (HIA.out.below HS173.out.low)⟩).mono ?_; rintro e wv176 ⟨rfl, G177, Z178, hc181, hs180⟩)
             have HS179 := hid (HS173.out.stepA hs180 hc181)
             have hl182 := hs180.kept.size
             refine hK.out _ _ (HSS.out _ _ _ _ _ _ HS179.out) (fun _ => ?_)
             clear hK K'
             have HR183 := hid (HR174.out.step hs180 HS173.out.two.one)
             clear hs180 hc181
             refine wpAnyH_ready (rs := [5, 6]) (by as_aux_lemma => kernel_rfl) (by simp) ?_
             refine (AllReadyH.cons rfl (fun K' hK => ?_) (AllReadyH.cons rfl (fun K' hK => ?_) AllReadyH.nil))
             · skip
               go_simp
               go_wp2_with (go_at_call 15; refine (hdoB wv176 G177 Zb HS179.out.two.two ⟨_, _, rfl, QR HLA.out HS179.out.fl (HLA.out.below HS179.out.low), QM HIA.out HS179.out.fl (HIA.out.below HS179.out.low)⟩).mono ?_; rintro e wv184 ⟨rfl, G185, Z186, hc189, hs188⟩)
               have HS187 := hid (HS179.out.stepB hs188 hc189)
               have hl190 := hs188.kept.size
               refine hK.out _ _ (HSS.out _ _ _ _ _ _ HS187.out) (fun _ => ?_)
               clear hK K'
               have HR191 := hid (HR183.out.step hs188 HS179.out.two.two)
               clear hs188 hc189
               refine wpAnyH_ready (rs := [6]) (by as_aux_lemma => kernel_rfl) (by simp) ?_
               refine (AllReadyH.cons rfl (fun K' hK => ?_) AllReadyH.nil)
               go_simp
               have HS194 := hid (HS187.out.alloc (.cells #[.int .i64 0, .int .i64 0, .string ⟨#[]⟩] 43))
               have HR195 := hid (QT wv184 G185 #[.int .i64 0, .int .i64 0, .string ⟨#[]⟩])
               have hl196 : wv184.heap.size < (wv184.alloc (.cells #[.int .i64 0, .int .i64 0, .string ⟨#[]⟩] 43)).heap.size := by simp
               refine hK.out _ _ (HSS.out _ _ _ _ _ _ HS194.out) (fun _ => ?_)
               clear hK K'
               have HR197 := hid (HR191.out.alloc (.cells #[.int .i64 0, .int .i64 0, .string ⟨#[]⟩] 43))
               generalize G185 ++ [wv184.heap.size] = F193 at *
               generalize wv184.alloc (.cells #[.int .i64 0, .int .i64 0, .string ⟨#[]⟩] 43) = wz192 at *
               obtain ⟨d0, d1, d2, d3, d4, d5⟩ := cells3 HR195.out.1
               have hab : wv184.heap.size ≠ wd.heap.size := by omega
               refine wpAnyH_ready (rs := [8]) (by as_aux_lemma => kernel_rfl) (by simp) ?_
               refine (AllReadyH.cons rfl (fun K' hK => ?_) AllReadyH.nil)
               go_simp
               have hg1 := Qo wz192 (wv184.heap.size) (.int .i64 RA.2.code) (.int .i64 RA.2.n) (.string ⟨RA.2.text.toArray⟩)
               have HSa := hid (HS194.out.put HR195.out hg1 (by omega))
               refine hK.out _ _ (HSS.out _ _ _ _ _ _ HSa.out) (fun _ => ?_)
               clear hK K'
               clear d0 d1 d2 d3 d4 d5
               have HXa := hid (Qt (.int .i64 RA.2.code) (.int .i64 RA.2.n) (.string ⟨RA.2.text.toArray⟩) HR195.out.1)
               have HYa := hid (Qj HR197.out.1 (Ne.symm hab) hg1)
               unfold st3 at HSa HXa HYa
               obtain ⟨wm, hwm⟩ : ∃ wm, wm = ((wz192.setCell ⟨wv184.heap.size, 0, none⟩ (.int .i64 RA.2.code)).setCell ⟨wv184.heap.size, 1, none⟩ (.int .i64 RA.2.n)).setCell ⟨wv184.heap.size, 2, none⟩ (.string ⟨RA.2.text.toArray⟩) := ⟨_, rfl⟩
               rw [← hwm] at HSa HXa HYa ⊢
               clear hwm hg1
               obtain ⟨d0, d1, d2, d3, d4, d5⟩ := cells3 HYa.out
               refine wpAnyH_ready (rs := [9]) (by as_aux_lemma => kernel_rfl) (by simp) ?_
               refine (AllReadyH.cons rfl (fun K' hK => ?_) AllReadyH.nil)
               go_simp
               have hg2 := Qo wm (wd.heap.size) (.int .i64 RB.2.code) (.int .i64 RB.2.n) (.string ⟨RB.2.text.toArray⟩)
               have HSb := hid (HSa.out.put ⟨HYa.out, HR197.out.2⟩ hg2 (by omega))
               refine hK.out _ _ (HSS.out _ _ _ _ _ _ HSb.out) (fun _ => ?_)
               clear hK K'
               refine wpAnyH_done (by as_aux_lemma => kernel_rfl) ?_ _
               go_wp2_with fail
               go_meet
               exact ⟨_, _, _, _, _, rfl, rfl, HSb.out, Qj HXa.out hab hg2, Qt (.int .i64 RB.2.code) (.int .i64 RB.2.n) (.string ⟨RB.2.text.toArray⟩) HYa.out⟩
             · skip
               go_simp
               have HS200 := hid (HS179.out.alloc (.cells #[.int .i64 0, .int .i64 0, .string ⟨#[]⟩] 43))
               have HR201 := hid (QT wv176 G177 #[.int .i64 0, .int .i64 0, .string ⟨#[]⟩])
               have hl202 : wv176.heap.size < (wv176.alloc (.cells #[.int .i64 0, .int .i64 0, .string ⟨#[]⟩] 43)).heap.size := by simp
               refine hK.out _ _ (HSS.out _ _ _ _ _ _ HS200.out) (fun _ => ?_)
               clear hK K'
               have HR203 := hid (HR183.out.alloc (.cells #[.int .i64 0, .int .i64 0, .string ⟨#[]⟩] 43))
               generalize G177 ++ [wv176.heap.size] = F199 at *
               generalize wv176.alloc (.cells #[.int .i64 0, .int .i64 0, .string ⟨#[]⟩] 43) = wz198 at *
               refine wpAnyH_ready (rs := [5]) (by as_aux_lemma => kernel_rfl) (by simp) ?_
               refine (AllReadyH.cons rfl (fun K' hK => ?_) AllReadyH.nil)
               go_simp
               go_wp2_with (go_at_call 15; refine (hdoB wz198 F199 Zb HS200.out.two.two ⟨_, _, rfl, QR HLA.out HS200.out.fl (HLA.out.below HS200.out.low), QM HIA.out HS200.out.fl (HIA.out.below HS200.out.low)⟩).mono ?_; rintro e wv204 ⟨rfl, G205, Z206, hc209, hs208⟩)
               have HS207 := hid (HS200.out.stepB hs208 hc209)
               have hl210 := hs208.kept.size
               refine hK.out _ _ (HSS.out _ _ _ _ _ _ HS207.out) (fun _ => ?_)
               clear hK K'
               have HR211 := hid (HR201.out.step hs208 HS200.out.two.two)
               have HR212 := hid (HR203.out.step hs208 HS200.out.two.two)
               clear hs208 hc209
               obtain ⟨d0, d1, d2, d3, d4, d5⟩ := cells3 HR211.out.1
               have hab : wv176.heap.size ≠ wd.heap.size := by omega
               refine wpAnyH_ready (rs := [8]) (by as_aux_lemma => kernel_rfl) (by simp) ?_
               refine (AllReadyH.cons rfl (fun K' hK => ?_) AllReadyH.nil)
               go_simp
               have hg1 := Qo wv204 (wv176.heap.size) (.int .i64 RA.2.code) (.int .i64 RA.2.n) (.string ⟨RA.2.text.toArray⟩)
               have HSa := hid (HS207.out.put HR211.out hg1 (by omega))
               refine hK.out _ _ (HSS.out _ _ _ _ _ _ HSa.out) (fun _ => ?_)
               clear hK K'
               clear d0 d1 d2 d3 d4 d5
               have HXa := hid (Qt (.int .i64 RA.2.code) (.int .i64 RA.2.n) (.string ⟨RA.2.text.toArray⟩) HR211.out.1)
               have HYa := hid (Qj HR212.out.1 (Ne.symm hab) hg1)
               unfold st3 at HSa HXa HYa
               obtain ⟨wm, hwm⟩ : ∃ wm, wm = ((wv204.setCell ⟨wv176.heap.size, 0, none⟩ (.int .i64 RA.2.code)).setCell ⟨wv176.heap.size, 1, none⟩ (.int .i64 RA.2.n)).setCell ⟨wv176.heap.size, 2, none⟩ (.string ⟨RA.2.text.toArray⟩) := ⟨_, rfl⟩
               rw [← hwm] at HSa HXa HYa ⊢
               clear hwm hg1
               obtain ⟨d0, d1, d2, d3, d4, d5⟩ := cells3 HYa.out
               refine wpAnyH_ready (rs := [9]) (by as_aux_lemma => kernel_rfl) (by simp) ?_
               refine (AllReadyH.cons rfl (fun K' hK => ?_) AllReadyH.nil)
               go_simp
               have hg2 := Qo wm (wd.heap.size) (.int .i64 RB.2.code) (.int .i64 RB.2.n) (.string ⟨RB.2.text.toArray⟩)
               have HSb := hid (HSa.out.put ⟨HYa.out, HR212.out.2⟩ hg2 (by omega))
               refine hK.out _ _ (HSS.out _ _ _ _ _ _ HSb.out) (fun _ => ?_)
               clear hK K'
               refine wpAnyH_done (by as_aux_lemma => kernel_rfl) ?_ _
               go_wp2_with fail
               go_meet
               exact ⟨_, _, _, _, _, rfl, rfl, HSb.out, Qj HXa.out hab hg2, Qt (.int .i64 RB.2.code) (.int .i64 RB.2.n) (.string ⟨RB.2.text.toArray⟩) HYa.out⟩
           · skip
             go_simp
             have HS215 := hid (HS173.out.alloc (.cells #[.int .i64 0, .int .i64 0, .string ⟨#[]⟩] 43))
             have HR216 := hid (QT wz171 F172 #[.int .i64 0, .int .i64 0, .string ⟨#[]⟩])
             have hl217 : wz171.heap.size < (wz171.alloc (.cells #[.int .i64 0, .int .i64 0, .string ⟨#[]⟩] 43)).heap.size := by simp
             refine hK.out _ _ (HSS.out _ _ _ _ _ _ HS215.out) (fun _ => ?_)
             clear hK K'
             have HR218 := hid (HR174.out.alloc (.cells #[.int .i64 0, .int .i64 0, .string ⟨#[]⟩] 43))
             generalize F172 ++ [wz171.heap.size] = F214 at *
             generalize wz171.alloc (.cells #[.int .i64 0, .int .i64 0, .string ⟨#[]⟩] 43) = wz213 at *
             refine wpAnyH_ready (rs := [2]) (by as_aux_lemma => kernel_rfl) (by simp) ?_
             refine (AllReadyH.cons rfl (fun K' hK => ?_) AllReadyH.nil)
             go_simp
             go_wp2_with (go_at_call 15; refine (hdoA wz213 F214 Za HS215.out.two.one ⟨_, _, rfl, QR HLA.out HS215.out.fl (HLA.out.below HS215.out.low), QM HIA.out HS215.out.fl (HIA.out.below HS215.out.low)⟩).mono ?_; rintro e wv219 ⟨rfl, G220, Z221, hc224, hs223⟩)
             have HS222 := hid (HS215.out.stepA hs223 hc224)
             have hl225 := hs223.kept.size
             refine hK.out _ _ (HSS.out _ _ _ _ _ _ HS222.out) (fun _ => ?_)
             clear hK K'
             have HR226 := hid (HR216.out.step hs223 HS215.out.two.one)
             have HR227 := hid (HR218.out.step hs223 HS215.out.two.one)
             clear hs223 hc224
             refine wpAnyH_ready (rs := [5]) (by as_aux_lemma => kernel_rfl) (by simp) ?_
             refine (AllReadyH.cons rfl (fun K' hK => ?_) AllReadyH.nil)
             go_simp
             go_wp2_with (go_at_call 15; refine (hdoB wv219 G220 Zb HS222.out.two.two ⟨_, _, rfl, QR HLA.out HS222.out.fl (HLA.out.below HS222.out.low), QM HIA.out HS222.out.fl (HIA.out.below HS222.out.low)⟩).mono ?_; rintro e wv228 ⟨rfl, G229, Z230, hc233, hs232⟩)
             have HS231 := hid (HS222.out.stepB hs232 hc233)
             have hl234 := hs232.kept.size
             refine hK.out _ _ (HSS.out _ _ _ _ _ _ HS231.out) (fun _ => ?_)
             clear hK K'
             have HR235 := hid (HR226.out.step hs232 HS222.out.two.two)
             have HR236 := hid (HR227.out.step hs232 HS222.out.two.two)
             clear hs232 hc233
             obtain ⟨d0, d1, d2, d3, d4, d5⟩ := cells3 HR235.out.1
             have hab : wz171.heap.size ≠ wd.heap.size := by omega
             refine wpAnyH_ready (rs := [8]) (by as_aux_lemma => kernel_rfl) (by simp) ?_
             refine (AllReadyH.cons rfl (fun K' hK => ?_) AllReadyH.nil)
             go_simp
             have hg1 := Qo wv228 (wz171.heap.size) (.int .i64 RA.2.code) (.int .i64 RA.2.n) (.string ⟨RA.2.text.toArray⟩)
             have HSa := hid (HS231.out.put HR235.out hg1 (by omega))
             refine hK.out _ _ (HSS.out _ _ _ _ _ _ HSa.out) (fun _ => ?_)
             clear hK K'
             clear d0 d1 d2 d3 d4 d5
             have HXa := hid (Qt (.int .i64 RA.2.code) (.int .i64 RA.2.n) (.string ⟨RA.2.text.toArray⟩) HR235.out.1)
             have HYa := hid (Qj HR236.out.1 (Ne.symm hab) hg1)
             unfold st3 at HSa HXa HYa
             obtain ⟨wm, hwm⟩ : ∃ wm, wm = ((wv228.setCell ⟨wz171.heap.size, 0, none⟩ (.int .i64 RA.2.code)).setCell ⟨wz171.heap.size, 1, none⟩ (.int .i64 RA.2.n)).setCell ⟨wz171.heap.size, 2, none⟩ (.string ⟨RA.2.text.toArray⟩) := ⟨_, rfl⟩
             rw [← hwm] at HSa HXa HYa ⊢
             clear hwm hg1
             obtain ⟨d0, d1, d2, d3, d4, d5⟩ := cells3 HYa.out
             refine wpAnyH_ready (rs := [9]) (by as_aux_lemma => kernel_rfl) (by simp) ?_
             refine (AllReadyH.cons rfl (fun K' hK => ?_) AllReadyH.nil)
             go_simp
             have hg2 := Qo wm (wd.heap.size) (.int .i64 RB.2.code) (.int .i64 RB.2.n) (.string ⟨RB.2.text.toArray⟩)
             have HSb := hid (HSa.out.put ⟨HYa.out, HR236.out.2⟩ hg2 (by omega))
             refine hK.out _ _ (HSS.out _ _ _ _ _ _ HSb.out) (fun _ => ?_)
             clear hK K'
             refine wpAnyH_done (by as_aux_lemma => kernel_rfl) ?_ _
             go_wp2_with fail
             go_meet
             exact ⟨_, _, _, _, _, rfl, rfl, HSb.out, Qj HXa.out hab hg2, Qt (.int .i64 RB.2.code) (.int .i64 RB.2.n) (.string ⟨RB.2.text.toArray⟩) HYa.out⟩
       case rest =>
        obtain ⟨ra, rb, H, Zc, Ze, rfl, rfl, hse, hra, hrb⟩ := hcut
        obtain ⟨c0, c1, c2, _⟩ := cells3 hra
        obtain ⟨d0, d1, d2, _⟩ := cells3 hrb
        rw [← HCD.out] at d0
        rw [← HNN.out] at d1
        have HSF := hid hse
        have HCE : Hid (Below w.heap.size w wc) := hid hse.low
        clear hse hra hrb hdoA hdoB HSD HSS
        by_cases htq : RA.2.text = RB.2.text
        · rw [← htq] at d2
          clear htq HTT
          go_wp2_with fail
          go_roundw
          case rel => exact ⟨k + 1, H, Zc, Ze, RA.1, RB.1, hlt, h120, by go_num, HSF.out.two, HRR.out, HG1.out, HG2.out, HSF.out.low, HSF.out.fl⟩
          case measure => simp [intOf]; omega
        · have hq : a.kind = 1 ∧ 1 < atL th.label c := Classical.byContradiction fun e => htq (HTT.out e)
          have htb : taintB th c = true := by unfold taintB; rw [decide_eq_true hq.2, decide_eq_false (fun e => HOW.out ⟨hq.1, e⟩)]; rfl
          have hkb : (a.kind == 1) = true := by simpa using hq.1
          have hte2 : (RA.2.text == RB.2.text) = false := by simpa using htq
          have htn := Qes th c p1 p2 p3 p4 pa pb pc pd wc (HHD.out _ _ _ _ _ _ _ HSF.out).1 (HHD.out _ _ _ _ _ _ _ HSF.out).2
          rw [htb] at htn
          obtain ⟨⟨t0, t1, t2, t3, t4⟩, _⟩ := cells5 HSF.out.ht
          have z0 : wc.cell? ⟨wr.heap.size, 0, none⟩ = some (.int .i64 a.kind) := Qa HSF.out.hx 0
          clear hq htb HTT
          go_wp2_with (go_at_call 13; refine htn.mono ?_; rintro e w9 ⟨rfl, hw9⟩)
          go_roundw
          case rel => exact ⟨k + 1, H, Zc, Ze, RA.1, RB.1, hlt, h120, by go_num, HSF.out.two.below hw9, HRR.out, HG1.out, HG2.out, Qc HSF.out.low hw9, HSF.out.fl⟩
          case measure => simp [intOf]; omega
  · rw [decide_eq_false hend]
    clear hend
    as_aux_lemma =>
     obtain ⟨we, hwe⟩ : ∃ we, we = wr := ⟨_, rfl⟩
     rw [← hwe]
     have HTE : Hid (Two we G w1.heap.size Za A w2.heap.size Zb B) := hid (by rw [hwe]; exact HTW.out)
     have HBE : Hid (Below w.heap.size w we) := hid (by rw [hwe]; exact HBW.out)
     clear hwe HTW HBW HFL
     go_wp2_with fail
     go_loopw [15] (fun c wr => ∃ i : Nat, i ≤ 4 ∧ c = .int .i64 i ∧ Below we.heap.size we wr) (fun c _ => 4 - (intOf c).toNat)
     case atStart => exact ⟨0, by omega, rfl, Below.refl _ _⟩
     case round =>
      obtain ⟨i, hi, rfl, hbr⟩ := hrel
      obtain ⟨wo, hwo⟩ : ∃ wo, wo = wr := ⟨_, rfl⟩
      subst hwo
      have HBo := hid hbr
      clear hbr
      by_cases hi4 : i < 4
      · have hI : (i : Int) < 4 := by omega
        go_wp2_with fail
        go_loopw [16] (fun c wr => ∃ j : Nat, j ≤ 4 ∧ c = .int .i64 j ∧ Below we.heap.size we wr) (fun c _ => 4 - (intOf c).toNat)
        case atStart => exact ⟨0, by omega, rfl, HBo.out⟩
        case round =>
         clear HBo
         obtain ⟨j, hj, rfl, hbr⟩ := hrel
         obtain ⟨wi, hwi⟩ : ∃ wi, wi = wr := ⟨_, rfl⟩
         subst hwi
         have HBi := hid hbr
         clear hbr
         by_cases hj4 : j < 4
         · have hJ : (j : Int) < 4 := by omega
           have hthA := QbI w1.heap.size i j G Za A wi (HTE.out.one.below HBi.out) HGA.out
           have hthB := fun wx (hb : Below wi.heap.size wi wx) => QbI w2.heap.size i j G Zb B wx (HTE.out.two.below (Qc HBi.out hb)) HGB.out
           have HGX := hid (Qen HGA.out i j)
           obtain ⟨e1, e2, e3, e4, e5⟩ := Qk2 HCR.out i j
           generalize thrC A i j = tx at *
           generalize thrC B i j = ty at *
           obtain ⟨yl, yo, yt, yj, ym⟩ := ty
           simp only at e1 e2 e3 e4 e5 hthB
           subst e1 e2
           have HLO := hid e4.length
           have HLM := hid e5.length
           rw [← HLO.out, ← HLM.out] at hthB
           have HRO := hid e4
           have HRM := hid e5
           have HTT := hid e3
           clear e3 e4 e5
           go_wp2_with fail
           refine hthA.mono ?_
           rintro e w3 ⟨x1, xa, x2, xb, x3, xc, x4, xd, rfl, hn3, hw3⟩
           go_wp2_with fail
           refine (hthB w3 hw3).mono ?_
           rintro e w4 ⟨y1, ya, y2, yb, y3, yc, y4, yd, rfl, hn4, hw4⟩
           go_upto_region 24 with fail
           have hbx := Qd w4 (.cells #[.slice x1 tx.label.length xa, .slice x2 tx.own.length xb, .string ⟨tx.text.toArray⟩, .slice x3 tx.objs.length xc, .slice x4 tx.mails.length xd] 36)
           have hby := Qd (w4.alloc (.cells #[.slice x1 tx.label.length xa, .slice x2 tx.own.length xb, .string ⟨tx.text.toArray⟩, .slice x3 tx.objs.length xc, .slice x4 tx.mails.length xd] 36)) (.cells #[.slice y1 tx.label.length ya, .slice y2 tx.own.length yb, .string ⟨yt.toArray⟩, .slice y3 tx.objs.length yc, .slice y4 tx.mails.length yd] 36)
           have HX5 := hid (Qe (heap_alloc_new w4 (.cells #[.slice x1 tx.label.length xa, .slice x2 tx.own.length xb, .string ⟨tx.text.toArray⟩, .slice x3 tx.objs.length xc, .slice x4 tx.mails.length xd] 36)) hby)
           have HY5 := hid (heap_alloc_new (w4.alloc (.cells #[.slice x1 tx.label.length xa, .slice x2 tx.own.length xb, .string ⟨tx.text.toArray⟩, .slice x3 tx.objs.length xc, .slice x4 tx.mails.length xd] 36)) (.cells #[.slice y1 tx.label.length ya, .slice y2 tx.own.length yb, .string ⟨yt.toArray⟩, .slice y3 tx.objs.length yc, .slice y4 tx.mails.length yd] 36))
           rw [World.size_alloc] at HY5
           have HNX := hid ((hn3.below hw4).below (Qc hbx hby))
           have HNY := hid (hn4.below (Qc hbx hby))
           have HB5 := hid (Qc HBi.out (Qc (Qc hw3 hw4) (Qc hbx hby)))
           clear hthA hthB hn3 hn4 hw3 hw4 hbx hby
           generalize (w4.alloc (.cells #[.slice x1 tx.label.length xa, .slice x2 tx.own.length xb, .string ⟨tx.text.toArray⟩, .slice x3 tx.objs.length xc, .slice x4 tx.mails.length xd] 36)).alloc (.cells #[.slice y1 tx.label.length ya, .slice y2 tx.own.length yb, .string ⟨yt.toArray⟩, .slice y3 tx.objs.length yc, .slice y4 tx.mails.length yd] 36) = w5 at *
           generalize w4.heap.size + 1 = b5 at *
           have hll := HGX.out.label.1
           have hol := HGX.out.own
           have HLXX := hid (fun wx (hb : Below w5.heap.size w5 wx) => QS (HNX.out.below hb).lab (by omega))
           have HLYY : Hid (∀ wx, Below w5.heap.size w5 wx → LabAt wx (.slice y1 tx.label.length ya) tx.label) := hid (fun wx hb => QS (HNY.out.below hb).lab (show tx.label.length ≤ _ by omega))
           have HOXX := hid (fun wx (hb : Below w5.heap.size w5 wx) => Q9 (HNX.out.below hb).own (by omega))
           have HOYY : Hid (∀ wx, Below w5.heap.size w5 wx → IntsAt wx (.slice y2 tx.own.length yb) tx.own) := hid (fun wx hb => Q9 (HNY.out.below hb).own (show tx.own.length ≤ _ by omega))
           clear hll hol
           have HZ : Hid (∀ wx, Below w5.heap.size w5 wx → (wx.cell? ⟨w4.heap.size, 0, none⟩ = some (.slice x1 tx.label.length xa) ∧ wx.cell? ⟨w4.heap.size, 1, none⟩ = some (.slice x2 tx.own.length xb) ∧ wx.cell? ⟨w4.heap.size, 2, none⟩ = some (.string ⟨tx.text.toArray⟩) ∧ wx.cell? ⟨w4.heap.size, 3, none⟩ = some (.slice x3 tx.objs.length xc) ∧ wx.cell? ⟨w4.heap.size, 4, none⟩ = some (.slice x4 tx.mails.length xd)) ∧ wx.cell? ⟨b5, 0, none⟩ = some (.slice y1 tx.label.length ya) ∧ wx.cell? ⟨b5, 1, none⟩ = some (.slice y2 tx.own.length yb) ∧ wx.cell? ⟨b5, 2, none⟩ = some (.string ⟨yt.toArray⟩) ∧ wx.cell? ⟨b5, 3, none⟩ = some (.slice y3 tx.objs.length yc) ∧ wx.cell? ⟨b5, 4, none⟩ = some (.slice y4 tx.mails.length yd)) := hid (fun wx hb => ⟨⟨Qa (Qe HX5.out hb) 0, Qa (Qe HX5.out hb) 1, Qa (Qe HX5.out hb) 2, Qa (Qe HX5.out hb) 3, Qa (Qe HX5.out hb) 4⟩, Qa (Qe HY5.out hb) 0, Qa (Qe HY5.out hb) 1, Qa (Qe HY5.out hb) 2, Qa (Qe HY5.out hb) 3, Qa (Qe HY5.out hb) 4⟩)
           obtain ⟨⟨x0, x1', x2', x3', x4'⟩, y0, y1', y2', y3', y4'⟩ := HZ.out w5 (Below.refl _ _)
           have hsam := Qdq _ _ tx.label tx.label w5 (HLXX.out _ (Below.refl _ _)) (HLYY.out _ (Below.refl _ _))
           rw [(QcH _ _).2 rfl] at hsam
           go_upto_region 26 with (first
            | (go_at_call 16; refine hsam.mono ?_; rintro e w7 ⟨rfl, hw7⟩; obtain ⟨⟨r0, r1, r2, r3, r4⟩, s0, s1, s2, s3, s4⟩ := HZ.out w7 hw7)
            | (go_at_call 17; refine (Qdd _ _ tx.own w7 (HOXX.out _ hw7) (HOYY.out _ hw7)).mono ?_; rintro e w8 ⟨rfl, hw8⟩; obtain ⟨⟨m0, m1, m2, m3, m4⟩, n0, n1, n2, n3, n4⟩ := HZ.out w8 (Qc hw7 hw8)))
           have HB8 := hid (Qc hw7 hw8)
           clear hsam hw7 hw8 x0 x1' x2' x3' x4' y0 y1' y2' y3' y4' r0 r1 r2 r3 r4 s0 s1 s2 s3 s4
           go_cut [160] (fun d wx => d = .bool false ∧ Below w5.heap.size w5 wx)
           case first =>
            have hlo := Qk9 tx c x1 x2 x3 x4 xa xb xc xd w8 (HLXX.out _ HB8.out) (HOXX.out _ HB8.out)
            cases hlb : lowB tx c with
            | true =>
             have htq : tx.text = yt := HTT.out.2 (by unfold lowB at hlb; simp only [Bool.and_eq_true, decide_eq_true_eq, Bool.not_eq_true', decide_eq_false_iff_not] at hlb; exact hlb)
             rw [hlb] at hlo
             rw [← htq] at HZ
             clear htq hlb HTT
             go_wp2_with (go_at_call 18; refine hlo.mono ?_; rintro e w9 ⟨rfl, hw9⟩; obtain ⟨⟨r0, r1, r2, r3, r4⟩, s0, s1, s2, s3, s4⟩ := HZ.out w9 (Qc HB8.out hw9))
             go_meet
             exact ⟨rfl, Qc HB8.out hw9⟩
            | false =>
             rw [hlb] at hlo
             clear hlb HTT
             go_wp2_with (go_at_call 18; refine hlo.mono ?_; rintro e w9 ⟨rfl, hw9⟩)
             go_meet
             exact ⟨rfl, Qc HB8.out hw9⟩
           case rest =>
            obtain ⟨rfl, hbp⟩ := hcut
            obtain ⟨wp, hwp⟩ : ∃ wp, wp = wc := ⟨_, rfl⟩
            rw [← hwp]
            have HBp : Hid (Below w5.heap.size w5 wp) := hid (by rw [hwp]; exact hbp)
            clear hbp hwp HB8 m0 m1 m2 m3 m4 n0 n1 n2 n3 n4 HTT
            have z3 : wp.cell? ⟨w4.heap.size, 3, none⟩ = some (.slice x3 tx.objs.length xc) := Qa (Qe HX5.out HBp.out) 3
            go_wp2_with fail
            go_loopw [164] (fun c wr => ∃ n : Nat, n ≤ tx.objs.length ∧ c = .int .i64 n ∧ Below w5.heap.size w5 wr) (fun c _ => tx.objs.length - (intOf c).toNat)
            case atStart => exact ⟨0, Nat.zero_le _, rfl, HBp.out⟩
            case round =>
             clear z3 HBp
             obtain ⟨n, hn, rfl, hbr⟩ := hrel
             obtain ⟨wn, hwn⟩ : ∃ wn, wn = wr := ⟨_, rfl⟩
             subst hwn
             have HBn := hid hbr
             clear hbr
             by_cases hlt : n < tx.objs.length
             · have hN : (n : Int) < (tx.objs.length : Int) := by omega
               have N0 : (0 : Int) ≤ n := by omega
               have hlt2 : n < yj.length := by have := HLO.out; omega
               obtain ⟨ga, ea, eb, e1, a0, a1, oa⟩ := (HNX.out.below HBn.out).objs.get n hlt
               obtain ⟨gb, fa, fb, e2, d0, d1, ob⟩ := (HNY.out.below HBn.out).objs.get n hlt2
               obtain ⟨hrl, hrt⟩ : ObtR c tx.objs[n] yj[n] := Qip HRO.out hlt hlt2
               subst e1 e2
               have hgo := (HGX.out.obj _ (List.getElem_mem hlt)).2.1
               generalize tx.objs[n] = ox at *
               generalize yj[n] = oy at *
               rw [← hrl] at d0 ob
               have HRT := hid hrt
               have HLX := hid (QS oa (by omega))
               have HLY := hid (QS ob (by omega))
               obtain ⟨z1, z2⟩ : wn.cell? ⟨w4.heap.size, 3, none⟩ = some (.slice (some ⟨ga, 0, none⟩) tx.objs.length xc) ∧ wn.cell? ⟨b5, 3, none⟩ = some (.slice (some ⟨gb, 0, none⟩) tx.objs.length yc) := ⟨Qa (Qe HX5.out HBn.out) 3, Qa (Qe HY5.out HBn.out) 3⟩
               have hB1 := Qf z1
               have hB2 := Qf z2
               have hB3 := Qf a0
               have hB4 := Qf d0
               have hl6 : tx.objs.length ≤ 6 := Nat.le_trans HGX.out.objs (by decide)
               have hn6 : n < 6 := by omega
               clear oa ob hgo hrl hrt
               go_upto_region 31 with fail
               go_cut [20, 21] (fun va vb wx => ∃ b1 b2 : Nat, va = .pointer (some ⟨b1, 0, none⟩) ∧ vb = .pointer (some ⟨b2, 0, none⟩) ∧ wx.heap[b1]? = some (.cells #[.slice ea ox.label.length eb, .string ⟨ox.text.toArray⟩] 48 (0, 0)) ∧ wx.heap[b2]? = some (.cells #[.slice fa ox.label.length fb, .string ⟨oy.text.toArray⟩] 48 (0, 0)) ∧ Below wn.heap.size wn wx)
               case first =>
                go_big_region
                all_goals
                 go_wp2_with fail
                 go_meet
                 first
                  | exact ⟨_, _, rfl, rfl, heap_alloc2_old wn _ _, heap_alloc2_new wn _ _, (Qc (Qd wn _) (Qd _ _)).drew⟩
                  | exact ⟨_, _, rfl, rfl, heap_alloc2_new wn _ _, heap_alloc2_old wn _ _, (Qc (Qd wn _) (Qd _ _)).drew⟩
               case rest =>
                obtain ⟨b1, b2, rfl, rfl, hb1, hb2, hbw⟩ := hcut
                have HO1 := hid hb1
                have HO2 := hid hb2
                have HBc := hid (Qc HBn.out hbw)
                have HLX8 := hid (HLX.out.below hbw)
                have HLY8 := hid (HLY.out.below hbw)
                clear hb1 hb2 hbw z1 z2 hB1 hB2 hB3 hB4 a0 a1 d0 d1
                obtain ⟨u0, v0⟩ : wc.cell? ⟨b1, 0, none⟩ = some (.slice ea ox.label.length eb) ∧ wc.cell? ⟨b2, 0, none⟩ = some (.slice fa ox.label.length fb) := ⟨Qa HO1.out 0, Qa HO2.out 0⟩
                have hsam := Qdq _ _ ox.label ox.label wc HLX8.out HLY8.out
                rw [(QcH _ _).2 rfl] at hsam
                have HAT := hid (fun wx (hb : Below wc.heap.size wc wx) => QcC _ ox.label c wx (HLX8.out.below hb))
                have HUV : Hid (∀ wx, Below wc.heap.size wc wx → wx.cell? ⟨b1, 0, none⟩ = some (.slice ea ox.label.length eb) ∧ wx.cell? ⟨b1, 1, none⟩ = some (.string ⟨ox.text.toArray⟩) ∧ wx.cell? ⟨b2, 1, none⟩ = some (.string ⟨oy.text.toArray⟩)) := hid (fun wx hb => ⟨Qa (Qe HO1.out hb) 0, Qa (Qe HO1.out hb) 1, Qa (Qe HO2.out hb) 1⟩)
                obtain ⟨lv, hlv⟩ : ∃ lv, lv = atL ox.label c := ⟨_, rfl⟩
                rw [← hlv] at HAT HRT
                clear hlv
                by_cases hlow : lv ≤ 1
                · have htq := HRT.out.2 hlow
                  rw [← htq] at HUV
                  clear htq HRT
                  go_wp2_with (first | (go_at_call 16; refine hsam.mono ?_; rintro e w8 ⟨rfl, hw8⟩; obtain ⟨u1, u2, u3⟩ := HUV.out w8 hw8) | (go_at_call 19; refine (HAT.out w8 hw8).mono ?_; rintro e w9 ⟨rfl, hw9⟩; obtain ⟨v1, v2, v3⟩ := HUV.out w9 (Qc hw8 hw9)))
                  go_roundw
                  case rel => exact ⟨n + 1, hlt, by go_num, Qc HBc.out (Qc hw8 hw9)⟩
                  case measure => simp [intOf]; omega
                · clear HRT
                  go_wp2_with (first | (go_at_call 16; refine hsam.mono ?_; rintro e w8 ⟨rfl, hw8⟩; obtain ⟨u1, u2, u3⟩ := HUV.out w8 hw8) | (go_at_call 19; refine (HAT.out w8 hw8).mono ?_; rintro e w9 ⟨rfl, hw9⟩))
                  go_roundw
                  case rel => exact ⟨n + 1, hlt, by go_num, Qc HBc.out (Qc hw8 hw9)⟩
                  case measure => simp [intOf]; omega
             · have hnl : n = tx.objs.length := by omega
               subst hnl
               obtain ⟨wp, hwp⟩ : ∃ wp, wp = wn := ⟨_, rfl⟩
               rw [← hwp]
               have HBp : Hid (Below w5.heap.size w5 wp) := hid (by rw [hwp]; exact HBn.out)
               clear hwp HBn
               have z4 : wp.cell? ⟨w4.heap.size, 4, none⟩ = some (.slice x4 tx.mails.length xd) := Qa (Qe HX5.out HBp.out) 4
               go_wp2_with fail
               go_loopw [201] (fun c wr => ∃ n : Nat, n ≤ tx.mails.length ∧ c = .int .i64 n ∧ Below w5.heap.size w5 wr) (fun c _ => tx.mails.length - (intOf c).toNat)
               case atStart => exact ⟨0, Nat.zero_le _, rfl, HBp.out⟩
               case round =>
                clear z4 HBp
                obtain ⟨n, hn, rfl, hbr⟩ := hrel
                obtain ⟨wn, hwn⟩ : ∃ wn, wn = wr := ⟨_, rfl⟩
                subst hwn
                have HBn := hid hbr
                clear hbr
                by_cases hlt : n < tx.mails.length
                · have hN : (n : Int) < (tx.mails.length : Int) := by omega
                  have N0 : (0 : Int) ≤ n := by omega
                  have hlt2 : n < ym.length := by have := HLM.out; omega
                  obtain ⟨ga, ea, eb, ec, ed, e1, a0, a1, a2, a3, a4, oa, _⟩ := (HNX.out.below HBn.out).mails.get n hlt
                  obtain ⟨gb, fa, fb, fc, fd, e2, d0, d1, d2, d3, d4, ob, _⟩ := (HNY.out.below HBn.out).mails.get n hlt2
                  obtain ⟨hr1, hr2, hrl, hr4, hrt⟩ : MalR c tx.mails[n] ym[n] := Qip HRM.out hlt hlt2
                  subst e1 e2
                  have hgo := (Qke (HGX.out.mail _ (List.getElem_mem hlt))).1
                  generalize tx.mails[n] = ox at *
                  generalize ym[n] = oy at *
                  rw [← hrl] at d2 ob
                  rw [← hr1] at d0
                  rw [← hr2] at d1
                  rw [← hr4] at d3
                  have HRT := hid hrt
                  have HLX := hid (QS oa (by omega))
                  have HLY := hid (QS ob (by omega))
                  obtain ⟨z1, z2⟩ : wn.cell? ⟨w4.heap.size, 4, none⟩ = some (.slice (some ⟨ga, 0, none⟩) tx.mails.length xd) ∧ wn.cell? ⟨b5, 4, none⟩ = some (.slice (some ⟨gb, 0, none⟩) tx.mails.length yd) := ⟨Qa (Qe HX5.out HBn.out) 4, Qa (Qe HY5.out HBn.out) 4⟩
                  have hB1 := Qf z1
                  have hB2 := Qf z2
                  have hB3 := Qf a0
                  have hB4 := Qf d0
                  have hl6 : tx.mails.length ≤ 6 := HGX.out.mails
                  have hn6 : n < 6 := by omega
                  clear oa ob hgo hrl hrt hr1 hr2 hr4
                  go_upto_region 38 with fail
                  go_cut [23, 24] (fun va vb wx => ∃ b1 b2 : Nat, va = .pointer (some ⟨b1, 0, none⟩) ∧ vb = .pointer (some ⟨b2, 0, none⟩) ∧ wx.heap[b1]? = some (.cells #[.int .i64 ox.host, .int .i64 ox.thread, .slice ea ox.label.length eb, .slice ec ox.grants.length ed, .string ⟨ox.text.toArray⟩] 51 (0, 0)) ∧ wx.heap[b2]? = some (.cells #[.int .i64 ox.host, .int .i64 ox.thread, .slice fa ox.label.length fb, .slice fc ox.grants.length fd, .string ⟨oy.text.toArray⟩] 51 (0, 0)) ∧ Below wn.heap.size wn wx)
                  case first =>
                   go_big_region
                   all_goals
                    go_wp2_with fail
                    go_meet
                    first
                     | exact ⟨_, _, rfl, rfl, heap_alloc2_old wn _ _, heap_alloc2_new wn _ _, (Qc (Qd wn _) (Qd _ _)).drew⟩
                     | exact ⟨_, _, rfl, rfl, heap_alloc2_new wn _ _, heap_alloc2_old wn _ _, (Qc (Qd wn _) (Qd _ _)).drew⟩
                  case rest =>
                   obtain ⟨b1, b2, rfl, rfl, hb1, hb2, hbw⟩ := hcut
                   have HO1 := hid hb1
                   have HO2 := hid hb2
                   have HBc := hid (Qc HBn.out hbw)
                   have HLX8 := hid (HLX.out.below hbw)
                   have HLY8 := hid (HLY.out.below hbw)
                   clear hb1 hb2 hbw z1 z2 hB1 hB2 hB3 hB4 a0 a1 d0 d1 a2 a3 a4 d2 d3 d4
                   obtain ⟨u0, v0⟩ : wc.cell? ⟨b1, 2, none⟩ = some (.slice ea ox.label.length eb) ∧ wc.cell? ⟨b2, 2, none⟩ = some (.slice fa ox.label.length fb) := ⟨Qa HO1.out 2, Qa HO2.out 2⟩
                   have hsam := Qdq _ _ ox.label ox.label wc HLX8.out HLY8.out
                   rw [(QcH _ _).2 rfl] at hsam
                   have HAT := hid (fun wx (hb : Below wc.heap.size wc wx) => QcC _ ox.label c wx (HLX8.out.below hb))
                   have HUV : Hid (∀ wx, Below wc.heap.size wc wx → wx.cell? ⟨b1, 2, none⟩ = some (.slice ea ox.label.length eb) ∧ wx.cell? ⟨b1, 4, none⟩ = some (.string ⟨ox.text.toArray⟩) ∧ wx.cell? ⟨b2, 4, none⟩ = some (.string ⟨oy.text.toArray⟩)) := hid (fun wx hb => ⟨Qa (Qe HO1.out hb) 2, Qa (Qe HO1.out hb) 4, Qa (Qe HO2.out hb) 4⟩)
                   obtain ⟨lv, hlv⟩ : ∃ lv, lv = atL ox.label c := ⟨_, rfl⟩
                   rw [← hlv] at HAT HRT
                   clear hlv
                   by_cases hlow : lv ≤ 1
                   · have htq := HRT.out.2 hlow
                     rw [← htq] at HUV
                     clear htq HRT
                     go_wp2_with (first | (go_at_call 16; refine hsam.mono ?_; rintro e w8 ⟨rfl, hw8⟩; obtain ⟨u1, u2, u3⟩ := HUV.out w8 hw8) | (go_at_call 19; refine (HAT.out w8 hw8).mono ?_; rintro e w9 ⟨rfl, hw9⟩; obtain ⟨v1, v2, v3⟩ := HUV.out w9 (Qc hw8 hw9)))
                     go_roundw
                     case rel => exact ⟨n + 1, hlt, by go_num, Qc HBc.out (Qc hw8 hw9)⟩
                     case measure => simp [intOf]; omega
                   · clear HRT
                     go_wp2_with (first | (go_at_call 16; refine hsam.mono ?_; rintro e w8 ⟨rfl, hw8⟩; obtain ⟨u1, u2, u3⟩ := HUV.out w8 hw8) | (go_at_call 19; refine (HAT.out w8 hw8).mono ?_; rintro e w9 ⟨rfl, hw9⟩))
                     go_roundw
                     case rel => exact ⟨n + 1, hlt, by go_num, Qc HBc.out (Qc hw8 hw9)⟩
                     case measure => simp [intOf]; omega
                · have hnl : n = tx.mails.length := by omega
                  subst hnl
                  go_wp2_with fail
                  go_roundw
                  case rel => exact ⟨j + 1, hj4, by go_num, Qc HB5.out HBn.out⟩
                  case measure => simp [intOf]; omega
         · have hj5 : j = 4 := by omega
           subst hj5
           go_wp2_with fail
           go_roundw
           case rel => exact ⟨i + 1, hi4, by go_num, HBi.out⟩
           case measure => simp [intOf]; omega
      · have hi5 : i = 4 := by omega
        subst hi5
        go_wp2_with fail
        go_ret
        exact ⟨rfl, Qc HBE.out HBo.out⟩
end Go.Proofs.YtlbdaklmlknmbaaGreat
