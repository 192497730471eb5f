/- The look of TopOnce: no more mail comes to a thread from a host than was sent to it there. -/
import Derived.Test.YtlbdaklmlknmbaaGreatJCCome
import Derived.Test.YtlbdaklmlknmbaaGreatJMem
import Derived.Test.YtlbdaklmlknmbaaGreatJKTake
import Derived.Test.YtlbdaklmlknmbaaGreatJPlainGoodN
import Derived.Deep.DeepCutAuto
import Derived.Deep.RegionHeld3
import Derived.Test.YtlbdaklmlknmbaaGreatJTLookT
namespace Go.Proofs.YtlbdaklmlknmbaaGreat
open Go.RowKit Go.Proofs.Parclose
def cam3 (f : Nat → Nat → Nat → Nat) (i : Nat) : Int := ((f (i / 16) (i / 4 % 4) (i % 4) : Nat) : Int)
theorem Qfy {f : Nat → Nat → Nat → Nat} (x h t : Nat) (hh : h < 4) (ht : t < 4) : cam3 f (x * 16 + h * 4 + t) = ((f x h t : Nat) : Int) := by
 unfold cam3
 rw [show (x * 16 + h * 4 + t) / 16 = x by omega, show (x * 16 + h * 4 + t) / 4 % 4 = h by omega, show (x * 16 + h * 4 + t) % 4 = t by omega]
def mixC (n : Nat) (new old : Nat → Nat → Nat → Nat) (i : Nat) : Int := if i % 16 < n then cam3 new i else cam3 old i
theorem Qmo {new old : Nat → Nat → Nat → Nat} {x h t : Nat} (hh : h < 4) (ht : t < 4) : mixC (h * 4 + t) new old (x * 16 + h * 4 + t) = ((old x h t : Nat) : Int) := by
 unfold mixC
 rw [if_neg (by omega), Qfy x h t hh ht]
theorem QjW {m : Mal} (h : mailE m = 0) : m.host = ((m.host.toNat : Nat) : Int) ∧ m.host.toNat < 4 := by
 unfold mailE at h
 split at h
 · rename_i h1
   simp only [Bool.and_eq_true] at h1
   have h4 : 0 ≤ m.host ∧ m.host < 4 := of_decide_eq_true h1.1.1.1
   omega
 · cases h
theorem Qdj {x : Int} (h0 : 0 ≤ x) (h1 : x ≤ 1000) : IntKind.i64.wrap x = x := by
 unfold IntKind.wrap
 simp [IntKind.bits, IntKind.signed]
 omega
def OnJ (C : Clu) (snt cam : Nat → Nat → Nat → Nat) : Prop := (∃ T had, OnC C T had snt cam) ∧ ∀ x y t, snt x y t ≤ C.acts
theorem QlT {C : Clu} {a : Ac} (h : SendA a (doC C a).2) : C.acts < 300 ∧ ∃ ah ch ct : Nat, ah < 4 ∧ ch < 4 ∧ ct < 4 ∧ a.h = (ah : Int) ∧ a.call.h = (ch : Int) ∧ a.call.t = (ct : Int) := by
 obtain ⟨k1, k6, h0⟩ := h
 unfold doC at h0
 by_cases h3 : 300 ≤ C.acts
 · rw [if_pos h3] at h0
   cases h0
 rw [if_neg h3] at h0
 dsimp only at h0
 rw [if_pos k1] at h0
 unfold callC at h0
 by_cases h4 : (hostB a.h && hostB a.t) = true
 · rw [if_pos h4, if_pos k6] at h0
   replace h0 : (sendC _ a.h a.t a.call).2 = 0 := h0
   unfold sendC at h0
   by_cases g1 : 64 < a.call.text.length
   · rw [if_pos g1] at h0; cases h0
   rw [if_neg g1] at h0
   by_cases g2 : (hostB a.call.h && hostB a.call.t) = true
   · rw [Bool.and_eq_true] at h4 g2
     have e1 : 0 ≤ a.h ∧ a.h < 4 := of_decide_eq_true h4.1
     have e2 : 0 ≤ a.call.h ∧ a.call.h < 4 := of_decide_eq_true g2.1
     have e3 : 0 ≤ a.call.t ∧ a.call.t < 4 := of_decide_eq_true g2.2
     exact ⟨by omega, a.h.toNat, a.call.h.toNat, a.call.t.toNat, by omega, by omega, by omega, by omega, by omega, by omega⟩
   · rw [if_neg g2] at h0; cases h0
 · rw [if_neg h4] at h0; cases h0
theorem Qlf {C : Clu} (hg : GoodC C) (hh : HostC C) (a : Ac) {snt cam : Nat → Nat → Nat → Nat} (h : OnJ C snt cam) : OnJ (doC C a).1 (sntN a (doC C a).2 snt) (camN C (doC C a).1 cam) := by
 obtain ⟨⟨T, had, h1⟩, h2⟩ := h
 refine ⟨Qlg h1 hh (Qkj hg a), fun x y t => ?_⟩
 have hx := h2 x y t
 by_cases h3 : C.acts < 300
 · rw [QlX C a h3]
   unfold sntN
   split <;> omega
 · rw [Qgn C a (by omega)]
   unfold sntN
   rw [if_neg]
   · exact hx
   · rintro ⟨⟨_, _, e⟩, _⟩
     cases e
theorem Qk7 {a : Ac} {r : Rep} (h : ¬ SendA a r) (snt : Nat → Nat → Nat → Nat) : sntN a r snt = snt := by
 funext x y t
 unfold sntN
 rw [if_neg (fun e => h e.1)]
theorem QjA {a : Ac} {r : Rep} {snt : Nat → Nat → Nat → Nat} {ah ch ct : Nat} (h1 : a.h = (ah : Int)) (h2 : a.call.h = (ch : Int)) (h3 : a.call.t = (ct : Int)) (_ : ah < 4) (c4 : ch < 4) (t4 : ct < 4) (hs : SendA a r) : ∀ i, i < 64 → (if i = ah * 16 + ch * 4 + ct then ((snt ah ch ct : Nat) : Int) + 1 else cam3 snt i) = cam3 (sntN a r snt) i := fun i hi => by
 unfold cam3 sntN
 by_cases e : i = ah * 16 + ch * 4 + ct
 · rw [if_pos e, e, show (ah * 16 + ch * 4 + ct) / 16 = ah by omega, show (ah * 16 + ch * 4 + ct) / 4 % 4 = ch by omega, show (ah * 16 + ch * 4 + ct) % 4 = ct by omega, if_pos ⟨hs, h1.symm, h2.symm, h3.symm⟩]
   rfl
 · rw [if_neg e, if_neg]
   rintro ⟨_, e1, e2, e3⟩
   rw [h1] at e1
   rw [h2] at e2
   rw [h3] at e3
   omega
theorem QjT {C0 C : Clu} {cam : Nat → Nat → Nat → Nat} {i j : Nat} (hj : j < 4) (h : ¬ grew C0 C i j) (x : Nat) : mixC (i * 4 + j) (camN C0 C cam) cam x = mixC (i * 4 + (j + 1)) (camN C0 C cam) cam x := by
 unfold mixC
 by_cases e : x % 16 < i * 4 + j
 · rw [if_pos e, if_pos (by omega)]
 · rw [if_neg e]
   by_cases g : x % 16 = i * 4 + j
   · rw [if_pos (by omega)]
     unfold cam3
     rw [show x / 4 % 4 = i by omega, show x % 4 = j by omega, Qah h]
   · rw [if_neg (by omega)]
theorem QjU {C0 C : Clu} {cam : Nat → Nat → Nat → Nat} {i j mh : Nat} (hi : i < 4) (hj : j < 4) (h : grew C0 C i j) (hl : (lastM C i j).host = (mh : Int)) (x : Nat) : (if x = mh * 16 + i * 4 + j then ((cam mh i j : Nat) : Int) + 1 else mixC (i * 4 + j) (camN C0 C cam) cam x) = mixC (i * 4 + (j + 1)) (camN C0 C cam) cam x := by
 unfold mixC
 by_cases e : x = mh * 16 + i * 4 + j
 · rw [if_pos e, if_pos (by omega)]
   unfold cam3 camN
   rw [e, show (mh * 16 + i * 4 + j) / 16 = mh by omega, show (mh * 16 + i * 4 + j) / 4 % 4 = i by omega, show (mh * 16 + i * 4 + j) % 4 = j by omega, if_pos ⟨h, hl⟩]
   rfl
 · rw [if_neg e]
   by_cases g : x % 16 < i * 4 + j
   · rw [if_pos g, if_pos (by omega)]
   · rw [if_neg g]
     by_cases q : x % 16 = i * 4 + j
     · rw [if_pos (by omega)]
       unfold cam3 camN
       rw [show x / 4 % 4 = i by omega, show x % 4 = j by omega, if_neg]
       rintro ⟨_, e2⟩
       rw [hl] at e2
       omega
     · rw [if_neg (by omega)]
def JO (Bs Bw Bc : Nat) (w : World) (F : List Nat) (C : Clu) : Prop := (Bs ∈ F ∧ Bw ∈ F ∧ Bc ∈ F) ∧ (Bs ≠ Bw ∧ Bs ≠ Bc ∧ Bw ≠ Bc) ∧ ∃ snt cam, OnJ C snt cam ∧ NBox w Bs 68 64 (cam3 snt) ∧ NBox w Bw 65 16 (mlen C) ∧ NBox w Bc 68 64 (cam3 cam)
theorem JO.below {Bs Bw Bc : Nat} {w w' : World} {F : List Nat} {C : Clu} (h : JO Bs Bw Bc w F C) (hb : Below w.heap.size w w') : JO Bs Bw Bc w' F C := by
 obtain ⟨h1, h2, snt, cam, h3, h4, h5, h6⟩ := h
 exact ⟨h1, h2, snt, cam, h3, h4.below hb, h5.below hb, h6.below hb⟩
theorem JO.step {Bs Bw Bc cb : Nat} {w w' : World} {F G : List Nat} {Z Z' : CluV} {C D : Clu} (h : JO Bs Bw Bc w F C) (hs : CStep cb w F Z w' G Z') (hc : CluAt w cb F Z D) : JO Bs Bw Bc w' G C := by
 obtain ⟨⟨g1, g2, g3⟩, h2, snt, cam, h3, h4, h5, h6⟩ := h
 exact ⟨⟨hs.more.1 _ g1, hs.more.1 _ g2, hs.more.1 _ g3⟩, h2, snt, cam, h3, h4.step hs hc (by decide), h5.step hs hc (by decide), h6.step hs hc (by decide)⟩
def OneF (C0 C : Clu) (i j : Nat) : Prop := (¬ grew C0 C i j ∧ (thrC C i j).mails.length ≤ (thrC C0 i j).mails.length) ∨ ∃ (n : Nat) (m : Mal), grew C0 C i j ∧ lastM C i j = m ∧ (thrC C0 i j).mails.length = n ∧ (thrC C i j).mails.length = n + 1 ∧ (thrC C i j).mails[n]? = some m
theorem oneF {C : Clu} (hg : GoodC C) (hh : HostC C) (a : Ac) (i j : Nat) (hi : i < 4) : OneF C (doC C a).1 i j := by
 have h1 : hostB (i : Int) = true := decide_eq_true ⟨by omega, by omega⟩
 unfold OneF thrC
 rw [if_pos h1, if_pos h1, Int.toNat_natCast]
 rcases doC_trusted hg hh a i hi j with e | ⟨m, e1, _⟩
 · exact .inl ⟨by unfold grew; omega, e⟩
 · exact .inr ⟨_, m, by unfold grew; rw [e1]; simp, Qeg e1, rfl, by rw [e1]; simp, by rw [e1]; simp⟩
set_option maxRecDepth 100000 in
set_option maxHeartbeats 12800000 in
theorem QfK (cb Bs Bw Bc : Nat) (F : List Nat) (Z : CluV) (C0 C : Clu) (a : Ac) (r : Rep) (pl pg : Option Addr) (cl cg : Nat) (w : World) (hc : CluAt w cb F Z C) (hg : GoodC C) (hj : JO Bs Bw Bc w F C0) (ht : ∀ i j : Nat, i < 4 → OneF C0 C i j) (hst : ∀ snt cam, OnJ C0 snt cam → OnJ C (sntN a r snt) (camN C0 C cam)) (hsd : SendA a r → C0.acts < 300 ∧ ∃ ah ch ct : Nat, ah < 4 ∧ ch < 4 ∧ ct < 4 ∧ a.h = (ah : Int) ∧ a.call.h = (ch : Int) ∧ a.call.t = (ct : Int)) :
 Calls Tryz.prog 29 #[.pointer (some ⟨cb, 0, none⟩), (.agg #[.int .i64 a.kind, .int .i64 a.h, .int .i64 a.t, .int .i64 a.n, .int .i64 a.call.kind, .int .i64 a.call.h, .int .i64 a.call.t, .int .i64 a.call.n, .int .i64 a.call.c, .slice pl a.call.label.length cl, .slice pg a.call.grants.length cg, .string ⟨a.call.text.toArray⟩]), (.agg #[.int .i64 r.code, .int .i64 r.n, .string ⟨r.text.toArray⟩]), .pointer (some ⟨Bs, 0, none⟩), .pointer (some ⟨Bw, 0, none⟩), .pointer (some ⟨Bc, 0, none⟩)] w fun e w' => e = .returned (.bool true) ∧ JO Bs Bw Bc w' F C ∧ CluAt w' cb F Z C ∧ KeptF [Bs, Bw, Bc] w w' := by
 obtain ⟨⟨hBs, hBw, hBc⟩, ⟨hd1, hd2, hd3⟩, snt, cam, hon, hns, hnw, hnc⟩ := hj
 have HG := hid hg
 have HT := hid ht
 have HBs := hid hBs
 have HBw := hid hBw
 have HBc := hid hBc
 have HD1 := hid hd1
 have HD2 := hid hd2
 have HD3 := hid hd3
 have HSD := hid hsd
 have HSB := hid hon.2
 have HJN := hid (hst snt cam hon)
 have hb1 := Qc w (.cells #[.int .i64 a.kind, .int .i64 a.h, .int .i64 a.t, .int .i64 a.n, .int .i64 a.call.kind, .int .i64 a.call.h, .int .i64 a.call.t, .int .i64 a.call.n, .int .i64 a.call.c, .slice pl a.call.label.length cl, .slice pg a.call.grants.length cg, .string ⟨a.call.text.toArray⟩] 32)
 have hb2 := Qc (w.alloc (.cells #[.int .i64 a.kind, .int .i64 a.h, .int .i64 a.t, .int .i64 a.n, .int .i64 a.call.kind, .int .i64 a.call.h, .int .i64 a.call.t, .int .i64 a.call.n, .int .i64 a.call.c, .slice pl a.call.label.length cl, .slice pg a.call.grants.length cg, .string ⟨a.call.text.toArray⟩] 32)) (.cells #[.int .i64 r.code, .int .i64 r.n, .string ⟨r.text.toArray⟩] 43)
 have HXA := hid (Qf (heap_alloc_new w (.cells #[.int .i64 a.kind, .int .i64 a.h, .int .i64 a.t, .int .i64 a.n, .int .i64 a.call.kind, .int .i64 a.call.h, .int .i64 a.call.t, .int .i64 a.call.n, .int .i64 a.call.c, .slice pl a.call.label.length cl, .slice pg a.call.grants.length cg, .string ⟨a.call.text.toArray⟩] 32)) hb2)
 have HXR := hid (heap_alloc_new (w.alloc (.cells #[.int .i64 a.kind, .int .i64 a.h, .int .i64 a.t, .int .i64 a.n, .int .i64 a.call.kind, .int .i64 a.call.h, .int .i64 a.call.t, .int .i64 a.call.n, .int .i64 a.call.c, .slice pl a.call.label.length cl, .slice pg a.call.grants.length cg, .string ⟨a.call.text.toArray⟩] 32)) (.cells #[.int .i64 r.code, .int .i64 r.n, .string ⟨r.text.toArray⟩] 43))
 rw [World.size_alloc] at HXR
 have hb3 := Qd hb1 hb2
 have HC1 := hid (hc.below hb3)
 have HN1 := hid (hns.below hb3)
 have HNw1 := hid (hnw.below hb3)
 have HNc1 := hid (hnc.below hb3)
 have HK1 := hid (Qy [Bs, Bw, Bc] hb3)
 have HNEs : Hid (w.heap.size ≠ Bs) := hid (by have := hns.lt; omega)
 clear hg ht hBs hBw hBc hd1 hd2 hd3 hsd hon hst hns hnw hnc hc hb1 hb2 hb3
 go_enter Tryz.func29, Tryz.ntmps29
 go_upto_region 1 with fail
 generalize (w.alloc (.cells #[.int .i64 a.kind, .int .i64 a.h, .int .i64 a.t, .int .i64 a.n, .int .i64 a.call.kind, .int .i64 a.call.h, .int .i64 a.call.t, .int .i64 a.call.n, .int .i64 a.call.c, .slice pl a.call.label.length cl, .slice pg a.call.grants.length cg, .string ⟨a.call.text.toArray⟩] 32)).alloc (.cells #[.int .i64 r.code, .int .i64 r.n, .string ⟨r.text.toArray⟩] 43) = w1 at *
 obtain ⟨x0, x4, y0⟩ : w1.cell? ⟨w.heap.size, 0, none⟩ = some (.int .i64 a.kind) ∧ w1.cell? ⟨w.heap.size, 4, none⟩ = some (.int .i64 a.call.kind) ∧ w1.cell? ⟨w.heap.size + 1, 0, none⟩ = some (.int .i64 r.code) := ⟨Qa HXA.out 0, Qa HXA.out 4, Qa HXR.out 0⟩
 go_cut [28] (fun c wx => c = .bool (decide (SendA a r)) ∧ wx = w1)
 case first =>
  cases k1 : (a.kind == 1) with
  | false =>
   have HD := hid (decide_eq_false (fun e : SendA a r => by rw [e.1] at k1; cases k1))
   go_wp2
   go_meet
   exact ⟨by rw [HD.out], rfl⟩
  | true =>
   cases k6 : (a.call.kind == 6) with
   | false =>
    have HD := hid (decide_eq_false (fun e : SendA a r => by rw [e.2.1] at k6; cases k6))
    go_wp2
    go_meet
    exact ⟨by rw [HD.out], rfl⟩
   | true =>
    cases k0 : (r.code == 0) with
    | false =>
     have HD := hid (decide_eq_false (fun e : SendA a r => by rw [e.2.2] at k0; cases k0))
     go_wp2
     go_meet
     exact ⟨by rw [HD.out], rfl⟩
    | true =>
     have HD := hid (decide_eq_true (show SendA a r from ⟨by simpa using k1, by simpa using k6, by simpa using k0⟩))
     go_wp2
     go_meet
     exact ⟨by rw [HD.out], rfl⟩
 case rest =>
  obtain ⟨rfl, hwc⟩ := hcut
  rw [hwc]
  clear hwc wc x0 x4 y0
  go_upto_if 28 with fail
  go_cut [9] (fun c wx => c = .bool false ∧ NBox wx Bs 68 64 (cam3 (sntN a r snt)) ∧ NBox wx Bw 65 16 (mlen C0) ∧ NBox wx Bc 68 64 (cam3 cam) ∧ CluAt wx cb F Z C ∧ KeptF [Bs, Bw, Bc] w wx)
  case first =>
   by_cases hs : SendA a r
   · obtain ⟨h300, ah, ch, ct, ha4, hc4, ht4, hah, hch, hct⟩ := HSD.out hs
     have HSA := hid hs
     have hdt := decide_eq_true hs
     obtain ⟨x1, x5, x6⟩ : w1.cell? ⟨w.heap.size, 1, none⟩ = some (.int .i64 ((ah : Nat) : Int)) ∧ w1.cell? ⟨w.heap.size, 5, none⟩ = some (.int .i64 ((ch : Nat) : Int)) ∧ w1.cell? ⟨w.heap.size, 6, none⟩ = some (.int .i64 ((ct : Nat) : Int)) := ⟨(Qa HXA.out 1).trans (by rw [← hah]; rfl), (Qa HXA.out 5).trans (by rw [← hch]; rfl), (Qa HXA.out 6).trans (by rw [← hct]; rfl)⟩
     have i1 : (0 : Int) ≤ ah ∧ (ah : Int) < 4 ∧ (0 : Int) ≤ ch ∧ (ch : Int) < 4 ∧ (0 : Int) ≤ ct ∧ (ct : Int) < 4 := by omega
     obtain ⟨i1, i2, i3, i4, i5, i6⟩ := i1
     have HAH := hid hah
     have HCH := hid hch
     have HCT := hid hct
     clear hs hah hch hct
     rw [hdt]
     clear hdt
     go_upto_region 2 with fail
     refine wp_region_held_drew (S := (fun w' => w'.cell? ⟨w.heap.size, 1, none⟩ = some (.int .i64 ((ah : Nat) : Int)) ∧ w'.cell? ⟨w.heap.size, 5, none⟩ = some (.int .i64 ((ch : Nat) : Int)) ∧ w'.cell? ⟨w.heap.size, 6, none⟩ = some (.int .i64 ((ct : Nat) : Int)))) (by as_aux_lemma => kernel_rfl) ⟨x1, x5, x6⟩ (fun _hHeld => ?_)
     refine takeF 0 29 ?v1 rfl (Or.inl ⟨by rfl, ?hy1⟩) ?rest1
     case hy1 => intro wz hSw; (try dsimp only at hSw); go_simp; try with_reducible rfl
     simp only [Act.put, List.setIfInBounds_toArray, List.set_cons_zero, List.set_cons_succ]
     refine takeF 1 30 ?v2 rfl (Or.inl ⟨by rfl, ?hy2⟩) ?rest2
     case hy2 => intro wz hSw; (try dsimp only at hSw); go_simp; try with_reducible rfl
     simp only [Act.put, List.setIfInBounds_toArray, List.set_cons_zero, List.set_cons_succ]
     refine takeF 2 31 ?v3 rfl (Or.inl ⟨by rfl, ?hy3⟩) ?rest3
     case hy3 => intro wz hSw; (try dsimp only at hSw); go_simp; try with_reducible rfl
     simp only [Act.put, List.setIfInBounds_toArray, List.set_cons_zero, List.set_cons_succ]
     refine takeF 3 32 ?v4 rfl (Or.inl ⟨by rfl, ?hy4⟩) ?rest4
     case hy4 => intro wz hSw; (try dsimp only at hSw); go_simp; try with_reducible rfl
     simp only [Act.put, List.setIfInBounds_toArray, List.set_cons_zero, List.set_cons_succ]
     refine takeF 4 33 ?v5 rfl (Or.inl ⟨by rfl, ?hy5⟩) ?rest5
     case hy5 => intro wz hSw; (try dsimp only at hSw); go_simp; try with_reducible rfl
     simp only [Act.put, List.setIfInBounds_toArray, List.set_cons_zero, List.set_cons_succ]
     refine takeF 5 34 ?v6 rfl (Or.inl ⟨by rfl, ?hy6⟩) ?rest6
     case hy6 => intro wz hSw; (try dsimp only at hSw); go_simp; try with_reducible rfl
     simp only [Act.put, List.setIfInBounds_toArray, List.set_cons_zero, List.set_cons_succ]
     refine takeF 6 35 ?v7 rfl (Or.inl ⟨by rfl, ?hy7⟩) ?rest7
     case hy7 => intro wz hSw; (try dsimp only at hSw); go_simp; try with_reducible rfl
     simp only [Act.put, List.setIfInBounds_toArray, List.set_cons_zero, List.set_cons_succ]
     refine takeF 7 36 ?v8 rfl (Or.inl ⟨by rfl, ?hy8⟩) ?rest8
     case hy8 => intro wz hSw; (try dsimp only at hSw); go_simp; try with_reducible rfl
     simp only [Act.put, List.setIfInBounds_toArray, List.set_cons_zero, List.set_cons_succ]
     refine takeF 8 37 ?v9 rfl (Or.inl ⟨by rfl, ?hy9⟩) ?rest9
     case hy9 => intro wz hSw; (try dsimp only at hSw); go_simp; try with_reducible rfl
     simp only [Act.put, List.setIfInBounds_toArray, List.set_cons_zero, List.set_cons_succ]
     refine takeF 9 38 ?v10 rfl (Or.inl ⟨by rfl, ?hy10⟩) ?rest10
     case hy10 => intro wz hSw; (try dsimp only at hSw); go_simp; try with_reducible rfl
     simp only [Act.put, List.setIfInBounds_toArray, List.set_cons_zero, List.set_cons_succ]
     refine takeF 10 39 ?v11 rfl (Or.inl ⟨by rfl, ?hy11⟩) ?rest11
     case hy11 => intro wz hSw; (try dsimp only at hSw); go_simp; try with_reducible rfl
     simp only [Act.put, List.setIfInBounds_toArray, List.set_cons_zero, List.set_cons_succ]
     refine takeF 13 42 ?v12 rfl (Or.inl ⟨by rfl, ?hy12⟩) ?rest12
     case hy12 => intro wz hSw; (try dsimp only at hSw); go_simp; try with_reducible rfl
     simp only [Act.put, List.setIfInBounds_toArray, List.set_cons_zero, List.set_cons_succ]
     refine takeF 14 43 ?v13 rfl (Or.inl ⟨by rfl, ?hy13⟩) ?rest13
     case hy13 => intro wz hSw; (try dsimp only at hSw); go_simp; try with_reducible rfl
     simp only [Act.put, List.setIfInBounds_toArray, List.set_cons_zero, List.set_cons_succ]
     obtain ⟨wd, hwd⟩ : ∃ wd, wd = w1.drew := ⟨_, rfl⟩
     rw [← hwd]
     have hbd : Below w1.heap.size w1 wd := by rw [hwd]; exact (Below.refl _ _).drew
     clear hwd
     have HNd := hid (HN1.out.below hbd)
     have HXd := hid (Qf HXA.out hbd)
     obtain ⟨nb1, nb2⟩ := HNd.out.cell (ah * 16 + ch * 4 + ct) (by omega)
     have HWR : Hid (IntKind.i64.wrap (((snt ah ch ct : Nat) : Int) + 1) = ((snt ah ch ct : Nat) : Int) + 1) := hid (by have := HSB.out ah ch ct; exact Qdj (by omega) (by omega))
     rw [Qfy ah ch ct hc4 ht4] at nb1
     have hlbd := HNd.out.lt
     refine wpAnyH_ready (rs := [11]) (by as_aux_lemma => kernel_rfl) (by simp) ?_
     refine (AllReadyH.cons rfl (fun K' hK => ?_) AllReadyH.nil)
     go_simp
     refine hK.out _ _ ⟨(Qa HXd.out 1).trans (by rw [← HAH.out]; rfl), (Qa HXd.out 5).trans (by rw [← HCH.out]; rfl), (Qa HXd.out 6).trans (by rw [← HCT.out]; rfl)⟩ (fun _ => ?_)
     clear hK K'
     refine takeF 12 41 (.int .i64 (((snt ah ch ct : Nat) : Int) + 1)) rfl (Or.inl ⟨by rfl, ?hy14⟩) ?rest14
     case hy14 => intro wz hSw; (try dsimp only at hSw); go_simp; rw [HWR.out]
     simp only [Act.put, List.setIfInBounds_toArray, List.set_cons_zero, List.set_cons_succ]
     refine takeF 15 44 ?v15 rfl (Or.inl ⟨by rfl, ?hy15⟩) ?rest15
     case hy15 => intro wz hSw; (try dsimp only at hSw); go_simp; try with_reducible rfl
     simp only [Act.put, List.setIfInBounds_toArray, List.set_cons_zero, List.set_cons_succ]
     refine wpAnyH_ready (rs := [16]) (by as_aux_lemma => kernel_rfl) (by simp) ?_
     refine (AllReadyH.cons rfl (fun K' hK => ?_) AllReadyH.nil)
     go_simp
     have hXe := Qj HXd.out HNEs.out (Qe wd Bs (ah * 16 + ch * 4 + ct) (.int .i64 (((snt ah ch ct : Nat) : Int) + 1)))
     refine hK.out _ _ ⟨(Qa hXe 1).trans (by rw [← HAH.out]; rfl), (Qa hXe 5).trans (by rw [← HCH.out]; rfl), (Qa hXe 6).trans (by rw [← HCT.out]; rfl)⟩ (fun _ => ?_)
     clear hK K'
     refine wpAnyH_done (by as_aux_lemma => kernel_rfl) ?_ _
     go_wp2
     go_meet
     exact ⟨rfl, (HNd.out.set (ah * 16 + ch * 4 + ct) (by omega) _).congr (QjA HAH.out HCH.out HCT.out ha4 hc4 ht4 HSA.out), (HNw1.out.below hbd).other (Ne.symm HD1.out) _, (HNc1.out.below hbd).other (Ne.symm HD2.out) _, (HC1.out.below hbd).nbox HNd.out HBs.out (by decide) _, (HK1.out.more hbd).put (by simp) _⟩
   · have hdf := decide_eq_false hs
     rw [hdf]
     go_wp2
     go_meet
     exact ⟨rfl, by rw [Qk7 hs]; exact HN1.out, HNw1.out, HNc1.out, HC1.out, HK1.out⟩
  case rest =>
   obtain ⟨rfl, hns, hnw, hnc, hcl, hkp⟩ := hcut
   have HNS1 := hid hns
   have HNW1 := hid hnw
   have HNC1 := hid hnc
   have HCL1 := hid hcl
   have HKP1 := hid hkp
   obtain ⟨sn2, hsn2⟩ : ∃ sn2, sn2 = sntN a r snt := ⟨_, rfl⟩
   rw [← hsn2] at HNS1 HJN
   clear hns hnw hnc hcl hkp hsn2 HN1 HNw1 HNc1 HC1 HK1 HXA HXR HNEs
   go_wp2_with fail
   go_loopw [45] (fun c wr => ∃ i : Nat, i ≤ 4 ∧ c = .int .i64 i ∧ NBox wr Bs 68 64 (cam3 sn2) ∧ NBox wr Bw 65 16 (mix (i * 4) (mlen C) (mlen C0)) ∧ NBox wr Bc 68 64 (mixC (i * 4) (camN C0 C cam) cam) ∧ CluAt wr cb F Z C ∧ KeptF [Bs, Bw, Bc] w wr) (fun c _ => 4 - (intOf c).toNat)
   case atStart => exact ⟨0, by omega, rfl, HNS1.out, by rw [Nat.zero_mul, Qlk]; exact HNW1.out, HNC1.out.congr (fun x _ => by unfold mixC; rw [if_neg (by omega)]), HCL1.out, HKP1.out⟩
   case round =>
    clear HNS1 HNW1 HNC1 HCL1 HKP1
    obtain ⟨i, hi, rfl, hns, hnw, hnc, hcl, hkp⟩ := hrel
    obtain ⟨wo, hwo⟩ : ∃ wo, wo = wr := ⟨_, rfl⟩
    subst hwo
    have HNSo := hid hns
    have HNWo := hid hnw
    have HNCo := hid hnc
    have HCo := hid hcl
    have HKo := hid hkp
    clear hns hnw hnc hcl hkp
    by_cases hi4 : i < 4
    · have hI : (i : Int) < 4 := by omega
      have i0 : (0 : Int) ≤ i := by omega
      go_wp2_with fail
      go_loopw [48] (fun c wr => ∃ j : Nat, j ≤ 4 ∧ c = .int .i64 j ∧ NBox wr Bs 68 64 (cam3 sn2) ∧ NBox wr Bw 65 16 (mix (i * 4 + j) (mlen C) (mlen C0)) ∧ NBox wr Bc 68 64 (mixC (i * 4 + j) (camN C0 C cam) cam) ∧ CluAt wr cb F Z C ∧ KeptF [Bs, Bw, Bc] w wr) (fun c _ => 4 - (intOf c).toNat)
      case atStart => exact ⟨0, by omega, rfl, HNSo.out, HNWo.out, HNCo.out, HCo.out, HKo.out⟩
      case round =>
       clear HNSo HNWo HNCo HCo HKo
       obtain ⟨j, hj, rfl, hns, hnw, hnc, hcl, hkp⟩ := hrel
       obtain ⟨wi, hwi⟩ : ∃ wi, wi = wr := ⟨_, rfl⟩
       subst hwi
       have HNS := hid hns
       have HNW := hid hnw
       have HNC := hid hnc
       have HCL := hid hcl
       have HKP := hid hkp
       clear hns hnw hnc hcl hkp
       by_cases hj4 : j < 4
       · have hJ : (j : Int) < 4 := by omega
         have j0 : (0 : Int) ≤ j := by omega
         have hthr := Qdu cb i j F Z C wi HCL.out HG.out
         have HGT := hid (QcX HG.out i j)
         have HML0 : Hid (mlen C (i * 4 + j) = ((thrC C i j).mails.length : Nat)) := hid (Qjj C i j hj4)
         have HMO : Hid (mix (i * 4 + j) (mlen C) (mlen C0) (i * 4 + j) = ((thrC C0 i j).mails.length : Nat)) := hid (QmK.trans (Qjj C0 i j hj4))
         have htr := HT.out i j hi4
         unfold OneF at htr
         generalize thrC C i j = th at *
         generalize (thrC C0 i j).mails.length = ol at *
         rcases htr with ⟨hng, hle⟩ | ⟨n, m, hgw, hlm, hon, hln, hgm⟩
         · have HNG := hid hng
           generalize hlen : th.mails.length = ln at *
           have hng2 : ¬ ((ol : Int) < (ln : Int)) := by omega
           clear hlen hle hng
           go_upto_region 10 with (go_at_call 11; refine hthr.mono ?_; rintro e w3 ⟨p1, q1, p2, q2, p3, q3, p4, q4, rfl, hn3, hw3⟩)
           have hbx := Qc w3 (.cells #[.slice p1 th.label.length q1, .slice p2 th.own.length q2, .string ⟨th.text.toArray⟩, .slice p3 th.objs.length q3, .slice p4 ln q4] 36)
           have HX4 := hid (heap_alloc_new w3 (.cells #[.slice p1 th.label.length q1, .slice p2 th.own.length q2, .string ⟨th.text.toArray⟩, .slice p3 th.objs.length q3, .slice p4 ln q4] 36))
           have HN4 := hid (hn3.below hbx)
           have hB4 := Qd hw3 hbx
           have HNS4 := hid (HNS.out.below hB4)
           have HNW4 := hid (HNW.out.below hB4)
           have HNC4 := hid (HNC.out.below hB4)
           have HC4 := hid (HCL.out.below hB4)
           have HK4 := hid (HKP.out.more hB4)
           have hbw3 := (HNW.out.below hw3).lt
           have hbs3 := (HNS.out.below hw3).lt
           have hbc3 := (HNC.out.below hw3).lt
           clear hthr hn3 hw3 hbx hB4
           generalize w3.alloc (.cells #[.slice p1 th.label.length q1, .slice p2 th.own.length q2, .string ⟨th.text.toArray⟩, .slice p3 th.objs.length q3, .slice p4 ln q4] 36) = w4 at *
           have b4 : w4.cell? ⟨w3.heap.size, 4, none⟩ = some (.slice p4 ln q4) := Qa HX4.out 4
           obtain ⟨nb1, nb2⟩ := HNW4.out.cell (i * 4 + j) (by omega)
           rw [HMO.out] at nb1
           have HNW9 := HNW4
           go_upto_region 18 with fail
           have b9 : w4.cell? ⟨w3.heap.size, 4, none⟩ = some (.slice p4 ln q4) := Qa HX4.out 4
           refine wp_region_held_drew (S := (fun w' => w'.cell? ⟨w3.heap.size, 4, none⟩ = some (.slice p4 ln q4))) (by as_aux_lemma => kernel_rfl) b9 (fun _hHeld => ?_)
           refine takeF 0 108 ?v16 rfl (Or.inl ⟨by rfl, ?hy16⟩) ?rest16
           case hy16 => intro wz hSw; (try dsimp only at hSw); go_simp; try with_reducible rfl
           simp only [Act.put, List.setIfInBounds_toArray, List.set_cons_zero, List.set_cons_succ]
           refine takeF 1 109 ?v17 rfl (Or.inl ⟨by rfl, ?hy17⟩) ?rest17
           case hy17 => intro wz hSw; (try dsimp only at hSw); go_simp; try with_reducible rfl
           simp only [Act.put, List.setIfInBounds_toArray, List.set_cons_zero, List.set_cons_succ]
           refine takeF 2 110 ?v18 rfl (Or.inl ⟨by rfl, ?hy18⟩) ?rest18
           case hy18 => intro wz hSw; (try dsimp only at hSw); go_simp; try with_reducible rfl
           simp only [Act.put, List.setIfInBounds_toArray, List.set_cons_zero, List.set_cons_succ]
           refine takeF 3 111 ?v19 rfl (Or.inl ⟨by rfl, ?hy19⟩) ?rest19
           case hy19 => intro wz hSw; (try dsimp only at hSw); go_simp; try with_reducible rfl
           simp only [Act.put, List.setIfInBounds_toArray, List.set_cons_zero, List.set_cons_succ]
           refine takeF 4 112 ?v20 rfl (Or.inl ⟨by rfl, ?hy20⟩) ?rest20
           case hy20 => intro wz hSw; (try dsimp only at hSw); go_simp; try with_reducible rfl
           simp only [Act.put, List.setIfInBounds_toArray, List.set_cons_zero, List.set_cons_succ]
           refine takeF 5 113 ?v21 rfl (Or.inl ⟨by rfl, ?hy21⟩) ?rest21
           case hy21 => intro wz hSw; (try dsimp only at hSw); go_simp; try with_reducible rfl
           simp only [Act.put, List.setIfInBounds_toArray, List.set_cons_zero, List.set_cons_succ]
           refine takeF 6 114 ?v22 rfl (Or.inl ⟨by rfl, ?hy22⟩) ?rest22
           case hy22 => intro wz hSw; (try dsimp only at hSw); go_simp; try with_reducible rfl
           simp only [Act.put, List.setIfInBounds_toArray, List.set_cons_zero, List.set_cons_succ]
           obtain ⟨we, hwd⟩ : ∃ we, we = w4.drew := ⟨_, rfl⟩
           rw [← hwd]
           have hbd : Below w4.heap.size w4 we := by rw [hwd]; exact (Below.refl _ _).drew
           clear hwd
           clear b9
           have HX9 := hid (Qf HX4.out hbd)
           have HNB9 := hid (HNW9.out.below hbd)
           have HNC9 := hid (HNC4.out.below hbd)
           have HNS9 := hid (HNS4.out.below hbd)
           have HC9 := hid (HC4.out.below hbd)
           have HK9 := hid (HK4.out.more hbd)
           obtain ⟨nb3, nb4⟩ := HNB9.out.cell (i * 4 + j) (by omega)
           have hlb9 := HNB9.out.lt
           have hlb3 := Qs HX9.out
           have hne9 : ¬ (Bw = w3.heap.size) := by omega
           refine wpAnyH_ready (rs := [7]) (by as_aux_lemma => kernel_rfl) (by simp) ?_
           refine (AllReadyH.cons rfl (fun K' hK => ?_) AllReadyH.nil)
           go_simp
           have c9 : (we.setCell ⟨Bw, i * 4 + j, none⟩ (.int .i64 ((ln : Nat) : Int))).cell? ⟨w3.heap.size, 4, none⟩ = some (.slice p4 ln q4) := Qa (Qj HX9.out (Ne.symm hne9) (Qe _ _ _ _)) 4
           refine hK.out _ _ c9 (fun _ => ?_)
           clear hK K'
           refine wpAnyH_done (by as_aux_lemma => kernel_rfl) ?_ _
           go_wp2
           go_roundw
           case rel => exact ⟨j + 1, hj4, by go_num, HNS9.out.other HD1.out _, (HNB9.out.set (i * 4 + j) (by omega) _).congr (fun x _ => by have e := Qjk (n := i * 4 + j) (new := mlen C) (old := mlen C0) x; rw [HML0.out] at e; rw [← Nat.add_assoc, ← e]; try first | rfl | simp), (HNC9.out.other (Ne.symm HD3.out) _).congr (fun x hx => QjT hj4 HNG.out x), HC9.out.nbox HNB9.out HBw.out (by decide) _, HK9.out.put (by simp) _⟩
           case measure => simp [intOf]; omega
         · subst hon
           rw [hln] at hthr HML0
           have hgr : (ol : Int) < ((ol + 1 : Nat) : Int) := by omega
           have ol6 : (ol : Int) ≤ 5 := by have := HGT.out.mails; omega
           have ol0 : (0 : Int) ≤ ol := by omega
           have HGREW := hid hgw
           have HGM := hid hgm
           have HLN := hid hln
           have hmg := HGT.out.mail m (List.mem_of_getElem? hgm)
           obtain ⟨mh, hmh, hmh4⟩ : ∃ mh : Nat, m.host = (mh : Int) ∧ mh < 4 := ⟨m.host.toNat, QjW hmg⟩
           have HMH := hid hmh
           have HLM : Hid ((lastM C i j).host = (mh : Int)) := hid (by rw [hlm]; exact hmh)
           have hcn : camN C0 C cam mh i j = cam mh i j + 1 := by unfold camN; rw [if_pos ⟨hgw, HLM.out⟩]
           have hle0 : camN C0 C cam mh i j ≤ sn2 mh i j := by obtain ⟨⟨T, had, h9⟩, _⟩ := HJN.out; exact h9.le mh i j hi4
           have HLE : Hid (¬ (((sn2 mh i j : Nat) : Int) < ((cam mh i j : Nat) : Int) + 1)) := hid (by omega)
           have HCB : Hid (((cam mh i j : Nat) : Int) ≤ 300) := hid (by have := HJN.out.2 mh i j; have := HG.out.acts; omega)
           have mi1 : (0 : Int) ≤ mh := by omega
           have mi2 : (mh : Int) < 4 := by omega
           clear hgw hgm hln hlm hmg hmh hcn hle0
           go_upto_region 10 with (go_at_call 11; refine hthr.mono ?_; rintro e w3 ⟨p1, q1, p2, q2, p3, q3, p4, q4, rfl, hn3, hw3⟩)
           have hbx := Qc w3 (.cells #[.slice p1 th.label.length q1, .slice p2 th.own.length q2, .string ⟨th.text.toArray⟩, .slice p3 th.objs.length q3, .slice p4 (ol + 1) q4] 36)
           have HX4 := hid (heap_alloc_new w3 (.cells #[.slice p1 th.label.length q1, .slice p2 th.own.length q2, .string ⟨th.text.toArray⟩, .slice p3 th.objs.length q3, .slice p4 (ol + 1) q4] 36))
           have HN4 := hid (hn3.below hbx)
           have hB4 := Qd hw3 hbx
           have HNS4 := hid (HNS.out.below hB4)
           have HNW4 := hid (HNW.out.below hB4)
           have HNC4 := hid (HNC.out.below hB4)
           have HC4 := hid (HCL.out.below hB4)
           have HK4 := hid (HKP.out.more hB4)
           have hbw3 := (HNW.out.below hw3).lt
           have hbs3 := (HNS.out.below hw3).lt
           have hbc3 := (HNC.out.below hw3).lt
           clear hthr hn3 hw3 hbx hB4
           generalize w3.alloc (.cells #[.slice p1 th.label.length q1, .slice p2 th.own.length q2, .string ⟨th.text.toArray⟩, .slice p3 th.objs.length q3, .slice p4 (ol + 1) q4] 36) = w4 at *
           have b4 : w4.cell? ⟨w3.heap.size, 4, none⟩ = some (.slice p4 (ol + 1) q4) := Qa HX4.out 4
           obtain ⟨nb1, nb2⟩ := HNW4.out.cell (i * 4 + j) (by omega)
           rw [HMO.out] at nb1
           have hlt : ol < th.mails.length := by have := HLN.out; omega
           obtain ⟨ga, la, ka, na, ma, e1, c0, c1, c2, c3, c4, o1, o2⟩ := HN4.out.mails.get ol hlt
           have hmm : th.mails[ol] = m := by have := HGM.out; rw [List.getElem?_eq_getElem hlt] at this; exact Option.some.inj this
           subst e1
           rw [hmm] at c0 c1 c2 c3 c4
           rw [HMH.out] at c0
           have hlb := Qg c0
           replace b4 : w4.cell? ⟨w3.heap.size, 4, none⟩ = some (.slice (some ⟨ga, 0, none⟩) (ol + 1) q4) := Qa HX4.out 4
           clear hmm o1 o2
           go_upto_region 15 with fail
           have hbx := Qc w4 (.cells #[.int .i64 ((mh : Nat) : Int), .int .i64 m.thread, .slice la m.label.length ka, .slice na m.grants.length ma, .string ⟨m.text.toArray⟩] 51)
           have HX5 := hid (heap_alloc_new w4 (.cells #[.int .i64 ((mh : Nat) : Int), .int .i64 m.thread, .slice la m.label.length ka, .slice na m.grants.length ma, .string ⟨m.text.toArray⟩] 51))
           have HX5t := hid (Qf HX4.out hbx)
           have HNS5 := hid (HNS4.out.below hbx)
           have HNW5 := hid (HNW4.out.below hbx)
           have HNC5 := hid (HNC4.out.below hbx)
           have HC5 := hid (HC4.out.below hbx)
           have HK5 := hid (HK4.out.more hbx)
           have hlb4 := HNC4.out.lt
           have hlb4s := HNS4.out.lt
           clear hbx c0 c1 c2 c3 c4 hlb b4 hlt nb1 nb2
           generalize w4.alloc (.cells #[.int .i64 ((mh : Nat) : Int), .int .i64 m.thread, .slice la m.label.length ka, .slice na m.grants.length ma, .string ⟨m.text.toArray⟩] 51) = w5 at *
           have m0 : w5.cell? ⟨w4.heap.size, 0, none⟩ = some (.int .i64 ((mh : Nat) : Int)) := Qa HX5.out 0
           refine wp_region_held_drew (S := (fun w' => w'.cell? ⟨w4.heap.size, 0, none⟩ = some (.int .i64 ((mh : Nat) : Int)))) (by as_aux_lemma => kernel_rfl) m0 (fun _hHeld => ?_)
           refine takeF 0 79 ?v23 rfl (Or.inl ⟨by rfl, ?hy23⟩) ?rest23
           case hy23 => intro wz hSw; (try dsimp only at hSw); go_simp; try with_reducible rfl
           simp only [Act.put, List.setIfInBounds_toArray, List.set_cons_zero, List.set_cons_succ]
           refine takeF 1 80 ?v24 rfl (Or.inl ⟨by rfl, ?hy24⟩) ?rest24
           case hy24 => intro wz hSw; (try dsimp only at hSw); go_simp; try with_reducible rfl
           simp only [Act.put, List.setIfInBounds_toArray, List.set_cons_zero, List.set_cons_succ]
           refine takeF 2 81 ?v25 rfl (Or.inl ⟨by rfl, ?hy25⟩) ?rest25
           case hy25 => intro wz hSw; (try dsimp only at hSw); go_simp; try with_reducible rfl
           simp only [Act.put, List.setIfInBounds_toArray, List.set_cons_zero, List.set_cons_succ]
           refine takeF 3 82 ?v26 rfl (Or.inl ⟨by rfl, ?hy26⟩) ?rest26
           case hy26 => intro wz hSw; (try dsimp only at hSw); go_simp; try with_reducible rfl
           simp only [Act.put, List.setIfInBounds_toArray, List.set_cons_zero, List.set_cons_succ]
           refine takeF 4 83 ?v27 rfl (Or.inl ⟨by rfl, ?hy27⟩) ?rest27
           case hy27 => intro wz hSw; (try dsimp only at hSw); go_simp; try with_reducible rfl
           simp only [Act.put, List.setIfInBounds_toArray, List.set_cons_zero, List.set_cons_succ]
           refine takeF 5 84 ?v28 rfl (Or.inl ⟨by rfl, ?hy28⟩) ?rest28
           case hy28 => intro wz hSw; (try dsimp only at hSw); go_simp; try with_reducible rfl
           simp only [Act.put, List.setIfInBounds_toArray, List.set_cons_zero, List.set_cons_succ]
           refine takeF 6 85 ?v29 rfl (Or.inl ⟨by rfl, ?hy29⟩) ?rest29
           case hy29 => intro wz hSw; (try dsimp only at hSw); go_simp; try with_reducible rfl
           simp only [Act.put, List.setIfInBounds_toArray, List.set_cons_zero, List.set_cons_succ]
           refine takeF 9 88 ?v30 rfl (Or.inl ⟨by rfl, ?hy30⟩) ?rest30
           case hy30 => intro wz hSw; (try dsimp only at hSw); go_simp; try with_reducible rfl
           simp only [Act.put, List.setIfInBounds_toArray, List.set_cons_zero, List.set_cons_succ]
           refine takeF 10 89 ?v31 rfl (Or.inl ⟨by rfl, ?hy31⟩) ?rest31
           case hy31 => intro wz hSw; (try dsimp only at hSw); go_simp; try with_reducible rfl
           simp only [Act.put, List.setIfInBounds_toArray, List.set_cons_zero, List.set_cons_succ]
           obtain ⟨wd, hwd⟩ : ∃ wd, wd = w5.drew := ⟨_, rfl⟩
           rw [← hwd]
           have hbd : Below w5.heap.size w5 wd := by rw [hwd]; exact (Below.refl _ _).drew
           clear hwd
           clear m0
           have HNSd := hid (HNS5.out.below hbd)
           have HNWd := hid (HNW5.out.below hbd)
           have HNCd := hid (HNC5.out.below hbd)
           have HCd := hid (HC5.out.below hbd)
           have HKd := hid (HK5.out.more hbd)
           have HXd := hid (Qf HX5.out hbd)
           have HXt := hid (Qf HX5t.out hbd)
           clear hbd
           obtain ⟨nc1, nc2⟩ := HNCd.out.cell (mh * 16 + i * 4 + j) (by omega)
           rw [Qmo hi4 hj4] at nc1
           have HWR : Hid (IntKind.i64.wrap (((cam mh i j : Nat) : Int) + 1) = ((cam mh i j : Nat) : Int) + 1) := hid (by have := HCB.out; exact Qdj (by omega) (by omega))
           have hlbd := HNCd.out.lt
           have hlt5 := Qs HXd.out
           have hltt := Qs HXt.out
           refine wpAnyH_ready (rs := [7]) (by as_aux_lemma => kernel_rfl) (by simp) ?_
           refine (AllReadyH.cons rfl (fun K' hK => ?_) AllReadyH.nil)
           go_simp
           refine hK.out _ _ (Qa HXd.out 0) (fun _ => ?_)
           clear hK K'
           refine takeF 8 87 (.int .i64 (((cam mh i j : Nat) : Int) + 1)) rfl (Or.inl ⟨by rfl, ?hy32⟩) ?rest32
           case hy32 => intro wz hSw; (try dsimp only at hSw); go_simp; rw [HWR.out]
           simp only [Act.put, List.setIfInBounds_toArray, List.set_cons_zero, List.set_cons_succ]
           refine takeF 11 90 ?v33 rfl (Or.inl ⟨by rfl, ?hy33⟩) ?rest33
           case hy33 => intro wz hSw; (try dsimp only at hSw); go_simp; try with_reducible rfl
           simp only [Act.put, List.setIfInBounds_toArray, List.set_cons_zero, List.set_cons_succ]
           refine wpAnyH_ready (rs := [12]) (by as_aux_lemma => kernel_rfl) (by simp) ?_
           refine (AllReadyH.cons rfl (fun K' hK => ?_) AllReadyH.nil)
           go_simp
           have hXe := Qj HXd.out (show w4.heap.size ≠ Bc by omega) (Qe wd Bc (mh * 16 + i * 4 + j) (.int .i64 (((cam mh i j : Nat) : Int) + 1)))
           refine hK.out _ _ (Qa hXe 0) (fun _ => ?_)
           clear hK K'
           refine wpAnyH_done (by as_aux_lemma => kernel_rfl) ?_ _
           have HXM := hid hXe
           have HXT := hid (Qj HXt.out (show w3.heap.size ≠ Bc by omega) (Qe wd Bc (mh * 16 + i * 4 + j) (.int .i64 (((cam mh i j : Nat) : Int) + 1))))
           have HNSx := hid (HNSd.out.other HD2.out (.int .i64 (((cam mh i j : Nat) : Int) + 1)) (j := mh * 16 + i * 4 + j))
           have HNWx := hid (HNWd.out.other HD3.out (.int .i64 (((cam mh i j : Nat) : Int) + 1)) (j := mh * 16 + i * 4 + j))
           have HNCx := hid (HNCd.out.set (mh * 16 + i * 4 + j) (by omega) (((cam mh i j : Nat) : Int) + 1))
           have HCx := hid (HCd.out.nbox HNCd.out HBc.out (by decide) (i := mh * 16 + i * 4 + j) (.int .i64 (((cam mh i j : Nat) : Int) + 1)))
           have HKx := hid (HKd.out.put (B := Bc) (j := mh * 16 + i * 4 + j) (by simp) (.int .i64 (((cam mh i j : Nat) : Int) + 1)))
           clear hXe nc1 nc2
           go_upto_region 16 with fail
           obtain ⟨wx, hwx⟩ : ∃ wx, wx = (wd.setCell ⟨Bc, mh * 16 + i * 4 + j, none⟩ (.int .i64 (((cam mh i j : Nat) : Int) + 1))) := ⟨_, rfl⟩
           rw [← hwx] at HXM HXT HNSx HNWx HNCx HCx HKx ⊢
           clear hwx
           have m0 : wx.cell? ⟨w4.heap.size, 0, none⟩ = some (.int .i64 ((mh : Nat) : Int)) := Qa HXM.out 0
           obtain ⟨k1, _⟩ := HNCx.out.cell (mh * 16 + i * 4 + j) (by omega)
           simp only [if_true] at k1
           obtain ⟨k2, _⟩ := HNSx.out.cell (mh * 16 + i * 4 + j) (by omega)
           rw [Qfy mh i j hi4 hj4] at k2
           have hle : ¬ (((sn2 mh i j : Nat) : Int) < ((cam mh i j : Nat) : Int) + 1) := by have := HLE.out; omega
           refine wp_region_held_drew (S := (fun w' => w'.cell? ⟨w4.heap.size, 0, none⟩ = some (.int .i64 ((mh : Nat) : Int)) ∧ w'.cell? ⟨Bc, mh * 16 + i * 4 + j, none⟩ = some (.int .i64 (((cam mh i j : Nat) : Int) + 1)) ∧ w'.cell? ⟨Bs, mh * 16 + i * 4 + j, none⟩ = some (.int .i64 ((sn2 mh i j : Nat) : Int)))) (by as_aux_lemma => kernel_rfl) ⟨m0, k1, k2⟩ (fun _hHeld => ?_)
           refine takeF 0 91 ?v34 rfl (Or.inl ⟨by rfl, ?hy34⟩) ?rest34
           case hy34 => intro wz hSw; (try dsimp only at hSw); go_simp; try with_reducible rfl
           simp only [Act.put, List.setIfInBounds_toArray, List.set_cons_zero, List.set_cons_succ]
           refine takeF 1 92 ?v35 rfl (Or.inl ⟨by rfl, ?hy35⟩) ?rest35
           case hy35 => intro wz hSw; (try dsimp only at hSw); go_simp; try with_reducible rfl
           simp only [Act.put, List.setIfInBounds_toArray, List.set_cons_zero, List.set_cons_succ]
           refine takeF 2 93 ?v36 rfl (Or.inl ⟨by rfl, ?hy36⟩) ?rest36
           case hy36 => intro wz hSw; (try dsimp only at hSw); go_simp; try with_reducible rfl
           simp only [Act.put, List.setIfInBounds_toArray, List.set_cons_zero, List.set_cons_succ]
           refine takeF 3 94 ?v37 rfl (Or.inl ⟨by rfl, ?hy37⟩) ?rest37
           case hy37 => intro wz hSw; (try dsimp only at hSw); go_simp; try with_reducible rfl
           simp only [Act.put, List.setIfInBounds_toArray, List.set_cons_zero, List.set_cons_succ]
           refine takeF 4 95 ?v38 rfl (Or.inl ⟨by rfl, ?hy38⟩) ?rest38
           case hy38 => intro wz hSw; (try dsimp only at hSw); go_simp; try with_reducible rfl
           simp only [Act.put, List.setIfInBounds_toArray, List.set_cons_zero, List.set_cons_succ]
           refine takeF 5 96 ?v39 rfl (Or.inl ⟨by rfl, ?hy39⟩) ?rest39
           case hy39 => intro wz hSw; (try dsimp only at hSw); go_simp; try with_reducible rfl
           simp only [Act.put, List.setIfInBounds_toArray, List.set_cons_zero, List.set_cons_succ]
           refine takeF 6 97 ?v40 rfl (Or.inl ⟨by rfl, ?hy40⟩) ?rest40
           case hy40 => intro wz hSw; (try dsimp only at hSw); go_simp; try with_reducible rfl
           simp only [Act.put, List.setIfInBounds_toArray, List.set_cons_zero, List.set_cons_succ]
           refine takeF 7 98 ?v41 rfl (Or.inl ⟨by rfl, ?hy41⟩) ?rest41
           case hy41 => intro wz hSw; (try dsimp only at hSw); go_simp; try with_reducible rfl
           simp only [Act.put, List.setIfInBounds_toArray, List.set_cons_zero, List.set_cons_succ]
           refine takeF 8 99 ?v42 rfl (Or.inl ⟨by rfl, ?hy42⟩) ?rest42
           case hy42 => intro wz hSw; (try dsimp only at hSw); go_simp; try with_reducible rfl
           simp only [Act.put, List.setIfInBounds_toArray, List.set_cons_zero, List.set_cons_succ]
           refine takeF 9 100 ?v43 rfl (Or.inl ⟨by rfl, ?hy43⟩) ?rest43
           case hy43 => intro wz hSw; (try dsimp only at hSw); go_simp; try with_reducible rfl
           simp only [Act.put, List.setIfInBounds_toArray, List.set_cons_zero, List.set_cons_succ]
           refine takeF 10 101 ?v44 rfl (Or.inl ⟨by rfl, ?hy44⟩) ?rest44
           case hy44 => intro wz hSw; (try dsimp only at hSw); go_simp; try with_reducible rfl
           simp only [Act.put, List.setIfInBounds_toArray, List.set_cons_zero, List.set_cons_succ]
           refine takeF 11 102 ?v45 rfl (Or.inl ⟨by rfl, ?hy45⟩) ?rest45
           case hy45 => intro wz hSw; (try dsimp only at hSw); go_simp; try with_reducible rfl
           simp only [Act.put, List.setIfInBounds_toArray, List.set_cons_zero, List.set_cons_succ]
           refine takeF 12 103 ?v46 rfl (Or.inl ⟨by rfl, ?hy46⟩) ?rest46
           case hy46 => intro wz hSw; (try dsimp only at hSw); go_simp; try with_reducible rfl
           simp only [Act.put, List.setIfInBounds_toArray, List.set_cons_zero, List.set_cons_succ]
           refine takeF 13 104 ?v47 rfl (Or.inl ⟨by rfl, ?hy47⟩) ?rest47
           case hy47 => intro wz hSw; (try dsimp only at hSw); go_simp; try with_reducible rfl
           simp only [Act.put, List.setIfInBounds_toArray, List.set_cons_zero, List.set_cons_succ]
           refine takeF 14 105 ?v48 rfl (Or.inl ⟨by rfl, ?hy48⟩) ?rest48
           case hy48 => intro wz hSw; (try dsimp only at hSw); go_simp; try with_reducible rfl
           simp only [Act.put, List.setIfInBounds_toArray, List.set_cons_zero, List.set_cons_succ]
           refine takeF 15 106 ?v49 rfl (Or.inl ⟨by rfl, ?hy49⟩) ?rest49
           case hy49 => intro wz hSw; (try dsimp only at hSw); go_simp; try with_reducible rfl
           simp only [Act.put, List.setIfInBounds_toArray, List.set_cons_zero, List.set_cons_succ]
           refine takeF 16 107 ?v50 rfl (Or.inl ⟨by rfl, ?hy50⟩) ?rest50
           case hy50 => intro wz hSw; (try dsimp only at hSw); go_simp; try with_reducible rfl
           simp only [Act.put, List.setIfInBounds_toArray, List.set_cons_zero, List.set_cons_succ]
           refine wpAnyH_done (by as_aux_lemma => kernel_rfl) ?_ _
           have hbz : Below wx.heap.size wx wx.drew := (Below.refl _ _).drew
           have HXT9 := hid (Qf HXT.out hbz)
           have HNS9x := hid (HNSx.out.below hbz)
           have HNW9 := hid (HNWx.out.below hbz)
           have HNC9x := hid (HNCx.out.below hbz)
           have HC9x := hid (HCx.out.below hbz)
           have HK9x := hid (HKx.out.more hbz)
           clear hbz m0 k1 k2 hle
           go_upto_region 18 with fail
           obtain ⟨wy, hwy⟩ : ∃ wy, wy = wx.drew := ⟨_, rfl⟩
           rw [← hwy] at HXT9 HNS9x HNW9 HNC9x HC9x HK9x ⊢
           clear hwy
           have b9 : wy.cell? ⟨w3.heap.size, 4, none⟩ = some (.slice (some ⟨ga, 0, none⟩) (ol + 1) q4) := Qa HXT9.out 4
           refine wp_region_held_drew (S := (fun w' => w'.cell? ⟨w3.heap.size, 4, none⟩ = some (.slice (some ⟨ga, 0, none⟩) (ol + 1) q4))) (by as_aux_lemma => kernel_rfl) b9 (fun _hHeld => ?_)
           refine takeF 0 108 ?v51 rfl (Or.inl ⟨by rfl, ?hy51⟩) ?rest51
           case hy51 => intro wz hSw; (try dsimp only at hSw); go_simp; try with_reducible rfl
           simp only [Act.put, List.setIfInBounds_toArray, List.set_cons_zero, List.set_cons_succ]
           refine takeF 1 109 ?v52 rfl (Or.inl ⟨by rfl, ?hy52⟩) ?rest52
           case hy52 => intro wz hSw; (try dsimp only at hSw); go_simp; try with_reducible rfl
           simp only [Act.put, List.setIfInBounds_toArray, List.set_cons_zero, List.set_cons_succ]
           refine takeF 2 110 ?v53 rfl (Or.inl ⟨by rfl, ?hy53⟩) ?rest53
           case hy53 => intro wz hSw; (try dsimp only at hSw); go_simp; try with_reducible rfl
           simp only [Act.put, List.setIfInBounds_toArray, List.set_cons_zero, List.set_cons_succ]
           refine takeF 3 111 ?v54 rfl (Or.inl ⟨by rfl, ?hy54⟩) ?rest54
           case hy54 => intro wz hSw; (try dsimp only at hSw); go_simp; try with_reducible rfl
           simp only [Act.put, List.setIfInBounds_toArray, List.set_cons_zero, List.set_cons_succ]
           refine takeF 4 112 ?v55 rfl (Or.inl ⟨by rfl, ?hy55⟩) ?rest55
           case hy55 => intro wz hSw; (try dsimp only at hSw); go_simp; try with_reducible rfl
           simp only [Act.put, List.setIfInBounds_toArray, List.set_cons_zero, List.set_cons_succ]
           refine takeF 5 113 ?v56 rfl (Or.inl ⟨by rfl, ?hy56⟩) ?rest56
           case hy56 => intro wz hSw; (try dsimp only at hSw); go_simp; try with_reducible rfl
           simp only [Act.put, List.setIfInBounds_toArray, List.set_cons_zero, List.set_cons_succ]
           refine takeF 6 114 ?v57 rfl (Or.inl ⟨by rfl, ?hy57⟩) ?rest57
           case hy57 => intro wz hSw; (try dsimp only at hSw); go_simp; try with_reducible rfl
           simp only [Act.put, List.setIfInBounds_toArray, List.set_cons_zero, List.set_cons_succ]
           obtain ⟨we, hwd⟩ : ∃ we, we = wy.drew := ⟨_, rfl⟩
           rw [← hwd]
           have hbd : Below wy.heap.size wy we := by rw [hwd]; exact (Below.refl _ _).drew
           clear hwd
           clear b9
           have HX9 := hid (Qf HXT9.out hbd)
           have HNB9 := hid (HNW9.out.below hbd)
           have HNC9 := hid (HNC9x.out.below hbd)
           have HNS9 := hid (HNS9x.out.below hbd)
           have HC9 := hid (HC9x.out.below hbd)
           have HK9 := hid (HK9x.out.more hbd)
           obtain ⟨nb3, nb4⟩ := HNB9.out.cell (i * 4 + j) (by omega)
           have hlb9 := HNB9.out.lt
           have hlb3 := Qs HX9.out
           have hne9 : ¬ (Bw = w3.heap.size) := by omega
           refine wpAnyH_ready (rs := [7]) (by as_aux_lemma => kernel_rfl) (by simp) ?_
           refine (AllReadyH.cons rfl (fun K' hK => ?_) AllReadyH.nil)
           go_simp
           have c9 : (we.setCell ⟨Bw, i * 4 + j, none⟩ (.int .i64 (((ol + 1) : Nat) : Int))).cell? ⟨w3.heap.size, 4, none⟩ = some (.slice (some ⟨ga, 0, none⟩) (ol + 1) q4) := Qa (Qj HX9.out (Ne.symm hne9) (Qe _ _ _ _)) 4
           refine hK.out _ _ c9 (fun _ => ?_)
           clear hK K'
           refine wpAnyH_done (by as_aux_lemma => kernel_rfl) ?_ _
           go_wp2
           go_roundw
           case rel => exact ⟨j + 1, hj4, by go_num, HNS9.out.other HD1.out _, (HNB9.out.set (i * 4 + j) (by omega) _).congr (fun x _ => by have e := Qjk (n := i * 4 + j) (new := mlen C) (old := mlen C0) x; rw [HML0.out] at e; rw [← Nat.add_assoc, ← e]; try first | rfl | simp), (HNC9.out.other (Ne.symm HD3.out) _).congr (fun x hx => QjU hi4 hj4 HGREW.out HLM.out x), HC9.out.nbox HNB9.out HBw.out (by decide) _, HK9.out.put (by simp) _⟩
           case measure => simp [intOf]; omega
       · have hj5 : j = 4 := by omega
         subst hj5
         go_wp2
         go_roundw
         case rel => exact ⟨i + 1, hi4, by go_num, HNS.out, by rw [show (i + 1) * 4 = i * 4 + 4 by omega]; exact HNW.out, by rw [show (i + 1) * 4 = i * 4 + 4 by omega]; exact HNC.out, HCL.out, HKP.out⟩
         case measure => simp [intOf]; omega
    · have hi5 : i = 4 := by omega
      subst hi5
      go_wp2
      go_ret
      exact ⟨rfl, ⟨⟨HBs.out, HBw.out, HBc.out⟩, ⟨HD1.out, HD2.out, HD3.out⟩, sn2, camN C0 C cam, HJN.out, HNSo.out, Qmm HNWo.out, HNCo.out.congr (fun x hx => by unfold mixC; rw [if_pos (by omega)])⟩, HCo.out, HKo.out⟩
set_option maxRecDepth 100000 in
set_option maxHeartbeats 6400000 in
theorem QjG (Bs Bw Bc : Nat) (v : Value) (l : List Ac) (w0 w : World) (hv : AcsAt w0 v l) (hw0 : Below w0.heap.size w0 w) (hbs : ∀ b ∈ [Bs, Bw, Bc], w0.heap.size ≤ b ∧ b < w.heap.size) (hJ : ∀ w' G, Below w.heap.size w w' → (∀ b ∈ [Bs, Bw, Bc], b ∈ G) → JO Bs Bw Bc w' G freshClu) :
 Calls Tryz.prog 20 #[v, .func (.func 29) #[] #[.pointer (some ⟨Bs, 0, none⟩), .pointer (some ⟨Bw, 0, none⟩), .pointer (some ⟨Bc, 0, none⟩)]] w fun e w' => (∃ x, e = .returned (.tuple #[x, .bool true])) ∧ Below w0.heap.size w0 w' := by
 have HV := hid hv
 have HW0 := hid hw0
 have HBS := hid hbs
 have HJ0 := hid hJ
 obtain ⟨p, cap, rfl, hlc, _⟩ := hv.slice
 clear hv hw0 hbs hJ
 go_enter Tryz.func20, Tryz.ntmps20
 go_upto_region 3 with (go_at_call 9; refine (Qd4 _).mono ?_; rintro e w1 ⟨rfl, hw1⟩)
 go_upto_region 4 with (go_at_call 10; refine (QdX _).mono ?_; rintro e w2 ⟨rfl, ⟨kp, F, hc2, hF⟩, hw2⟩)
 have hw12 := Qd hw1 hw2
 have HB2 := hid (Below.trans' HW0.out (hw12.mono HW0.out.size))
 have HF2 : Hid (∀ k ∈ [Bs, Bw, Bc] ++ F, w0.heap.size ≤ k) := hid (fun k hk => by
  rcases List.mem_append.1 hk with e | e
  · exact (HBS.out k e).1
  · exact Nat.le_trans HW0.out.size (Nat.le_trans hw1.size (hF k e)))
 have HC2 := hid (hc2.anyF (G := [Bs, Bw, Bc] ++ F) (fun k hk => List.mem_append_right _ hk) (fun k hk => by
  rcases List.mem_append.1 hk with e | e
  · exact Nat.lt_of_lt_of_le (HBS.out k e).2 hw12.size
  · exact hc2.fin k e))
 have HJ2 := hid (HJ0.out w2 ([Bs, Bw, Bc] ++ F) hw12 (fun b hb => List.mem_append_left _ hb))
 have HWZ := hid hw12.size
 clear hc2 hF hw1 hw2 hw12
 go_wp2_with fail
 go_loopw [7] (fun i wr => ∃ (k : Nat) (G : List Nat) (Z' : CluV), k ≤ l.length ∧ k ≤ 120 ∧ i = .int .i64 k ∧ CluAt wr w1.heap.size G Z' (playC freshClu (l.take k)) ∧ Below w0.heap.size w0 wr ∧ (∀ b ∈ G, w0.heap.size ≤ b) ∧ JO Bs Bw Bc wr G (playC freshClu (l.take k)) ∧ w.heap.size ≤ wr.heap.size) (fun i _ => l.length - (intOf i).toNat)
 case atStart => exact ⟨0, [Bs, Bw, Bc] ++ F, _, Nat.zero_le _, Nat.zero_le _, rfl, HC2.out, HB2.out, HF2.out, HJ2.out, HWZ.out⟩
 case round =>
  clear HC2 HB2 HF2 HJ2 HJ0
  obtain ⟨k, G, Z', hk, hk120, rfl, hck, hbw, hG, hj, hws⟩ := hrel
  have HCK := hid hck
  have HBW := hid hbw
  have HGG := hid hG
  have HJJ := hid hj
  have HWS := hid hws
  have hsz := hbw.size
  clear hck hbw hG hj hws
  by_cases hlt : k < l.length
  · have hI : (k : Int) < (l.length : Int) := by omega
    by_cases h120 : k < 120
    · have hJ : (k : Int) < 120 := by omega
      obtain ⟨b, o, pl, cl, pg, cg, rfl, hla, hin2, q0, q1, q2, q3, q4, q5, q6, q7, q8, q9, q10, q11⟩ := HV.out.get k hlt
      have HPS : Hid (playC freshClu (l.take (k + 1)) = (doC (playC freshClu (l.take k)) l[k]).1) := hid (by rw [← List.take_append_getElem hlt, Qcq])
      have HGD := hid (Qcr (l.take k) Qbf)
      have HG2 := hid (QbI HGD.out l[k])
      have HHC := hid (Qje (l.take k) freshH)
      have HFA := hid (fun i j (hi : i < 4) => oneF HGD.out HHC.out l[k] i j hi)
      have HFB := hid (fun snt cam (h : OnJ (playC freshClu (l.take k)) snt cam) => Qlf HGD.out HHC.out l[k] h)
      have HFC := hid (fun h : SendA l[k] (doC (playC freshClu (l.take k)) l[k]).2 => QlT h)
      generalize l[k] = a at *
      generalize playC freshClu (l.take k) = Ck at *
      have r0 := (HBW.out.cell (Qg q0)).trans q0
      have r1 := (HBW.out.cell (Qg q1)).trans q1
      have r2 := (HBW.out.cell (Qg q2)).trans q2
      have r3 := (HBW.out.cell (Qg q3)).trans q3
      have r4 := (HBW.out.cell (Qg q4)).trans q4
      have r5 := (HBW.out.cell (Qg q5)).trans q5
      have r6 := (HBW.out.cell (Qg q6)).trans q6
      have r7 := (HBW.out.cell (Qg q7)).trans q7
      have r8 := (HBW.out.cell (Qg q8)).trans q8
      have r9 := (HBW.out.cell (Qg q9)).trans q9
      have r10 := (HBW.out.cell (Qg q10)).trans q10
      have r11 := (HBW.out.cell (Qg q11)).trans q11
      have hbl0 := Qg q0
      have hbl := Nat.lt_of_lt_of_le hbl0 hsz
      have hdo := QdM w1.heap.size G Z' Ck _ a wr HCK.out HGD.out ⟨_, _, rfl, Qfa hla HGG.out (hla.below HBW.out), Qd8 hin2 HGG.out (hin2.below HBW.out)⟩
      unfold acV at hdo
      generalize doC Ck a = R at *
      obtain ⟨C2, r⟩ := R
      simp only at hdo HPS
      have HQ : Hid (∀ w', Below w0.heap.size w0 w' → w'.cell? ⟨b, o + k * 12, none⟩ = some (.int .i64 a.kind) ∧ w'.cell? ⟨b, o + k * 12 + 1, none⟩ = some (.int .i64 a.h) ∧ w'.cell? ⟨b, o + k * 12 + 2, none⟩ = some (.int .i64 a.t) ∧ w'.cell? ⟨b, o + k * 12 + 3, none⟩ = some (.int .i64 a.n) ∧ w'.cell? ⟨b, o + k * 12 + 4, none⟩ = some (.int .i64 a.call.kind) ∧ w'.cell? ⟨b, o + k * 12 + 5, none⟩ = some (.int .i64 a.call.h) ∧ w'.cell? ⟨b, o + k * 12 + 6, none⟩ = some (.int .i64 a.call.t) ∧ w'.cell? ⟨b, o + k * 12 + 7, none⟩ = some (.int .i64 a.call.n) ∧ w'.cell? ⟨b, o + k * 12 + 8, none⟩ = some (.int .i64 a.call.c) ∧ w'.cell? ⟨b, o + k * 12 + 9, none⟩ = some (.slice pl a.call.label.length cl) ∧ w'.cell? ⟨b, o + k * 12 + 10, none⟩ = some (.slice pg a.call.grants.length cg) ∧ w'.cell? ⟨b, o + k * 12 + 11, none⟩ = some (.string ⟨a.call.text.toArray⟩)) := hid (fun w' h => ⟨(h.cell (Qg q0)).trans q0, (h.cell (Qg q1)).trans q1, (h.cell (Qg q2)).trans q2, (h.cell (Qg q3)).trans q3, (h.cell (Qg q4)).trans q4, (h.cell (Qg q5)).trans q5, (h.cell (Qg q6)).trans q6, (h.cell (Qg q7)).trans q7, (h.cell (Qg q8)).trans q8, (h.cell (Qg q9)).trans q9, (h.cell (Qg q10)).trans q10, (h.cell (Qg q11)).trans q11⟩)
      clear q0 q1 q2 q3 q4 q5 q6 q7 q8 q9 q10 q11 hla hin2 hbl0
      go_upto_region 8 with (go_at_call 15; refine hdo.mono ?_; rintro e w5 ⟨rfl, G5, Z5, hc5, hs5⟩)
      obtain ⟨hb5, hG5⟩ := hs5.low HCK.out HGG.out hsz
      have HB5 := hid (Below.trans' HBW.out hb5)
      have hbx := Qc w5 (.cells #[.int .i64 r.code, .int .i64 r.n, .string ⟨r.text.toArray⟩] 43)
      have HB6 := hid (Below.trans' HB5.out (hbx.mono HB5.out.size))
      have HX6 := hid (heap_alloc_new w5 (.cells #[.int .i64 r.code, .int .i64 r.n, .string ⟨r.text.toArray⟩] 43))
      have HC6 := hid (hc5.below hbx)
      have HJ6 := hid ((JO.step HJJ.out hs5 HCK.out).below hbx)
      have HG5 := hid hG5
      have HS5 : Hid (∀ b ∈ [Bs, Bw, Bc], w0.heap.size ≤ b ∧ b < w5.heap.size) := hid (fun b hb => ⟨(HBS.out b hb).1, Nat.lt_of_lt_of_le (HBS.out b hb).2 (Nat.le_trans HWS.out hs5.kept.size)⟩)
      have HWS5 : Hid (w.heap.size ≤ w5.heap.size) := hid (Nat.le_trans HWS.out hs5.kept.size)
      obtain ⟨s0, s1, s2, s3, s4, s5, s6, s7, s8, s9, s10, s11⟩ := HQ.out _ HB6.out
      obtain ⟨t0, t1, t2, _⟩ := cells3 HX6.out
      have hlt6 := Qs HX6.out
      have hbl5 : b < w5.heap.size := Nat.lt_of_lt_of_le hbl hs5.kept.size
      have HZ6 : Hid (w5.heap.size ≤ (w5.alloc (.cells #[.int .i64 r.code, .int .i64 r.n, .string ⟨r.text.toArray⟩] 43)).heap.size) := hid hbx.size
      clear hdo hs5 hc5 hb5 hG5 hbx r0 r1 r2 r3 r4 r5 r6 r7 r8 r9 r10 r11
      generalize hw6 : w5.alloc (.cells #[.int .i64 r.code, .int .i64 r.n, .string ⟨r.text.toArray⟩] 43) = w6 at *
      clear hw6
      go_region_held3 (fun w' => (w'.cell? ⟨b, o + k * 12, none⟩ = some (.int .i64 a.kind) ∧ w'.cell? ⟨b, o + k * 12 + 1, none⟩ = some (.int .i64 a.h) ∧ w'.cell? ⟨b, o + k * 12 + 2, none⟩ = some (.int .i64 a.t) ∧ w'.cell? ⟨b, o + k * 12 + 3, none⟩ = some (.int .i64 a.n) ∧ w'.cell? ⟨b, o + k * 12 + 4, none⟩ = some (.int .i64 a.call.kind) ∧ w'.cell? ⟨b, o + k * 12 + 5, none⟩ = some (.int .i64 a.call.h) ∧ w'.cell? ⟨b, o + k * 12 + 6, none⟩ = some (.int .i64 a.call.t) ∧ w'.cell? ⟨b, o + k * 12 + 7, none⟩ = some (.int .i64 a.call.n) ∧ w'.cell? ⟨b, o + k * 12 + 8, none⟩ = some (.int .i64 a.call.c) ∧ w'.cell? ⟨b, o + k * 12 + 9, none⟩ = some (.slice pl a.call.label.length cl) ∧ w'.cell? ⟨b, o + k * 12 + 10, none⟩ = some (.slice pg a.call.grants.length cg) ∧ w'.cell? ⟨b, o + k * 12 + 11, none⟩ = some (.string ⟨a.call.text.toArray⟩)) ∧ w'.cell? ⟨w5.heap.size, 0, none⟩ = some (.int .i64 r.code) ∧ w'.cell? ⟨w5.heap.size, 1, none⟩ = some (.int .i64 r.n) ∧ w'.cell? ⟨w5.heap.size, 2, none⟩ = some (.string ⟨r.text.toArray⟩)) (go_keep)
       (first
        | (go_at_call 29; refine (QfK w1.heap.size Bs Bw Bc G5 Z5 Ck C2 a r pl pg cl cg _ (HC6.out.below (Below.refl _ _).drew) HG2.out (HJ6.out.below (Below.refl _ _).drew) HFA.out HFB.out HFC.out).mono ?_; rintro e w7 ⟨rfl, hj7, hc7, hkd⟩; have hk7 := Qdq hkd; have HJ7 := hid hj7; have HC7 := hid hc7; have HB7 := hid (Qeq HB6.out hk7 (fun b hb => (HS5.out b hb).1)); have HZ7 := hid (Nat.le_trans HZ6.out hk7.size); obtain ⟨u0, u1, u2, u3, u4, u5, u6, u7, u8, u9, u10, u11⟩ := HQ.out _ HB7.out; obtain ⟨y0, y1, y2, _⟩ := cells3 (hk7.heap HX6.out (fun e => Nat.lt_irrefl _ (HS5.out _ e).2)); clear hj7 hc7 hkd hk7)
        | fail)
      all_goals
       go_wp2
       go_roundw
       case rel => exact ⟨k + 1, G5, Z5, hlt, h120, by go_num, by rw [HPS.out]; exact HC7.out, HB7.out, HG5.out, by rw [HPS.out]; exact HJ7.out, Nat.le_trans HWS5.out HZ7.out⟩
       case measure => simp [intOf]; omega
    · have hJ : ¬ ((k : Int) < 120) := by omega
      go_wp2
      go_ret2
      exact ⟨⟨_, rfl⟩, HBW.out⟩
  · have hI : ¬ ((k : Int) < (l.length : Int)) := by omega
    go_wp2
    go_ret2
    exact ⟨⟨_, rfl⟩, HBW.out⟩
def zero64 : Array Value := #[.int .i64 0, .int .i64 0, .int .i64 0, .int .i64 0, .int .i64 0, .int .i64 0, .int .i64 0, .int .i64 0, .int .i64 0, .int .i64 0, .int .i64 0, .int .i64 0, .int .i64 0, .int .i64 0, .int .i64 0, .int .i64 0, .int .i64 0, .int .i64 0, .int .i64 0, .int .i64 0, .int .i64 0, .int .i64 0, .int .i64 0, .int .i64 0, .int .i64 0, .int .i64 0, .int .i64 0, .int .i64 0, .int .i64 0, .int .i64 0, .int .i64 0, .int .i64 0, .int .i64 0, .int .i64 0, .int .i64 0, .int .i64 0, .int .i64 0, .int .i64 0, .int .i64 0, .int .i64 0, .int .i64 0, .int .i64 0, .int .i64 0, .int .i64 0, .int .i64 0, .int .i64 0, .int .i64 0, .int .i64 0, .int .i64 0, .int .i64 0, .int .i64 0, .int .i64 0, .int .i64 0, .int .i64 0, .int .i64 0, .int .i64 0, .int .i64 0, .int .i64 0, .int .i64 0, .int .i64 0, .int .i64 0, .int .i64 0, .int .i64 0, .int .i64 0]
set_option maxRecDepth 100000 in
theorem Qfq (i : Nat) (h : i < 64) : zero64[i]? = some (.int .i64 0) := by
 rw [show zero64 = Array.replicate 64 (.int .i64 0) from rfl, Array.getElem?_replicate, if_pos h]
theorem freshJ : OnJ freshClu (fun _ _ _ => 0) (fun _ _ _ => 0) := by
 refine ⟨⟨fun _ _ _ => 0, fun _ _ _ => false, fun _ _ => rfl, fun _ _ _ h => (by cases h), fun _ _ => Int.le_refl _, fun _ h => (by cases h), fun _ _ _ h => (by cases h), fun _ _ _ _ => Nat.le_refl _, fun _ _ _ _ _ => Nat.zero_le _, fun _ _ _ => Nat.le_refl _⟩, fun _ _ _ => Nat.zero_le _⟩
set_option maxRecDepth 100000 in
set_option maxHeartbeats 1600000 in
theorem Qgw (v : Value) (l : List Ac) (w : World) (hv : AcsAt w v l) : Calls Tryz.prog 8 #[v] w fun e w' => e = .returned (.bool true) ∧ Below w.heap.size w w' := by
 have hb1 := Qc w (.cells zero64 68)
 have hb2 := Qc (w.alloc (.cells zero64 68)) (.cells zero64 68)
 have hb3 := Qc ((w.alloc (.cells zero64 68)).alloc (.cells zero64 68)) (.cells #[.int .i64 0, .int .i64 0, .int .i64 0, .int .i64 0, .int .i64 0, .int .i64 0, .int .i64 0, .int .i64 0, .int .i64 0, .int .i64 0, .int .i64 0, .int .i64 0, .int .i64 0, .int .i64 0, .int .i64 0, .int .i64 0] 65)
 have n1 := (Qc3 (w := w) (ty := 68) (n := 64) (A := zero64) (by kernel_rfl) Qfq).below (Qd hb2 hb3)
 have n2 := (Qc3 (w := w.alloc (.cells zero64 68)) (ty := 68) (n := 64) (A := zero64) (by kernel_rfl) Qfq).below hb3
 have n3 := Qc3 (w := (w.alloc (.cells zero64 68)).alloc (.cells zero64 68)) (ty := 65) (n := 16) (A := #[.int .i64 0, .int .i64 0, .int .i64 0, .int .i64 0, .int .i64 0, .int .i64 0, .int .i64 0, .int .i64 0, .int .i64 0, .int .i64 0, .int .i64 0, .int .i64 0, .int .i64 0, .int .i64 0, .int .i64 0, .int .i64 0]) (by kernel_rfl) Qkv
 simp only [World.size_alloc] at n2 n3
 have hplay := QjG w.heap.size (w.heap.size + 1 + 1) (w.heap.size + 1) v l w _ hv (Qd (Qd hb1 hb2) hb3) (fun b hb => by simp at hb; simp only [World.size_alloc]; omega) (fun w' G hb hG => ⟨⟨hG _ (by simp), hG _ (by simp), hG _ (by simp)⟩, ⟨by omega, by omega, by omega⟩, _, _, freshJ, n1.below hb, (n3.below hb).congr fun i _ => (Qh4 i).symm, n2.below hb⟩)
 unfold zero64 at hplay
 obtain ⟨p, cap, rfl, _⟩ := hv.slice
 clear hv
 go_enter Tryz.func8, Tryz.ntmps8
 go_wp2_with (go_at_call 20; refine hplay.mono ?_; rintro e w1 ⟨⟨x, rfl⟩, hw1⟩)
 go_ret
 exact ⟨rfl, hw1⟩
end Go.Proofs.YtlbdaklmlknmbaaGreat
