/- cluster.move: what the net does to a frame under way. -/
import Derived.Test.YtpdijobakfpnbaaGreatQCCome
import Derived.Test.YtpdijobakfpnbaaGreatQCClu
import Derived.Test.YtpdijobakfpnbaaGreatQHeap0
import Derived.Test.YtpdijobakfpnbaaGreatQCAway
import Derived.Test.YtpdijobakfpnbaaGreatQCAgain
import Derived.Test.YtpdijobakfpnbaaGreatQTConcat
import Derived.Test.YtpdijobakfpnbaaGreatQPlain
import Derived.Test.YtpdijobakfpnbaaGreatQKTake
import Derived.Test.YtpdijobakfpnbaaGreatQNamed
import Derived.Test.YtpdijobakfpnbaaGreatQWHost
namespace Go.Proofs.YtpdijobakfpnbaaGreat
open Go.RowKit Go.Proofs.Parclose
theorem Qjx (l : List (List UInt8)) (j : Nat) (hj : j < l.length) : (strs l)[j]? = some (.string ⟨(l.getD j []).toArray⟩) := by
 unfold strs strV
 rw [List.getElem?_map, List.getElem?_eq_getElem hj, List.getD_eq_getElem?_getD, List.getElem?_eq_getElem hj]
 rfl
theorem Qe4 (l : List (List UInt8)) (i : Nat) : (strs l).take i ++ (strs l).drop (i + 1) = strs (l.take i ++ l.drop (i + 1)) := by
 unfold strs
 rw [List.map_append, List.map_take, List.map_drop]
theorem Qiy {C : Clu} {k n : Int} (h : ¬ (0 ≤ n ∧ n < (C.net.length : Int))) : moveC C k n = (C, code 4) := by
 unfold moveC
 rw [if_neg h]
theorem QjJ {C : Clu} {k : Int} {i : Nat} (h : i < C.net.length) : moveC C k i = ((if k = 4 then (if k = 3 then C else { C with net := C.net.take i ++ C.net.drop (i + 1) }) else comeC (if k = 3 then C else { C with net := C.net.take i ++ C.net.drop (i + 1) }) (C.net.getD i [])), ⟨0, ((C.net.getD i []).length : Int), []⟩) := by
 unfold moveC
 rw [if_pos (by omega)]
 simp only [Int.toNat_natCast]
set_option maxRecDepth 100000 in
set_option maxHeartbeats 3200000 in
theorem Qi6 (cb : Nat) (k n : Int) (F : List Nat) (Z : CluV) (C : Clu) (w : World) (hc : CluAt w cb F Z C) (hg : GoodC C) (hk : k = 2 ∨ k = 3 ∨ k = 4) :
 Calls Tryz.prog 28 #[.pointer (some ⟨cb, 0, none⟩), .int .i64 k, .int .i64 n] w fun e w' => e = .returned (.agg #[.int .i64 (moveC C k n).2.code, .int .i64 (moveC C k n).2.n, .string ⟨(moveC C k n).2.text.toArray⟩]) ∧ ∃ G Z', CluAt w' cb G Z' (moveC C k n).1 ∧ CStep cb w F Z w' G Z' := by
 obtain ⟨pn, cn, hvn⟩ := QaG hc.net
 have k186 := hc.cnet.1
 rw [hvn] at k186
 have hlt := hc.lt
 have HC0 := hid (hc.reserve (.cells #[.int .i64 0, .int .i64 0, .string ⟨#[]⟩] 31))
 have HS0 := hid (CStep.reserve cb w F Z (.cells #[.int .i64 0, .int .i64 0, .string ⟨#[]⟩] 31))
 have HM0 : Hid (w.heap.size ∈ F ++ [w.heap.size]) := hid (by simp)
 have HC := hid hc
 have HG := hid hg
 have HVN := hid hvn
 clear hc hg hvn
 by_cases h1 : 0 ≤ n ∧ n < (C.net.length : Int)
 rotate_left
 · simp only [Qiy h1]
   by_cases h2 : n < 0
   · clear h1
     go_enter Tryz.func28, Tryz.ntmps28
     go_wp2_with (go_at_call 26; refine (Q1 4 _).mono ?_; rintro e w1 ⟨rfl, hw1⟩; have HB1 := hid hw1; obtain ⟨b0, b1, b2, b3, b4, b5⟩ := cells3 (Qe (Q4 w) hw1); clear hw1)
     obtain ⟨e1, e2, e3⟩ := QF 4 0 [] (Qe (Q4 w) HB1.out) HM0.out (Nat.le_refl _) (HC0.out.below HB1.out) (HS0.out.trans (CStep.below HB1.out))
     exact bodyPost_ret (results_cell_row rfl _ _ w.heap.size 31 _ (0, 0) _ rfl e1 Tryz.underlying31 rfl (by kernel_rfl)) rfl ⟨rfl, _, _, e2, e3⟩
   · have h3 : (C.net.length : Int) ≤ n := by omega
     clear h1
     go_enter Tryz.func28, Tryz.ntmps28
     go_wp2_with (go_at_call 26; refine (Q1 4 _).mono ?_; rintro e w1 ⟨rfl, hw1⟩; have HB1 := hid hw1; obtain ⟨b0, b1, b2, b3, b4, b5⟩ := cells3 (Qe (Q4 w) hw1); clear hw1)
     obtain ⟨e1, e2, e3⟩ := QF 4 0 [] (Qe (Q4 w) HB1.out) HM0.out (Nat.le_refl _) (HC0.out.below HB1.out) (HS0.out.trans (CStep.below HB1.out))
     exact bodyPost_ret (results_cell_row rfl _ _ w.heap.size 31 _ (0, 0) _ rfl e1 Tryz.underlying31 rfl (by kernel_rfl)) rfl ⟨rfl, _, _, e2, e3⟩
 · obtain ⟨i, rfl⟩ : ∃ i : Nat, n = i := ⟨n.toNat, by omega⟩
   have hi : i < C.net.length := by omega
   simp only [QjJ hi]
   have HN := hid HC.out.net
   rw [HVN.out] at HN
   obtain ⟨g, hpn⟩ : ∃ g, pn = some ⟨g, 0, none⟩ := by
    rcases HN.out.2 with ⟨h, h0⟩ | ⟨g, cap, cur, h, _⟩
    · omega
    · injection h with h _ _; exact ⟨g, h⟩
   subst hpn
   have xi : w.cell? ⟨g, i, none⟩ = some (.string ⟨(C.net.getD i []).toArray⟩) := by
    have := World.ownsRow.cells HN.out (g := g) rfl i _ (Qjx C.net i hi)
    rwa [WideShapes.add_plain, Nat.zero_add] at this
   have hgl := Qf xi
   obtain ⟨m, hm⟩ : ∃ m, C.net.length = m + 1 := ⟨C.net.length - 1, by omega⟩
   have hm60 : m ≤ 1000 := by have := HG.out.net; omega
   have I0 : (0 : Int) ≤ i := by omega
   have I1 : (i : Int) < (C.net.length : Int) := by omega
   have I2 : ¬ ((i : Int) < 0) := by omega
   have I3 : ¬ ((C.net.length : Int) ≤ i) := by omega
   generalize C.net.getD i [] = s at *
   have hwi : IntKind.i64.wrap ((i : Int) + 1) = (i : Int) + 1 := Go.wrap_small _ (by omega) (by omega)
   have HLN : Hid ((C.net.take i ++ C.net.drop (i + 1)).length = m) := hid (by rw [List.length_append, List.length_take, List.length_drop]; omega)
   rcases hk with rfl | rfl | rfl
   · simp only [if_neg (show ¬ ((2 : Int) = 4) by decide), if_neg (show ¬ ((2 : Int) = 3) by decide)]
     have hdel := QcS g m cn i (strs C.net) (w.alloc (.cells #[.int .i64 0, .int .i64 0, .string ⟨#[]⟩] 31)) (by rw [← hm]; exact Qk HN.out (Qc w _)) hm60 (by omega) (Qdc C.net)
     rw [← hm, Qe4] at hdel
     rw [← HLN.out] at hdel
     have HCD : Hid (GoodC { C with net := C.net.take i ++ C.net.drop (i + 1) }) := hid ⟨HG.out.ks, HG.out.now, HG.out.acts, by show (C.net.take i ++ C.net.drop (i + 1)).length ≤ 60; rw [HLN.out]; have := HG.out.net; omega⟩
     clear HLN hm
     generalize C.net.take i ++ C.net.drop (i + 1) = net' at *
     obtain ⟨A0, hA0, hB0⟩ := HC0.out.box
     have HA0 := hid hA0
     have HB0 := hid hB0.net
     have hgc : cb ≠ g := fun e => Qy (Qk HN.out (Qc w (.cells #[.int .i64 0, .int .i64 0, .string ⟨#[]⟩] 31))) hA0 (by decide) (by rw [e]; rfl)
     clear hA0 hB0
     go_enter Tryz.func28, Tryz.ntmps28
     go_wp2_with (first
      | (go_at_call 56; refine hdel.mono ?_; rintro e w1 ⟨rfl, hown, hgr⟩; have hA1 := Qm HA0.out hgc hgr; have d186 := (Qa hA1 186).trans HB0.out; rw [HVN.out] at d186; have q186 := Qb hA1 186; have hSN := HC0.out.setNet (by rw [HVN.out]; exact hgr) hown (by rw [HVN.out]; exact fun k hk => .inl hk); have HSN := hid hSN; have HX1 := hid (QC hSN.2 HC0.out (Q4 w) (by decide) (by decide) (by decide) (by decide) (by decide) (by decide)); clear hSN hA1 hdel)
      | (go_at_call 57; refine (Qet cb _ _ _ s _ HSN.out.1 HCD.out).mono ?_; rintro e w2 ⟨rfl, G2, Z2, hC2, hS2⟩; have HX2 := hid (QC hS2 HSN.out.1 HX1.out (by decide) (by decide) (by decide) (by decide) (by decide) (by decide)); have HC2 := hid hC2; have HS2 := hid hS2; obtain ⟨b0, b1, b2, b3, b4, b5⟩ := cells3 HX2.out; clear hC2 hS2))
     obtain ⟨e1, e2, e3⟩ := QF 0 s.length [] HX2.out (HS2.out.more.1 _ (HSN.out.2.more.1 _ HM0.out)) (Nat.le_refl _) HC2.out (HS0.out.trans (HSN.out.2.trans HS2.out))
     exact bodyPost_ret (results_cell_row rfl _ _ w.heap.size 31 _ (0, 0) _ rfl e1 Tryz.underlying31 rfl (by kernel_rfl)) rfl ⟨rfl, _, _, e2, e3⟩
   · simp only [if_neg (show ¬ ((3 : Int) = 4) by decide), if_pos]
     go_enter Tryz.func28, Tryz.ntmps28
     go_wp2_with (first
      | (go_at_call 57; refine (Qet cb _ _ _ s _ HC0.out HG.out).mono ?_; rintro e w2 ⟨rfl, G2, Z2, hC2, hS2⟩; have HX2 := hid (QC hS2 HC0.out (Q4 w) (by decide) (by decide) (by decide) (by decide) (by decide) (by decide)); have HC2 := hid hC2; have HS2 := hid hS2; obtain ⟨b0, b1, b2, b3, b4, b5⟩ := cells3 HX2.out; clear hC2 hS2)
      | fail)
     obtain ⟨e1, e2, e3⟩ := QF 0 s.length [] HX2.out (HS2.out.more.1 _ HM0.out) (Nat.le_refl _) HC2.out (HS0.out.trans HS2.out)
     exact bodyPost_ret (results_cell_row rfl _ _ w.heap.size 31 _ (0, 0) _ rfl e1 Tryz.underlying31 rfl (by kernel_rfl)) rfl ⟨rfl, _, _, e2, e3⟩
   · simp only [if_neg (show ¬ ((4 : Int) = 3) by decide), if_pos]
     have hdel := QcS g m cn i (strs C.net) (w.alloc (.cells #[.int .i64 0, .int .i64 0, .string ⟨#[]⟩] 31)) (by rw [← hm]; exact Qk HN.out (Qc w _)) hm60 (by omega) (Qdc C.net)
     rw [← hm, Qe4] at hdel
     rw [← HLN.out] at hdel
     have HCD : Hid (GoodC { C with net := C.net.take i ++ C.net.drop (i + 1) }) := hid ⟨HG.out.ks, HG.out.now, HG.out.acts, by show (C.net.take i ++ C.net.drop (i + 1)).length ≤ 60; rw [HLN.out]; have := HG.out.net; omega⟩
     clear HLN hm
     generalize C.net.take i ++ C.net.drop (i + 1) = net' at *
     obtain ⟨A0, hA0, hB0⟩ := HC0.out.box
     have HA0 := hid hA0
     have HB0 := hid hB0.net
     have hgc : cb ≠ g := fun e => Qy (Qk HN.out (Qc w (.cells #[.int .i64 0, .int .i64 0, .string ⟨#[]⟩] 31))) hA0 (by decide) (by rw [e]; rfl)
     clear hA0 hB0
     go_enter Tryz.func28, Tryz.ntmps28
     go_wp2_with (first
      | (go_at_call 56; refine hdel.mono ?_; rintro e w1 ⟨rfl, hown, hgr⟩; have hA1 := Qm HA0.out hgc hgr; have d186 := (Qa hA1 186).trans HB0.out; rw [HVN.out] at d186; have q186 := Qb hA1 186; have hSN := HC0.out.setNet (by rw [HVN.out]; exact hgr) hown (by rw [HVN.out]; exact fun k hk => .inl hk); have HSN := hid hSN; have HX1 := hid (QC hSN.2 HC0.out (Q4 w) (by decide) (by decide) (by decide) (by decide) (by decide) (by decide)); obtain ⟨b0, b1, b2, b3, b4, b5⟩ := cells3 HX1.out; clear hSN hA1 hdel)
      | fail)
     obtain ⟨e1, e2, e3⟩ := QF 0 s.length [] HX1.out (HSN.out.2.more.1 _ HM0.out) (Nat.le_refl _) HSN.out.1 (HS0.out.trans HSN.out.2)
     exact bodyPost_ret (results_cell_row rfl _ _ w.heap.size 31 _ (0, 0) _ rfl e1 Tryz.underlying31 rfl (by kernel_rfl)) rfl ⟨rfl, _, _, e2, e3⟩
def acV (a : Ac) (vl vg : Value) : Value := .agg #[.int .i64 a.kind, .int .i64 a.h, .int .i64 a.t, .int .i64 a.n, .int .i64 a.call.kind, .int .i64 a.call.h, .int .i64 a.call.t, .int .i64 a.call.n, .int .i64 a.call.c, vl, vg, .string ⟨a.call.text.toArray⟩]
def AcAt (w : World) (v : Value) (a : Ac) : Prop := ∃ vl vg, v = acV a vl vg ∧ LabAt w vl a.call.label ∧ IntsAt w vg a.call.grants
theorem AcAt.below {w wr : World} {v : Value} {a : Ac} (h : AcAt w v a) (hb : Below w.heap.size w wr) : AcAt wr v a := by
 obtain ⟨vl, vg, e, h1, h2⟩ := h
 exact ⟨vl, vg, e, h1.below hb, h2.below hb⟩
def AcRo (w : World) (F : List Nat) (v : Value) (a : Ac) : Prop := ∃ vl vg, v = acV a vl vg ∧ RoLab w F vl a.call.label ∧ RoInts w F vg a.call.grants
theorem AcRo.at {w : World} {F : List Nat} {v : Value} {a : Ac} (h : AcRo w F v a) : AcAt w v a := by
 obtain ⟨vl, vg, e, h1, h2⟩ := h
 exact ⟨vl, vg, e, h1.1, h2.1⟩
theorem CluAt.setActs1 {w : World} {cb : Nat} {F : List Nat} {Z : CluV} {C : Clu} (h : CluAt w cb F Z C) : CluAt (w.setCell ⟨cb, 1, none⟩ (.int .i64 ((C.acts : Int) + 1))) cb F Z { C with acts := C.acts + 1 } ∧ CStep cb w F Z (w.setCell ⟨cb, 1, none⟩ (.int .i64 ((C.acts : Int) + 1))) F Z := by
 have h1 := h.setActs (C.acts + 1)
 rw [show (((C.acts + 1 : Nat)) : Int) = (C.acts : Int) + 1 by omega] at h1
 exact h1
theorem CluAt.cacts {w : World} {cb : Nat} {F : List Nat} {Z : CluV} {C : Clu} (h : CluAt w cb F Z C) : w.cell? ⟨cb, 1, none⟩ = some (.int .i64 C.acts) ∧ w.frozen? ⟨cb, 1, none⟩ = false := by
 obtain ⟨A, hA, hB⟩ := h.box
 exact ⟨(Qa hA 1).trans hB.acts, Qb hA _⟩
theorem Qkd {C : Clu} {a : Ac} (h : C.acts < 300) (k : a.kind = 1) : doC C a = callC { C with acts := C.acts + 1 } a.h a.t a.call := by
 unfold doC
 rw [if_neg (by omega), if_pos k]
theorem Qka {C : Clu} {a : Ac} (h : C.acts < 300) (k : a.kind = 2 ∨ a.kind = 3 ∨ a.kind = 4) : doC C a = moveC { C with acts := C.acts + 1 } a.kind a.n := by
 unfold doC
 rw [if_neg (by omega), if_neg (by omega), if_pos k]
theorem Qj9 {C : Clu} {a : Ac} (h : C.acts < 300) (k : a.kind = 5) : doC C a = tickC { C with acts := C.acts + 1 } a.n := by
 unfold doC
 rw [if_neg (by omega), if_neg (by omega), if_neg (by omega), if_pos k]
theorem Qkb {C : Clu} {a : Ac} (h : C.acts < 300) (k1 : a.kind ≠ 1) (k2 : ¬ (a.kind = 2 ∨ a.kind = 3 ∨ a.kind = 4)) (k5 : a.kind ≠ 5) : doC C a = ({ C with acts := C.acts + 1 }, code 3) := by
 unfold doC
 rw [if_neg (by omega), if_neg k1, if_neg k2, if_neg k5]
set_option maxRecDepth 100000 in
set_option maxHeartbeats 6400000 in
theorem Qda (cb : Nat) (F : List Nat) (Z : CluV) (C : Clu) (va : Value) (a : Ac) (w : World) (hc : CluAt w cb F Z C) (hg : GoodC C) (hv : AcRo w F va a) :
 Calls Tryz.prog 11 #[.pointer (some ⟨cb, 0, none⟩), va] w fun e w' => e = .returned (.agg #[.int .i64 (doC C a).2.code, .int .i64 (doC C a).2.n, .string ⟨(doC C a).2.text.toArray⟩]) ∧ ∃ G Z', CluAt w' cb G Z' (doC C a).1 ∧ CStep cb w F Z w' G Z' := by
 have HV := hid hv
 obtain ⟨vl, vg, rfl, ⟨⟨pl, cl, rfl, _⟩, _⟩, ⟨⟨pg, cg, rfl, _⟩, _⟩⟩ := hv
 unfold acV at HV ⊢
 have hlt := hc.lt
 obtain ⟨k1, f1⟩ := hc.cacts
 have hact := hg.acts
 have hneq : cb ≠ w.heap.size := by omega
 by_cases h300 : 300 ≤ C.acts
 · have HP := hid (Qkc C a h300)
   have h3 : (300 : Int) ≤ (C.acts : Int) := by omega
   have hbb := Qc w (.cells #[.int .i64 a.kind, .int .i64 a.h, .int .i64 a.t, .int .i64 a.n, .int .i64 a.call.kind, .int .i64 a.call.h, .int .i64 a.call.t, .int .i64 a.call.n, .int .i64 a.call.c, .slice pl a.call.label.length cl, .slice pg a.call.grants.length cg, .string ⟨a.call.text.toArray⟩] 39)
   have HC1 := hid ((hc.below hbb).reserve (.cells #[.int .i64 0, .int .i64 0, .string ⟨#[]⟩] 31))
   have HS1 := hid ((CStep.below (cb := cb) (F := F) (Z := Z) hbb).trans (CStep.reserve cb _ F Z (.cells #[.int .i64 0, .int .i64 0, .string ⟨#[]⟩] 31)))
   rw [QM] at HC1 HS1
   have HXR := hid (heap_alloc2_new w (.cells #[.int .i64 a.kind, .int .i64 a.h, .int .i64 a.t, .int .i64 a.n, .int .i64 a.call.kind, .int .i64 a.call.h, .int .i64 a.call.t, .int .i64 a.call.n, .int .i64 a.call.c, .slice pl a.call.label.length cl, .slice pg a.call.grants.length cg, .string ⟨a.call.text.toArray⟩] 39) (.cells #[.int .i64 0, .int .i64 0, .string ⟨#[]⟩] 31))
   have HM0 : Hid (w.heap.size + 1 ∈ F ++ [w.heap.size + 1]) := hid (by simp)
   clear hc hg hbb h300
   go_enter Tryz.func11, Tryz.ntmps11
   go_wp2_with (go_at_call 26; refine (Q1 _ _).mono ?_; rintro e w9 ⟨rfl, hw9⟩; have HB9 := hid hw9; have HX9 := hid (Qe HXR.out hw9); obtain ⟨b0, b1, b2, b3, b4, b5⟩ := cells3 HX9.out; clear hw9)
   obtain ⟨e1, e2, e3⟩ := QF 5 0 [] HX9.out HM0.out (Nat.le_succ _) (HC1.out.below HB9.out) (HS1.out.trans (CStep.below HB9.out))
   rw [HP.out]
   exact bodyPost_ret (results_cell_row rfl _ _ (w.heap.size + 1) 31 _ (0, 0) _ rfl e1 Tryz.underlying31 rfl (by kernel_rfl)) rfl ⟨rfl, _, _, e2, e3⟩
 · have h300' : C.acts < 300 := by omega
   have h3 : ¬ ((300 : Int) ≤ (C.acts : Int)) := by omega
   have hwr : IntKind.i64.wrap ((C.acts : Int) + 1) = (C.acts : Int) + 1 := Go.wrap_small _ (by omega) (by omega)
   have hSA := hc.setActs1
   have hbb := Qc (w.setCell ⟨cb, 1, none⟩ (.int .i64 ((C.acts : Int) + 1))) (.cells #[.int .i64 a.kind, .int .i64 a.h, .int .i64 a.t, .int .i64 a.n, .int .i64 a.call.kind, .int .i64 a.call.h, .int .i64 a.call.t, .int .i64 a.call.n, .int .i64 a.call.c, .slice pl a.call.label.length cl, .slice pg a.call.grants.length cg, .string ⟨a.call.text.toArray⟩] 39)
   have hSZ : (w.setCell ⟨cb, 1, none⟩ (.int .i64 ((C.acts : Int) + 1))).heap.size = w.heap.size := World.size_setCell _ _ _
   have HC1 := hid ((hSA.1.below hbb).reserve (.cells #[.int .i64 0, .int .i64 0, .string ⟨#[]⟩] 31))
   have HS1 := hid (hSA.2.trans ((CStep.below (cb := cb) (F := F) (Z := Z) hbb).trans (CStep.reserve cb _ F Z (.cells #[.int .i64 0, .int .i64 0, .string ⟨#[]⟩] 31))))
   rw [QM, hSZ] at HC1 HS1
   have HXR := hid (heap_alloc2_new (w.setCell ⟨cb, 1, none⟩ (.int .i64 ((C.acts : Int) + 1))) (.cells #[.int .i64 a.kind, .int .i64 a.h, .int .i64 a.t, .int .i64 a.n, .int .i64 a.call.kind, .int .i64 a.call.h, .int .i64 a.call.t, .int .i64 a.call.n, .int .i64 a.call.c, .slice pl a.call.label.length cl, .slice pg a.call.grants.length cg, .string ⟨a.call.text.toArray⟩] 39) (.cells #[.int .i64 0, .int .i64 0, .string ⟨#[]⟩] 31))
   rw [hSZ] at HXR
   have HKP : Hid (KeptF F w (((w.setCell ⟨cb, 1, none⟩ (.int .i64 ((C.acts : Int) + 1))).alloc (.cells #[.int .i64 a.kind, .int .i64 a.h, .int .i64 a.t, .int .i64 a.n, .int .i64 a.call.kind, .int .i64 a.call.h, .int .i64 a.call.t, .int .i64 a.call.n, .int .i64 a.call.c, .slice pl a.call.label.length cl, .slice pg a.call.grants.length cg, .string ⟨a.call.text.toArray⟩] 39)).alloc (.cells #[.int .i64 0, .int .i64 0, .string ⟨#[]⟩] 31))) := hid (HS1.out.keptF hc)
   have HVA : Hid (LabAt (((w.setCell ⟨cb, 1, none⟩ (.int .i64 ((C.acts : Int) + 1))).alloc (.cells #[.int .i64 a.kind, .int .i64 a.h, .int .i64 a.t, .int .i64 a.n, .int .i64 a.call.kind, .int .i64 a.call.h, .int .i64 a.call.t, .int .i64 a.call.n, .int .i64 a.call.c, .slice pl a.call.label.length cl, .slice pg a.call.grants.length cg, .string ⟨a.call.text.toArray⟩] 39)).alloc (.cells #[.int .i64 0, .int .i64 0, .string ⟨#[]⟩] 31)) (.slice pl a.call.label.length cl) a.call.label ∧ IntsAt (((w.setCell ⟨cb, 1, none⟩ (.int .i64 ((C.acts : Int) + 1))).alloc (.cells #[.int .i64 a.kind, .int .i64 a.h, .int .i64 a.t, .int .i64 a.n, .int .i64 a.call.kind, .int .i64 a.call.h, .int .i64 a.call.t, .int .i64 a.call.n, .int .i64 a.call.c, .slice pl a.call.label.length cl, .slice pg a.call.grants.length cg, .string ⟨a.call.text.toArray⟩] 39)).alloc (.cells #[.int .i64 0, .int .i64 0, .string ⟨#[]⟩] 31)) (.slice pg a.call.grants.length cg) a.call.grants) := hid (by
    obtain ⟨vl', vg', e, h1, h2⟩ := HV.out
    unfold acV at e
    injection e with e
    simp only [Array.mk.injEq, List.cons.injEq, true_and, and_true] at e
    obtain ⟨rfl, rfl⟩ := e
    exact ⟨(h1.keep HKP.out (More.refl _ _)).1, (h2.keep HKP.out (More.refl _ _)).1⟩)
   have HM0 : Hid (w.heap.size + 1 ∈ F ++ [w.heap.size + 1]) := hid (by simp)
   have HLE : Hid (w.heap.size ≤ w.heap.size + 1) := hid (Nat.le_succ _)
   have HG1 : Hid (GoodC { C with acts := C.acts + 1 }) := hid ⟨hg.ks, hg.now, by show C.acts + 1 ≤ 300; omega, hg.net⟩
   clear hc hg hbb hSA h300 HV
   by_cases q1 : a.kind = 1
   · have HP := hid (Qkd (a := a) h300' q1)
     have e1' : (a.kind == 1) = true := by simpa using q1
     have hcall := Qi8 cb a.h a.t _ Z { C with acts := C.acts + 1 } _ a.call (((w.setCell ⟨cb, 1, none⟩ (.int .i64 ((C.acts : Int) + 1))).alloc (.cells #[.int .i64 a.kind, .int .i64 a.h, .int .i64 a.t, .int .i64 a.n, .int .i64 a.call.kind, .int .i64 a.call.h, .int .i64 a.call.t, .int .i64 a.call.n, .int .i64 a.call.c, .slice pl a.call.label.length cl, .slice pg a.call.grants.length cg, .string ⟨a.call.text.toArray⟩] 39)).alloc (.cells #[.int .i64 0, .int .i64 0, .string ⟨#[]⟩] 31)) HC1.out HG1.out ⟨_, _, rfl, HVA.out.1, HVA.out.2⟩
     unfold calV at hcall
     generalize callC { C with acts := C.acts + 1 } a.h a.t a.call = SC at *
     clear q1
     go_enter Tryz.func11, Tryz.ntmps11
     go_wp2_with (go_at_call 27; refine hcall.mono ?_; rintro e w5 ⟨rfl, G5, Z5, hC5, hS5⟩; have HC5 := hid hC5; have HS5 := hid hS5; have HX5 := hid (QC hS5 HC1.out HXR.out (by decide) (by decide) (by decide) (by decide) (by decide) (by decide)); obtain ⟨b0, b1, b2, b3, b4, b5⟩ := cells3 HX5.out; clear hC5 hS5 hcall)
     obtain ⟨e1, e2, e3⟩ := QF SC.2.code SC.2.n SC.2.text HX5.out (HS5.out.more.1 _ HM0.out) HLE.out HC5.out (HS1.out.trans HS5.out)
     rw [HP.out]
     exact bodyPost_ret (results_cell_row rfl _ _ (w.heap.size + 1) 31 _ (0, 0) _ rfl e1 Tryz.underlying31 rfl (by kernel_rfl)) rfl ⟨rfl, _, _, e2, e3⟩
   · have e1' : (a.kind == 1) = false := by simpa using q1
     by_cases q2 : a.kind = 2 ∨ a.kind = 3 ∨ a.kind = 4
     · have HP := hid (Qka (a := a) h300' q2)
       have hmv := Qi6 cb a.kind a.n _ Z { C with acts := C.acts + 1 } (((w.setCell ⟨cb, 1, none⟩ (.int .i64 ((C.acts : Int) + 1))).alloc (.cells #[.int .i64 a.kind, .int .i64 a.h, .int .i64 a.t, .int .i64 a.n, .int .i64 a.call.kind, .int .i64 a.call.h, .int .i64 a.call.t, .int .i64 a.call.n, .int .i64 a.call.c, .slice pl a.call.label.length cl, .slice pg a.call.grants.length cg, .string ⟨a.call.text.toArray⟩] 39)).alloc (.cells #[.int .i64 0, .int .i64 0, .string ⟨#[]⟩] 31)) HC1.out HG1.out q2
       generalize moveC { C with acts := C.acts + 1 } a.kind a.n = SC at *
       rcases q2 with q2 | q2 | q2
       · have e2' : (a.kind == 2) = true := by simpa using q2
         clear q1 q2
         go_enter Tryz.func11, Tryz.ntmps11
         go_wp2_with (go_at_call 28; refine hmv.mono ?_; rintro e w5 ⟨rfl, G5, Z5, hC5, hS5⟩; have HC5 := hid hC5; have HS5 := hid hS5; have HX5 := hid (QC hS5 HC1.out HXR.out (by decide) (by decide) (by decide) (by decide) (by decide) (by decide)); obtain ⟨b0, b1, b2, b3, b4, b5⟩ := cells3 HX5.out; clear hC5 hS5 hmv)
         obtain ⟨e1, e2, e3⟩ := QF SC.2.code SC.2.n SC.2.text HX5.out (HS5.out.more.1 _ HM0.out) HLE.out HC5.out (HS1.out.trans HS5.out)
         rw [HP.out]
         exact bodyPost_ret (results_cell_row rfl _ _ (w.heap.size + 1) 31 _ (0, 0) _ rfl e1 Tryz.underlying31 rfl (by kernel_rfl)) rfl ⟨rfl, _, _, e2, e3⟩
       · have e2' : (a.kind == 2) = false := by simp [q2]
         have e3' : (a.kind == 3) = true := by simpa using q2
         clear q1 q2
         go_enter Tryz.func11, Tryz.ntmps11
         go_wp2_with (go_at_call 28; refine hmv.mono ?_; rintro e w5 ⟨rfl, G5, Z5, hC5, hS5⟩; have HC5 := hid hC5; have HS5 := hid hS5; have HX5 := hid (QC hS5 HC1.out HXR.out (by decide) (by decide) (by decide) (by decide) (by decide) (by decide)); obtain ⟨b0, b1, b2, b3, b4, b5⟩ := cells3 HX5.out; clear hC5 hS5 hmv)
         obtain ⟨e1, e2, e3⟩ := QF SC.2.code SC.2.n SC.2.text HX5.out (HS5.out.more.1 _ HM0.out) HLE.out HC5.out (HS1.out.trans HS5.out)
         rw [HP.out]
         exact bodyPost_ret (results_cell_row rfl _ _ (w.heap.size + 1) 31 _ (0, 0) _ rfl e1 Tryz.underlying31 rfl (by kernel_rfl)) rfl ⟨rfl, _, _, e2, e3⟩
       · have e2' : (a.kind == 2) = false := by simp [q2]
         have e3' : (a.kind == 3) = false := by simp [q2]
         have e4' : (a.kind == 4) = true := by simpa using q2
         clear q1 q2
         go_enter Tryz.func11, Tryz.ntmps11
         go_wp2_with (go_at_call 28; refine hmv.mono ?_; rintro e w5 ⟨rfl, G5, Z5, hC5, hS5⟩; have HC5 := hid hC5; have HS5 := hid hS5; have HX5 := hid (QC hS5 HC1.out HXR.out (by decide) (by decide) (by decide) (by decide) (by decide) (by decide)); obtain ⟨b0, b1, b2, b3, b4, b5⟩ := cells3 HX5.out; clear hC5 hS5 hmv)
         obtain ⟨e1, e2, e3⟩ := QF SC.2.code SC.2.n SC.2.text HX5.out (HS5.out.more.1 _ HM0.out) HLE.out HC5.out (HS1.out.trans HS5.out)
         rw [HP.out]
         exact bodyPost_ret (results_cell_row rfl _ _ (w.heap.size + 1) 31 _ (0, 0) _ rfl e1 Tryz.underlying31 rfl (by kernel_rfl)) rfl ⟨rfl, _, _, e2, e3⟩
     · have e2' : (a.kind == 2) = false := by simp; omega
       have e3' : (a.kind == 3) = false := by simp; omega
       have e4' : (a.kind == 4) = false := by simp; omega
       by_cases q5 : a.kind = 5
       · have HP := hid (Qj9 (a := a) h300' q5)
         have e5' : (a.kind == 5) = true := by simpa using q5
         have htk := QiZ cb a.n _ Z { C with acts := C.acts + 1 } (((w.setCell ⟨cb, 1, none⟩ (.int .i64 ((C.acts : Int) + 1))).alloc (.cells #[.int .i64 a.kind, .int .i64 a.h, .int .i64 a.t, .int .i64 a.n, .int .i64 a.call.kind, .int .i64 a.call.h, .int .i64 a.call.t, .int .i64 a.call.n, .int .i64 a.call.c, .slice pl a.call.label.length cl, .slice pg a.call.grants.length cg, .string ⟨a.call.text.toArray⟩] 39)).alloc (.cells #[.int .i64 0, .int .i64 0, .string ⟨#[]⟩] 31)) HC1.out HG1.out
         generalize tickC { C with acts := C.acts + 1 } a.n = SC at *
         clear q1 q2 q5
         go_enter Tryz.func11, Tryz.ntmps11
         go_wp2_with (go_at_call 29; refine htk.mono ?_; rintro e w5 ⟨rfl, G5, Z5, hC5, hS5⟩; have HC5 := hid hC5; have HS5 := hid hS5; have HX5 := hid (QC hS5 HC1.out HXR.out (by decide) (by decide) (by decide) (by decide) (by decide) (by decide)); obtain ⟨b0, b1, b2, b3, b4, b5⟩ := cells3 HX5.out; clear hC5 hS5 htk)
         obtain ⟨e1, e2, e3⟩ := QF SC.2.code SC.2.n SC.2.text HX5.out (HS5.out.more.1 _ HM0.out) HLE.out HC5.out (HS1.out.trans HS5.out)
         rw [HP.out]
         exact bodyPost_ret (results_cell_row rfl _ _ (w.heap.size + 1) 31 _ (0, 0) _ rfl e1 Tryz.underlying31 rfl (by kernel_rfl)) rfl ⟨rfl, _, _, e2, e3⟩
       · have HP := hid (Qkb (a := a) h300' q1 q2 q5)
         have e5' : (a.kind == 5) = false := by simpa using q5
         clear q1 q2 q5
         go_enter Tryz.func11, Tryz.ntmps11
         go_wp2_with (go_at_call 26; refine (Q1 _ _).mono ?_; rintro e w9 ⟨rfl, hw9⟩; have HB9 := hid hw9; have HX9 := hid (Qe HXR.out hw9); obtain ⟨b0, b1, b2, b3, b4, b5⟩ := cells3 HX9.out; clear hw9)
         obtain ⟨e1, e2, e3⟩ := QF 3 0 [] HX9.out HM0.out (Nat.le_succ _) (HC1.out.below HB9.out) (HS1.out.trans (CStep.below HB9.out))
         rw [HP.out]
         exact bodyPost_ret (results_cell_row rfl _ _ (w.heap.size + 1) 31 _ (0, 0) _ rfl e1 Tryz.underlying31 rfl (by kernel_rfl)) rfl ⟨rfl, _, _, e2, e3⟩
structure AcV where
 a : Ac
 vl : Value
 vg : Value
def AcV.cells (x : AcV) : List Value := [.int .i64 x.a.kind, .int .i64 x.a.h, .int .i64 x.a.t, .int .i64 x.a.n, .int .i64 x.a.call.kind, .int .i64 x.a.call.h, .int .i64 x.a.call.t, .int .i64 x.a.call.n, .int .i64 x.a.call.c, x.vl, x.vg, .string ⟨x.a.call.text.toArray⟩]
structure AcV.Ok (w : World) (x : AcV) : Prop where
 lab : LabAt w x.vl x.a.call.label
 nums : IntsAt w x.vg x.a.call.grants
theorem AcV.Ok.below {w wr : World} {x : AcV} (h : x.Ok w) (hb : Below w.heap.size w wr) : x.Ok wr := ⟨h.lab.below hb, h.nums.below hb⟩
def flatA (q : List AcV) : List Value := q.flatMap AcV.cells
theorem QaX (x : AcV) (q : List AcV) : flatA (x :: q) = x.cells ++ flatA q := rfl
theorem QiR (q : List AcV) : (flatA q).length = q.length * 12 := by
 induction q with
 | nil => rfl
 | cons x r ih =>
  rw [QaX, List.length_append, ih, List.length_cons]
  show 12 + r.length * 12 = _
  omega
theorem QcE : ∀ (q : List AcV) (j : Nat) (hj : j < q.length) (i : Nat) (_ : i < 12), (flatA q)[j * 12 + i]? = (q[j]).cells[i]?
 | x :: r, 0, _, i, hi => by
  rw [QaX, List.getElem?_append_left (by show _ < 12; omega)]
  simp
 | x :: r, j + 1, hj, i, hi => by
  rw [QaX, List.getElem?_append_right (by show 12 ≤ _; omega), show (j + 1) * 12 + i - x.cells.length = j * 12 + i by show (j + 1) * 12 + i - 12 = _; omega, QcE r j (by simpa using hj) i hi]
  simp
theorem Qhj (q : List AcV) (k : Nat) : flatA (q.take k) = (flatA q).take (k * 12) := by
 induction q generalizing k with
 | nil => simp [flatA]
 | cons x r ih =>
  cases k with
  | zero => simp [flatA]
  | succ k =>
   rw [List.take_succ_cons, QaX, QaX, ih, show (k + 1) * 12 = x.cells.length + k * 12 by show _ = 12 + k * 12; omega, List.take_length_add_append]
def AcsAt (w : World) (v : Value) (l : List Ac) : Prop := ∃ q : List AcV, q.map (·.a) = l ∧ (∀ x ∈ q, x.Ok w) ∧ ∃ p cap, v = .slice p q.length cap ∧ (q.length ≤ cap ∧ (p = none → cap = 0)) ∧ (0 < q.length → ∃ b o, p = some ⟨b, o, none⟩ ∧ ∀ j u, (flatA q)[j]? = some u → w.cell? ⟨b, o + j, none⟩ = some u)
theorem AcsAt.below {w wr : World} {v : Value} {l : List Ac} (h : AcsAt w v l) (hb : Below w.heap.size w wr) : AcsAt wr v l := by
 obtain ⟨q, h1, h2, p, cap, h3, h4, h5⟩ := h
 refine ⟨q, h1, fun x hx => (h2 x hx).below hb, p, cap, h3, h4, fun h0 => ?_⟩
 obtain ⟨b, o, h6, h7⟩ := h5 h0
 exact ⟨b, o, h6, fun j u hu => by rw [hb.cell (Qf (h7 j u hu)), h7 j u hu]⟩
theorem AcsAt.slice {w : World} {v : Value} {l : List Ac} (h : AcsAt w v l) : ∃ p cap, v = .slice p l.length cap ∧ l.length ≤ cap ∧ (p = none → cap = 0) := by
 obtain ⟨q, rfl, _, p, cap, rfl, h4, _⟩ := h
 exact ⟨p, cap, by simp, by simpa using h4.1, h4.2⟩
theorem AcsAt.take {w : World} {p : Option Addr} {n cap : Nat} {l : List Ac} (h : AcsAt w (.slice p n cap) l) (k : Nat) (hk : k ≤ l.length) : AcsAt w (.slice p k cap) (l.take k) := by
 obtain ⟨q, rfl, h2, p', cap', e, h4, h5⟩ := h
 injection e with e1 e2 e3
 subst e1 e3
 have hkq : k ≤ q.length := by simpa using hk
 refine ⟨q.take k, by rw [List.map_take], fun x hx => h2 x (List.mem_of_mem_take hx), p, cap, by rw [List.length_take, Nat.min_eq_left hkq], ⟨by rw [List.length_take]; omega, h4.2⟩, fun h0 => ?_⟩
 rw [List.length_take] at h0
 obtain ⟨b, o, h6, h7⟩ := h5 (by omega)
 refine ⟨b, o, h6, fun j u hu => h7 j u ?_⟩
 rw [Qhj, List.getElem?_take] at hu
 split at hu
 · exact hu
 · cases hu
theorem AcsAt.get {w : World} {p : Option Addr} {n cap : Nat} {l : List Ac} (h : AcsAt w (.slice p n cap) l) (j : Nat) (hj : j < l.length) :
 ∃ b o pl cl pg cg, p = some ⟨b, o, none⟩ ∧ LabAt w (.slice pl (l[j]).call.label.length cl) (l[j]).call.label ∧ IntsAt w (.slice pg (l[j]).call.grants.length cg) (l[j]).call.grants ∧
  w.cell? ⟨b, o + j * 12, none⟩ = some (.int .i64 (l[j]).kind) ∧ w.cell? ⟨b, o + j * 12 + 1, none⟩ = some (.int .i64 (l[j]).h) ∧ w.cell? ⟨b, o + j * 12 + 2, none⟩ = some (.int .i64 (l[j]).t) ∧ w.cell? ⟨b, o + j * 12 + 3, none⟩ = some (.int .i64 (l[j]).n) ∧ w.cell? ⟨b, o + j * 12 + 4, none⟩ = some (.int .i64 (l[j]).call.kind) ∧ w.cell? ⟨b, o + j * 12 + 5, none⟩ = some (.int .i64 (l[j]).call.h) ∧ w.cell? ⟨b, o + j * 12 + 6, none⟩ = some (.int .i64 (l[j]).call.t) ∧ w.cell? ⟨b, o + j * 12 + 7, none⟩ = some (.int .i64 (l[j]).call.n) ∧ w.cell? ⟨b, o + j * 12 + 8, none⟩ = some (.int .i64 (l[j]).call.c) ∧ w.cell? ⟨b, o + j * 12 + 9, none⟩ = some (.slice pl (l[j]).call.label.length cl) ∧ w.cell? ⟨b, o + j * 12 + 10, none⟩ = some (.slice pg (l[j]).call.grants.length cg) ∧ w.cell? ⟨b, o + j * 12 + 11, none⟩ = some (.string ⟨(l[j]).call.text.toArray⟩) := by
 obtain ⟨q, rfl, hok, p', cap', e, _, h4⟩ := h
 cases e
 have hjq : j < q.length := by simpa using hj
 obtain ⟨b, o, rfl, hc⟩ := h4 (by omega)
 have ho := hok _ (List.getElem_mem hjq)
 have g : ∀ i, i < 12 → ∀ u, (q[j]).cells[i]? = some u → w.cell? ⟨b, o + j * 12 + i, none⟩ = some u := fun i hi u hu => by
  rw [Nat.add_assoc]
  exact hc _ _ (by rw [QcE q j hjq i hi, hu])
 have e : (q.map (·.a))[j] = (q[j]).a := by simp
 rw [e]
 generalize q[j] = x at *
 obtain ⟨f, vl, vg⟩ := x
 obtain ⟨h1, h2⟩ := ho
 simp only at h1 h2 ⊢
 obtain ⟨pl, cl, rfl, _⟩ := id h1
 obtain ⟨pg, cg, rfl, _⟩ := id h2
 exact ⟨b, o, pl, cl, pg, cg, rfl, h1, h2, g 0 (by omega) _ rfl, g 1 (by omega) _ rfl, g 2 (by omega) _ rfl, g 3 (by omega) _ rfl, g 4 (by omega) _ rfl, g 5 (by omega) _ rfl, g 6 (by omega) _ rfl, g 7 (by omega) _ rfl, g 8 (by omega) _ rfl, g 9 (by omega) _ rfl, g 10 (by omega) _ rfl, g 11 (by omega) _ rfl⟩
set_option maxRecDepth 100000 in
set_option maxHeartbeats 400000 in
theorem QfU (a : Addr) (n cap : Nat) (xs : List Value) (w : World) (hl : xs.length = n * 1) (hn : n ≤ 1000) (hc : ∀ j u, xs[j]? = some u → w.cell? (a.add j) = some u) (h1 : ∀ u ∈ xs, u.oneCell' = true) :
 Calls Tryz.prog 30 #[.slice (some a) n cap] w fun e w' => ∃ v', e = .returned v' ∧ w'.ownsRow w.heap.size 9 1 v' n xs ∧ Below w.heap.size w w' := by
 obtain ⟨i0, hi, hz0, hz1, hz2⟩ := info_parts Qcx
 have q : ∀ (wx : World) (p : Option Addr) (n c n' c' : Nat), (binOp .eql 40 (.slice p n c) (.slice none n' c')).run Tryz.prog wx = .ok (.bool p.isNone) wx := fun wx p n c n' c' => Lib.run_eql_slice_nil wx _ _ p n c n' c' Tryz.underlying40
 have HC := hid hc
 clear hc
 go_enter Tryz.func30, Tryz.ntmps30
 go_wp2_with (at_builtin; refine wpList_append_own _ rfl _ _ 40 rfl w.heap.size 9 i0 _ 1 16 Tryz.underlying40 hi hz0 hz1 hz2 rfl (by decide) _ 0 [] rfl (QdC w _ _ _ (Nat.le_refl _)) a n cap xs rfl hl (fun j u hu => by have := HC.out j u hu; rw [(Qc w _).cell (Qf this), this]) h1 (by unfold maxLen; omega) (by omega) (by simp) ?_; intro v6 w6 hown6 hgrow6 hnil6)
 have hb6 : Below w.heap.size w w6 := (Qc w (.cells #[] 9)).grown hgrow6 (by simp) (fun k hk => by cases hk; exact Nat.le_refl _)
 clear hgrow6 hnil6
 rw [Nat.zero_add, List.nil_append] at hown6
 go_ret
 exact ⟨v6, rfl, hown6, hb6⟩
theorem QfV (n cap : Nat) (w : World) : Calls Tryz.prog 30 #[.slice none n cap] w fun e w' => e = .returned (.slice none 0 0) ∧ w' = w := by
 have q : ∀ (wx : World) (p : Option Addr) (n c n' c' : Nat), (binOp .eql 40 (.slice p n c) (.slice none n' c')).run Tryz.prog wx = .ok (.bool p.isNone) wx := fun wx p n c n' c' => Lib.run_eql_slice_nil wx _ _ p n c n' c' Tryz.underlying40
 go_enter Tryz.func30, Tryz.ntmps30
 go_wp2
 go_ret
 exact ⟨rfl, rfl⟩
theorem Qhv (v : Value) (l : List (List UInt8)) (w : World) (hv : w.ownsRow 0 9 1 v l.length (strs l)) (hl : l.length ≤ 1000) :
 Calls Tryz.prog 30 #[v] w fun e w' => ∃ v', e = .returned v' ∧ w'.ownsRow w.heap.size 9 1 v' l.length (strs l) ∧ Below w.heap.size w w' := by
 rcases hv.2 with ⟨e0, h0⟩ | ⟨g, cap, cur, e0, _⟩
 · subst e0
   have hn : l = [] := List.length_eq_zero_iff.1 h0
   subst hn
   refine (QfV 0 0 w).mono ?_
   rintro e w' ⟨rfl, rfl⟩
   exact ⟨_, rfl, World.ownsRow_nil _ _ _ _, Below.refl _ _⟩
 · subst e0
   exact QfU ⟨g, 0, none⟩ l.length cap (strs l) w (Qjw l) hl (hv.cells (g := g) rfl) (Qdc l)
set_option maxRecDepth 100000 in
theorem Qff (cb : Nat) (F : List Nat) (Z : CluV) (C : Clu) (w : World) (hc : CluAt w cb F Z C) (h60 : C.net.length ≤ 60) :
 Calls Tryz.prog 12 #[.pointer (some ⟨cb, 0, none⟩)] w fun e w' => ∃ p cap, e = .returned (.slice p C.net.length cap) ∧ w'.ownsRow w.heap.size 9 1 (.slice p C.net.length cap) C.net.length (strs C.net) ∧ Below w.heap.size w w' := by
 have k := hc.cnet.1
 obtain ⟨pn, cn, hvn⟩ := QaG hc.net
 have hcl := Qhv Z.vn C.net w hc.net (by omega)
 rw [hvn] at k hcl
 clear hvn
 have hlt := hc.lt
 clear hc
 go_enter Tryz.func12, Tryz.ntmps12
 go_wp2_with (go_at_call 30; refine hcl.mono ?_; rintro e w1 ⟨v1, rfl, hv1, hw1⟩; obtain ⟨p1, c1, e1⟩ := QaG hv1; subst e1)
 go_ret
 exact ⟨p1, c1, rfl, hv1, hw1⟩
theorem Qfj (w : World) (F : List Nat) (k h t n : Int) (ck ch ct cn cc : Int) (x : List UInt8) : AcRo w F (.agg #[.int .i64 k, .int .i64 h, .int .i64 t, .int .i64 n, .int .i64 ck, .int .i64 ch, .int .i64 ct, .int .i64 cn, .int .i64 cc, .slice none 0 0, .slice none 0 0, .string ⟨x.toArray⟩]) ⟨k, h, t, n, ⟨ck, ch, ct, cn, cc, [], [], x⟩⟩ :=
 ⟨_, _, rfl, ⟨LabAt.nil _ _ _ (fun _ => rfl), fun h => absurd h (by simp)⟩, ⟨IntsAt.nil _ _ _ (fun _ => rfl), fun h => absurd h (by simp)⟩⟩
theorem Below.trans' {B : Nat} {a b c : World} (h : Below B a b) (k : Below B b c) : Below B a c := ⟨k.os.trans h.os, k.tape.trans h.tape, k.output.trans h.output, Nat.le_trans h.size k.size, fun i hi => by rw [k.block i hi, h.block i hi]⟩
theorem CStep.low {cb B : Nat} {w w' : World} {F G : List Nat} {Z Z' : CluV} {C : Clu} (h : CStep cb w F Z w' G Z') (hc : CluAt w cb F Z C) (hF : ∀ k ∈ F, B ≤ k) (hB : B ≤ w.heap.size) : Below B w w' ∧ ∀ k ∈ G, B ≤ k := by
 have hk := h.keptF hc
 refine ⟨⟨hk.os, hk.tape, hk.output, hk.size, fun k hk' => hk.block k (by omega) (fun e => by have := hF k e; omega)⟩, fun k hk' => ?_⟩
 rcases h.more.2 k hk' with e | e
 · exact hF k e
 · omega
set_option maxRecDepth 100000 in
set_option maxHeartbeats 3200000 in
theorem Qgv (w : World) : Calls Tryz.prog 25 #[] w fun e w' => e = .returned (.bool true) ∧ Below w.heap.size w w' := by
 have HA := hid QkK
 have HB := hid Qje
 go_enter Tryz.func25, Tryz.ntmps25
 go_wp2_with fail
 refine (Qdk w).mono ?_
 rintro e w1 ⟨rfl, ⟨kp, F, hc1, hF⟩, hw1⟩
 have hdo := Qda _ F _ freshClu _ aliveA w1 hc1 QbA (Qfj w1 F 1 2 0 0 1 0 0 0 0 [])
 have HC1 := hid hc1
 generalize hr1 : doC freshClu aliveA = R1 at *
 obtain ⟨C1, r1⟩ := R1
 simp only at hdo
 have HG1 : Hid (GoodC C1) := hid (by have := Qbv QbA aliveA; rw [hr1] at this; exact this)
 clear hr1
 go_wp2_with fail
 refine hdo.mono ?_
 rintro e w2 ⟨rfl, G2, Z2, hc2, hs2⟩
 obtain ⟨hb2, hF2⟩ := hs2.low hc1 hF hw1.size
 have HW2 := hid (Below.trans' hw1 hb2)
 have hbx := Qc w2 (.cells #[.int .i64 r1.code, .int .i64 r1.n, .string ⟨r1.text.toArray⟩] 31)
 have hdo2 := Qda _ G2 Z2 C1 _ aliveB (w2.alloc (.cells #[.int .i64 r1.code, .int .i64 r1.n, .string ⟨r1.text.toArray⟩] 31)) (hc2.below hbx) HG1.out (Qfj _ G2 1 2 0 0 6 1 3 0 0 [104, 105])
 have HX2 := hid (heap_alloc_new w2 (.cells #[.int .i64 r1.code, .int .i64 r1.n, .string ⟨r1.text.toArray⟩] 31))
 have HC2 := hid (hc2.below hbx)
 have HG2 := hid (Qbv HG1.out aliveB)
 have hr40 : r1.n = 40 := HA.out
 have HBX := hid hbx
 clear hdo hs2 hc1 hc2 HC1 HA hbx
 generalize doC C1 aliveB = R2 at *
 obtain ⟨C2, r2⟩ := R2
 obtain ⟨hr0, hn1⟩ : r2.code = 0 ∧ C2.net.length = 1 := HB.out
 simp only at hdo2
 have HN1 := hid hn1
 have H40 := hid hr40
 have H00 := hid hr0
 clear HB hr40 hr0 hn1
 go_wp2_with fail
 refine hdo2.mono ?_
 rintro e w3 ⟨rfl, G3, Z3, hc3, hs3⟩
 have HX3 := hid (QC hs3 HC2.out HX2.out (by decide) (by decide) (by decide) (by decide) (by decide) (by decide))
 obtain ⟨hb3, hF3⟩ := hs3.low HC2.out hF2 (Nat.le_trans HW2.out.size HBX.out.size)
 have HW3 : Hid (Below w.heap.size w w3) := hid (Below.trans' (Below.trans' HW2.out ⟨HBX.out.os, HBX.out.tape, HBX.out.output, HBX.out.size, fun k hk => HBX.out.block k (Nat.lt_of_lt_of_le hk HW2.out.size)⟩) hb3)
 have hbx3 := Qc w3 (.cells #[.int .i64 r2.code, .int .i64 r2.n, .string ⟨r2.text.toArray⟩] 31)
 have hnet := Qff _ G3 Z3 C2 (w3.alloc (.cells #[.int .i64 r2.code, .int .i64 r2.n, .string ⟨r2.text.toArray⟩] 31)) (hc3.below hbx3) HG2.out.net
 rw [HN1.out] at hnet
 have HX4 := hid (heap_alloc_new w3 (.cells #[.int .i64 r2.code, .int .i64 r2.n, .string ⟨r2.text.toArray⟩] 31))
 have HX5 := hid (Qz HX3.out (.cells #[.int .i64 r2.code, .int .i64 r2.n, .string ⟨r2.text.toArray⟩] 31))
 have HBX3 := hid hbx3
 obtain ⟨a0, a1, a2, _⟩ := cells3 HX4.out
 obtain ⟨d0, d1, d2, _⟩ := cells3 HX5.out
 clear hdo2 hs3 hc3 hb3 hbx3
 go_upto_region 6 with fail
 generalize w3.alloc (.cells #[.int .i64 r2.code, .int .i64 r2.n, .string ⟨r2.text.toArray⟩] 31) = w4 at *
 rw [H40.out] at d1
 rw [H00.out] at a0
 go_wp2_with (go_at_call 12; refine hnet.mono ?_; rintro e w5 ⟨pn, cn, rfl, _, hw5⟩)
 go_ret
 exact ⟨rfl, Qd (Qd HW3.out HBX3.out) hw5⟩
def thrC (C : Clu) (h t : Int) : Thr := if hostB h = true then thrOf (C.ks h.toNat) t else zeroThr
set_option maxRecDepth 100000 in
set_option maxHeartbeats 3200000 in
theorem QcT (cb : Nat) (h t : Int) (F : List Nat) (Z : CluV) (C : Clu) (w : World) (hc : CluAt w cb F Z C) (hg : GoodC C) :
 Calls Tryz.prog 13 #[.pointer (some ⟨cb, 0, none⟩), .int .i64 h, .int .i64 t] w fun e w' => ∃ pl cl po co pj cj pm cm, e = .returned (.agg #[.slice pl (thrC C h t).label.length cl, .slice po (thrC C h t).own.length co, .string ⟨(thrC C h t).text.toArray⟩, .slice pj (thrC C h t).objs.length cj, .slice pm (thrC C h t).mails.length cm]) ∧ ThrNew w' w.heap.size (.slice pl (thrC C h t).label.length cl) (.slice po (thrC C h t).own.length co) (.slice pj (thrC C h t).objs.length cj) (.slice pm (thrC C h t).mails.length cm) (thrC C h t) ∧ Below w.heap.size w w' := by
 have hh := fun wx => Qbi h wx
 have HX0 := hid (heap_alloc_new w (.cells #[.slice none 0 0, .slice none 0 0, .string ⟨#[]⟩, .slice none 0 0, .slice none 0 0] 45))
 have HBB := hid (Qc w (.cells #[.slice none 0 0, .slice none 0 0, .string ⟨#[]⟩, .slice none 0 0, .slice none 0 0] 45))
 have hlt := hc.lt
 cases e1 : hostB h with
 | false =>
  have HT : Hid (thrC C h t = zeroThr) := hid (by unfold thrC; rw [e1]; rfl)
  rw [HT.out]
  rw [e1] at hh
  clear hc hg
  go_enter Tryz.func13, Tryz.ntmps13
  go_wp2_with (go_at_call 31; refine (hh _).mono ?_; rintro e w1 ⟨rfl, hw⟩; rw [hw]; clear hw)
  exact bodyPost_ret (results_cell_row rfl _ _ w.heap.size 45 _ (0, 0) _ rfl HX0.out Tryz.underlying45 rfl (by kernel_rfl)) rfl ⟨none, 0, none, 0, none, 0, none, 0, rfl, Qe1 _ _, HBB.out⟩
 | true =>
  rw [e1] at hh
  obtain ⟨x, hx, x4⟩ : ∃ x : Nat, h = x ∧ x < 4 := by
   have : 0 ≤ h ∧ h < 4 := of_decide_eq_true e1
   exact ⟨h.toNat, by omega, by omega⟩
  have HT : Hid (thrC C h t = thrOf (C.ks x) t) := hid (by unfold thrC; rw [e1, hx]; simp)
  rw [HT.out]
  subst hx
  have k2 := hc.cker x4
  have hth := fun wx (hb : Below w.heap.size w wx) => QdG (Z.kp x) t F (Z.V x) (C.ks x) wx ((hc.ker x x4).below hb) (hg.ks x x4)
  have i0 : ¬ ((x : Int) < 0) := by omega
  have i1 : ¬ ((4 : Int) ≤ x) := by omega
  have i2 : (x : Int) < 4 := by omega
  have i3 : (0 : Int) ≤ x := by omega
  clear hc hg e1 HT
  generalize thrOf (C.ks x) t = th at *
  go_enter Tryz.func13, Tryz.ntmps13
  go_wp2_with (first
   | (go_at_call 31; refine (hh _).mono ?_; rintro e w1 ⟨rfl, hw⟩; rw [hw]; clear hw)
   | (go_at_call 32; refine (hth _ HBB.out).mono ?_; rintro e w2 ⟨p1, q1, p2, q2, p5, q5, p6, q6, rfl, hn, hw2⟩; have HN := hid hn; have HX := hid (Qe HX0.out hw2); have HB := hid (Qd HBB.out hw2); obtain ⟨b0, b1, b2, b3, b4⟩ : w2.cell? ⟨w.heap.size, 0, none⟩ = some (.slice none 0 0) ∧ w2.cell? ⟨w.heap.size, 1, none⟩ = some (.slice none 0 0) ∧ w2.cell? ⟨w.heap.size, 2, none⟩ = some (.string ⟨#[]⟩) ∧ w2.cell? ⟨w.heap.size, 3, none⟩ = some (.slice none 0 0) ∧ w2.cell? ⟨w.heap.size, 4, none⟩ = some (.slice none 0 0) := ⟨Qa HX.out 0, Qa HX.out 1, Qa HX.out 2, Qa HX.out 3, Qa HX.out 4⟩; have f0 := Qb HX.out 0; have f1 := Qb HX.out 1; have f2 := Qb HX.out 2; have f3 := Qb HX.out 3; have f4 := Qb HX.out 4; clear hn hw2))
  have hW := Qb7 (.slice p1 th.label.length q1) (.slice p2 th.own.length q2) (.string ⟨th.text.toArray⟩) (.slice p5 th.objs.length q5) (.slice p6 th.mails.length q6) HX.out
  have hS := QbI w2 w.heap.size (.slice p1 th.label.length q1) (.slice p2 th.own.length q2) (.string ⟨th.text.toArray⟩) (.slice p5 th.objs.length q5) (.slice p6 th.mails.length q6)
  have hb7 := HB.out.grown hS HB.out.size (fun k hk => by cases hk; exact Nat.le_refl _)
  have hn := (HN.out.base HBB.out.size).keep (R := [w.heap.size]) (fun k hk => .inr ⟨_, _, by simp at hk; subst hk; exact HX.out, by decide, by decide, by decide, by decide⟩) (QP hS fun k e => .inl (by have := Option.some.inj e; simp; omega))
  exact bodyPost_ret (results_cell_row rfl _ _ w.heap.size 45 _ (0, 0) _ rfl hW Tryz.underlying45 rfl (by kernel_rfl)) rfl ⟨_, _, _, _, _, _, _, _, rfl, hn, hb7⟩
theorem Qeh {w w' : World} {G : List Nat} {v : Value} {l : List (Int × Int)} (h : LabAt w v l) (hG : ∀ k ∈ G, w.heap.size ≤ k) (h' : LabAt w' v l) : RoLab w' G v l := ⟨h', fun h0 k hk hn => by
 obtain ⟨p, cap, rfl, _, _, hc⟩ := h
 obtain ⟨b, o, rfl, hcs⟩ := hc h0
 cases hk
 have h1 : b < w.heap.size := Qf (hcs 0 h0).1
 have h2 : w.heap.size ≤ b := hG _ hn
 omega⟩
theorem Qdq {w w' : World} {G : List Nat} {v : Value} {l : List Int} (h : IntsAt w v l) (hG : ∀ k ∈ G, w.heap.size ≤ k) (h' : IntsAt w' v l) : RoInts w' G v l := ⟨h', fun h0 k hk hn => by
 obtain ⟨p, cap, rfl, _, _, hc⟩ := h
 obtain ⟨b, o, rfl, hcs⟩ := hc h0
 cases hk
 have h1 : b < w.heap.size := Qf (hcs 0 h0)
 have h2 : w.heap.size ≤ b := hG _ hn
 omega⟩
theorem Qds : ∀ (l : List Ac) (C : Clu) (a : Ac), playC C (l ++ [a]) = (doC (playC C l) a).1
 | [], _, _ => rfl
 | b :: r, C, a => Qds r (doC C b).1 a
theorem Qdt : ∀ (l : List Ac) {C : Clu} (_ : GoodC C), GoodC (playC C l)
 | [], _, h => h
 | a :: r, _, h => Qdt r (Qbv h a)
theorem Qib {C : Clu} (h : GoodC C) (x t : Int) : GoodT (thrC C x t) := by
 unfold thrC
 split
 · rename_i h1
   have h2 : 0 ≤ x ∧ x < 4 := of_decide_eq_true h1
   have hk := h.ks x.toNat (by omega)
   unfold thrOf
   cases ht : getT (C.ks x.toNat) t with
   | none => exact Qcq
   | some th =>
    obtain ⟨n, _, hn, e⟩ := Qai ht
    exact hk.ths th (e ▸ List.getElem_mem hn)
 · exact Qcq
theorem Qe9 {m : Mal} (h : mailE m = 0) : m.label.length ≤ 8 ∧ m.grants.length ≤ 8 := by
 unfold mailE at h
 split at h
 · rename_i h1
   simp only [Bool.and_eq_true] at h1
   exact ⟨((Qax _).1 h1.1.2).1, (of_decide_eq_true h1.2).1⟩
 · cases h
theorem CluAt.anyF {w : World} {cb : Nat} {F G : List Nat} {kp : Nat → Nat} (h : CluAt w cb F (zeroZ kp) freshClu) (hF : ∀ k ∈ F, k ∈ G) (hG : ∀ k ∈ G, k < w.heap.size) : CluAt w cb G (zeroZ kp) freshClu := by
 refine ⟨h.box, fun x hx => (h.ker x hx).anyF (hF _ (h.ker x hx).kbF) hG, fun x hx => ?_, fun x y hx hy => ?_, h.seen, h.net, h.kps, h.rows, hF _ h.cbF, fun k hk => hF k (h.netF k hk), hG⟩
 · exact ⟨(h.crt x hx).1, fun e => absurd e (by simp [freshClu])⟩
 · obtain ⟨q, h1, h2, h3, h4⟩ := h.snt x y hx hy
   have hq : q = [] := by
    have : q.map (·.s) = [] := h1
    simpa using this
   subst hq
   exact ⟨[], h1, fun _ h => (by cases h), h3, fun e => absurd e (by simp)⟩
def NBox (w : World) (B : Nat) (ty : TypeId) (n : Nat) (f : Nat → Int) : Prop := ∃ A, w.heap[B]? = some (.cells A ty (0, 0)) ∧ A.size = n ∧ ∀ i, i < n → A[i]? = some (.int .i64 (f i))
theorem NBox.below {w w' : World} {B n : Nat} {ty : TypeId} {f : Nat → Int} (h : NBox w B ty n f) (hb : Below w.heap.size w w') : NBox w' B ty n f := by
 obtain ⟨A, h1, h2, h3⟩ := h
 exact ⟨A, Qe h1 hb, h2, h3⟩
theorem NBox.lt {w : World} {B n : Nat} {ty : TypeId} {f : Nat → Int} (h : NBox w B ty n f) : B < w.heap.size := by
 obtain ⟨A, h1, _⟩ := h
 exact Qu h1
theorem NBox.cell {w : World} {B n : Nat} {ty : TypeId} {f : Nat → Int} (h : NBox w B ty n f) (i : Nat) (hi : i < n) : w.cell? ⟨B, i, none⟩ = some (.int .i64 (f i)) ∧ w.frozen? ⟨B, i, none⟩ = false := by
 obtain ⟨A, h1, h2, h3⟩ := h
 exact ⟨(Qa h1 i).trans (h3 i hi), Qb h1 i⟩
theorem NBox.set {w : World} {B n : Nat} {ty : TypeId} {f : Nat → Int} (h : NBox w B ty n f) (i : Nat) (hi : i < n) (x : Int) : NBox (w.setCell ⟨B, i, none⟩ (.int .i64 x)) B ty n (fun j => if j = i then x else f j) := by
 obtain ⟨A, h1, h2, h3⟩ := h
 refine ⟨_, heap_setCell h1 _, by simpa using h2, fun j hj => ?_⟩
 simp only
 by_cases e : j = i
 · subst e
   rw [if_pos rfl, Array.getElem?_setIfInBounds_self_of_lt (by omega)]
 · rw [if_neg e, Array.getElem?_setIfInBounds_ne (Ne.symm e)]
   exact h3 j hj
theorem NBox.other {w : World} {B B' j n : Nat} {ty : TypeId} {f : Nat → Int} (h : NBox w B ty n f) (hne : B ≠ B') (u : Value) : NBox (w.setCell ⟨B', j, none⟩ u) B ty n f := by
 obtain ⟨A, h1, h2, h3⟩ := h
 exact ⟨A, Qm h1 hne (Qg w B' j u), h2, h3⟩
theorem NBox.congr {w : World} {B n : Nat} {ty : TypeId} {f g : Nat → Int} (h : NBox w B ty n f) (e : ∀ i, i < n → f i = g i) : NBox w B ty n g := by
 obtain ⟨A, h1, h2, h3⟩ := h
 exact ⟨A, h1, h2, fun i hi => by rw [← e i hi]; exact h3 i hi⟩
def FarT (t : TypeId) : Prop := (123 : Nat) ≠ t ∧ (3 : Nat) ≠ t ∧ (56 : Nat) ≠ t ∧ (50 : Nat) ≠ t ∧ (88 : Nat) ≠ t ∧ (9 : Nat) ≠ t
instance (t : TypeId) : Decidable (FarT t) := by unfold FarT; infer_instance
theorem NBox.step {w w' : World} {cb B n : Nat} {F G : List Nat} {Z Z' : CluV} {C : Clu} {ty : TypeId} {f : Nat → Int} (h : NBox w B ty n f) (hs : CStep cb w F Z w' G Z') (hc : CluAt w cb F Z C) (ht : FarT ty) : NBox w' B ty n f := by
 obtain ⟨A, h1, h2, h3⟩ := h
 exact ⟨A, QC hs hc h1 ht.1 ht.2.1 ht.2.2.1 ht.2.2.2.1 ht.2.2.2.2.1 ht.2.2.2.2.2, h2, h3⟩
theorem KeptF.more {F : List Nat} {a b c : World} (h : KeptF F a b) (hb : Below b.heap.size b c) : KeptF F a c := h.trans ((Qx [] hb).sub (fun _ e => by cases e))
theorem KeptF.put {F : List Nat} {a b : World} (h : KeptF F a b) {B j : Nat} (hB : B ∈ F) (u : Value) : KeptF F a (b.setCell ⟨B, j, none⟩ u) :=
 ⟨h.os, h.tape, h.output, by have := h.size; simpa using this, fun k hk hn => by rw [Below.heap_setCell b _ _ k (fun e => hn (by rw [show k = B from e]; exact hB)), h.block k hk hn]⟩
structure Two (w : World) (F : List Nat) (a : Nat) (Za : CluV) (A : Clu) (b : Nat) (Zb : CluV) (B : Clu) : Prop where
 one : CluAt w a F Za A
 two : CluAt w b F Zb B
 apart : ∀ k ∈ cownL a Za, k ∉ cownL b Zb
theorem Two.symm {w : World} {F : List Nat} {a b : Nat} {Za Zb : CluV} {A B : Clu} (h : Two w F a Za A b Zb B) : Two w F b Zb B a Za A := ⟨h.two, h.one, fun k hk e => h.apart k e hk⟩
theorem Two.below {w w' : World} {F : List Nat} {a b : Nat} {Za Zb : CluV} {A B : Clu} (h : Two w F a Za A b Zb B) (hb : Below w.heap.size w w') : Two w' F a Za A b Zb B := ⟨h.one.below hb, h.two.below hb, h.apart⟩
theorem Two.step {w w' : World} {F G : List Nat} {a b : Nat} {Za Za' Zb : CluV} {A A' B : Clu} (h : Two w F a Za A b Zb B) (hs : CStep a w F Za w' G Za') (hc : CluAt w' a G Za' A') : Two w' G a Za' A' b Zb B :=
 ⟨hc, h.two.keep hs.kept (fun k hk => h.one.ownF k hk) hs.more (fun k hk e => h.apart k e hk) hc.fin, fun k hk e => by
  rcases hs.own k hk with g | g
  · exact h.apart k g e
  · have := h.two.fin k (h.two.ownF k e)
    omega⟩
theorem QcJ {w : World} {b j : Nat} {A : Array Value} {t : TypeId} (h : w.heap[b]? = some (.cells A t (0, 0))) (v : Value) : (w.setCell ⟨b, j, none⟩ v).heap[b]? = some (.cells (A.setIfInBounds j v) t (0, 0)) := heap_setCell h v
theorem Qah {w : World} {B n cap s : Nat} {t : TypeId} {p : Option Addr} {xs : List Value} (h : w.ownsRow B t s (.slice p n cap) n xs) (h0 : 0 < n) : ∃ (g : Nat) (A : Array Value), p = some ⟨g, 0, none⟩ ∧ B ≤ g ∧ w.heap[g]? = some (.cells A t (0, 0)) ∧ n * s ≤ A.size := by
 rcases h.2 with ⟨_, e⟩ | ⟨g, cap', cur, e, h1, h2, h3, _, h4, _⟩
 · omega
 · cases e
   exact ⟨g, cur, rfl, h1, h2, by rw [h4]; exact Nat.mul_le_mul_right s h3⟩
theorem Qku {w : World} {B n cap s : Nat} {t : TypeId} {p : Option Addr} {xs : List Value} (h : w.ownsRow B t s (.slice p n cap) n xs) : n ≤ maxLen := by
 rcases h.2 with ⟨_, e⟩ | ⟨g, cap', cur, e, _, _, h3, h5, _⟩
 · omega
 · exact Nat.le_trans h3 h5
def RowS (w : World) (g : Nat) (t : TypeId) (n : Nat) : Prop := ∃ A, w.heap[g]? = some (.cells A t (0, 0)) ∧ n ≤ A.size
theorem RowS.put {w : World} {g n j : Nat} {t : TypeId} (h : RowS w g t n) (v : Value) : RowS (w.setCell ⟨g, j, none⟩ v) g t n := by
 obtain ⟨A, h1, h2⟩ := h
 exact ⟨_, QcJ h1 v, by rw [Array.size_setIfInBounds]; exact h2⟩
theorem RowS.cell {w : World} {g n : Nat} {t : TypeId} (h : RowS w g t n) (j : Nat) (hj : j < n) : (∃ u, w.cell? ⟨g, j, none⟩ = some u) ∧ w.frozen? ⟨g, j, none⟩ = false := by
 obtain ⟨A, h1, h2⟩ := h
 exact ⟨⟨A[j]'(by omega), (Qa h1 j).trans (Array.getElem?_eq_getElem _)⟩, Qb h1 j⟩
theorem RowS.lt {w : World} {g n : Nat} {t : TypeId} (h : RowS w g t n) : g < w.heap.size := by
 obtain ⟨A, h1, _⟩ := h
 exact Qu h1
theorem RowS.below {w w' : World} {g n : Nat} {t : TypeId} (h : RowS w g t n) (hb : Below w.heap.size w w') : RowS w' g t n := by
 obtain ⟨A, h1, h2⟩ := h
 exact ⟨A, Qe h1 hb, h2⟩
structure Spo (w0 w : World) : Prop where
 blk : ∀ (k : Nat) (A : Array Value) (t : TypeId), w0.heap[k]? = some (.cells A t (0, 0)) → ∃ A' : Array Value, w.heap[k]? = some (.cells A' t (0, 0)) ∧ A'.size = A.size ∧ (t ≠ (54 : Nat) → t ≠ (3 : Nat) → ∀ j, (t = (56 : Nat) → j % 2 = 0) → A'[j]? = A[j]?)
theorem Spo.refl (w : World) : Spo w w := ⟨fun _ A _ h => ⟨A, h, rfl, fun _ _ _ _ => rfl⟩⟩
theorem Spo.cell {w0 w : World} {b j : Nat} {A : Array Value} {t : TypeId} (h : Spo w0 w) (hA : w0.heap[b]? = some (.cells A t (0, 0))) (h1 : t ≠ (54 : Nat)) (h2 : t ≠ (3 : Nat)) (h3 : t = (56 : Nat) → j % 2 = 0) : w.cell? ⟨b, j, none⟩ = w0.cell? ⟨b, j, none⟩ := by
 obtain ⟨A', g1, _, g2⟩ := h.blk b A t hA
 rw [Qa g1 j, Qa hA j]
 exact g2 h1 h2 j h3
theorem Spo.row {w0 w : World} {b n : Nat} {A : Array Value} {t : TypeId} (h : Spo w0 w) (hA : w0.heap[b]? = some (.cells A t (0, 0))) (hn : n ≤ A.size) : RowS w b t n := by
 obtain ⟨A', g1, g2, _⟩ := h.blk b A t hA
 exact ⟨A', g1, by omega⟩
theorem Spo.put {w0 w : World} {b j : Nat} {A : Array Value} {t : TypeId} (h : Spo w0 w) (hA : w0.heap[b]? = some (.cells A t (0, 0))) (ht : t = (54 : Nat) ∨ t = (3 : Nat) ∨ (t = (56 : Nat) ∧ j % 2 = 1)) (v : Value) : Spo w0 (w.setCell ⟨b, j, none⟩ v) := by
 refine ⟨fun k A1 t1 hk => ?_⟩
 obtain ⟨A', g1, g2, g3⟩ := h.blk k A1 t1 hk
 by_cases e : k = b
 · subst e
   rw [hA] at hk
   cases hk
   refine ⟨_, QcJ g1 v, by rw [Array.size_setIfInBounds]; exact g2, fun n1 n2 i hi => ?_⟩
   rcases ht with ht | ht | ⟨ht, ho⟩
   · exact absurd ht n1
   · exact absurd ht n2
   · have := hi ht
     rw [Array.getElem?_setIfInBounds_ne (by omega)]
     exact g3 n1 n2 i hi
 · exact ⟨A', Qm g1 e (Qg w b j v), g2, g3⟩
theorem Qar {w0 w : World} {b j : Nat} (h : Below w0.heap.size w0 w) (hb : w0.heap.size ≤ b) (v : Value) : Below w0.heap.size w0 (w.setCell ⟨b, j, none⟩ v) := h.grown (Qg w b j v) h.size (fun k hk => by have := Option.some.inj hk; omega)
theorem QhA (v : Value) (l : List Crt) (w : World) (hv : CrtsAt w v l) :
 Calls Tryz.prog 40 #[v] w fun e w' => ∃ v', e = .returned v' ∧ w'.ownsRow w.heap.size 60 4 v' l.length (flat4 l) ∧ Below w.heap.size w w' := by
 obtain ⟨p, cap, rfl, hlc, hcap, hcells⟩ := hv
 cases p with
 | none =>
  have h0 : l = [] := by
   have := hlc.2 rfl
   exact List.length_eq_zero_iff.1 (by omega)
  subst h0
  refine (QcW 0 cap w).mono ?_
  rintro e w' ⟨rfl, rfl⟩
  exact ⟨_, rfl, World.ownsRow_nil _ _ _ _, Below.refl _ _⟩
 | some a =>
  refine (QcV a l.length cap (flat4 l) w (QaA l) hcap (fun j u hu => ?_) (Qbh l)).mono ?_
  · have hj := (List.getElem?_eq_some_iff.1 hu).1
    rw [QaA] at hj
    obtain ⟨b, o, e, hc⟩ := hcells (by omega)
    cases e
    exact Qb1 hc j u hu
  · rintro e w' ⟨v', rfl, h1, h2⟩
    exact ⟨v', rfl, h1, h2⟩
set_option maxRecDepth 100000 in
theorem QhF (cb x : Nat) (x4 : x < 4) (F : List Nat) (Z : CluV) (C : Clu) (w : World) (hc : CluAt w cb F Z C) :
 Calls Tryz.prog 18 #[.pointer (some ⟨cb, 0, none⟩), .int .i64 x] w fun e w' => ∃ n p c, e = .returned (.slice p n c) ∧ w'.ownsRow w.heap.size 60 4 (.slice p n c) n (flat4 (C.certs x)) ∧ Below w.heap.size w w' := by
 have hh := fun wx => Qbi (x : Int) wx
 rw [show hostB (x : Int) = true from decide_eq_true ⟨by omega, by omega⟩] at hh
 have k6 := hc.ccrt x4
 have hcl := QhA (Z.vc x) (C.certs x) w (hc.crt x x4).1
 obtain ⟨p, cap, hvc, _⟩ := id (hc.crt x x4).1
 rw [hvc] at k6 hcl
 have hlt := hc.lt
 have i0 : ¬ ((x : Int) < 0) := by omega
 have i1 : ¬ ((4 : Int) ≤ x) := by omega
 have i2 : (x : Int) < 4 := by omega
 have i3 : (0 : Int) ≤ x := by omega
 clear hc hvc
 generalize C.certs x = l at *
 go_enter Tryz.func18, Tryz.ntmps18
 go_wp2_with (first
  | (go_at_call 31; refine (hh _).mono ?_; rintro e w1 ⟨rfl, hw⟩; rw [hw]; clear hw)
  | (go_at_call 40; refine hcl.mono ?_; rintro e w2 ⟨v2, rfl, hv2, hw2⟩; obtain ⟨p2, c2, e2⟩ := Qo hv2; subst e2))
 go_ret
 exact ⟨_, p2, c2, rfl, hv2, hw2⟩
set_option linter.unusedSimpArgs false in
set_option maxRecDepth 100000 in
set_option maxHeartbeats 12800000 in
theorem QdI (B1 B2 : Nat) (th : Thr) (pl1 po1 pj1 pm1 pl2 po2 pj2 pm2 : Option Addr) (cl1 co1 cj1 cm1 cl2 co2 cj2 cm2 : Nat) (w : World) (h1 : ThrNew w B1 (.slice pl1 th.label.length cl1) (.slice po1 th.own.length co1) (.slice pj1 th.objs.length cj1) (.slice pm1 th.mails.length cm1) th) (h2 : ThrNew w B2 (.slice pl2 th.label.length cl2) (.slice po2 th.own.length co2) (.slice pj2 th.objs.length cj2) (.slice pm2 th.mails.length cm2) th) (hg : GoodT th) :
 Calls Tryz.prog 15 #[.agg #[.slice pl1 th.label.length cl1, .slice po1 th.own.length co1, .string ⟨th.text.toArray⟩, .slice pj1 th.objs.length cj1, .slice pm1 th.mails.length cm1], .agg #[.slice pl2 th.label.length cl2, .slice po2 th.own.length co2, .string ⟨th.text.toArray⟩, .slice pj2 th.objs.length cj2, .slice pm2 th.mails.length cm2]] w fun e w' => e = .returned (.bool true) ∧ Below w.heap.size w w' := by
 have hb0 : Below w.heap.size w ((w.alloc (.cells #[.slice pl1 th.label.length cl1, .slice po1 th.own.length co1, .string ⟨th.text.toArray⟩, .slice pj1 th.objs.length cj1, .slice pm1 th.mails.length cm1] 45)).alloc (.cells #[.slice pl2 th.label.length cl2, .slice po2 th.own.length co2, .string ⟨th.text.toArray⟩, .slice pj2 th.objs.length cj2, .slice pm2 th.mails.length cm2] 45)) := (Qc w _).alloc (Qc w _).size _
 have HX1 := hid (heap_alloc2_old w (.cells #[.slice pl1 th.label.length cl1, .slice po1 th.own.length co1, .string ⟨th.text.toArray⟩, .slice pj1 th.objs.length cj1, .slice pm1 th.mails.length cm1] 45) (.cells #[.slice pl2 th.label.length cl2, .slice po2 th.own.length co2, .string ⟨th.text.toArray⟩, .slice pj2 th.objs.length cj2, .slice pm2 th.mails.length cm2] 45))
 have HX2 := hid (heap_alloc2_new w (.cells #[.slice pl1 th.label.length cl1, .slice po1 th.own.length co1, .string ⟨th.text.toArray⟩, .slice pj1 th.objs.length cj1, .slice pm1 th.mails.length cm1] 45) (.cells #[.slice pl2 th.label.length cl2, .slice po2 th.own.length co2, .string ⟨th.text.toArray⟩, .slice pj2 th.objs.length cj2, .slice pm2 th.mails.length cm2] 45))
 have HT1 := hid (h1.below hb0)
 have HT2 := hid (h2.below hb0)
 have hl8 := hg.label.1
 have hol := hg.own
 have hob := hg.objs
 have hml := hg.mails
 have HGM := hid hg.mail
 have HGO := hid hg.obj
 have hss : sameB th.label th.label = true := (Qcu _ _).2 rfl
 have hsl := fun wx (hb : Below ((w.alloc (.cells #[.slice pl1 th.label.length cl1, .slice po1 th.own.length co1, .string ⟨th.text.toArray⟩, .slice pj1 th.objs.length cj1, .slice pm1 th.mails.length cm1] 45)).alloc (.cells #[.slice pl2 th.label.length cl2, .slice po2 th.own.length co2, .string ⟨th.text.toArray⟩, .slice pj2 th.objs.length cj2, .slice pm2 th.mails.length cm2] 45)).heap.size ((w.alloc (.cells #[.slice pl1 th.label.length cl1, .slice po1 th.own.length co1, .string ⟨th.text.toArray⟩, .slice pj1 th.objs.length cj1, .slice pm1 th.mails.length cm1] 45)).alloc (.cells #[.slice pl2 th.label.length cl2, .slice po2 th.own.length co2, .string ⟨th.text.toArray⟩, .slice pj2 th.objs.length cj2, .slice pm2 th.mails.length cm2] 45)) wx) => Qde _ _ th.label th.label wx ((QT HT1.out.lab (by omega)).below hb) ((QT HT2.out.lab (by omega)).below hb)
 rw [hss] at hsl
 have hsn := fun wx (hb : Below ((w.alloc (.cells #[.slice pl1 th.label.length cl1, .slice po1 th.own.length co1, .string ⟨th.text.toArray⟩, .slice pj1 th.objs.length cj1, .slice pm1 th.mails.length cm1] 45)).alloc (.cells #[.slice pl2 th.label.length cl2, .slice po2 th.own.length co2, .string ⟨th.text.toArray⟩, .slice pj2 th.objs.length cj2, .slice pm2 th.mails.length cm2] 45)).heap.size ((w.alloc (.cells #[.slice pl1 th.label.length cl1, .slice po1 th.own.length co1, .string ⟨th.text.toArray⟩, .slice pj1 th.objs.length cj1, .slice pm1 th.mails.length cm1] 45)).alloc (.cells #[.slice pl2 th.label.length cl2, .slice po2 th.own.length co2, .string ⟨th.text.toArray⟩, .slice pj2 th.objs.length cj2, .slice pm2 th.mails.length cm2] 45)) wx) => Qbq _ _ th.own wx ((QZ HT1.out.own (by omega)).below hb) ((QZ HT2.out.own (by omega)).below hb)
 have HB0 := hid hb0
 clear h1 h2 hg hss hb0
 go_enter Tryz.func15, Tryz.ntmps15
 go_upto_region 1 with fail
 generalize ((w.alloc (.cells #[.slice pl1 th.label.length cl1, .slice po1 th.own.length co1, .string ⟨th.text.toArray⟩, .slice pj1 th.objs.length cj1, .slice pm1 th.mails.length cm1] 45)).alloc (.cells #[.slice pl2 th.label.length cl2, .slice po2 th.own.length co2, .string ⟨th.text.toArray⟩, .slice pj2 th.objs.length cj2, .slice pm2 th.mails.length cm2] 45)) = w0 at *
 have HSB : Hid (∀ w', Below w0.heap.size w0 w' → w'.cell? ⟨w.heap.size, 0, none⟩ = some (.slice pl1 th.label.length cl1) ∧ w'.cell? ⟨w.heap.size, 1, none⟩ = some (.slice po1 th.own.length co1) ∧ w'.cell? ⟨w.heap.size, 2, none⟩ = some (.string ⟨th.text.toArray⟩) ∧ w'.cell? ⟨w.heap.size, 3, none⟩ = some (.slice pj1 th.objs.length cj1) ∧ w'.cell? ⟨w.heap.size, 4, none⟩ = some (.slice pm1 th.mails.length cm1) ∧ w'.cell? ⟨w.heap.size + 1, 0, none⟩ = some (.slice pl2 th.label.length cl2) ∧ w'.cell? ⟨w.heap.size + 1, 1, none⟩ = some (.slice po2 th.own.length co2) ∧ w'.cell? ⟨w.heap.size + 1, 2, none⟩ = some (.string ⟨th.text.toArray⟩) ∧ w'.cell? ⟨w.heap.size + 1, 3, none⟩ = some (.slice pj2 th.objs.length cj2) ∧ w'.cell? ⟨w.heap.size + 1, 4, none⟩ = some (.slice pm2 th.mails.length cm2)) := hid (fun w' hw => ⟨Qa (Qe HX1.out hw) 0, Qa (Qe HX1.out hw) 1, Qa (Qe HX1.out hw) 2, Qa (Qe HX1.out hw) 3, Qa (Qe HX1.out hw) 4, Qa (Qe HX2.out hw) 0, Qa (Qe HX2.out hw) 1, Qa (Qe HX2.out hw) 2, Qa (Qe HX2.out hw) 3, Qa (Qe HX2.out hw) 4⟩)
 obtain ⟨a0, a1, a2, a3, a4, b0, b1, b2, b3, b4⟩ := HSB.out _ (Below.refl _ _)
 go_upto_region 3 with (first
  | (go_at_call 36; refine (hsl _ (Below.refl _ _)).mono ?_; rintro e w1 ⟨rfl, hw1⟩; clear a0 a1 a2 a3 a4 b0 b1 b2 b3 b4; obtain ⟨a0, a1, a2, a3, a4, b0, b1, b2, b3, b4⟩ := HSB.out _ hw1)
  | (go_at_call 37; refine (hsn _ hw1).mono ?_; rintro e w2 ⟨rfl, hw2d⟩; have hw2 := Qd hw1 hw2d; clear hw2d a0 a1 a2 a3 a4 b0 b1 b2 b3 b4; obtain ⟨a0, a1, a2, a3, a4, b0, b1, b2, b3, b4⟩ := HSB.out _ hw2))
 have HB2 := hid hw2
 clear hsl hsn hw1 hw2
 go_wp2_with fail
 go_loopw [49] (fun i wr => ∃ k : Nat, k ≤ th.objs.length ∧ i = .int .i64 k ∧ Below w0.heap.size w0 wr) (fun i _ => th.objs.length - (intOf i).toNat)
 case atStart => exact ⟨0, Nat.zero_le _, rfl, HB2.out⟩
 case round =>
  clear a0 a1 a2 a3 a4 b0 b1 b2 b3 b4 HB2
  obtain ⟨i, hi, rfl, hbr⟩ := hrel
  by_cases hlt : i < th.objs.length
  · have hI : (i : Int) < (th.objs.length : Int) := by omega
    have I0 : (0 : Int) ≤ i := by omega
    obtain ⟨ga, la, ka, e1, c0, c1, o1⟩ := (HT1.out.objs.keep (Qc9 (R := []) (fun k hk => by cases hk)) (Qx _ hbr)).get i hlt
    obtain ⟨gb, lb, kb, e2, d0, d1, o2⟩ := (HT2.out.objs.keep (Qc9 (R := []) (fun k hk => by cases hk)) (Qx _ hbr)).get i hlt
    have hgo := (HGO.out _ (List.getElem_mem hlt)).2.1
    subst e1 e2
    generalize th.objs[i] = x at *
    have hss : sameB x.label x.label = true := (Qcu _ _).2 rfl
    have hsame := fun wx (hb : Below wr.heap.size wr wx) => Qde _ _ x.label x.label wx ((QT o1 (by omega)).below hb) ((QT o2 (by omega)).below hb)
    rw [hss] at hsame
    have HS6 : Hid (∀ w', Below wr.heap.size wr w' → w'.cell? ⟨w.heap.size, 0, none⟩ = some (.slice pl1 th.label.length cl1) ∧ w'.cell? ⟨w.heap.size, 1, none⟩ = some (.slice po1 th.own.length co1) ∧ w'.cell? ⟨w.heap.size, 2, none⟩ = some (.string ⟨th.text.toArray⟩) ∧ w'.cell? ⟨w.heap.size, 3, none⟩ = some (.slice (some ⟨ga, 0, none⟩) th.objs.length cj1) ∧ w'.cell? ⟨w.heap.size, 4, none⟩ = some (.slice pm1 th.mails.length cm1) ∧ w'.cell? ⟨w.heap.size + 1, 0, none⟩ = some (.slice pl2 th.label.length cl2) ∧ w'.cell? ⟨w.heap.size + 1, 1, none⟩ = some (.slice po2 th.own.length co2) ∧ w'.cell? ⟨w.heap.size + 1, 2, none⟩ = some (.string ⟨th.text.toArray⟩) ∧ w'.cell? ⟨w.heap.size + 1, 3, none⟩ = some (.slice (some ⟨gb, 0, none⟩) th.objs.length cj2) ∧ w'.cell? ⟨w.heap.size + 1, 4, none⟩ = some (.slice pm2 th.mails.length cm2) ∧ w'.cell? ⟨ga, i * 2, none⟩ = some (.slice la x.label.length ka) ∧ w'.cell? ⟨ga, i * 2 + 1, none⟩ = some (.string ⟨x.text.toArray⟩) ∧ w'.cell? ⟨gb, i * 2, none⟩ = some (.slice lb x.label.length kb) ∧ w'.cell? ⟨gb, i * 2 + 1, none⟩ = some (.string ⟨x.text.toArray⟩)) := hid (fun w' hw => by
     obtain ⟨q0, q1, q2, q3, q4, r0, r1, r2, r3, r4⟩ := HSB.out _ (Qd hbr hw)
     exact ⟨q0, q1, q2, q3, q4, r0, r1, r2, r3, r4, (hw.cell (Qf c0)).trans c0, (hw.cell (Qf c1)).trans c1, (hw.cell (Qf d0)).trans d0, (hw.cell (Qf d1)).trans d1⟩)
    clear o1 o2 c0 c1 d0 d1 hss
    have htt : (x.text.toArray == x.text.toArray) = true := by simp
    go_upto_region 6 with fail
    refine wp_region_held_drew (S := (fun w' => w'.cell? ⟨w.heap.size, 0, none⟩ = some (.slice pl1 th.label.length cl1) ∧ w'.cell? ⟨w.heap.size, 1, none⟩ = some (.slice po1 th.own.length co1) ∧ w'.cell? ⟨w.heap.size, 2, none⟩ = some (.string ⟨th.text.toArray⟩) ∧ w'.cell? ⟨w.heap.size, 3, none⟩ = some (.slice (some ⟨ga, 0, none⟩) th.objs.length cj1) ∧ w'.cell? ⟨w.heap.size, 4, none⟩ = some (.slice pm1 th.mails.length cm1) ∧ w'.cell? ⟨w.heap.size + 1, 0, none⟩ = some (.slice pl2 th.label.length cl2) ∧ w'.cell? ⟨w.heap.size + 1, 1, none⟩ = some (.slice po2 th.own.length co2) ∧ w'.cell? ⟨w.heap.size + 1, 2, none⟩ = some (.string ⟨th.text.toArray⟩) ∧ w'.cell? ⟨w.heap.size + 1, 3, none⟩ = some (.slice (some ⟨gb, 0, none⟩) th.objs.length cj2) ∧ w'.cell? ⟨w.heap.size + 1, 4, none⟩ = some (.slice pm2 th.mails.length cm2) ∧ w'.cell? ⟨ga, i * 2, none⟩ = some (.slice la x.label.length ka) ∧ w'.cell? ⟨ga, i * 2 + 1, none⟩ = some (.string ⟨x.text.toArray⟩) ∧ w'.cell? ⟨gb, i * 2, none⟩ = some (.slice lb x.label.length kb) ∧ w'.cell? ⟨gb, i * 2 + 1, none⟩ = some (.string ⟨x.text.toArray⟩))) (by as_aux_lemma => kernel_rfl) (HS6.out _ (Below.refl _ _).drew) (fun _hHeld => ?_)
    refine takeF 0 52 ?v1 rfl (Or.inl ⟨by rfl, ?hy1⟩) ?rest1
    case hy1 => intro wz hSw; (try dsimp only at hSw); go_simp; try with_reducible rfl
    simp only [Act.put, List.setIfInBounds_toArray, List.set_cons_zero, List.set_cons_succ]
    refine takeF 1 53 ?v2 rfl (Or.inl ⟨by rfl, ?hy2⟩) ?rest2
    case hy2 => intro wz hSw; (try dsimp only at hSw); go_simp; try with_reducible rfl
    simp only [Act.put, List.setIfInBounds_toArray, List.set_cons_zero, List.set_cons_succ]
    refine takeF 2 54 ?v3 rfl (Or.inl ⟨by rfl, ?hy3⟩) ?rest3
    case hy3 => intro wz hSw; (try dsimp only at hSw); go_simp; try with_reducible rfl
    simp only [Act.put, List.setIfInBounds_toArray, List.set_cons_zero, List.set_cons_succ]
    refine takeF 3 55 ?v4 rfl (Or.inl ⟨by rfl, ?hy4⟩) ?rest4
    case hy4 => intro wz hSw; (try dsimp only at hSw); go_simp; try with_reducible rfl
    simp only [Act.put, List.setIfInBounds_toArray, List.set_cons_zero, List.set_cons_succ]
    refine takeF 4 56 ?v5 rfl (Or.inl ⟨by rfl, ?hy5⟩) ?rest5
    case hy5 => intro wz hSw; (try dsimp only at hSw); go_simp; try with_reducible rfl
    simp only [Act.put, List.setIfInBounds_toArray, List.set_cons_zero, List.set_cons_succ]
    refine takeF 5 57 ?v6 rfl (Or.inl ⟨by rfl, ?hy6⟩) ?rest6
    case hy6 => intro wz hSw; (try dsimp only at hSw); go_simp; try with_reducible rfl
    simp only [Act.put, List.setIfInBounds_toArray, List.set_cons_zero, List.set_cons_succ]
    refine takeF 6 58 ?v7 rfl (Or.inl ⟨by rfl, ?hy7⟩) ?rest7
    case hy7 => intro wz hSw; (try dsimp only at hSw); go_simp; try with_reducible rfl
    simp only [Act.put, List.setIfInBounds_toArray, List.set_cons_zero, List.set_cons_succ]
    refine takeF 7 59 ?v8 rfl (Or.inl ⟨by rfl, ?hy8⟩) ?rest8
    case hy8 => intro wz hSw; (try dsimp only at hSw); go_simp; try with_reducible rfl
    simp only [Act.put, List.setIfInBounds_toArray, List.set_cons_zero, List.set_cons_succ]
    refine takeF 8 60 ?v9 rfl (Or.inl ⟨by rfl, ?hy9⟩) ?rest9
    case hy9 => intro wz hSw; (try dsimp only at hSw); go_simp; try with_reducible rfl
    simp only [Act.put, List.setIfInBounds_toArray, List.set_cons_zero, List.set_cons_succ]
    refine takeF 9 61 ?v10 rfl (Or.inl ⟨by rfl, ?hy10⟩) ?rest10
    case hy10 => intro wz hSw; (try dsimp only at hSw); go_simp; try with_reducible rfl
    simp only [Act.put, List.setIfInBounds_toArray, List.set_cons_zero, List.set_cons_succ]
    refine takeF 10 62 ?v11 rfl (Or.inl ⟨by rfl, ?hy11⟩) ?rest11
    case hy11 => intro wz hSw; (try dsimp only at hSw); go_simp; try with_reducible rfl
    simp only [Act.put, List.setIfInBounds_toArray, List.set_cons_zero, List.set_cons_succ]
    refine takeF 11 63 ?v12 rfl (Or.inl ⟨by rfl, ?hy12⟩) ?rest12
    case hy12 => intro wz hSw; (try dsimp only at hSw); go_simp; try with_reducible rfl
    simp only [Act.put, List.setIfInBounds_toArray, List.set_cons_zero, List.set_cons_succ]
    refine takeF 12 64 ?v13 rfl (Or.inl ⟨by rfl, ?hy13⟩) ?rest13
    case hy13 => intro wz hSw; (try dsimp only at hSw); go_simp; try with_reducible rfl
    simp only [Act.put, List.setIfInBounds_toArray, List.set_cons_zero, List.set_cons_succ]
    refine takeF 13 65 ?v14 rfl (Or.inl ⟨by rfl, ?hy14⟩) ?rest14
    case hy14 => intro wz hSw; (try dsimp only at hSw); go_simp; try with_reducible rfl
    simp only [Act.put, List.setIfInBounds_toArray, List.set_cons_zero, List.set_cons_succ]
    refine takeF 14 66 ?v15 rfl (Or.inl ⟨by rfl, ?hy15⟩) ?rest15
    case hy15 => intro wz hSw; (try dsimp only at hSw); go_simp; try with_reducible rfl
    simp only [Act.put, List.setIfInBounds_toArray, List.set_cons_zero, List.set_cons_succ]
    refine takeF 15 67 ?v16 rfl (Or.inl ⟨by rfl, ?hy16⟩) ?rest16
    case hy16 => intro wz hSw; (try dsimp only at hSw); go_simp; try with_reducible rfl
    simp only [Act.put, List.setIfInBounds_toArray, List.set_cons_zero, List.set_cons_succ]
    refine takeF 16 68 ?v17 rfl (Or.inl ⟨by rfl, ?hy17⟩) ?rest17
    case hy17 => intro wz hSw; (try dsimp only at hSw); go_simp; try with_reducible rfl
    simp only [Act.put, List.setIfInBounds_toArray, List.set_cons_zero, List.set_cons_succ]
    refine takeF 17 69 ?v18 rfl (Or.inl ⟨by rfl, ?hy18⟩) ?rest18
    case hy18 => intro wz hSw; (try dsimp only at hSw); go_simp; try with_reducible rfl
    simp only [Act.put, List.setIfInBounds_toArray, List.set_cons_zero, List.set_cons_succ]
    refine takeF 18 70 ?v19 rfl (Or.inl ⟨by rfl, ?hy19⟩) ?rest19
    case hy19 => intro wz hSw; (try dsimp only at hSw); go_simp; try with_reducible rfl
    simp only [Act.put, List.setIfInBounds_toArray, List.set_cons_zero, List.set_cons_succ]
    refine takeF 19 71 ?v20 rfl (Or.inl ⟨by rfl, ?hy20⟩) ?rest20
    case hy20 => intro wz hSw; (try dsimp only at hSw); go_simp; try with_reducible rfl
    simp only [Act.put, List.setIfInBounds_toArray, List.set_cons_zero, List.set_cons_succ]
    refine takeF 20 72 ?v21 rfl (Or.inl ⟨by rfl, ?hy21⟩) ?rest21
    case hy21 => intro wz hSw; (try dsimp only at hSw); go_simp; try with_reducible rfl
    simp only [Act.put, List.setIfInBounds_toArray, List.set_cons_zero, List.set_cons_succ]
    refine takeF 21 73 ?v22 rfl (Or.inl ⟨by rfl, ?hy22⟩) ?rest22
    case hy22 => intro wz hSw; (try dsimp only at hSw); go_simp; try with_reducible rfl
    simp only [Act.put, List.setIfInBounds_toArray, List.set_cons_zero, List.set_cons_succ]
    refine takeF 22 74 ?v23 rfl (Or.inl ⟨by rfl, ?hy23⟩) ?rest23
    case hy23 => intro wz hSw; (try dsimp only at hSw); go_simp; try with_reducible rfl
    simp only [Act.put, List.setIfInBounds_toArray, List.set_cons_zero, List.set_cons_succ]
    refine takeF 23 75 ?v24 rfl (Or.inl ⟨by rfl, ?hy24⟩) ?rest24
    case hy24 => intro wz hSw; (try dsimp only at hSw); go_simp; try with_reducible rfl
    simp only [Act.put, List.setIfInBounds_toArray, List.set_cons_zero, List.set_cons_succ]
    refine takeF 24 76 ?v25 rfl (Or.inl ⟨by rfl, ?hy25⟩) ?rest25
    case hy25 => intro wz hSw; (try dsimp only at hSw); go_simp; try with_reducible rfl
    simp only [Act.put, List.setIfInBounds_toArray, List.set_cons_zero, List.set_cons_succ]
    refine takeF 25 77 ?v26 rfl (Or.inl ⟨by rfl, ?hy26⟩) ?rest26
    case hy26 => intro wz hSw; (try dsimp only at hSw); go_simp; try with_reducible rfl
    simp only [Act.put, List.setIfInBounds_toArray, List.set_cons_zero, List.set_cons_succ]
    refine wpAnyH_ready (rs := [26]) (by as_aux_lemma => kernel_rfl) (by simp) ?_
    refine (AllReadyH.cons rfl (fun K' hK => ?_) AllReadyH.nil)
    go_simp
    go_wp2_with (go_at_call 36; refine (hsame _ (Below.refl _ _).drew).mono ?_; rintro e w5 ⟨rfl, hwd⟩)
    have hw5 : Below wr.heap.size wr w5 := ⟨hwd.os, hwd.tape, hwd.output, hwd.size, hwd.block⟩
    clear hwd
    refine hK.out _ _ (HS6.out _ hw5) (fun _ => ?_)
    clear hK K'
    refine takeF 27 79 ?v27 rfl (Or.inl ⟨by rfl, ?hy27⟩) ?rest27
    case hy27 => intro wz hSw; (try dsimp only at hSw); go_simp; try with_reducible rfl
    simp only [Act.put, List.setIfInBounds_toArray, List.set_cons_zero, List.set_cons_succ]
    refine takeF 28 80 ?v28 rfl (Or.inl ⟨by rfl, ?hy28⟩) ?rest28
    case hy28 => intro wz hSw; (try dsimp only at hSw); go_simp; try with_reducible rfl
    simp only [Act.put, List.setIfInBounds_toArray, List.set_cons_zero, List.set_cons_succ]
    refine wpAnyH_done (by as_aux_lemma => kernel_rfl) ?_ _
    go_wp2
    go_roundw
    case rel => exact ⟨i + 1, hlt, by go_num, Qd hbr hw5⟩
    case measure => simp [intOf]; omega
  · have hik : i = th.objs.length := by omega
    subst hik
    obtain ⟨a0, a1, a2, a3, a4, b0, b1, b2, b3, b4⟩ := HSB.out _ hbr
    have HBR := hid hbr
    clear hbr
    go_wp2_with fail
    go_loopw [85] (fun i wr => ∃ k : Nat, k ≤ th.mails.length ∧ i = .int .i64 k ∧ Below w0.heap.size w0 wr) (fun i _ => th.mails.length - (intOf i).toNat)
    case atStart => exact ⟨0, Nat.zero_le _, rfl, HBR.out⟩
    case round =>
     clear a0 a1 a2 a3 a4 b0 b1 b2 b3 b4 HBR
     obtain ⟨i, hi2, rfl, hbr⟩ := hrel
     by_cases hlt : i < th.mails.length
     · have hI : (i : Int) < (th.mails.length : Int) := by omega
       have I0 : (0 : Int) ≤ i := by omega
       obtain ⟨ga, la, ka, na, ma, e1, c0, c1, c2, c3, c4, o1, o1'⟩ := (HT1.out.mails.keep (Qc9 (R := []) (fun k hk => by cases hk)) (Qx _ hbr)).get i hlt
       obtain ⟨gb, lb, kb, nb, mb, e2, d0, d1, d2, d3, d4, o2, o2'⟩ := (HT2.out.mails.keep (Qc9 (R := []) (fun k hk => by cases hk)) (Qx _ hbr)).get i hlt
       have hgm := Qe9 (HGM.out _ (List.getElem_mem hlt))
       subst e1 e2
       generalize th.mails[i] = x at *
       have hsame := fun wx (hb : Below wr.heap.size wr wx) => Qez _ _ x wx ⟨_, _, rfl, (QT o1 (by omega)).below hb, (QZ o1' (by omega)).below hb⟩ ⟨_, _, rfl, (QT o2 (by omega)).below hb, (QZ o2' (by omega)).below hb⟩
       unfold malV at hsame
       have HS12 : Hid (∀ w', Below wr.heap.size wr w' → w'.cell? ⟨w.heap.size, 0, none⟩ = some (.slice pl1 th.label.length cl1) ∧ w'.cell? ⟨w.heap.size, 1, none⟩ = some (.slice po1 th.own.length co1) ∧ w'.cell? ⟨w.heap.size, 2, none⟩ = some (.string ⟨th.text.toArray⟩) ∧ w'.cell? ⟨w.heap.size, 3, none⟩ = some (.slice pj1 th.objs.length cj1) ∧ w'.cell? ⟨w.heap.size, 4, none⟩ = some (.slice (some ⟨ga, 0, none⟩) th.mails.length cm1) ∧ w'.cell? ⟨w.heap.size + 1, 0, none⟩ = some (.slice pl2 th.label.length cl2) ∧ w'.cell? ⟨w.heap.size + 1, 1, none⟩ = some (.slice po2 th.own.length co2) ∧ w'.cell? ⟨w.heap.size + 1, 2, none⟩ = some (.string ⟨th.text.toArray⟩) ∧ w'.cell? ⟨w.heap.size + 1, 3, none⟩ = some (.slice pj2 th.objs.length cj2) ∧ w'.cell? ⟨w.heap.size + 1, 4, none⟩ = some (.slice (some ⟨gb, 0, none⟩) th.mails.length cm2) ∧ w'.cell? ⟨ga, i * 5, none⟩ = some (.int .i64 x.host) ∧ w'.cell? ⟨ga, i * 5 + 1, none⟩ = some (.int .i64 x.thread) ∧ w'.cell? ⟨ga, i * 5 + 2, none⟩ = some (.slice la x.label.length ka) ∧ w'.cell? ⟨ga, i * 5 + 3, none⟩ = some (.slice na x.grants.length ma) ∧ w'.cell? ⟨ga, i * 5 + 4, none⟩ = some (.string ⟨x.text.toArray⟩) ∧ w'.cell? ⟨gb, i * 5, none⟩ = some (.int .i64 x.host) ∧ w'.cell? ⟨gb, i * 5 + 1, none⟩ = some (.int .i64 x.thread) ∧ w'.cell? ⟨gb, i * 5 + 2, none⟩ = some (.slice lb x.label.length kb) ∧ w'.cell? ⟨gb, i * 5 + 3, none⟩ = some (.slice nb x.grants.length mb) ∧ w'.cell? ⟨gb, i * 5 + 4, none⟩ = some (.string ⟨x.text.toArray⟩)) := hid (fun w' hw => by
        obtain ⟨q0, q1, q2, q3, q4, r0, r1, r2, r3, r4⟩ := HSB.out _ (Qd hbr hw)
        exact ⟨q0, q1, q2, q3, q4, r0, r1, r2, r3, r4, (hw.cell (Qf c0)).trans c0, (hw.cell (Qf c1)).trans c1, (hw.cell (Qf c2)).trans c2, (hw.cell (Qf c3)).trans c3, (hw.cell (Qf c4)).trans c4, (hw.cell (Qf d0)).trans d0, (hw.cell (Qf d1)).trans d1, (hw.cell (Qf d2)).trans d2, (hw.cell (Qf d3)).trans d3, (hw.cell (Qf d4)).trans d4⟩)
       clear o1 o2 o1' o2' c0 c1 c2 c3 c4 d0 d1 d2 d3 d4 hgm
       go_upto_region 12 with fail
       refine wp_region_held_drew (S := (fun w' => w'.cell? ⟨w.heap.size, 0, none⟩ = some (.slice pl1 th.label.length cl1) ∧ w'.cell? ⟨w.heap.size, 1, none⟩ = some (.slice po1 th.own.length co1) ∧ w'.cell? ⟨w.heap.size, 2, none⟩ = some (.string ⟨th.text.toArray⟩) ∧ w'.cell? ⟨w.heap.size, 3, none⟩ = some (.slice pj1 th.objs.length cj1) ∧ w'.cell? ⟨w.heap.size, 4, none⟩ = some (.slice (some ⟨ga, 0, none⟩) th.mails.length cm1) ∧ w'.cell? ⟨w.heap.size + 1, 0, none⟩ = some (.slice pl2 th.label.length cl2) ∧ w'.cell? ⟨w.heap.size + 1, 1, none⟩ = some (.slice po2 th.own.length co2) ∧ w'.cell? ⟨w.heap.size + 1, 2, none⟩ = some (.string ⟨th.text.toArray⟩) ∧ w'.cell? ⟨w.heap.size + 1, 3, none⟩ = some (.slice pj2 th.objs.length cj2) ∧ w'.cell? ⟨w.heap.size + 1, 4, none⟩ = some (.slice (some ⟨gb, 0, none⟩) th.mails.length cm2) ∧ w'.cell? ⟨ga, i * 5, none⟩ = some (.int .i64 x.host) ∧ w'.cell? ⟨ga, i * 5 + 1, none⟩ = some (.int .i64 x.thread) ∧ w'.cell? ⟨ga, i * 5 + 2, none⟩ = some (.slice la x.label.length ka) ∧ w'.cell? ⟨ga, i * 5 + 3, none⟩ = some (.slice na x.grants.length ma) ∧ w'.cell? ⟨ga, i * 5 + 4, none⟩ = some (.string ⟨x.text.toArray⟩) ∧ w'.cell? ⟨gb, i * 5, none⟩ = some (.int .i64 x.host) ∧ w'.cell? ⟨gb, i * 5 + 1, none⟩ = some (.int .i64 x.thread) ∧ w'.cell? ⟨gb, i * 5 + 2, none⟩ = some (.slice lb x.label.length kb) ∧ w'.cell? ⟨gb, i * 5 + 3, none⟩ = some (.slice nb x.grants.length mb) ∧ w'.cell? ⟨gb, i * 5 + 4, none⟩ = some (.string ⟨x.text.toArray⟩))) (by as_aux_lemma => kernel_rfl) (HS12.out _ (Below.refl _ _).drew) (fun _hHeld => ?_)
       refine takeF 0 88 ?v29 rfl (Or.inl ⟨by rfl, ?hy29⟩) ?rest29
       case hy29 => intro wz hSw; (try dsimp only at hSw); go_simp; try with_reducible rfl
       simp only [Act.put, List.setIfInBounds_toArray, List.set_cons_zero, List.set_cons_succ]
       refine takeF 1 89 ?v30 rfl (Or.inl ⟨by rfl, ?hy30⟩) ?rest30
       case hy30 => intro wz hSw; (try dsimp only at hSw); go_simp; try with_reducible rfl
       simp only [Act.put, List.setIfInBounds_toArray, List.set_cons_zero, List.set_cons_succ]
       refine takeF 2 90 ?v31 rfl (Or.inl ⟨by rfl, ?hy31⟩) ?rest31
       case hy31 => intro wz hSw; (try dsimp only at hSw); go_simp; try with_reducible rfl
       simp only [Act.put, List.setIfInBounds_toArray, List.set_cons_zero, List.set_cons_succ]
       refine takeF 3 91 ?v32 rfl (Or.inl ⟨by rfl, ?hy32⟩) ?rest32
       case hy32 => intro wz hSw; (try dsimp only at hSw); go_simp; try with_reducible rfl
       simp only [Act.put, List.setIfInBounds_toArray, List.set_cons_zero, List.set_cons_succ]
       refine takeF 4 92 ?v33 rfl (Or.inl ⟨by rfl, ?hy33⟩) ?rest33
       case hy33 => intro wz hSw; (try dsimp only at hSw); go_simp; try with_reducible rfl
       simp only [Act.put, List.setIfInBounds_toArray, List.set_cons_zero, List.set_cons_succ]
       refine takeF 5 93 ?v34 rfl (Or.inl ⟨by rfl, ?hy34⟩) ?rest34
       case hy34 => intro wz hSw; (try dsimp only at hSw); go_simp; try with_reducible rfl
       simp only [Act.put, List.setIfInBounds_toArray, List.set_cons_zero, List.set_cons_succ]
       refine takeF 6 94 ?v35 rfl (Or.inl ⟨by rfl, ?hy35⟩) ?rest35
       case hy35 => intro wz hSw; (try dsimp only at hSw); go_simp; try with_reducible rfl
       simp only [Act.put, List.setIfInBounds_toArray, List.set_cons_zero, List.set_cons_succ]
       refine takeF 7 95 ?v36 rfl (Or.inl ⟨by rfl, ?hy36⟩) ?rest36
       case hy36 => intro wz hSw; (try dsimp only at hSw); go_simp; try with_reducible rfl
       simp only [Act.put, List.setIfInBounds_toArray, List.set_cons_zero, List.set_cons_succ]
       refine takeF 8 96 ?v37 rfl (Or.inl ⟨by rfl, ?hy37⟩) ?rest37
       case hy37 => intro wz hSw; (try dsimp only at hSw); go_simp; try with_reducible rfl
       simp only [Act.put, List.setIfInBounds_toArray, List.set_cons_zero, List.set_cons_succ]
       refine takeF 9 97 ?v38 rfl (Or.inl ⟨by rfl, ?hy38⟩) ?rest38
       case hy38 => intro wz hSw; (try dsimp only at hSw); go_simp; try with_reducible rfl
       simp only [Act.put, List.setIfInBounds_toArray, List.set_cons_zero, List.set_cons_succ]
       refine wpAnyH_ready (rs := [10]) (by as_aux_lemma => kernel_rfl) (by simp) ?_
       refine (AllReadyH.cons rfl (fun K' hK => ?_) AllReadyH.nil)
       go_simp
       go_wp2_with (go_at_call 38; refine (hsame _ (Below.refl _ _).drew).mono ?_; rintro e w5 ⟨rfl, hwd⟩)
       have hw5 : Below wr.heap.size wr w5 := ⟨hwd.os, hwd.tape, hwd.output, hwd.size, hwd.block⟩
       clear hwd
       refine hK.out _ _ (HS12.out _ hw5) (fun _ => ?_)
       clear hK K'
       refine takeF 11 99 ?v39 rfl (Or.inl ⟨by rfl, ?hy39⟩) ?rest39
       case hy39 => intro wz hSw; (try dsimp only at hSw); go_simp; try with_reducible rfl
       simp only [Act.put, List.setIfInBounds_toArray, List.set_cons_zero, List.set_cons_succ]
       refine wpAnyH_done (by as_aux_lemma => kernel_rfl) ?_ _
       go_wp2
       go_roundw
       case rel => exact ⟨i + 1, hlt, by go_num, Qd hbr hw5⟩
       case measure => simp [intOf]; omega
     · have hik : i = th.mails.length := by omega
       subst hik
       go_wp2
       go_ret
       exact ⟨rfl, Qd HB0.out hbr⟩
end Go.Proofs.YtpdijobakfpnbaaGreat
