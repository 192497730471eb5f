/- Rows of acts. -/
import Derived.Test.YtpdijobakfpnbaaGreatJCCome
import Derived.Test.YtpdijobakfpnbaaGreatJTConcat
import Derived.Test.YtpdijobakfpnbaaGreatJCClu
import Derived.Test.YtpdijobakfpnbaaGreatJPlain
import Derived.Test.YtpdijobakfpnbaaGreatJKTake
import Derived.Test.YtpdijobakfpnbaaGreatJNamed
import Derived.Deep.RegionHeld3
import Derived.Test.YtpdijobakfpnbaaGreatJWHost
namespace Go.Proofs.YtpdijobakfpnbaaGreat
open Go.RowKit Go.Proofs.Parclose
structure AcV where
 a : Ac
 vl : Value
 vg : Value
def AcV.cells (x : AcV) : List Value := [.int .i64 x.a.kind, .int .i64 x.a.h, .int .i64 x.a.t, .int .i64 x.a.n, .int .i64 x.a.call.kind, .int .i64 x.a.call.h, .int .i64 x.a.call.t, .int .i64 x.a.call.n, .int .i64 x.a.call.c, x.vl, x.vg, .string ⟨x.a.call.text.toArray⟩]
structure AcV.Ok (w : World) (x : AcV) : Prop where
 lab : LabAt w x.vl x.a.call.label
 nums : IntsAt w x.vg x.a.call.grants
theorem AcV.Ok.below {w wr : World} {x : AcV} (h : x.Ok w) (hb : Below w.heap.size w wr) : x.Ok wr := ⟨h.lab.below hb, h.nums.below hb⟩
def flatA (q : List AcV) : List Value := q.flatMap AcV.cells
theorem Qa5 (x : AcV) (q : List AcV) : flatA (x :: q) = x.cells ++ flatA q := rfl
theorem Qkd (q : List AcV) : (flatA q).length = q.length * 12 := by
 induction q with
 | nil => rfl
 | cons x r ih =>
  rw [Qa5, List.length_append, ih, List.length_cons]
  show 12 + r.length * 12 = _
  omega
theorem Qdg : ∀ (q : List AcV) (j : Nat) (hj : j < q.length) (i : Nat) (_ : i < 12), (flatA q)[j * 12 + i]? = (q[j]).cells[i]?
 | x :: r, 0, _, i, hi => by
  rw [Qa5, List.getElem?_append_left (by show _ < 12; omega)]
  simp
 | x :: r, j + 1, hj, i, hi => by
  rw [Qa5, List.getElem?_append_right (by show 12 ≤ _; omega), show (j + 1) * 12 + i - x.cells.length = j * 12 + i by show (j + 1) * 12 + i - 12 = _; omega, Qdg r j (by simpa using hj) i hi]
  simp
theorem Qir (q : List AcV) (k : Nat) : flatA (q.take k) = (flatA q).take (k * 12) := by
 induction q generalizing k with
 | nil => simp [flatA]
 | cons x r ih =>
  cases k with
  | zero => simp [flatA]
  | succ k =>
   rw [List.take_succ_cons, Qa5, Qa5, ih, show (k + 1) * 12 = x.cells.length + k * 12 by show _ = 12 + k * 12; omega, List.take_length_add_append]
def AcsAt (w : World) (v : Value) (l : List Ac) : Prop := ∃ q : List AcV, q.map (·.a) = l ∧ (∀ x ∈ q, x.Ok w) ∧ ∃ p cap, v = .slice p q.length cap ∧ (q.length ≤ cap ∧ (p = none → cap = 0)) ∧ (0 < q.length → ∃ b o, p = some ⟨b, o, none⟩ ∧ ∀ j u, (flatA q)[j]? = some u → w.cell? ⟨b, o + j, none⟩ = some u)
theorem AcsAt.below {w wr : World} {v : Value} {l : List Ac} (h : AcsAt w v l) (hb : Below w.heap.size w wr) : AcsAt wr v l := by
 obtain ⟨q, h1, h2, p, cap, h3, h4, h5⟩ := h
 refine ⟨q, h1, fun x hx => (h2 x hx).below hb, p, cap, h3, h4, fun h0 => ?_⟩
 obtain ⟨b, o, h6, h7⟩ := h5 h0
 exact ⟨b, o, h6, fun j u hu => by rw [hb.cell (Qf (h7 j u hu)), h7 j u hu]⟩
theorem AcsAt.slice {w : World} {v : Value} {l : List Ac} (h : AcsAt w v l) : ∃ p cap, v = .slice p l.length cap ∧ l.length ≤ cap ∧ (p = none → cap = 0) := by
 obtain ⟨q, rfl, _, p, cap, rfl, h4, _⟩ := h
 exact ⟨p, cap, by simp, by simpa using h4.1, h4.2⟩
theorem AcsAt.take {w : World} {p : Option Addr} {n cap : Nat} {l : List Ac} (h : AcsAt w (.slice p n cap) l) (k : Nat) (hk : k ≤ l.length) : AcsAt w (.slice p k cap) (l.take k) := by
 obtain ⟨q, rfl, h2, p', cap', e, h4, h5⟩ := h
 injection e with e1 e2 e3
 subst e1 e3
 have hkq : k ≤ q.length := by simpa using hk
 refine ⟨q.take k, by rw [List.map_take], fun x hx => h2 x (List.mem_of_mem_take hx), p, cap, by rw [List.length_take, Nat.min_eq_left hkq], ⟨by rw [List.length_take]; omega, h4.2⟩, fun h0 => ?_⟩
 rw [List.length_take] at h0
 obtain ⟨b, o, h6, h7⟩ := h5 (by omega)
 refine ⟨b, o, h6, fun j u hu => h7 j u ?_⟩
 rw [Qir, List.getElem?_take] at hu
 split at hu
 · exact hu
 · cases hu
theorem AcsAt.get {w : World} {p : Option Addr} {n cap : Nat} {l : List Ac} (h : AcsAt w (.slice p n cap) l) (j : Nat) (hj : j < l.length) :
 ∃ b o pl cl pg cg, p = some ⟨b, o, none⟩ ∧ LabAt w (.slice pl (l[j]).call.label.length cl) (l[j]).call.label ∧ IntsAt w (.slice pg (l[j]).call.grants.length cg) (l[j]).call.grants ∧
  w.cell? ⟨b, o + j * 12, none⟩ = some (.int .i64 (l[j]).kind) ∧ w.cell? ⟨b, o + j * 12 + 1, none⟩ = some (.int .i64 (l[j]).h) ∧ w.cell? ⟨b, o + j * 12 + 2, none⟩ = some (.int .i64 (l[j]).t) ∧ w.cell? ⟨b, o + j * 12 + 3, none⟩ = some (.int .i64 (l[j]).n) ∧ w.cell? ⟨b, o + j * 12 + 4, none⟩ = some (.int .i64 (l[j]).call.kind) ∧ w.cell? ⟨b, o + j * 12 + 5, none⟩ = some (.int .i64 (l[j]).call.h) ∧ w.cell? ⟨b, o + j * 12 + 6, none⟩ = some (.int .i64 (l[j]).call.t) ∧ w.cell? ⟨b, o + j * 12 + 7, none⟩ = some (.int .i64 (l[j]).call.n) ∧ w.cell? ⟨b, o + j * 12 + 8, none⟩ = some (.int .i64 (l[j]).call.c) ∧ w.cell? ⟨b, o + j * 12 + 9, none⟩ = some (.slice pl (l[j]).call.label.length cl) ∧ w.cell? ⟨b, o + j * 12 + 10, none⟩ = some (.slice pg (l[j]).call.grants.length cg) ∧ w.cell? ⟨b, o + j * 12 + 11, none⟩ = some (.string ⟨(l[j]).call.text.toArray⟩) := by
 obtain ⟨q, rfl, hok, p', cap', e, _, h4⟩ := h
 cases e
 have hjq : j < q.length := by simpa using hj
 obtain ⟨b, o, rfl, hc⟩ := h4 (by omega)
 have ho := hok _ (List.getElem_mem hjq)
 have g : ∀ i, i < 12 → ∀ u, (q[j]).cells[i]? = some u → w.cell? ⟨b, o + j * 12 + i, none⟩ = some u := fun i hi u hu => by
  rw [Nat.add_assoc]
  exact hc _ _ (by rw [Qdg q j hjq i hi, hu])
 have e : (q.map (·.a))[j] = (q[j]).a := by simp
 rw [e]
 generalize q[j] = x at *
 obtain ⟨f, vl, vg⟩ := x
 obtain ⟨h1, h2⟩ := ho
 simp only at h1 h2 ⊢
 obtain ⟨pl, cl, rfl, _⟩ := id h1
 obtain ⟨pg, cg, rfl, _⟩ := id h2
 exact ⟨b, o, pl, cl, pg, cg, rfl, h1, h2, g 0 (by omega) _ rfl, g 1 (by omega) _ rfl, g 2 (by omega) _ rfl, g 3 (by omega) _ rfl, g 4 (by omega) _ rfl, g 5 (by omega) _ rfl, g 6 (by omega) _ rfl, g 7 (by omega) _ rfl, g 8 (by omega) _ rfl, g 9 (by omega) _ rfl, g 10 (by omega) _ rfl, g 11 (by omega) _ rfl⟩
set_option maxRecDepth 100000 in
set_option maxHeartbeats 400000 in
theorem QgT (a : Addr) (n cap : Nat) (xs : List Value) (w : World) (hl : xs.length = n * 1) (hn : n ≤ 1000) (hc : ∀ j u, xs[j]? = some u → w.cell? (a.add j) = some u) (h1 : ∀ u ∈ xs, u.oneCell' = true) :
 Calls Tryz.prog 30 #[.slice (some a) n cap] w fun e w' => ∃ v', e = .returned v' ∧ w'.ownsRow w.heap.size 9 1 v' n xs ∧ Below w.heap.size w w' := by
 obtain ⟨i0, hi, hz0, hz1, hz2⟩ := info_parts Qc8
 have q : ∀ (wx : World) (p : Option Addr) (n c n' c' : Nat), (binOp .eql 40 (.slice p n c) (.slice none n' c')).run Tryz.prog wx = .ok (.bool p.isNone) wx := fun wx p n c n' c' => Lib.run_eql_slice_nil wx _ _ p n c n' c' Tryz.underlying40
 have HC := hid hc
 clear hc
 go_enter Tryz.func30, Tryz.ntmps30
 go_wp2_with (at_builtin; refine wpList_append_own _ rfl _ _ 40 rfl w.heap.size 9 i0 _ 1 16 Tryz.underlying40 hi hz0 hz1 hz2 rfl (by decide) _ 0 [] rfl (Qen w _ _ _ (Nat.le_refl _)) a n cap xs rfl hl (fun j u hu => by have := HC.out j u hu; rw [(Qd w _).cell (Qf this), this]) h1 (by unfold maxLen; omega) (by omega) (by simp) ?_; intro v6 w6 hown6 hgrow6 hnil6)
 have hb6 : Below w.heap.size w w6 := (Qd w (.cells #[] 9)).grown hgrow6 (by simp) (fun k hk => by cases hk; exact Nat.le_refl _)
 clear hgrow6 hnil6
 rw [Nat.zero_add, List.nil_append] at hown6
 go_ret
 exact ⟨v6, rfl, hown6, hb6⟩
theorem QgU (n cap : Nat) (w : World) : Calls Tryz.prog 30 #[.slice none n cap] w fun e w' => e = .returned (.slice none 0 0) ∧ w' = w := by
 have q : ∀ (wx : World) (p : Option Addr) (n c n' c' : Nat), (binOp .eql 40 (.slice p n c) (.slice none n' c')).run Tryz.prog wx = .ok (.bool p.isNone) wx := fun wx p n c n' c' => Lib.run_eql_slice_nil wx _ _ p n c n' c' Tryz.underlying40
 go_enter Tryz.func30, Tryz.ntmps30
 go_wp2
 go_ret
 exact ⟨rfl, rfl⟩
theorem QiD (v : Value) (l : List (List UInt8)) (w : World) (hv : w.ownsRow 0 9 1 v l.length (strs l)) (hl : l.length ≤ 1000) :
 Calls Tryz.prog 30 #[v] w fun e w' => ∃ v', e = .returned v' ∧ w'.ownsRow w.heap.size 9 1 v' l.length (strs l) ∧ Below w.heap.size w w' := by
 rcases hv.2 with ⟨e0, h0⟩ | ⟨g, cap, cur, e0, _⟩
 · subst e0
   have hn : l = [] := List.length_eq_zero_iff.1 h0
   subst hn
   refine (QgU 0 0 w).mono ?_
   rintro e w' ⟨rfl, rfl⟩
   exact ⟨_, rfl, World.ownsRow_nil _ _ _ _, Below.refl _ _⟩
 · subst e0
   exact QgT ⟨g, 0, none⟩ l.length cap (strs l) w (Qk5 l) hl (hv.cells (g := g) rfl) (QdO l)
set_option maxRecDepth 100000 in
theorem Qbl (cb : Nat) (F : List Nat) (Z : CluV) (C : Clu) (w : World) (hc : CluAt w cb F Z C) (h60 : C.net.length ≤ 60) :
 Calls Tryz.prog 12 #[.pointer (some ⟨cb, 0, none⟩)] w fun e w' => ∃ p cap, e = .returned (.slice p C.net.length cap) ∧ w'.ownsRow w.heap.size 9 1 (.slice p C.net.length cap) C.net.length (strs C.net) ∧ Below w.heap.size w w' := by
 have k := hc.cnet.1
 obtain ⟨pn, cn, hvn⟩ := QaM hc.net
 have hcl := QiD Z.vn C.net w hc.net (by omega)
 rw [hvn] at k hcl
 clear hvn
 have hlt := hc.lt
 clear hc
 go_enter Tryz.func12, Tryz.ntmps12
 go_wp2_with (go_at_call 30; refine hcl.mono ?_; rintro e w1 ⟨v1, rfl, hv1, hw1⟩; obtain ⟨p1, c1, e1⟩ := QaM hv1; subst e1)
 go_ret
 exact ⟨p1, c1, rfl, hv1, hw1⟩
theorem Qbn (w : World) (F : List Nat) (k h t n : Int) (ck ch ct cn cc : Int) (x : List UInt8) : AcRo w F (.agg #[.int .i64 k, .int .i64 h, .int .i64 t, .int .i64 n, .int .i64 ck, .int .i64 ch, .int .i64 ct, .int .i64 cn, .int .i64 cc, .slice none 0 0, .slice none 0 0, .string ⟨x.toArray⟩]) ⟨k, h, t, n, ⟨ck, ch, ct, cn, cc, [], [], x⟩⟩ :=
 ⟨_, _, rfl, ⟨LabAt.nil _ _ _ (fun _ => rfl), fun h => absurd h (by simp)⟩, ⟨IntsAt.nil _ _ _ (fun _ => rfl), fun h => absurd h (by simp)⟩⟩
theorem Below.trans' {B : Nat} {a b c : World} (h : Below B a b) (k : Below B b c) : Below B a c := ⟨k.os.trans h.os, k.tape.trans h.tape, k.output.trans h.output, Nat.le_trans h.size k.size, fun i hi => by rw [k.block i hi, h.block i hi]⟩
theorem CStep.low {cb B : Nat} {w w' : World} {F G : List Nat} {Z Z' : CluV} {C : Clu} (h : CStep cb w F Z w' G Z') (hc : CluAt w cb F Z C) (hF : ∀ k ∈ F, B ≤ k) (hB : B ≤ w.heap.size) : Below B w w' ∧ ∀ k ∈ G, B ≤ k := by
 have hk := h.keptF hc
 refine ⟨⟨hk.os, hk.tape, hk.output, hk.size, fun k hk' => hk.block k (by omega) (fun e => by have := hF k e; omega)⟩, fun k hk' => ?_⟩
 rcases h.more.2 k hk' with e | e
 · exact hF k e
 · omega
set_option maxRecDepth 100000 in
set_option maxHeartbeats 3200000 in
theorem Qhy (w : World) : Calls Tryz.prog 25 #[] w fun e w' => e = .returned (.bool true) ∧ Below w.heap.size w w' := by
 have HA := hid Qmy
 have HB := hid QkG
 go_enter Tryz.func25, Tryz.ntmps25
 go_wp2_with fail
 refine (Qgd w).mono ?_
 rintro e w1 ⟨rfl, ⟨kp, F, hc1, hF⟩, hw1⟩
 have hdo := Qbx _ F _ freshClu _ aliveA w1 hc1 QaN (Qbn w1 F 1 2 0 0 1 0 0 0 0 [])
 have HC1 := hid hc1
 generalize hr1 : doC freshClu aliveA = R1 at *
 obtain ⟨C1, r1⟩ := R1
 simp only at hdo
 have HG1 : Hid (GoodC C1) := hid (by have := QaL QaN aliveA; rw [hr1] at this; exact this)
 clear hr1
 go_wp2_with fail
 refine hdo.mono ?_
 rintro e w2 ⟨rfl, G2, Z2, hc2, hs2⟩
 obtain ⟨hb2, hF2⟩ := hs2.low hc1 hF hw1.size
 have HW2 := hid (Below.trans' hw1 hb2)
 have hbx := Qd w2 (.cells #[.int .i64 r1.code, .int .i64 r1.n, .string ⟨r1.text.toArray⟩] 31)
 have hdo2 := Qbx _ G2 Z2 C1 _ aliveB (w2.alloc (.cells #[.int .i64 r1.code, .int .i64 r1.n, .string ⟨r1.text.toArray⟩] 31)) (hc2.below hbx) HG1.out (Qbn _ G2 1 2 0 0 6 1 3 0 0 [104, 105])
 have HX2 := hid (heap_alloc_new w2 (.cells #[.int .i64 r1.code, .int .i64 r1.n, .string ⟨r1.text.toArray⟩] 31))
 have HC2 := hid (hc2.below hbx)
 have HG2 := hid (QaL HG1.out aliveB)
 have hr40 : r1.n = 40 := HA.out
 have HBX := hid hbx
 clear hdo hs2 hc1 hc2 HC1 HA hbx
 generalize doC C1 aliveB = R2 at *
 obtain ⟨C2, r2⟩ := R2
 obtain ⟨hr0, hn1⟩ : r2.code = 0 ∧ C2.net.length = 1 := HB.out
 simp only at hdo2
 have HN1 := hid hn1
 have H40 := hid hr40
 have H00 := hid hr0
 clear HB hr40 hr0 hn1
 go_wp2_with fail
 refine hdo2.mono ?_
 rintro e w3 ⟨rfl, G3, Z3, hc3, hs3⟩
 have HX3 := hid (QI hs3 HC2.out HX2.out (by decide) (by decide) (by decide) (by decide) (by decide) (by decide))
 obtain ⟨hb3, hF3⟩ := hs3.low HC2.out hF2 (Nat.le_trans HW2.out.size HBX.out.size)
 have HW3 : Hid (Below w.heap.size w w3) := hid (Below.trans' (Below.trans' HW2.out ⟨HBX.out.os, HBX.out.tape, HBX.out.output, HBX.out.size, fun k hk => HBX.out.block k (Nat.lt_of_lt_of_le hk HW2.out.size)⟩) hb3)
 have hbx3 := Qd w3 (.cells #[.int .i64 r2.code, .int .i64 r2.n, .string ⟨r2.text.toArray⟩] 31)
 have hnet := Qbl _ G3 Z3 C2 (w3.alloc (.cells #[.int .i64 r2.code, .int .i64 r2.n, .string ⟨r2.text.toArray⟩] 31)) (hc3.below hbx3) HG2.out.net
 rw [HN1.out] at hnet
 have HX4 := hid (heap_alloc_new w3 (.cells #[.int .i64 r2.code, .int .i64 r2.n, .string ⟨r2.text.toArray⟩] 31))
 have HX5 := hid (Qz HX3.out (.cells #[.int .i64 r2.code, .int .i64 r2.n, .string ⟨r2.text.toArray⟩] 31))
 have HBX3 := hid hbx3
 obtain ⟨a0, a1, a2, _⟩ := cells3 HX4.out
 obtain ⟨d0, d1, d2, _⟩ := cells3 HX5.out
 clear hdo2 hs3 hc3 hb3 hbx3
 go_upto_region 6 with fail
 generalize w3.alloc (.cells #[.int .i64 r2.code, .int .i64 r2.n, .string ⟨r2.text.toArray⟩] 31) = w4 at *
 rw [H40.out] at d1
 rw [H00.out] at a0
 go_wp2_with (go_at_call 12; refine hnet.mono ?_; rintro e w5 ⟨pn, cn, rfl, _, hw5⟩)
 go_ret
 exact ⟨rfl, Qc (Qc HW3.out HBX3.out) hw5⟩
def thrC (C : Clu) (h t : Int) : Thr := if hostB h = true then thrOf (C.ks h.toNat) t else zeroThr
set_option maxRecDepth 100000 in
set_option maxHeartbeats 3200000 in
theorem Qdw (cb : Nat) (h t : Int) (F : List Nat) (Z : CluV) (C : Clu) (w : World) (hc : CluAt w cb F Z C) (hg : GoodC C) :
 Calls Tryz.prog 13 #[.pointer (some ⟨cb, 0, none⟩), .int .i64 h, .int .i64 t] w fun e w' => ∃ pl cl po co pj cj pm cm, e = .returned (.agg #[.slice pl (thrC C h t).label.length cl, .slice po (thrC C h t).own.length co, .string ⟨(thrC C h t).text.toArray⟩, .slice pj (thrC C h t).objs.length cj, .slice pm (thrC C h t).mails.length cm]) ∧ ThrNew w' w.heap.size (.slice pl (thrC C h t).label.length cl) (.slice po (thrC C h t).own.length co) (.slice pj (thrC C h t).objs.length cj) (.slice pm (thrC C h t).mails.length cm) (thrC C h t) ∧ Below w.heap.size w w' := by
 have hh := fun wx => Qce h wx
 have HX0 := hid (heap_alloc_new w (.cells #[.slice none 0 0, .slice none 0 0, .string ⟨#[]⟩, .slice none 0 0, .slice none 0 0] 45))
 have HBB := hid (Qd w (.cells #[.slice none 0 0, .slice none 0 0, .string ⟨#[]⟩, .slice none 0 0, .slice none 0 0] 45))
 have hlt := hc.lt
 cases e1 : hostB h with
 | false =>
  have HT : Hid (thrC C h t = zeroThr) := hid (by unfold thrC; rw [e1]; rfl)
  rw [HT.out]
  rw [e1] at hh
  clear hc hg
  go_enter Tryz.func13, Tryz.ntmps13
  go_wp2_with (go_at_call 31; refine (hh _).mono ?_; rintro e w1 ⟨rfl, hw⟩; rw [hw]; clear hw)
  exact bodyPost_ret (results_cell_row rfl _ _ w.heap.size 45 _ (0, 0) _ rfl HX0.out Tryz.underlying45 rfl (by kernel_rfl)) rfl ⟨none, 0, none, 0, none, 0, none, 0, rfl, QfY _ _, HBB.out⟩
 | true =>
  rw [e1] at hh
  obtain ⟨x, hx, x4⟩ : ∃ x : Nat, h = x ∧ x < 4 := by
   have : 0 ≤ h ∧ h < 4 := of_decide_eq_true e1
   exact ⟨h.toNat, by omega, by omega⟩
  have HT : Hid (thrC C h t = thrOf (C.ks x) t) := hid (by unfold thrC; rw [e1, hx]; simp)
  rw [HT.out]
  subst hx
  have k2 := hc.cker x4
  have hth := fun wx (hb : Below w.heap.size w wx) => Qes (Z.kp x) t F (Z.V x) (C.ks x) wx ((hc.ker x x4).below hb) (hg.ks x x4)
  have i0 : ¬ ((x : Int) < 0) := by omega
  have i1 : ¬ ((4 : Int) ≤ x) := by omega
  have i2 : (x : Int) < 4 := by omega
  have i3 : (0 : Int) ≤ x := by omega
  clear hc hg e1 HT
  generalize thrOf (C.ks x) t = th at *
  go_enter Tryz.func13, Tryz.ntmps13
  go_wp2_with (first
   | (go_at_call 31; refine (hh _).mono ?_; rintro e w1 ⟨rfl, hw⟩; rw [hw]; clear hw)
   | (go_at_call 32; refine (hth _ HBB.out).mono ?_; rintro e w2 ⟨p1, q1, p2, q2, p5, q5, p6, q6, rfl, hn, hw2⟩; have HN := hid hn; have HX := hid (Qe HX0.out hw2); have HB := hid (Qc HBB.out hw2); obtain ⟨b0, b1, b2, b3, b4⟩ : w2.cell? ⟨w.heap.size, 0, none⟩ = some (.slice none 0 0) ∧ w2.cell? ⟨w.heap.size, 1, none⟩ = some (.slice none 0 0) ∧ w2.cell? ⟨w.heap.size, 2, none⟩ = some (.string ⟨#[]⟩) ∧ w2.cell? ⟨w.heap.size, 3, none⟩ = some (.slice none 0 0) ∧ w2.cell? ⟨w.heap.size, 4, none⟩ = some (.slice none 0 0) := ⟨Qa HX.out 0, Qa HX.out 1, Qa HX.out 2, Qa HX.out 3, Qa HX.out 4⟩; have f0 := Qb HX.out 0; have f1 := Qb HX.out 1; have f2 := Qb HX.out 2; have f3 := Qb HX.out 3; have f4 := Qb HX.out 4; clear hn hw2))
  have hW := QcE (.slice p1 th.label.length q1) (.slice p2 th.own.length q2) (.string ⟨th.text.toArray⟩) (.slice p5 th.objs.length q5) (.slice p6 th.mails.length q6) HX.out
  have hS := Qb5 w2 w.heap.size (.slice p1 th.label.length q1) (.slice p2 th.own.length q2) (.string ⟨th.text.toArray⟩) (.slice p5 th.objs.length q5) (.slice p6 th.mails.length q6)
  have hb7 := HB.out.grown hS HB.out.size (fun k hk => by cases hk; exact Nat.le_refl _)
  have hn := (HN.out.base HBB.out.size).keep (R := [w.heap.size]) (fun k hk => .inr ⟨_, _, by simp at hk; subst hk; exact HX.out, by decide, by decide, by decide, by decide⟩) (QN hS fun k e => .inl (by have := Option.some.inj e; simp; omega))
  exact bodyPost_ret (results_cell_row rfl _ _ w.heap.size 45 _ (0, 0) _ rfl hW Tryz.underlying45 rfl (by kernel_rfl)) rfl ⟨_, _, _, _, _, _, _, _, rfl, hn, hb7⟩
theorem Qjx {w w' : World} {G : List Nat} {v : Value} {l : List (Int × Int)} (h : LabAt w v l) (hG : ∀ k ∈ G, w.heap.size ≤ k) (h' : LabAt w' v l) : RoLab w' G v l := ⟨h', fun h0 k hk hn => by
 obtain ⟨p, cap, rfl, _, _, hc⟩ := h
 obtain ⟨b, o, rfl, hcs⟩ := hc h0
 cases hk
 have h1 : b < w.heap.size := Qf (hcs 0 h0).1
 have h2 : w.heap.size ≤ b := hG _ hn
 omega⟩
theorem QhN {w w' : World} {G : List Nat} {v : Value} {l : List Int} (h : IntsAt w v l) (hG : ∀ k ∈ G, w.heap.size ≤ k) (h' : IntsAt w' v l) : RoInts w' G v l := ⟨h', fun h0 k hk hn => by
 obtain ⟨p, cap, rfl, _, _, hc⟩ := h
 obtain ⟨b, o, rfl, hcs⟩ := hc h0
 cases hk
 have h1 : b < w.heap.size := Qf (hcs 0 h0)
 have h2 : w.heap.size ≤ b := hG _ hn
 omega⟩
theorem Qd9 : ∀ (l : List Ac) (C : Clu) (a : Ac), playC C (l ++ [a]) = (doC (playC C l) a).1
 | [], _, _ => rfl
 | b :: r, C, a => Qd9 r (doC C b).1 a
theorem Qcr : ∀ (l : List Ac) {C : Clu} (_ : GoodC C), GoodC (playC C l)
 | [], _, h => h
 | a :: r, _, h => Qcr r (QaL h a)
theorem Qel (a b c : Value) (w : World) : (Instr.field 31 (.agg #[a, b, c]) 0).run Tryz.prog w = .ok a w := by kernel_rfl
theorem Qjl {C : Clu} (h : GoodC C) (x t : Int) : GoodT (thrC C x t) := by
 unfold thrC
 split
 · rename_i h1
   have h2 : 0 ≤ x ∧ x < 4 := of_decide_eq_true h1
   have hk := h.ks x.toNat (by omega)
   unfold thrOf
   cases ht : getT (C.ks x.toNat) t with
   | none => exact Qc0
   | some th =>
    obtain ⟨n, _, hn, e⟩ := Q9 ht
    exact hk.ths th (e ▸ List.getElem_mem hn)
 · exact Qc0
theorem Qln {m : Mal} (h : mailE m = 0) : m.label.length ≤ 8 ∧ m.grants.length ≤ 8 := by
 unfold mailE at h
 split at h
 · rename_i h1
   simp only [Bool.and_eq_true] at h1
   exact ⟨((QaC _).1 h1.1.2).1, (of_decide_eq_true h1.2).1⟩
 · cases h
set_option maxRecDepth 100000 in
set_option maxHeartbeats 3200000 in
theorem Qdt (cb : Nat) (F : List Nat) (Z : CluV) (C : Clu) (w : World) (hc : CluAt w cb F Z C) (hg : GoodC C) :
 Calls Tryz.prog 10 #[.pointer (some ⟨cb, 0, none⟩)] w fun e w' => ∃ (b : Bool) (D : Clu) (G : List Nat) (Z' : CluV), e = .returned (.bool b) ∧ CluAt w' cb G Z' D ∧ CStep cb w F Z w' G Z' ∧ Emp C D ∧ GoodC D ∧ (b = true → D.net = []) := by
 have HC := hid hc
 have HG := hid hg
 have hfc := Qel
 clear hc hg
 go_enter Tryz.func10, Tryz.ntmps10
 go_wp2_with fail
 go_loopw [3] (fun i wr => ∃ (k : Nat) (G : List Nat) (Z' : CluV) (D : Clu), k ≤ 60 ∧ i = .int .i64 k ∧ CluAt wr cb G Z' D ∧ CStep cb w F Z wr G Z' ∧ Emp C D ∧ GoodC D) (fun i _ => 60 - (intOf i).toNat)
 case atStart => exact ⟨0, F, Z, C, Nat.zero_le _, rfl, HC.out, CStep.refl _ _ _ _, Emp.refl _, HG.out⟩
 case round =>
  obtain ⟨k, G, Z', D, hk, rfl, hc, hs, he, hg⟩ := hrel
  obtain ⟨wi, hwi⟩ : ∃ wi, wi = wr := ⟨_, rfl⟩
  subst hwi
  have HCi := hid hc
  have HSi := hid hs
  have HE := hid he
  have HGi := hid hg
  have hnet := Qbl cb G Z' D wi hc hg.net
  have HND := hid (QlP D)
  have HGD := hid (QaL hg dropA)
  have hn60 := hg.net
  have HNL : Hid (D.net.length = 0 → D.net = []) := hid (fun e => List.length_eq_zero_iff.1 e)
  clear hc hs he hg
  by_cases h60 : k < 60
  · have hK : (k : Int) < 60 := by omega
    by_cases h0 : 0 < D.net.length
    · have hN : (0 : Int) < (D.net.length : Int) := by omega
      generalize D.net.length = n at *
      go_upto_region 4 with (go_at_call 12; refine hnet.mono ?_; rintro e w3 ⟨pz, cz, rfl, _, hw3⟩)
      have hdo := Qbx cb G Z' D _ dropA w3 (HCi.out.below hw3) HGi.out (Qbn w3 G 4 0 0 0 0 0 0 0 0 [])
      have HSn := hid (HSi.out.trans (CStep.below hw3))
      clear hnet hw3
      generalize doC D dropA = R at *
      obtain ⟨D2, r⟩ := R
      simp only at hdo
      have HNE := hid HND.out.1
      by_cases hcd : r.code = 0
      · have hcb : (r.code == 0) = true := by simpa using hcd
        rw [hcd] at hdo
        clear hcd hcb
        go_wp2_with (go_at_call 11; refine hdo.mono ?_; rintro e w4 ⟨rfl, G4, Z4, hc4, hs4⟩)
        have HC4 := hid hc4
        have HS4 := hid (HSn.out.trans hs4)
        clear hc4 hs4
        go_roundw
        case rel => exact ⟨k + 1, G4, Z4, D2, h60, by go_num, HC4.out, HS4.out, HE.out.trans HNE.out, HGD.out⟩
        case measure => simp [intOf]; omega
      · have hcb : (r.code == 0) = false := by simpa using hcd
        clear hcd
        go_wp2_with (go_at_call 11; refine hdo.mono ?_; rintro e w4 ⟨rfl, G4, Z4, hc4, hs4⟩)
        go_ret
        exact ⟨false, D2, G4, Z4, rfl, hc4, HSn.out.trans hs4, HE.out.trans HNE.out, HGD.out, fun e => by cases e⟩
    · have hN : ¬ ((0 : Int) < (D.net.length : Int)) := by omega
      have hz : D.net.length = 0 := by omega
      rw [hz] at hnet
      have HZ := hid hz
      clear hz hN h0 hn60
      go_wp2_with fail
      refine hnet.mono ?_
      rintro e w3 ⟨pz, cz, rfl, _, hw3⟩
      have hnet2 := Qbl cb G Z' D w3 (HCi.out.below hw3) HGi.out.net
      rw [HZ.out] at hnet2
      clear hnet
      go_wp2_with fail
      refine hnet2.mono ?_
      rintro e w4 ⟨py, cy, rfl, _, hw4⟩
      go_wp2_with fail
      go_ret
      exact ⟨true, D, G, Z', rfl, (HCi.out.below hw3).below hw4, (HSi.out.trans (CStep.below hw3)).trans (CStep.below hw4), HE.out, HGi.out, fun _ => HNL.out HZ.out⟩
  · have hK : ¬ ((k : Int) < 60) := by omega
    generalize D.net.length = n at *
    by_cases hz : (n : Int) = 0
    · have hb : ((n : Int) == 0) = true := by simpa using hz
      have HZ : Hid (n = 0) := hid (by omega)
      clear hz
      go_wp2_with (go_at_call 12; refine hnet.mono ?_; rintro e w3 ⟨pz, cz, rfl, _, hw3⟩)
      go_ret
      exact ⟨true, D, G, Z', by first | rfl | simp, HCi.out.below hw3, HSi.out.trans (CStep.below hw3), HE.out, HGi.out, fun _ => HNL.out HZ.out⟩
    · have hb : ((n : Int) == 0) = false := by simpa using hz
      clear hz
      go_wp2_with (go_at_call 12; refine hnet.mono ?_; rintro e w3 ⟨pz, cz, rfl, _, hw3⟩)
      go_ret
      exact ⟨false, D, G, Z', by first | rfl | simp, HCi.out.below hw3, HSi.out.trans (CStep.below hw3), HE.out, HGi.out, fun e => by cases e⟩
theorem CluAt.row {w w' : World} {cb : Nat} {G : List Nat} {Z : CluV} {C : Clu} {v v' : Value} {n n' : Nat} {xs xs' : List Value} (h : CluAt w cb G Z C) (hv : w.ownsRow 0 31 3 v n xs) (hin : ∀ k, v.ownBlock = some k → k ∈ G) (hg : w.grownBy w' v.ownBlock) (hv' : w'.ownsRow 0 31 3 v' n' xs') (hw : ∀ k, v'.ownBlock = some k → v.ownBlock = some k ∨ w.heap.size ≤ k) : CluAt w' cb (G ++ v'.ownBlock.toList) Z C := by
 refine h.keep (R := v.ownBlock.toList) (QN hg fun k e => .inl (Option.mem_toList.2 e)) (fun k hk => hin k (Option.mem_toList.1 hk)) ⟨fun k hk => List.mem_append.2 (.inl hk), fun k hk => ?_⟩ (fun k hk e => ?_) (fun k hk => ?_)
 · rcases List.mem_append.1 hk with e | e
   · exact .inl e
   · rcases hw k (Option.mem_toList.1 e) with q | q
     · exact .inl (hin k q)
     · exact .inr q
 · have hvk := Option.mem_toList.1 e
   rcases hv.2 with ⟨rfl, _⟩ | ⟨g, cap, cur, rfl, _, hh, _⟩
   · cases hvk
   · cases hvk
     exact h.notown hh (by decide) (by decide) (by decide) (by decide) (by decide) (by decide) hk
 · rcases List.mem_append.1 hk with e | e
   · exact Nat.lt_of_lt_of_le (h.fin k e) hg.size
   · have hvk := Option.mem_toList.1 e
     rcases hv'.2 with ⟨rfl, _⟩ | ⟨g, cap, cur, rfl, _, hh, _⟩
     · cases hvk
     · cases hvk; exact Qw hh
theorem Qjz (vc : Value) (a : Ac) (r : Rep) (pl pg : Option Addr) (cl cg : Nat) (w : World) : Calls Tryz.prog 8 #[vc, (.agg #[.int .i64 a.kind, .int .i64 a.h, .int .i64 a.t, .int .i64 a.n, .int .i64 a.call.kind, .int .i64 a.call.h, .int .i64 a.call.t, .int .i64 a.call.n, .int .i64 a.call.c, .slice pl a.call.label.length cl, .slice pg a.call.grants.length cg, .string ⟨a.call.text.toArray⟩]), (.agg #[.int .i64 r.code, .int .i64 r.n, .string ⟨r.text.toArray⟩])] w fun e w' => e = .returned (.bool true) ∧ Below w.heap.size w w' := by
 go_enter Tryz.func8, Tryz.ntmps8
 go_wp2
 go_ret
 exact ⟨rfl, (Qd w _).alloc (Qd w _).size _⟩
set_option maxRecDepth 100000 in
set_option maxHeartbeats 6400000 in
theorem QhR (v : Value) (l : List Ac) (w : World) (hv : AcsAt w v l) :
 Calls Tryz.prog 7 #[v, .func (.func 8) #[] #[]] w fun e w' => ∃ cb, e = .returned (.tuple #[.pointer (some ⟨cb, 0, none⟩), .bool true]) ∧ w.heap.size ≤ cb ∧ Below w.heap.size w w' ∧ ∃ F, (∃ Z, CluAt w' cb F Z (playC freshClu (l.take 120))) ∧ ∀ k ∈ F, w.heap.size ≤ k := by
 have HV := hid hv
 obtain ⟨p, cap, rfl, hlc, _⟩ := hv.slice
 clear hv
 go_enter Tryz.func7, Tryz.ntmps7
 go_upto_region 3 with (go_at_call 25; refine (Qhy _).mono ?_; rintro e w1 ⟨rfl, hw1⟩)
 go_upto_region 4 with (go_at_call 16; refine (Qgd _).mono ?_; rintro e w2 ⟨rfl, ⟨kp, F, hc2, hF⟩, hw2⟩)
 have HB2 := hid (Qc hw1 hw2)
 have HF2 : Hid (∀ k ∈ F, w.heap.size ≤ k) := hid (fun k hk => Nat.le_trans hw1.size (hF k hk))
 have HC2 := hid hc2
 have HCB := hid hw1.size
 clear hc2 hF hw1 hw2
 go_wp2_with fail
 go_loopw [7] (fun i wr => ∃ (k : Nat) (G : List Nat) (Z' : CluV), k ≤ l.length ∧ k ≤ 120 ∧ i = .int .i64 k ∧ CluAt wr w1.heap.size G Z' (playC freshClu (l.take k)) ∧ Below w.heap.size w wr ∧ (∀ b ∈ G, w.heap.size ≤ b)) (fun i _ => l.length - (intOf i).toNat)
 case atStart => exact ⟨0, F, _, Nat.zero_le _, Nat.zero_le _, rfl, HC2.out, HB2.out, HF2.out⟩
 case round =>
  clear HC2 HB2 HF2
  obtain ⟨k, G, Z', hk, hk120, rfl, hck, hbw, hG⟩ := hrel
  have HCK := hid hck
  have HBW := hid hbw
  have HGG := hid hG
  have hsz := hbw.size
  clear hck hbw hG
  by_cases hlt : k < l.length
  · have hI : (k : Int) < (l.length : Int) := by omega
    by_cases h120 : k < 120
    · have hJ : (k : Int) < 120 := by omega
      obtain ⟨b, o, pl, cl, pg, cg, rfl, hla, hin2, q0, q1, q2, q3, q4, q5, q6, q7, q8, q9, q10, q11⟩ := HV.out.get k hlt
      have HPS : Hid (playC freshClu (l.take (k + 1)) = (doC (playC freshClu (l.take k)) l[k]).1) := hid (by rw [← List.take_append_getElem hlt, Qd9])
      have HGD := hid (Qcr (l.take k) QaN)
      generalize l[k] = a at *
      generalize playC freshClu (l.take k) = Ck at *
      have r0 := (HBW.out.cell (Qf q0)).trans q0
      have r1 := (HBW.out.cell (Qf q1)).trans q1
      have r2 := (HBW.out.cell (Qf q2)).trans q2
      have r3 := (HBW.out.cell (Qf q3)).trans q3
      have r4 := (HBW.out.cell (Qf q4)).trans q4
      have r5 := (HBW.out.cell (Qf q5)).trans q5
      have r6 := (HBW.out.cell (Qf q6)).trans q6
      have r7 := (HBW.out.cell (Qf q7)).trans q7
      have r8 := (HBW.out.cell (Qf q8)).trans q8
      have r9 := (HBW.out.cell (Qf q9)).trans q9
      have r10 := (HBW.out.cell (Qf q10)).trans q10
      have r11 := (HBW.out.cell (Qf q11)).trans q11
      have hbl := Nat.lt_of_lt_of_le (Qf q0) hsz
      have hdo := Qbx w1.heap.size G Z' Ck _ a wr HCK.out HGD.out ⟨_, _, rfl, Qjx hla HGG.out (hla.below HBW.out), QhN hin2 HGG.out (hin2.below HBW.out)⟩
      unfold acV at hdo
      generalize doC Ck a = R at *
      obtain ⟨C2, r⟩ := R
      simp only at hdo HPS
      have HQ : Hid (∀ w', Below w.heap.size w w' → w'.cell? ⟨b, o + k * 12, none⟩ = some (.int .i64 a.kind) ∧ w'.cell? ⟨b, o + k * 12 + 1, none⟩ = some (.int .i64 a.h) ∧ w'.cell? ⟨b, o + k * 12 + 2, none⟩ = some (.int .i64 a.t) ∧ w'.cell? ⟨b, o + k * 12 + 3, none⟩ = some (.int .i64 a.n) ∧ w'.cell? ⟨b, o + k * 12 + 4, none⟩ = some (.int .i64 a.call.kind) ∧ w'.cell? ⟨b, o + k * 12 + 5, none⟩ = some (.int .i64 a.call.h) ∧ w'.cell? ⟨b, o + k * 12 + 6, none⟩ = some (.int .i64 a.call.t) ∧ w'.cell? ⟨b, o + k * 12 + 7, none⟩ = some (.int .i64 a.call.n) ∧ w'.cell? ⟨b, o + k * 12 + 8, none⟩ = some (.int .i64 a.call.c) ∧ w'.cell? ⟨b, o + k * 12 + 9, none⟩ = some (.slice pl a.call.label.length cl) ∧ w'.cell? ⟨b, o + k * 12 + 10, none⟩ = some (.slice pg a.call.grants.length cg) ∧ w'.cell? ⟨b, o + k * 12 + 11, none⟩ = some (.string ⟨a.call.text.toArray⟩)) := hid (fun w' h => ⟨(h.cell (Qf q0)).trans q0, (h.cell (Qf q1)).trans q1, (h.cell (Qf q2)).trans q2, (h.cell (Qf q3)).trans q3, (h.cell (Qf q4)).trans q4, (h.cell (Qf q5)).trans q5, (h.cell (Qf q6)).trans q6, (h.cell (Qf q7)).trans q7, (h.cell (Qf q8)).trans q8, (h.cell (Qf q9)).trans q9, (h.cell (Qf q10)).trans q10, (h.cell (Qf q11)).trans q11⟩)
      clear q0 q1 q2 q3 q4 q5 q6 q7 q8 q9 q10 q11 hla hin2
      go_upto_region 8 with (go_at_call 11; refine hdo.mono ?_; rintro e w5 ⟨rfl, G5, Z5, hc5, hs5⟩)
      obtain ⟨hb5, hG5⟩ := hs5.low HCK.out HGG.out hsz
      have HB5 := hid (Below.trans' HBW.out hb5)
      have hbx := Qd w5 (.cells #[.int .i64 r.code, .int .i64 r.n, .string ⟨r.text.toArray⟩] 31)
      have HB6 := hid (Qc HB5.out hbx)
      have HX6 := hid (heap_alloc_new w5 (.cells #[.int .i64 r.code, .int .i64 r.n, .string ⟨r.text.toArray⟩] 31))
      have HC6 := hid (hc5.below hbx)
      have HG5 := hid hG5
      obtain ⟨s0, s1, s2, s3, s4, s5, s6, s7, s8, s9, s10, s11⟩ := HQ.out _ HB6.out
      obtain ⟨t0, t1, t2, _⟩ := cells3 HX6.out
      have hlt6 := Qw HX6.out
      have hbl5 : b < w5.heap.size := Nat.lt_of_lt_of_le hbl hs5.kept.size
      clear hdo hs5 hc5 hb5 hG5 hbx r0 r1 r2 r3 r4 r5 r6 r7 r8 r9 r10 r11
      generalize hw6 : w5.alloc (.cells #[.int .i64 r.code, .int .i64 r.n, .string ⟨r.text.toArray⟩] 31) = w6 at *
      have HW6 := hid (Below.refl w6.heap.size w6)
      clear hw6
      go_region_held3 (fun w' => (w'.cell? ⟨b, o + k * 12, none⟩ = some (.int .i64 a.kind) ∧ w'.cell? ⟨b, o + k * 12 + 1, none⟩ = some (.int .i64 a.h) ∧ w'.cell? ⟨b, o + k * 12 + 2, none⟩ = some (.int .i64 a.t) ∧ w'.cell? ⟨b, o + k * 12 + 3, none⟩ = some (.int .i64 a.n) ∧ w'.cell? ⟨b, o + k * 12 + 4, none⟩ = some (.int .i64 a.call.kind) ∧ w'.cell? ⟨b, o + k * 12 + 5, none⟩ = some (.int .i64 a.call.h) ∧ w'.cell? ⟨b, o + k * 12 + 6, none⟩ = some (.int .i64 a.call.t) ∧ w'.cell? ⟨b, o + k * 12 + 7, none⟩ = some (.int .i64 a.call.n) ∧ w'.cell? ⟨b, o + k * 12 + 8, none⟩ = some (.int .i64 a.call.c) ∧ w'.cell? ⟨b, o + k * 12 + 9, none⟩ = some (.slice pl a.call.label.length cl) ∧ w'.cell? ⟨b, o + k * 12 + 10, none⟩ = some (.slice pg a.call.grants.length cg) ∧ w'.cell? ⟨b, o + k * 12 + 11, none⟩ = some (.string ⟨a.call.text.toArray⟩)) ∧ w'.cell? ⟨w5.heap.size, 0, none⟩ = some (.int .i64 r.code) ∧ w'.cell? ⟨w5.heap.size, 1, none⟩ = some (.int .i64 r.n) ∧ w'.cell? ⟨w5.heap.size, 2, none⟩ = some (.string ⟨r.text.toArray⟩)) (go_keep)
       (first
        | (go_at_call 8; refine (Qjz _ a r pl pg cl cg _).mono ?_; rintro e w7 ⟨rfl, hwd⟩; have hw := kundrew hwd; have HW7 := hid hw; obtain ⟨u0, u1, u2, u3, u4, u5, u6, u7, u8, u9, u10, u11⟩ := HQ.out _ (Qc HB6.out hw); obtain ⟨y0, y1, y2, _⟩ := cells3 (Qe HX6.out hw); clear hw hwd)
        | fail)
      all_goals
       go_wp2
       go_roundw
       case rel => exact ⟨k + 1, G5, Z5, hlt, h120, by go_num, by rw [HPS.out]; exact HC6.out.below HW7.out, Qc HB6.out HW7.out, HG5.out⟩
       case measure => simp [intOf]; omega
    · have hk5 : k = 120 := by omega
      have hJ : ¬ ((k : Int) < 120) := by omega
      have HE : Hid (l.take k = l.take 120) := hid (by rw [hk5])
      clear hk5
      go_wp2
      go_ret2
      have hC := HCK.out
      rw [HE.out] at hC
      exact ⟨w1.heap.size, rfl, HCB.out, HBW.out, G, ⟨Z', hC⟩, HGG.out⟩
  · have hI : ¬ ((k : Int) < (l.length : Int)) := by omega
    have HE : Hid (l.take k = l.take 120) := hid (by rw [List.take_of_length_le (by omega), List.take_of_length_le (by omega)])
    go_wp2
    go_ret2
    have hC := HCK.out
    rw [HE.out] at hC
    exact ⟨w1.heap.size, rfl, HCB.out, HBW.out, G, ⟨Z', hC⟩, HGG.out⟩
set_option linter.unusedSimpArgs false in
set_option maxRecDepth 100000 in
set_option maxHeartbeats 12800000 in
theorem Qeu (B1 B2 : Nat) (th : Thr) (pl1 po1 pj1 pm1 pl2 po2 pj2 pm2 : Option Addr) (cl1 co1 cj1 cm1 cl2 co2 cj2 cm2 : Nat) (w : World) (h1 : ThrNew w B1 (.slice pl1 th.label.length cl1) (.slice po1 th.own.length co1) (.slice pj1 th.objs.length cj1) (.slice pm1 th.mails.length cm1) th) (h2 : ThrNew w B2 (.slice pl2 th.label.length cl2) (.slice po2 th.own.length co2) (.slice pj2 th.objs.length cj2) (.slice pm2 th.mails.length cm2) th) (hg : GoodT th) :
 Calls Tryz.prog 15 #[.agg #[.slice pl1 th.label.length cl1, .slice po1 th.own.length co1, .string ⟨th.text.toArray⟩, .slice pj1 th.objs.length cj1, .slice pm1 th.mails.length cm1], .agg #[.slice pl2 th.label.length cl2, .slice po2 th.own.length co2, .string ⟨th.text.toArray⟩, .slice pj2 th.objs.length cj2, .slice pm2 th.mails.length cm2]] w fun e w' => e = .returned (.bool true) ∧ Below w.heap.size w w' := by
 have hb0 : Below w.heap.size w ((w.alloc (.cells #[.slice pl1 th.label.length cl1, .slice po1 th.own.length co1, .string ⟨th.text.toArray⟩, .slice pj1 th.objs.length cj1, .slice pm1 th.mails.length cm1] 45)).alloc (.cells #[.slice pl2 th.label.length cl2, .slice po2 th.own.length co2, .string ⟨th.text.toArray⟩, .slice pj2 th.objs.length cj2, .slice pm2 th.mails.length cm2] 45)) := (Qd w _).alloc (Qd w _).size _
 have HX1 := hid (heap_alloc2_old w (.cells #[.slice pl1 th.label.length cl1, .slice po1 th.own.length co1, .string ⟨th.text.toArray⟩, .slice pj1 th.objs.length cj1, .slice pm1 th.mails.length cm1] 45) (.cells #[.slice pl2 th.label.length cl2, .slice po2 th.own.length co2, .string ⟨th.text.toArray⟩, .slice pj2 th.objs.length cj2, .slice pm2 th.mails.length cm2] 45))
 have HX2 := hid (heap_alloc2_new w (.cells #[.slice pl1 th.label.length cl1, .slice po1 th.own.length co1, .string ⟨th.text.toArray⟩, .slice pj1 th.objs.length cj1, .slice pm1 th.mails.length cm1] 45) (.cells #[.slice pl2 th.label.length cl2, .slice po2 th.own.length co2, .string ⟨th.text.toArray⟩, .slice pj2 th.objs.length cj2, .slice pm2 th.mails.length cm2] 45))
 have HT1 := hid (h1.below hb0)
 have HT2 := hid (h2.below hb0)
 have hl8 := hg.label.1
 have hol := hg.own
 have hob := hg.objs
 have hml := hg.mails
 have HGM := hid hg.mail
 have HGO := hid hg.obj
 have hss : sameB th.label th.label = true := (Qc5 _ _).2 rfl
 have hsl := fun wx (hb : Below ((w.alloc (.cells #[.slice pl1 th.label.length cl1, .slice po1 th.own.length co1, .string ⟨th.text.toArray⟩, .slice pj1 th.objs.length cj1, .slice pm1 th.mails.length cm1] 45)).alloc (.cells #[.slice pl2 th.label.length cl2, .slice po2 th.own.length co2, .string ⟨th.text.toArray⟩, .slice pj2 th.objs.length cj2, .slice pm2 th.mails.length cm2] 45)).heap.size ((w.alloc (.cells #[.slice pl1 th.label.length cl1, .slice po1 th.own.length co1, .string ⟨th.text.toArray⟩, .slice pj1 th.objs.length cj1, .slice pm1 th.mails.length cm1] 45)).alloc (.cells #[.slice pl2 th.label.length cl2, .slice po2 th.own.length co2, .string ⟨th.text.toArray⟩, .slice pj2 th.objs.length cj2, .slice pm2 th.mails.length cm2] 45)) wx) => QdQ _ _ th.label th.label wx ((QR HT1.out.lab (by omega)).below hb) ((QR HT2.out.lab (by omega)).below hb)
 rw [hss] at hsl
 have hsn := fun wx (hb : Below ((w.alloc (.cells #[.slice pl1 th.label.length cl1, .slice po1 th.own.length co1, .string ⟨th.text.toArray⟩, .slice pj1 th.objs.length cj1, .slice pm1 th.mails.length cm1] 45)).alloc (.cells #[.slice pl2 th.label.length cl2, .slice po2 th.own.length co2, .string ⟨th.text.toArray⟩, .slice pj2 th.objs.length cj2, .slice pm2 th.mails.length cm2] 45)).heap.size ((w.alloc (.cells #[.slice pl1 th.label.length cl1, .slice po1 th.own.length co1, .string ⟨th.text.toArray⟩, .slice pj1 th.objs.length cj1, .slice pm1 th.mails.length cm1] 45)).alloc (.cells #[.slice pl2 th.label.length cl2, .slice po2 th.own.length co2, .string ⟨th.text.toArray⟩, .slice pj2 th.objs.length cj2, .slice pm2 th.mails.length cm2] 45)) wx) => QbG _ _ th.own wx ((QV HT1.out.own (by omega)).below hb) ((QV HT2.out.own (by omega)).below hb)
 have HB0 := hid hb0
 clear h1 h2 hg hss hb0
 go_enter Tryz.func15, Tryz.ntmps15
 go_upto_region 1 with fail
 generalize ((w.alloc (.cells #[.slice pl1 th.label.length cl1, .slice po1 th.own.length co1, .string ⟨th.text.toArray⟩, .slice pj1 th.objs.length cj1, .slice pm1 th.mails.length cm1] 45)).alloc (.cells #[.slice pl2 th.label.length cl2, .slice po2 th.own.length co2, .string ⟨th.text.toArray⟩, .slice pj2 th.objs.length cj2, .slice pm2 th.mails.length cm2] 45)) = w0 at *
 have HSB : Hid (∀ w', Below w0.heap.size w0 w' → w'.cell? ⟨w.heap.size, 0, none⟩ = some (.slice pl1 th.label.length cl1) ∧ w'.cell? ⟨w.heap.size, 1, none⟩ = some (.slice po1 th.own.length co1) ∧ w'.cell? ⟨w.heap.size, 2, none⟩ = some (.string ⟨th.text.toArray⟩) ∧ w'.cell? ⟨w.heap.size, 3, none⟩ = some (.slice pj1 th.objs.length cj1) ∧ w'.cell? ⟨w.heap.size, 4, none⟩ = some (.slice pm1 th.mails.length cm1) ∧ w'.cell? ⟨w.heap.size + 1, 0, none⟩ = some (.slice pl2 th.label.length cl2) ∧ w'.cell? ⟨w.heap.size + 1, 1, none⟩ = some (.slice po2 th.own.length co2) ∧ w'.cell? ⟨w.heap.size + 1, 2, none⟩ = some (.string ⟨th.text.toArray⟩) ∧ w'.cell? ⟨w.heap.size + 1, 3, none⟩ = some (.slice pj2 th.objs.length cj2) ∧ w'.cell? ⟨w.heap.size + 1, 4, none⟩ = some (.slice pm2 th.mails.length cm2)) := hid (fun w' hw => ⟨Qa (Qe HX1.out hw) 0, Qa (Qe HX1.out hw) 1, Qa (Qe HX1.out hw) 2, Qa (Qe HX1.out hw) 3, Qa (Qe HX1.out hw) 4, Qa (Qe HX2.out hw) 0, Qa (Qe HX2.out hw) 1, Qa (Qe HX2.out hw) 2, Qa (Qe HX2.out hw) 3, Qa (Qe HX2.out hw) 4⟩)
 obtain ⟨a0, a1, a2, a3, a4, b0, b1, b2, b3, b4⟩ := HSB.out _ (Below.refl _ _)
 go_upto_region 3 with (first
  | (go_at_call 36; refine (hsl _ (Below.refl _ _)).mono ?_; rintro e w1 ⟨rfl, hw1⟩; clear a0 a1 a2 a3 a4 b0 b1 b2 b3 b4; obtain ⟨a0, a1, a2, a3, a4, b0, b1, b2, b3, b4⟩ := HSB.out _ hw1)
  | (go_at_call 37; refine (hsn _ hw1).mono ?_; rintro e w2 ⟨rfl, hw2d⟩; have hw2 := Qc hw1 hw2d; clear hw2d a0 a1 a2 a3 a4 b0 b1 b2 b3 b4; obtain ⟨a0, a1, a2, a3, a4, b0, b1, b2, b3, b4⟩ := HSB.out _ hw2))
 have HB2 := hid hw2
 clear hsl hsn hw1 hw2
 go_wp2_with fail
 go_loopw [49] (fun i wr => ∃ k : Nat, k ≤ th.objs.length ∧ i = .int .i64 k ∧ Below w0.heap.size w0 wr) (fun i _ => th.objs.length - (intOf i).toNat)
 case atStart => exact ⟨0, Nat.zero_le _, rfl, HB2.out⟩
 case round =>
  clear a0 a1 a2 a3 a4 b0 b1 b2 b3 b4 HB2
  obtain ⟨i, hi, rfl, hbr⟩ := hrel
  by_cases hlt : i < th.objs.length
  · have hI : (i : Int) < (th.objs.length : Int) := by omega
    have I0 : (0 : Int) ≤ i := by omega
    obtain ⟨ga, la, ka, e1, c0, c1, o1⟩ := (HT1.out.objs.keep (QcC (R := []) (fun k hk => by cases hk)) (Qx _ hbr)).get i hlt
    obtain ⟨gb, lb, kb, e2, d0, d1, o2⟩ := (HT2.out.objs.keep (QcC (R := []) (fun k hk => by cases hk)) (Qx _ hbr)).get i hlt
    have hgo := (HGO.out _ (List.getElem_mem hlt)).2.1
    subst e1 e2
    generalize th.objs[i] = x at *
    have hss : sameB x.label x.label = true := (Qc5 _ _).2 rfl
    have hsame := fun wx (hb : Below wr.heap.size wr wx) => QdQ _ _ x.label x.label wx ((QR o1 (by omega)).below hb) ((QR o2 (by omega)).below hb)
    rw [hss] at hsame
    have HS6 : Hid (∀ w', Below wr.heap.size wr w' → w'.cell? ⟨w.heap.size, 0, none⟩ = some (.slice pl1 th.label.length cl1) ∧ w'.cell? ⟨w.heap.size, 1, none⟩ = some (.slice po1 th.own.length co1) ∧ w'.cell? ⟨w.heap.size, 2, none⟩ = some (.string ⟨th.text.toArray⟩) ∧ w'.cell? ⟨w.heap.size, 3, none⟩ = some (.slice (some ⟨ga, 0, none⟩) th.objs.length cj1) ∧ w'.cell? ⟨w.heap.size, 4, none⟩ = some (.slice pm1 th.mails.length cm1) ∧ w'.cell? ⟨w.heap.size + 1, 0, none⟩ = some (.slice pl2 th.label.length cl2) ∧ w'.cell? ⟨w.heap.size + 1, 1, none⟩ = some (.slice po2 th.own.length co2) ∧ w'.cell? ⟨w.heap.size + 1, 2, none⟩ = some (.string ⟨th.text.toArray⟩) ∧ w'.cell? ⟨w.heap.size + 1, 3, none⟩ = some (.slice (some ⟨gb, 0, none⟩) th.objs.length cj2) ∧ w'.cell? ⟨w.heap.size + 1, 4, none⟩ = some (.slice pm2 th.mails.length cm2) ∧ w'.cell? ⟨ga, i * 2, none⟩ = some (.slice la x.label.length ka) ∧ w'.cell? ⟨ga, i * 2 + 1, none⟩ = some (.string ⟨x.text.toArray⟩) ∧ w'.cell? ⟨gb, i * 2, none⟩ = some (.slice lb x.label.length kb) ∧ w'.cell? ⟨gb, i * 2 + 1, none⟩ = some (.string ⟨x.text.toArray⟩)) := hid (fun w' hw => by
     obtain ⟨q0, q1, q2, q3, q4, r0, r1, r2, r3, r4⟩ := HSB.out _ (Qc hbr hw)
     exact ⟨q0, q1, q2, q3, q4, r0, r1, r2, r3, r4, (hw.cell (Qf c0)).trans c0, (hw.cell (Qf c1)).trans c1, (hw.cell (Qf d0)).trans d0, (hw.cell (Qf d1)).trans d1⟩)
    clear o1 o2 c0 c1 d0 d1 hss
    have htt : (x.text.toArray == x.text.toArray) = true := by simp
    go_upto_region 6 with fail
    refine wp_region_held_drew (S := (fun w' => w'.cell? ⟨w.heap.size, 0, none⟩ = some (.slice pl1 th.label.length cl1) ∧ w'.cell? ⟨w.heap.size, 1, none⟩ = some (.slice po1 th.own.length co1) ∧ w'.cell? ⟨w.heap.size, 2, none⟩ = some (.string ⟨th.text.toArray⟩) ∧ w'.cell? ⟨w.heap.size, 3, none⟩ = some (.slice (some ⟨ga, 0, none⟩) th.objs.length cj1) ∧ w'.cell? ⟨w.heap.size, 4, none⟩ = some (.slice pm1 th.mails.length cm1) ∧ w'.cell? ⟨w.heap.size + 1, 0, none⟩ = some (.slice pl2 th.label.length cl2) ∧ w'.cell? ⟨w.heap.size + 1, 1, none⟩ = some (.slice po2 th.own.length co2) ∧ w'.cell? ⟨w.heap.size + 1, 2, none⟩ = some (.string ⟨th.text.toArray⟩) ∧ w'.cell? ⟨w.heap.size + 1, 3, none⟩ = some (.slice (some ⟨gb, 0, none⟩) th.objs.length cj2) ∧ w'.cell? ⟨w.heap.size + 1, 4, none⟩ = some (.slice pm2 th.mails.length cm2) ∧ w'.cell? ⟨ga, i * 2, none⟩ = some (.slice la x.label.length ka) ∧ w'.cell? ⟨ga, i * 2 + 1, none⟩ = some (.string ⟨x.text.toArray⟩) ∧ w'.cell? ⟨gb, i * 2, none⟩ = some (.slice lb x.label.length kb) ∧ w'.cell? ⟨gb, i * 2 + 1, none⟩ = some (.string ⟨x.text.toArray⟩))) (by as_aux_lemma => kernel_rfl) (HS6.out _ (Below.refl _ _).drew) (fun _hHeld => ?_)
    refine takeF 0 52 ?v1 rfl (Or.inl ⟨by rfl, ?hy1⟩) ?rest1
    case hy1 => intro wz hSw; (try dsimp only at hSw); go_simp; try with_reducible rfl
    simp only [Act.put, List.setIfInBounds_toArray, List.set_cons_zero, List.set_cons_succ]
    refine takeF 1 53 ?v2 rfl (Or.inl ⟨by rfl, ?hy2⟩) ?rest2
    case hy2 => intro wz hSw; (try dsimp only at hSw); go_simp; try with_reducible rfl
    simp only [Act.put, List.setIfInBounds_toArray, List.set_cons_zero, List.set_cons_succ]
    refine takeF 2 54 ?v3 rfl (Or.inl ⟨by rfl, ?hy3⟩) ?rest3
    case hy3 => intro wz hSw; (try dsimp only at hSw); go_simp; try with_reducible rfl
    simp only [Act.put, List.setIfInBounds_toArray, List.set_cons_zero, List.set_cons_succ]
    refine takeF 3 55 ?v4 rfl (Or.inl ⟨by rfl, ?hy4⟩) ?rest4
    case hy4 => intro wz hSw; (try dsimp only at hSw); go_simp; try with_reducible rfl
    simp only [Act.put, List.setIfInBounds_toArray, List.set_cons_zero, List.set_cons_succ]
    refine takeF 4 56 ?v5 rfl (Or.inl ⟨by rfl, ?hy5⟩) ?rest5
    case hy5 => intro wz hSw; (try dsimp only at hSw); go_simp; try with_reducible rfl
    simp only [Act.put, List.setIfInBounds_toArray, List.set_cons_zero, List.set_cons_succ]
    refine takeF 5 57 ?v6 rfl (Or.inl ⟨by rfl, ?hy6⟩) ?rest6
    case hy6 => intro wz hSw; (try dsimp only at hSw); go_simp; try with_reducible rfl
    simp only [Act.put, List.setIfInBounds_toArray, List.set_cons_zero, List.set_cons_succ]
    refine takeF 6 58 ?v7 rfl (Or.inl ⟨by rfl, ?hy7⟩) ?rest7
    case hy7 => intro wz hSw; (try dsimp only at hSw); go_simp; try with_reducible rfl
    simp only [Act.put, List.setIfInBounds_toArray, List.set_cons_zero, List.set_cons_succ]
    refine takeF 7 59 ?v8 rfl (Or.inl ⟨by rfl, ?hy8⟩) ?rest8
    case hy8 => intro wz hSw; (try dsimp only at hSw); go_simp; try with_reducible rfl
    simp only [Act.put, List.setIfInBounds_toArray, List.set_cons_zero, List.set_cons_succ]
    refine takeF 8 60 ?v9 rfl (Or.inl ⟨by rfl, ?hy9⟩) ?rest9
    case hy9 => intro wz hSw; (try dsimp only at hSw); go_simp; try with_reducible rfl
    simp only [Act.put, List.setIfInBounds_toArray, List.set_cons_zero, List.set_cons_succ]
    refine takeF 9 61 ?v10 rfl (Or.inl ⟨by rfl, ?hy10⟩) ?rest10
    case hy10 => intro wz hSw; (try dsimp only at hSw); go_simp; try with_reducible rfl
    simp only [Act.put, List.setIfInBounds_toArray, List.set_cons_zero, List.set_cons_succ]
    refine takeF 10 62 ?v11 rfl (Or.inl ⟨by rfl, ?hy11⟩) ?rest11
    case hy11 => intro wz hSw; (try dsimp only at hSw); go_simp; try with_reducible rfl
    simp only [Act.put, List.setIfInBounds_toArray, List.set_cons_zero, List.set_cons_succ]
    refine takeF 11 63 ?v12 rfl (Or.inl ⟨by rfl, ?hy12⟩) ?rest12
    case hy12 => intro wz hSw; (try dsimp only at hSw); go_simp; try with_reducible rfl
    simp only [Act.put, List.setIfInBounds_toArray, List.set_cons_zero, List.set_cons_succ]
    refine takeF 12 64 ?v13 rfl (Or.inl ⟨by rfl, ?hy13⟩) ?rest13
    case hy13 => intro wz hSw; (try dsimp only at hSw); go_simp; try with_reducible rfl
    simp only [Act.put, List.setIfInBounds_toArray, List.set_cons_zero, List.set_cons_succ]
    refine takeF 13 65 ?v14 rfl (Or.inl ⟨by rfl, ?hy14⟩) ?rest14
    case hy14 => intro wz hSw; (try dsimp only at hSw); go_simp; try with_reducible rfl
    simp only [Act.put, List.setIfInBounds_toArray, List.set_cons_zero, List.set_cons_succ]
    refine takeF 14 66 ?v15 rfl (Or.inl ⟨by rfl, ?hy15⟩) ?rest15
    case hy15 => intro wz hSw; (try dsimp only at hSw); go_simp; try with_reducible rfl
    simp only [Act.put, List.setIfInBounds_toArray, List.set_cons_zero, List.set_cons_succ]
    refine takeF 15 67 ?v16 rfl (Or.inl ⟨by rfl, ?hy16⟩) ?rest16
    case hy16 => intro wz hSw; (try dsimp only at hSw); go_simp; try with_reducible rfl
    simp only [Act.put, List.setIfInBounds_toArray, List.set_cons_zero, List.set_cons_succ]
    refine takeF 16 68 ?v17 rfl (Or.inl ⟨by rfl, ?hy17⟩) ?rest17
    case hy17 => intro wz hSw; (try dsimp only at hSw); go_simp; try with_reducible rfl
    simp only [Act.put, List.setIfInBounds_toArray, List.set_cons_zero, List.set_cons_succ]
    refine takeF 17 69 ?v18 rfl (Or.inl ⟨by rfl, ?hy18⟩) ?rest18
    case hy18 => intro wz hSw; (try dsimp only at hSw); go_simp; try with_reducible rfl
    simp only [Act.put, List.setIfInBounds_toArray, List.set_cons_zero, List.set_cons_succ]
    refine takeF 18 70 ?v19 rfl (Or.inl ⟨by rfl, ?hy19⟩) ?rest19
    case hy19 => intro wz hSw; (try dsimp only at hSw); go_simp; try with_reducible rfl
    simp only [Act.put, List.setIfInBounds_toArray, List.set_cons_zero, List.set_cons_succ]
    refine takeF 19 71 ?v20 rfl (Or.inl ⟨by rfl, ?hy20⟩) ?rest20
    case hy20 => intro wz hSw; (try dsimp only at hSw); go_simp; try with_reducible rfl
    simp only [Act.put, List.setIfInBounds_toArray, List.set_cons_zero, List.set_cons_succ]
    refine takeF 20 72 ?v21 rfl (Or.inl ⟨by rfl, ?hy21⟩) ?rest21
    case hy21 => intro wz hSw; (try dsimp only at hSw); go_simp; try with_reducible rfl
    simp only [Act.put, List.setIfInBounds_toArray, List.set_cons_zero, List.set_cons_succ]
    refine takeF 21 73 ?v22 rfl (Or.inl ⟨by rfl, ?hy22⟩) ?rest22
    case hy22 => intro wz hSw; (try dsimp only at hSw); go_simp; try with_reducible rfl
    simp only [Act.put, List.setIfInBounds_toArray, List.set_cons_zero, List.set_cons_succ]
    refine takeF 22 74 ?v23 rfl (Or.inl ⟨by rfl, ?hy23⟩) ?rest23
    case hy23 => intro wz hSw; (try dsimp only at hSw); go_simp; try with_reducible rfl
    simp only [Act.put, List.setIfInBounds_toArray, List.set_cons_zero, List.set_cons_succ]
    refine takeF 23 75 ?v24 rfl (Or.inl ⟨by rfl, ?hy24⟩) ?rest24
    case hy24 => intro wz hSw; (try dsimp only at hSw); go_simp; try with_reducible rfl
    simp only [Act.put, List.setIfInBounds_toArray, List.set_cons_zero, List.set_cons_succ]
    refine takeF 24 76 ?v25 rfl (Or.inl ⟨by rfl, ?hy25⟩) ?rest25
    case hy25 => intro wz hSw; (try dsimp only at hSw); go_simp; try with_reducible rfl
    simp only [Act.put, List.setIfInBounds_toArray, List.set_cons_zero, List.set_cons_succ]
    refine takeF 25 77 ?v26 rfl (Or.inl ⟨by rfl, ?hy26⟩) ?rest26
    case hy26 => intro wz hSw; (try dsimp only at hSw); go_simp; try with_reducible rfl
    simp only [Act.put, List.setIfInBounds_toArray, List.set_cons_zero, List.set_cons_succ]
    refine wpAnyH_ready (rs := [26]) (by as_aux_lemma => kernel_rfl) (by simp) ?_
    refine (AllReadyH.cons rfl (fun K' hK => ?_) AllReadyH.nil)
    go_simp
    go_wp2_with (go_at_call 36; refine (hsame _ (Below.refl _ _).drew).mono ?_; rintro e w5 ⟨rfl, hwd⟩)
    have hw5 : Below wr.heap.size wr w5 := ⟨hwd.os, hwd.tape, hwd.output, hwd.size, hwd.block⟩
    clear hwd
    refine hK.out _ _ (HS6.out _ hw5) (fun _ => ?_)
    clear hK K'
    refine takeF 27 79 ?v27 rfl (Or.inl ⟨by rfl, ?hy27⟩) ?rest27
    case hy27 => intro wz hSw; (try dsimp only at hSw); go_simp; try with_reducible rfl
    simp only [Act.put, List.setIfInBounds_toArray, List.set_cons_zero, List.set_cons_succ]
    refine takeF 28 80 ?v28 rfl (Or.inl ⟨by rfl, ?hy28⟩) ?rest28
    case hy28 => intro wz hSw; (try dsimp only at hSw); go_simp; try with_reducible rfl
    simp only [Act.put, List.setIfInBounds_toArray, List.set_cons_zero, List.set_cons_succ]
    refine wpAnyH_done (by as_aux_lemma => kernel_rfl) ?_ _
    go_wp2
    go_roundw
    case rel => exact ⟨i + 1, hlt, by go_num, Qc hbr hw5⟩
    case measure => simp [intOf]; omega
  · have hik : i = th.objs.length := by omega
    subst hik
    obtain ⟨a0, a1, a2, a3, a4, b0, b1, b2, b3, b4⟩ := HSB.out _ hbr
    have HBR := hid hbr
    clear hbr
    go_wp2_with fail
    go_loopw [85] (fun i wr => ∃ k : Nat, k ≤ th.mails.length ∧ i = .int .i64 k ∧ Below w0.heap.size w0 wr) (fun i _ => th.mails.length - (intOf i).toNat)
    case atStart => exact ⟨0, Nat.zero_le _, rfl, HBR.out⟩
    case round =>
     clear a0 a1 a2 a3 a4 b0 b1 b2 b3 b4 HBR
     obtain ⟨i, hi2, rfl, hbr⟩ := hrel
     by_cases hlt : i < th.mails.length
     · have hI : (i : Int) < (th.mails.length : Int) := by omega
       have I0 : (0 : Int) ≤ i := by omega
       obtain ⟨ga, la, ka, na, ma, e1, c0, c1, c2, c3, c4, o1, o1'⟩ := (HT1.out.mails.keep (QcC (R := []) (fun k hk => by cases hk)) (Qx _ hbr)).get i hlt
       obtain ⟨gb, lb, kb, nb, mb, e2, d0, d1, d2, d3, d4, o2, o2'⟩ := (HT2.out.mails.keep (QcC (R := []) (fun k hk => by cases hk)) (Qx _ hbr)).get i hlt
       have hgm := Qln (HGM.out _ (List.getElem_mem hlt))
       subst e1 e2
       generalize th.mails[i] = x at *
       have hsame := fun wx (hb : Below wr.heap.size wr wx) => Qft _ _ x wx ⟨_, _, rfl, (QR o1 (by omega)).below hb, (QV o1' (by omega)).below hb⟩ ⟨_, _, rfl, (QR o2 (by omega)).below hb, (QV o2' (by omega)).below hb⟩
       unfold malV at hsame
       have HS12 : Hid (∀ w', Below wr.heap.size wr w' → w'.cell? ⟨w.heap.size, 0, none⟩ = some (.slice pl1 th.label.length cl1) ∧ w'.cell? ⟨w.heap.size, 1, none⟩ = some (.slice po1 th.own.length co1) ∧ w'.cell? ⟨w.heap.size, 2, none⟩ = some (.string ⟨th.text.toArray⟩) ∧ w'.cell? ⟨w.heap.size, 3, none⟩ = some (.slice pj1 th.objs.length cj1) ∧ w'.cell? ⟨w.heap.size, 4, none⟩ = some (.slice (some ⟨ga, 0, none⟩) th.mails.length cm1) ∧ w'.cell? ⟨w.heap.size + 1, 0, none⟩ = some (.slice pl2 th.label.length cl2) ∧ w'.cell? ⟨w.heap.size + 1, 1, none⟩ = some (.slice po2 th.own.length co2) ∧ w'.cell? ⟨w.heap.size + 1, 2, none⟩ = some (.string ⟨th.text.toArray⟩) ∧ w'.cell? ⟨w.heap.size + 1, 3, none⟩ = some (.slice pj2 th.objs.length cj2) ∧ w'.cell? ⟨w.heap.size + 1, 4, none⟩ = some (.slice (some ⟨gb, 0, none⟩) th.mails.length cm2) ∧ w'.cell? ⟨ga, i * 5, none⟩ = some (.int .i64 x.host) ∧ w'.cell? ⟨ga, i * 5 + 1, none⟩ = some (.int .i64 x.thread) ∧ w'.cell? ⟨ga, i * 5 + 2, none⟩ = some (.slice la x.label.length ka) ∧ w'.cell? ⟨ga, i * 5 + 3, none⟩ = some (.slice na x.grants.length ma) ∧ w'.cell? ⟨ga, i * 5 + 4, none⟩ = some (.string ⟨x.text.toArray⟩) ∧ w'.cell? ⟨gb, i * 5, none⟩ = some (.int .i64 x.host) ∧ w'.cell? ⟨gb, i * 5 + 1, none⟩ = some (.int .i64 x.thread) ∧ w'.cell? ⟨gb, i * 5 + 2, none⟩ = some (.slice lb x.label.length kb) ∧ w'.cell? ⟨gb, i * 5 + 3, none⟩ = some (.slice nb x.grants.length mb) ∧ w'.cell? ⟨gb, i * 5 + 4, none⟩ = some (.string ⟨x.text.toArray⟩)) := hid (fun w' hw => by
        obtain ⟨q0, q1, q2, q3, q4, r0, r1, r2, r3, r4⟩ := HSB.out _ (Qc hbr hw)
        exact ⟨q0, q1, q2, q3, q4, r0, r1, r2, r3, r4, (hw.cell (Qf c0)).trans c0, (hw.cell (Qf c1)).trans c1, (hw.cell (Qf c2)).trans c2, (hw.cell (Qf c3)).trans c3, (hw.cell (Qf c4)).trans c4, (hw.cell (Qf d0)).trans d0, (hw.cell (Qf d1)).trans d1, (hw.cell (Qf d2)).trans d2, (hw.cell (Qf d3)).trans d3, (hw.cell (Qf d4)).trans d4⟩)
       clear o1 o2 o1' o2' c0 c1 c2 c3 c4 d0 d1 d2 d3 d4 hgm
       go_upto_region 12 with fail
       refine wp_region_held_drew (S := (fun w' => w'.cell? ⟨w.heap.size, 0, none⟩ = some (.slice pl1 th.label.length cl1) ∧ w'.cell? ⟨w.heap.size, 1, none⟩ = some (.slice po1 th.own.length co1) ∧ w'.cell? ⟨w.heap.size, 2, none⟩ = some (.string ⟨th.text.toArray⟩) ∧ w'.cell? ⟨w.heap.size, 3, none⟩ = some (.slice pj1 th.objs.length cj1) ∧ w'.cell? ⟨w.heap.size, 4, none⟩ = some (.slice (some ⟨ga, 0, none⟩) th.mails.length cm1) ∧ w'.cell? ⟨w.heap.size + 1, 0, none⟩ = some (.slice pl2 th.label.length cl2) ∧ w'.cell? ⟨w.heap.size + 1, 1, none⟩ = some (.slice po2 th.own.length co2) ∧ w'.cell? ⟨w.heap.size + 1, 2, none⟩ = some (.string ⟨th.text.toArray⟩) ∧ w'.cell? ⟨w.heap.size + 1, 3, none⟩ = some (.slice pj2 th.objs.length cj2) ∧ w'.cell? ⟨w.heap.size + 1, 4, none⟩ = some (.slice (some ⟨gb, 0, none⟩) th.mails.length cm2) ∧ w'.cell? ⟨ga, i * 5, none⟩ = some (.int .i64 x.host) ∧ w'.cell? ⟨ga, i * 5 + 1, none⟩ = some (.int .i64 x.thread) ∧ w'.cell? ⟨ga, i * 5 + 2, none⟩ = some (.slice la x.label.length ka) ∧ w'.cell? ⟨ga, i * 5 + 3, none⟩ = some (.slice na x.grants.length ma) ∧ w'.cell? ⟨ga, i * 5 + 4, none⟩ = some (.string ⟨x.text.toArray⟩) ∧ w'.cell? ⟨gb, i * 5, none⟩ = some (.int .i64 x.host) ∧ w'.cell? ⟨gb, i * 5 + 1, none⟩ = some (.int .i64 x.thread) ∧ w'.cell? ⟨gb, i * 5 + 2, none⟩ = some (.slice lb x.label.length kb) ∧ w'.cell? ⟨gb, i * 5 + 3, none⟩ = some (.slice nb x.grants.length mb) ∧ w'.cell? ⟨gb, i * 5 + 4, none⟩ = some (.string ⟨x.text.toArray⟩))) (by as_aux_lemma => kernel_rfl) (HS12.out _ (Below.refl _ _).drew) (fun _hHeld => ?_)
       refine takeF 0 88 ?v29 rfl (Or.inl ⟨by rfl, ?hy29⟩) ?rest29
       case hy29 => intro wz hSw; (try dsimp only at hSw); go_simp; try with_reducible rfl
       simp only [Act.put, List.setIfInBounds_toArray, List.set_cons_zero, List.set_cons_succ]
       refine takeF 1 89 ?v30 rfl (Or.inl ⟨by rfl, ?hy30⟩) ?rest30
       case hy30 => intro wz hSw; (try dsimp only at hSw); go_simp; try with_reducible rfl
       simp only [Act.put, List.setIfInBounds_toArray, List.set_cons_zero, List.set_cons_succ]
       refine takeF 2 90 ?v31 rfl (Or.inl ⟨by rfl, ?hy31⟩) ?rest31
       case hy31 => intro wz hSw; (try dsimp only at hSw); go_simp; try with_reducible rfl
       simp only [Act.put, List.setIfInBounds_toArray, List.set_cons_zero, List.set_cons_succ]
       refine takeF 3 91 ?v32 rfl (Or.inl ⟨by rfl, ?hy32⟩) ?rest32
       case hy32 => intro wz hSw; (try dsimp only at hSw); go_simp; try with_reducible rfl
       simp only [Act.put, List.setIfInBounds_toArray, List.set_cons_zero, List.set_cons_succ]
       refine takeF 4 92 ?v33 rfl (Or.inl ⟨by rfl, ?hy33⟩) ?rest33
       case hy33 => intro wz hSw; (try dsimp only at hSw); go_simp; try with_reducible rfl
       simp only [Act.put, List.setIfInBounds_toArray, List.set_cons_zero, List.set_cons_succ]
       refine takeF 5 93 ?v34 rfl (Or.inl ⟨by rfl, ?hy34⟩) ?rest34
       case hy34 => intro wz hSw; (try dsimp only at hSw); go_simp; try with_reducible rfl
       simp only [Act.put, List.setIfInBounds_toArray, List.set_cons_zero, List.set_cons_succ]
       refine takeF 6 94 ?v35 rfl (Or.inl ⟨by rfl, ?hy35⟩) ?rest35
       case hy35 => intro wz hSw; (try dsimp only at hSw); go_simp; try with_reducible rfl
       simp only [Act.put, List.setIfInBounds_toArray, List.set_cons_zero, List.set_cons_succ]
       refine takeF 7 95 ?v36 rfl (Or.inl ⟨by rfl, ?hy36⟩) ?rest36
       case hy36 => intro wz hSw; (try dsimp only at hSw); go_simp; try with_reducible rfl
       simp only [Act.put, List.setIfInBounds_toArray, List.set_cons_zero, List.set_cons_succ]
       refine takeF 8 96 ?v37 rfl (Or.inl ⟨by rfl, ?hy37⟩) ?rest37
       case hy37 => intro wz hSw; (try dsimp only at hSw); go_simp; try with_reducible rfl
       simp only [Act.put, List.setIfInBounds_toArray, List.set_cons_zero, List.set_cons_succ]
       refine takeF 9 97 ?v38 rfl (Or.inl ⟨by rfl, ?hy38⟩) ?rest38
       case hy38 => intro wz hSw; (try dsimp only at hSw); go_simp; try with_reducible rfl
       simp only [Act.put, List.setIfInBounds_toArray, List.set_cons_zero, List.set_cons_succ]
       refine wpAnyH_ready (rs := [10]) (by as_aux_lemma => kernel_rfl) (by simp) ?_
       refine (AllReadyH.cons rfl (fun K' hK => ?_) AllReadyH.nil)
       go_simp
       go_wp2_with (go_at_call 38; refine (hsame _ (Below.refl _ _).drew).mono ?_; rintro e w5 ⟨rfl, hwd⟩)
       have hw5 : Below wr.heap.size wr w5 := ⟨hwd.os, hwd.tape, hwd.output, hwd.size, hwd.block⟩
       clear hwd
       refine hK.out _ _ (HS12.out _ hw5) (fun _ => ?_)
       clear hK K'
       refine takeF 11 99 ?v39 rfl (Or.inl ⟨by rfl, ?hy39⟩) ?rest39
       case hy39 => intro wz hSw; (try dsimp only at hSw); go_simp; try with_reducible rfl
       simp only [Act.put, List.setIfInBounds_toArray, List.set_cons_zero, List.set_cons_succ]
       refine wpAnyH_done (by as_aux_lemma => kernel_rfl) ?_ _
       go_wp2
       go_roundw
       case rel => exact ⟨i + 1, hlt, by go_num, Qc hbr hw5⟩
       case measure => simp [intOf]; omega
     · have hik : i = th.mails.length := by omega
       subst hik
       go_wp2
       go_ret
       exact ⟨rfl, Qc HB0.out hbr⟩
end Go.Proofs.YtpdijobakfpnbaaGreat
