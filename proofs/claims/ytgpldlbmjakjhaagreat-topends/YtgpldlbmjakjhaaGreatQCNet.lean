/- Rows of acts, and of replies. -/
import Derived.Test.YtgpldlbmjakjhaaGreatQCCome
import Derived.Test.YtgpldlbmjakjhaaGreatQTAdd
import Derived.Test.YtgpldlbmjakjhaaGreatQCClu
import Derived.Test.YtgpldlbmjakjhaaGreatQPlain
import Derived.Test.YtgpldlbmjakjhaaGreatQNamed
import Derived.Deep.RegionHeld3
import Derived.Test.YtgpldlbmjakjhaaGreatQTakeD
namespace Go.Proofs.YtgpldlbmjakjhaaGreat
open Go.RowKit Go.Proofs.Parclose
structure AcV where
  a : Ac
  vl : Value
  vg : Value
def AcV.cells (x : AcV) : List Value := [.int .i64 x.a.kind, .int .i64 x.a.h, .int .i64 x.a.t, .int .i64 x.a.n, .int .i64 x.a.call.kind, .int .i64 x.a.call.h, .int .i64 x.a.call.t, .int .i64 x.a.call.n, .int .i64 x.a.call.c, x.vl, x.vg, .string ⟨x.a.call.text.toArray⟩]
structure AcV.Ok (w : World) (x : AcV) : Prop where
  lab : LabAt w x.vl x.a.call.label
  nums : IntsAt w x.vg x.a.call.grants
theorem AcV.Ok.below {w wr : World} {x : AcV} (h : x.Ok w) (hb : Below w.heap.size w wr) : x.Ok wr := ⟨h.lab.below hb, h.nums.below hb⟩
def flatA (q : List AcV) : List Value := q.flatMap AcV.cells
theorem flatA_cons (x : AcV) (q : List AcV) : flatA (x :: q) = x.cells ++ flatA q := rfl
theorem flatA_len (q : List AcV) : (flatA q).length = q.length * 12 := by
  induction q with
  | nil => rfl
  | cons x r ih =>
    rw [flatA_cons, List.length_append, ih, List.length_cons]
    show 12 + r.length * 12 = _
    omega
theorem flatA_get : ∀ (q : List AcV) (j : Nat) (hj : j < q.length) (i : Nat) (_ : i < 12), (flatA q)[j * 12 + i]? = (q[j]).cells[i]?
  | x :: r, 0, _, i, hi => by
    rw [flatA_cons, List.getElem?_append_left (by show _ < 12; omega)]
    simp
  | x :: r, j + 1, hj, i, hi => by
    rw [flatA_cons, List.getElem?_append_right (by show 12 ≤ _; omega), show (j + 1) * 12 + i - x.cells.length = j * 12 + i by show (j + 1) * 12 + i - 12 = _; omega, flatA_get r j (by simpa using hj) i hi]
    simp
theorem flatA_take (q : List AcV) (k : Nat) : flatA (q.take k) = (flatA q).take (k * 12) := by
  induction q generalizing k with
  | nil => simp [flatA]
  | cons x r ih =>
    cases k with
    | zero => simp [flatA]
    | succ k =>
      rw [List.take_succ_cons, flatA_cons, flatA_cons, ih, show (k + 1) * 12 = x.cells.length + k * 12 by show _ = 12 + k * 12; omega, List.take_length_add_append]
def AcsAt (w : World) (v : Value) (l : List Ac) : Prop := ∃ q : List AcV, q.map (·.a) = l ∧ (∀ x ∈ q, x.Ok w) ∧ ∃ p cap, v = .slice p q.length cap ∧ (q.length ≤ cap ∧ (p = none → cap = 0)) ∧ (0 < q.length → ∃ b o, p = some ⟨b, o, none⟩ ∧ ∀ j u, (flatA q)[j]? = some u → w.cell? ⟨b, o + j, none⟩ = some u)
theorem AcsAt.below {w wr : World} {v : Value} {l : List Ac} (h : AcsAt w v l) (hb : Below w.heap.size w wr) : AcsAt wr v l := by
  obtain ⟨q, h1, h2, p, cap, h3, h4, h5⟩ := h
  refine ⟨q, h1, fun x hx => (h2 x hx).below hb, p, cap, h3, h4, fun h0 => ?_⟩
  obtain ⟨b, o, h6, h7⟩ := h5 h0
  exact ⟨b, o, h6, fun j u hu => by rw [hb.cell (cell_block (h7 j u hu)), h7 j u hu]⟩
theorem AcsAt.slice {w : World} {v : Value} {l : List Ac} (h : AcsAt w v l) : ∃ p cap, v = .slice p l.length cap ∧ l.length ≤ cap ∧ (p = none → cap = 0) := by
  obtain ⟨q, rfl, _, p, cap, rfl, h4, _⟩ := h
  exact ⟨p, cap, by simp, by simpa using h4.1, h4.2⟩
theorem AcsAt.take {w : World} {p : Option Addr} {n cap : Nat} {l : List Ac} (h : AcsAt w (.slice p n cap) l) (k : Nat) (hk : k ≤ l.length) : AcsAt w (.slice p k cap) (l.take k) := by
  obtain ⟨q, rfl, h2, p', cap', e, h4, h5⟩ := h
  injection e with e1 e2 e3
  subst e1 e3
  have hkq : k ≤ q.length := by simpa using hk
  refine ⟨q.take k, by rw [List.map_take], fun x hx => h2 x (List.mem_of_mem_take hx), p, cap, by rw [List.length_take, Nat.min_eq_left hkq], ⟨by rw [List.length_take]; omega, h4.2⟩, fun h0 => ?_⟩
  rw [List.length_take] at h0
  obtain ⟨b, o, h6, h7⟩ := h5 (by omega)
  refine ⟨b, o, h6, fun j u hu => h7 j u ?_⟩
  rw [flatA_take, List.getElem?_take] at hu
  split at hu
  · exact hu
  · cases hu
theorem AcsAt.get {w : World} {p : Option Addr} {n cap : Nat} {l : List Ac} (h : AcsAt w (.slice p n cap) l) (j : Nat) (hj : j < l.length) :
    ∃ b o pl cl pg cg, p = some ⟨b, o, none⟩ ∧ LabAt w (.slice pl (l[j]).call.label.length cl) (l[j]).call.label ∧ IntsAt w (.slice pg (l[j]).call.grants.length cg) (l[j]).call.grants ∧
      w.cell? ⟨b, o + j * 12, none⟩ = some (.int .i64 (l[j]).kind) ∧ w.cell? ⟨b, o + j * 12 + 1, none⟩ = some (.int .i64 (l[j]).h) ∧ w.cell? ⟨b, o + j * 12 + 2, none⟩ = some (.int .i64 (l[j]).t) ∧ w.cell? ⟨b, o + j * 12 + 3, none⟩ = some (.int .i64 (l[j]).n) ∧ w.cell? ⟨b, o + j * 12 + 4, none⟩ = some (.int .i64 (l[j]).call.kind) ∧ w.cell? ⟨b, o + j * 12 + 5, none⟩ = some (.int .i64 (l[j]).call.h) ∧ w.cell? ⟨b, o + j * 12 + 6, none⟩ = some (.int .i64 (l[j]).call.t) ∧ w.cell? ⟨b, o + j * 12 + 7, none⟩ = some (.int .i64 (l[j]).call.n) ∧ w.cell? ⟨b, o + j * 12 + 8, none⟩ = some (.int .i64 (l[j]).call.c) ∧ w.cell? ⟨b, o + j * 12 + 9, none⟩ = some (.slice pl (l[j]).call.label.length cl) ∧ w.cell? ⟨b, o + j * 12 + 10, none⟩ = some (.slice pg (l[j]).call.grants.length cg) ∧ w.cell? ⟨b, o + j * 12 + 11, none⟩ = some (.string ⟨(l[j]).call.text.toArray⟩) := by
  obtain ⟨q, rfl, hok, p', cap', e, _, h4⟩ := h
  cases e
  have hjq : j < q.length := by simpa using hj
  obtain ⟨b, o, rfl, hc⟩ := h4 (by omega)
  have ho := hok _ (List.getElem_mem hjq)
  have g : ∀ i, i < 12 → ∀ u, (q[j]).cells[i]? = some u → w.cell? ⟨b, o + j * 12 + i, none⟩ = some u := fun i hi u hu => by
    rw [Nat.add_assoc]
    exact hc _ _ (by rw [flatA_get q j hjq i hi, hu])
  have e : (q.map (·.a))[j] = (q[j]).a := by simp
  rw [e]
  generalize q[j] = x at *
  obtain ⟨f, vl, vg⟩ := x
  obtain ⟨h1, h2⟩ := ho
  simp only at h1 h2 ⊢
  obtain ⟨pl, cl, rfl, _⟩ := id h1
  obtain ⟨pg, cg, rfl, _⟩ := id h2
  exact ⟨b, o, pl, cl, pg, cg, rfl, h1, h2, g 0 (by omega) _ rfl, g 1 (by omega) _ rfl, g 2 (by omega) _ rfl, g 3 (by omega) _ rfl, g 4 (by omega) _ rfl, g 5 (by omega) _ rfl, g 6 (by omega) _ rfl, g 7 (by omega) _ rfl, g 8 (by omega) _ rfl, g 9 (by omega) _ rfl, g 10 (by omega) _ rfl, g 11 (by omega) _ rfl⟩
theorem CluAt.row {w w' : World} {cb : Nat} {G : List Nat} {Z : CluV} {C : Clu} {v v' : Value} {n n' : Nat} {xs xs' : List Value} (h : CluAt w cb G Z C) (hv : w.ownsRow 0 35 3 v n xs) (hin : ∀ k, v.ownBlock = some k → k ∈ G) (hg : w.grownBy w' v.ownBlock) (hv' : w'.ownsRow 0 35 3 v' n' xs') (hw : ∀ k, v'.ownBlock = some k → v.ownBlock = some k ∨ w.heap.size ≤ k) : CluAt w' cb (G ++ v'.ownBlock.toList) Z C := by
  refine h.keep (R := v.ownBlock.toList) (kept_grown hg fun k e => .inl (Option.mem_toList.2 e)) (fun k hk => hin k (Option.mem_toList.1 hk)) ⟨fun k hk => List.mem_append.2 (.inl hk), fun k hk => ?_⟩ (fun k hk e => ?_) (fun k hk => ?_)
  · rcases List.mem_append.1 hk with e | e
    · exact .inl e
    · rcases hw k (Option.mem_toList.1 e) with q | q
      · exact .inl (hin k q)
      · exact .inr q
  · have hvk := Option.mem_toList.1 e
    rcases hv.2 with ⟨rfl, _⟩ | ⟨g, cap, cur, rfl, _, hh, _⟩
    · cases hvk
    · cases hvk
      exact h.notown hh (by decide) (by decide) (by decide) (by decide) (by decide) (by decide) hk
  · rcases List.mem_append.1 hk with e | e
    · exact Nat.lt_of_lt_of_le (h.fin k e) hg.size
    · have hvk := Option.mem_toList.1 e
      rcases hv'.2 with ⟨rfl, _⟩ | ⟨g, cap, cur, rfl, _, hh, _⟩
      · cases hvk
      · cases hvk; exact heap_lt hh
end Go.Proofs.YtgpldlbmjakjhaaGreat
namespace Go.Proofs.YtgpldlbmjakjhaaGreat
open Go.RowKit Go.Proofs.Parclose
set_option maxRecDepth 100000 in
set_option maxHeartbeats 400000 in
theorem cloneT_some (a : Addr) (n cap : Nat) (xs : List Value) (w : World) (hl : xs.length = n * 1) (hn : n ≤ 1000) (hc : ∀ j u, xs[j]? = some u → w.cell? (a.add j) = some u) (h1 : ∀ u ∈ xs, u.oneCell' = true) :
    Calls Tryz.prog 40 #[.slice (some a) n cap] w fun e w' => ∃ v', e = .returned v' ∧ w'.ownsRow w.heap.size 9 1 v' n xs ∧ Below w.heap.size w w' := by
  obtain ⟨i0, hi, hz0, hz1, hz2⟩ := info_parts info_text
  have q : ∀ (wx : World) (p : Option Addr) (n c n' c' : Nat), (binOp .eql 48 (.slice p n c) (.slice none n' c')).run Tryz.prog wx = .ok (.bool p.isNone) wx := fun wx p n c n' c' => Lib.run_eql_slice_nil wx _ _ p n c n' c' Tryz.underlying48
  have HC := hid hc
  clear hc
  go_enter Tryz.func40, Tryz.ntmps40
  go_wp2_with (at_builtin; refine wpList_append_own _ rfl _ _ 48 rfl w.heap.size 9 i0 _ 1 16 Tryz.underlying48 hi hz0 hz1 hz2 rfl (by decide) _ 0 [] rfl (cown_empty w _ _ _ (Nat.le_refl _)) a n cap xs rfl hl (fun j u hu => by have := HC.out j u hu; rw [(below_box w _).cell (cell_block this), this]) h1 (by unfold maxLen; omega) (by omega) (by simp) ?_; intro v6 w6 hown6 hgrow6 hnil6)
  have hb6 : Below w.heap.size w w6 := (below_box w (.cells #[] 9)).grown hgrow6 (by simp) (fun k hk => by cases hk; exact Nat.le_refl _)
  clear hgrow6 hnil6
  rw [Nat.zero_add, List.nil_append] at hown6
  go_ret
  exact ⟨v6, rfl, hown6, hb6⟩
theorem cloneT_none (n cap : Nat) (w : World) : Calls Tryz.prog 40 #[.slice none n cap] w fun e w' => e = .returned (.slice none 0 0) ∧ w' = w := by
  have q : ∀ (wx : World) (p : Option Addr) (n c n' c' : Nat), (binOp .eql 48 (.slice p n c) (.slice none n' c')).run Tryz.prog wx = .ok (.bool p.isNone) wx := fun wx p n c n' c' => Lib.run_eql_slice_nil wx _ _ p n c n' c' Tryz.underlying48
  go_enter Tryz.func40, Tryz.ntmps40
  go_wp2
  go_ret
  exact ⟨rfl, rfl⟩
theorem cloneT_any (v : Value) (l : List (List UInt8)) (w : World) (hv : w.ownsRow 0 9 1 v l.length (strs l)) (hl : l.length ≤ 1000) :
    Calls Tryz.prog 40 #[v] w fun e w' => ∃ v', e = .returned v' ∧ w'.ownsRow w.heap.size 9 1 v' l.length (strs l) ∧ Below w.heap.size w w' := by
  rcases hv.2 with ⟨e0, h0⟩ | ⟨g, cap, cur, e0, _⟩
  · subst e0
    have hn : l = [] := List.length_eq_zero_iff.1 h0
    subst hn
    refine (cloneT_none 0 0 w).mono ?_
    rintro e w' ⟨rfl, rfl⟩
    exact ⟨_, rfl, World.ownsRow_nil _ _ _ _, Below.refl _ _⟩
  · subst e0
    exact cloneT_some ⟨g, 0, none⟩ l.length cap (strs l) w (strs_len l) hl (hv.cells (g := g) rfl) (strs_one l)
set_option maxRecDepth 100000 in
theorem cnet_any (cb : Nat) (F : List Nat) (Z : CluV) (C : Clu) (w : World) (hc : CluAt w cb F Z C) (h60 : C.net.length ≤ 60) :
    Calls Tryz.prog 16 #[.pointer (some ⟨cb, 0, none⟩)] w fun e w' => ∃ p cap, e = .returned (.slice p C.net.length cap) ∧ w'.ownsRow w.heap.size 9 1 (.slice p C.net.length cap) C.net.length (strs C.net) ∧ Below w.heap.size w w' := by
  have k := hc.cnet.1
  obtain ⟨pn, cn, hvn⟩ := texts_slice hc.net
  have hcl := cloneT_any Z.vn C.net w hc.net (by omega)
  rw [hvn] at k hcl
  clear hvn
  have hlt := hc.lt
  clear hc
  go_enter Tryz.func16, Tryz.ntmps16
  go_wp2_with (go_at_call 40; refine hcl.mono ?_; rintro e w1 ⟨v1, rfl, hv1, hw1⟩; obtain ⟨p1, c1, e1⟩ := texts_slice hv1; subst e1)
  go_ret
  exact ⟨p1, c1, rfl, hv1, hw1⟩
end Go.Proofs.YtgpldlbmjakjhaaGreat
namespace Go.Proofs.YtgpldlbmjakjhaaGreat
open Go.RowKit Go.Proofs.Parclose
theorem acRo_nil (w : World) (F : List Nat) (k h t n : Int) (ck ch ct cn cc : Int) (x : List UInt8) : AcRo w F (.agg #[.int .i64 k, .int .i64 h, .int .i64 t, .int .i64 n, .int .i64 ck, .int .i64 ch, .int .i64 ct, .int .i64 cn, .int .i64 cc, .slice none 0 0, .slice none 0 0, .string ⟨x.toArray⟩]) ⟨k, h, t, n, ⟨ck, ch, ct, cn, cc, [], [], x⟩⟩ :=
  ⟨_, _, rfl, ⟨LabAt.nil _ _ _ (fun _ => rfl), fun h => absurd h (by simp)⟩, ⟨IntsAt.nil _ _ _ (fun _ => rfl), fun h => absurd h (by simp)⟩⟩
theorem Below.trans' {B : Nat} {a b c : World} (h : Below B a b) (k : Below B b c) : Below B a c := ⟨k.os.trans h.os, k.tape.trans h.tape, k.output.trans h.output, Nat.le_trans h.size k.size, fun i hi => by rw [k.block i hi, h.block i hi]⟩
theorem CStep.low {cb B : Nat} {w w' : World} {F G : List Nat} {Z Z' : CluV} {C : Clu} (h : CStep cb w F Z w' G Z') (hc : CluAt w cb F Z C) (hF : ∀ k ∈ F, B ≤ k) (hB : B ≤ w.heap.size) : Below B w w' ∧ ∀ k ∈ G, B ≤ k := by
  have hk := h.keptF hc
  refine ⟨⟨hk.os, hk.tape, hk.output, hk.size, fun k hk' => hk.block k (by omega) (fun e => by have := hF k e; omega)⟩, fun k hk' => ?_⟩
  rcases h.more.2 k hk' with e | e
  · exact hF k e
  · omega
set_option maxRecDepth 100000 in
set_option maxHeartbeats 3200000 in
theorem talive_any (w : World) : Calls Tryz.prog 26 #[] w fun e w' => e = .returned (.bool true) ∧ Below w.heap.size w w' := by
  have HA := hid alive_a
  have HB := hid alive_two
  go_enter Tryz.func26, Tryz.ntmps26
  go_wp2_with fail
  refine (cnew_any w).mono ?_
  rintro e w1 ⟨rfl, ⟨kp, F, hc1, hF⟩, hw1⟩
  have hdo := cdo_any _ F _ freshClu _ aliveA w1 hc1 freshC_good (acRo_nil w1 F 1 2 0 0 1 0 0 0 0 [])
  have HC1 := hid hc1
  generalize hr1 : doC freshClu aliveA = R1 at *
  obtain ⟨C1, r1⟩ := R1
  simp only at hdo
  have HG1 : Hid (GoodC C1) := hid (by have := doC_good freshC_good aliveA; rw [hr1] at this; exact this)
  clear hr1
  go_wp2_with fail
  refine hdo.mono ?_
  rintro e w2 ⟨rfl, G2, Z2, hc2, hs2⟩
  obtain ⟨hb2, hF2⟩ := hs2.low hc1 hF hw1.size
  have HW2 := hid (Below.trans' hw1 hb2)
  have hbx := below_box w2 (.cells #[.int .i64 r1.code, .int .i64 r1.n, .string ⟨r1.text.toArray⟩] 35)
  have hdo2 := cdo_any _ G2 Z2 C1 _ aliveB (w2.alloc (.cells #[.int .i64 r1.code, .int .i64 r1.n, .string ⟨r1.text.toArray⟩] 35)) (hc2.below hbx) HG1.out (acRo_nil _ G2 1 2 0 0 6 1 3 0 0 [104, 105])
  have HX2 := hid (heap_alloc_new w2 (.cells #[.int .i64 r1.code, .int .i64 r1.n, .string ⟨r1.text.toArray⟩] 35))
  have HC2 := hid (hc2.below hbx)
  have HG2 := hid (doC_good HG1.out aliveB)
  have hr40 : r1.n = 40 := HA.out
  have HBX := hid hbx
  clear hdo hs2 hc1 hc2 HC1 HA hbx
  generalize doC C1 aliveB = R2 at *
  obtain ⟨C2, r2⟩ := R2
  obtain ⟨hr0, hn1⟩ : r2.code = 0 ∧ C2.net.length = 1 := HB.out
  simp only at hdo2
  have HN1 := hid hn1
  have H40 := hid hr40
  have H00 := hid hr0
  clear HB hr40 hr0 hn1
  go_wp2_with fail
  refine hdo2.mono ?_
  rintro e w3 ⟨rfl, G3, Z3, hc3, hs3⟩
  have HX3 := hid (box_cstep hs3 HC2.out HX2.out (by decide) (by decide) (by decide) (by decide) (by decide) (by decide))
  obtain ⟨hb3, hF3⟩ := hs3.low HC2.out hF2 (Nat.le_trans HW2.out.size HBX.out.size)
  have HW3 : Hid (Below w.heap.size w w3) := hid (Below.trans' (Below.trans' HW2.out ⟨HBX.out.os, HBX.out.tape, HBX.out.output, HBX.out.size, fun k hk => HBX.out.block k (Nat.lt_of_lt_of_le hk HW2.out.size)⟩) hb3)
  have hbx3 := below_box w3 (.cells #[.int .i64 r2.code, .int .i64 r2.n, .string ⟨r2.text.toArray⟩] 35)
  have hnet := cnet_any _ G3 Z3 C2 (w3.alloc (.cells #[.int .i64 r2.code, .int .i64 r2.n, .string ⟨r2.text.toArray⟩] 35)) (hc3.below hbx3) HG2.out.net
  rw [HN1.out] at hnet
  have HX4 := hid (heap_alloc_new w3 (.cells #[.int .i64 r2.code, .int .i64 r2.n, .string ⟨r2.text.toArray⟩] 35))
  have HX5 := hid (heap_new HX3.out (.cells #[.int .i64 r2.code, .int .i64 r2.n, .string ⟨r2.text.toArray⟩] 35))
  have HBX3 := hid hbx3
  obtain ⟨a0, a1, a2, _⟩ := cells3 HX4.out
  obtain ⟨d0, d1, d2, _⟩ := cells3 HX5.out
  clear hdo2 hs3 hc3 hb3 hbx3
  go_upto_region 6 with fail
  generalize w3.alloc (.cells #[.int .i64 r2.code, .int .i64 r2.n, .string ⟨r2.text.toArray⟩] 35) = w4 at *
  rw [H40.out] at d1
  rw [H00.out] at a0
  go_wp2_with (go_at_call 16; refine hnet.mono ?_; rintro e w5 ⟨pn, cn, rfl, _, hw5⟩)
  go_ret
  exact ⟨rfl, below_then (below_then HW3.out HBX3.out) hw5⟩
end Go.Proofs.YtgpldlbmjakjhaaGreat
namespace Go.Proofs.YtgpldlbmjakjhaaGreat
open Go.RowKit Go.Proofs.Parclose
theorem roLab_old {w w' : World} {G : List Nat} {v : Value} {l : List (Int × Int)} (h : LabAt w v l) (hG : ∀ k ∈ G, w.heap.size ≤ k) (h' : LabAt w' v l) : RoLab w' G v l := ⟨h', fun h0 k hk hn => by
  obtain ⟨p, cap, rfl, _, _, hc⟩ := h
  obtain ⟨b, o, rfl, hcs⟩ := hc h0
  cases hk
  have h1 : b < w.heap.size := cell_block (hcs 0 h0).1
  have h2 : w.heap.size ≤ b := hG _ hn
  omega⟩
theorem roInts_old {w w' : World} {G : List Nat} {v : Value} {l : List Int} (h : IntsAt w v l) (hG : ∀ k ∈ G, w.heap.size ≤ k) (h' : IntsAt w' v l) : RoInts w' G v l := ⟨h', fun h0 k hk hn => by
  obtain ⟨p, cap, rfl, _, _, hc⟩ := h
  obtain ⟨b, o, rfl, hcs⟩ := hc h0
  cases hk
  have h1 : b < w.heap.size := cell_block (hcs 0 h0)
  have h2 : w.heap.size ≤ b := hG _ hn
  omega⟩
theorem playC_snoc : ∀ (l : List Ac) (C : Clu) (a : Ac), playC C (l ++ [a]) = (doC (playC C l) a).1
  | [], _, _ => rfl
  | b :: r, C, a => playC_snoc r (doC C b).1 a
theorem playC_good : ∀ (l : List Ac) {C : Clu} (_ : GoodC C), GoodC (playC C l)
  | [], _, h => h
  | a :: r, _, h => playC_good r (doC_good h a)
end Go.Proofs.YtgpldlbmjakjhaaGreat
namespace Go.Proofs.YtgpldlbmjakjhaaGreat
open Go.RowKit Go.Proofs.Parclose
theorem quiet_any (vc : Value) (a : Ac) (r : Rep) (pl pg : Option Addr) (cl cg : Nat) (w : World) : Calls Tryz.prog 19 #[vc, (.agg #[.int .i64 a.kind, .int .i64 a.h, .int .i64 a.t, .int .i64 a.n, .int .i64 a.call.kind, .int .i64 a.call.h, .int .i64 a.call.t, .int .i64 a.call.n, .int .i64 a.call.c, .slice pl a.call.label.length cl, .slice pg a.call.grants.length cg, .string ⟨a.call.text.toArray⟩]), (.agg #[.int .i64 r.code, .int .i64 r.n, .string ⟨r.text.toArray⟩])] w fun e w' => e = .returned (.bool true) ∧ Below w.heap.size w w' := by
  go_enter Tryz.func19, Tryz.ntmps19
  go_wp2
  go_ret
  exact ⟨rfl, (below_box w _).alloc (below_box w _).size _⟩
set_option maxRecDepth 100000 in
set_option maxHeartbeats 6400000 in
theorem play_quiet (v : Value) (l : List Ac) (w : World) (hv : AcsAt w v l) :
    Calls Tryz.prog 9 #[v, .func (.func 19) #[] #[]] w fun e w' => ∃ cb, e = .returned (.tuple #[.pointer (some ⟨cb, 0, none⟩), .bool true]) ∧ w.heap.size ≤ cb ∧ Below w.heap.size w w' ∧ ∃ F, (∃ Z, CluAt w' cb F Z (playC freshClu (l.take 120))) ∧ ∀ k ∈ F, w.heap.size ≤ k := by
  have HV := hid hv
  obtain ⟨p, cap, rfl, hlc, _⟩ := hv.slice
  clear hv
  go_enter Tryz.func9, Tryz.ntmps9
  go_upto_region 3 with (go_at_call 26; refine (talive_any _).mono ?_; rintro e w1 ⟨rfl, hw1⟩)
  go_upto_region 4 with (go_at_call 28; refine (cnew_any _).mono ?_; rintro e w2 ⟨rfl, ⟨kp, F, hc2, hF⟩, hw2⟩)
  have HB2 := hid (below_then hw1 hw2)
  have HF2 : Hid (∀ k ∈ F, w.heap.size ≤ k) := hid (fun k hk => Nat.le_trans hw1.size (hF k hk))
  have HC2 := hid hc2
  have HCB := hid hw1.size
  clear hc2 hF hw1 hw2
  go_wp2_with fail
  go_loopw [7] (fun i wr => ∃ (k : Nat) (G : List Nat) (Z' : CluV), k ≤ l.length ∧ k ≤ 120 ∧ i = .int .i64 k ∧ CluAt wr w1.heap.size G Z' (playC freshClu (l.take k)) ∧ Below w.heap.size w wr ∧ (∀ b ∈ G, w.heap.size ≤ b)) (fun i _ => l.length - (intOf i).toNat)
  case atStart => exact ⟨0, F, _, Nat.zero_le _, Nat.zero_le _, rfl, HC2.out, HB2.out, HF2.out⟩
  case round =>
    clear HC2 HB2 HF2
    obtain ⟨k, G, Z', hk, hk120, rfl, hck, hbw, hG⟩ := hrel
    have HCK := hid hck
    have HBW := hid hbw
    have HGG := hid hG
    have hsz := hbw.size
    clear hck hbw hG
    by_cases hlt : k < l.length
    · have hI : (k : Int) < (l.length : Int) := by omega
      by_cases h120 : k < 120
      · have hJ : (k : Int) < 120 := by omega
        obtain ⟨b, o, pl, cl, pg, cg, rfl, hla, hin2, q0, q1, q2, q3, q4, q5, q6, q7, q8, q9, q10, q11⟩ := HV.out.get k hlt
        have HPS : Hid (playC freshClu (l.take (k + 1)) = (doC (playC freshClu (l.take k)) l[k]).1) := hid (by rw [← List.take_append_getElem hlt, playC_snoc])
        have HGD := hid (playC_good (l.take k) freshC_good)
        generalize l[k] = a at *
        generalize playC freshClu (l.take k) = Ck at *
        have r0 := (HBW.out.cell (cell_block q0)).trans q0
        have r1 := (HBW.out.cell (cell_block q1)).trans q1
        have r2 := (HBW.out.cell (cell_block q2)).trans q2
        have r3 := (HBW.out.cell (cell_block q3)).trans q3
        have r4 := (HBW.out.cell (cell_block q4)).trans q4
        have r5 := (HBW.out.cell (cell_block q5)).trans q5
        have r6 := (HBW.out.cell (cell_block q6)).trans q6
        have r7 := (HBW.out.cell (cell_block q7)).trans q7
        have r8 := (HBW.out.cell (cell_block q8)).trans q8
        have r9 := (HBW.out.cell (cell_block q9)).trans q9
        have r10 := (HBW.out.cell (cell_block q10)).trans q10
        have r11 := (HBW.out.cell (cell_block q11)).trans q11
        have hbl := Nat.lt_of_lt_of_le (cell_block q0) hsz
        have hdo := cdo_any w1.heap.size G Z' Ck _ a wr HCK.out HGD.out ⟨_, _, rfl, roLab_old hla HGG.out (hla.below HBW.out), roInts_old hin2 HGG.out (hin2.below HBW.out)⟩
        unfold acV at hdo
        generalize doC Ck a = R at *
        obtain ⟨C2, r⟩ := R
        simp only at hdo HPS
        have HQ : Hid (∀ w', Below w.heap.size w w' → w'.cell? ⟨b, o + k * 12, none⟩ = some (.int .i64 a.kind) ∧ w'.cell? ⟨b, o + k * 12 + 1, none⟩ = some (.int .i64 a.h) ∧ w'.cell? ⟨b, o + k * 12 + 2, none⟩ = some (.int .i64 a.t) ∧ w'.cell? ⟨b, o + k * 12 + 3, none⟩ = some (.int .i64 a.n) ∧ w'.cell? ⟨b, o + k * 12 + 4, none⟩ = some (.int .i64 a.call.kind) ∧ w'.cell? ⟨b, o + k * 12 + 5, none⟩ = some (.int .i64 a.call.h) ∧ w'.cell? ⟨b, o + k * 12 + 6, none⟩ = some (.int .i64 a.call.t) ∧ w'.cell? ⟨b, o + k * 12 + 7, none⟩ = some (.int .i64 a.call.n) ∧ w'.cell? ⟨b, o + k * 12 + 8, none⟩ = some (.int .i64 a.call.c) ∧ w'.cell? ⟨b, o + k * 12 + 9, none⟩ = some (.slice pl a.call.label.length cl) ∧ w'.cell? ⟨b, o + k * 12 + 10, none⟩ = some (.slice pg a.call.grants.length cg) ∧ w'.cell? ⟨b, o + k * 12 + 11, none⟩ = some (.string ⟨a.call.text.toArray⟩)) := hid (fun w' h => ⟨(h.cell (cell_block q0)).trans q0, (h.cell (cell_block q1)).trans q1, (h.cell (cell_block q2)).trans q2, (h.cell (cell_block q3)).trans q3, (h.cell (cell_block q4)).trans q4, (h.cell (cell_block q5)).trans q5, (h.cell (cell_block q6)).trans q6, (h.cell (cell_block q7)).trans q7, (h.cell (cell_block q8)).trans q8, (h.cell (cell_block q9)).trans q9, (h.cell (cell_block q10)).trans q10, (h.cell (cell_block q11)).trans q11⟩)
        clear q0 q1 q2 q3 q4 q5 q6 q7 q8 q9 q10 q11 hla hin2
        go_upto_region 8 with (go_at_call 22; refine hdo.mono ?_; rintro e w5 ⟨rfl, G5, Z5, hc5, hs5⟩)
        obtain ⟨hb5, hG5⟩ := hs5.low HCK.out HGG.out hsz
        have HB5 := hid (Below.trans' HBW.out hb5)
        have hbx := below_box w5 (.cells #[.int .i64 r.code, .int .i64 r.n, .string ⟨r.text.toArray⟩] 35)
        have HB6 := hid (below_then HB5.out hbx)
        have HX6 := hid (heap_alloc_new w5 (.cells #[.int .i64 r.code, .int .i64 r.n, .string ⟨r.text.toArray⟩] 35))
        have HC6 := hid (hc5.below hbx)
        have HG5 := hid hG5
        obtain ⟨s0, s1, s2, s3, s4, s5, s6, s7, s8, s9, s10, s11⟩ := HQ.out _ HB6.out
        obtain ⟨t0, t1, t2, _⟩ := cells3 HX6.out
        have hlt6 := heap_lt HX6.out
        have hbl5 : b < w5.heap.size := Nat.lt_of_lt_of_le hbl hs5.kept.size
        clear hdo hs5 hc5 hb5 hG5 hbx r0 r1 r2 r3 r4 r5 r6 r7 r8 r9 r10 r11
        generalize hw6 : w5.alloc (.cells #[.int .i64 r.code, .int .i64 r.n, .string ⟨r.text.toArray⟩] 35) = w6 at *
        have HW6 := hid (Below.refl w6.heap.size w6)
        clear hw6
        go_region_held3 (fun w' => (w'.cell? ⟨b, o + k * 12, none⟩ = some (.int .i64 a.kind) ∧ w'.cell? ⟨b, o + k * 12 + 1, none⟩ = some (.int .i64 a.h) ∧ w'.cell? ⟨b, o + k * 12 + 2, none⟩ = some (.int .i64 a.t) ∧ w'.cell? ⟨b, o + k * 12 + 3, none⟩ = some (.int .i64 a.n) ∧ w'.cell? ⟨b, o + k * 12 + 4, none⟩ = some (.int .i64 a.call.kind) ∧ w'.cell? ⟨b, o + k * 12 + 5, none⟩ = some (.int .i64 a.call.h) ∧ w'.cell? ⟨b, o + k * 12 + 6, none⟩ = some (.int .i64 a.call.t) ∧ w'.cell? ⟨b, o + k * 12 + 7, none⟩ = some (.int .i64 a.call.n) ∧ w'.cell? ⟨b, o + k * 12 + 8, none⟩ = some (.int .i64 a.call.c) ∧ w'.cell? ⟨b, o + k * 12 + 9, none⟩ = some (.slice pl a.call.label.length cl) ∧ w'.cell? ⟨b, o + k * 12 + 10, none⟩ = some (.slice pg a.call.grants.length cg) ∧ w'.cell? ⟨b, o + k * 12 + 11, none⟩ = some (.string ⟨a.call.text.toArray⟩)) ∧ w'.cell? ⟨w5.heap.size, 0, none⟩ = some (.int .i64 r.code) ∧ w'.cell? ⟨w5.heap.size, 1, none⟩ = some (.int .i64 r.n) ∧ w'.cell? ⟨w5.heap.size, 2, none⟩ = some (.string ⟨r.text.toArray⟩)) (go_keep)
          (first
            | (go_at_call 19; refine (quiet_any _ a r pl pg cl cg _).mono ?_; rintro e w7 ⟨rfl, hwd⟩; have hw := kundrew hwd; have HW7 := hid hw; obtain ⟨u0, u1, u2, u3, u4, u5, u6, u7, u8, u9, u10, u11⟩ := HQ.out _ (below_then HB6.out hw); obtain ⟨y0, y1, y2, _⟩ := cells3 (heap_keep HX6.out hw); clear hw hwd)
            | fail)
        all_goals
          go_wp2
          go_roundw
          case rel => exact ⟨k + 1, G5, Z5, hlt, h120, by go_num, by rw [HPS.out]; exact HC6.out.below HW7.out, below_then HB6.out HW7.out, HG5.out⟩
          case measure => simp [intOf]; omega
      · have hk5 : k = 120 := by omega
        have hJ : ¬ ((k : Int) < 120) := by omega
        have HE : Hid (l.take k = l.take 120) := hid (by rw [hk5])
        clear hk5
        go_wp2
        go_ret2
        have hC := HCK.out
        rw [HE.out] at hC
        exact ⟨w1.heap.size, rfl, HCB.out, HBW.out, G, ⟨Z', hC⟩, HGG.out⟩
    · have hI : ¬ ((k : Int) < (l.length : Int)) := by omega
      have HE : Hid (l.take k = l.take 120) := hid (by rw [List.take_of_length_le (by omega), List.take_of_length_le (by omega)])
      go_wp2
      go_ret2
      have hC := HCK.out
      rw [HE.out] at hC
      exact ⟨w1.heap.size, rfl, HCB.out, HBW.out, G, ⟨Z', hC⟩, HGG.out⟩
end Go.Proofs.YtgpldlbmjakjhaaGreat
namespace Go.Proofs.YtgpldlbmjakjhaaGreat
open Go.RowKit Go.Proofs.Parclose
theorem field_code (a b c : Value) (w : World) : (Instr.field 35 (.agg #[a, b, c]) 0).run Tryz.prog w = .ok a w := by kernel_rfl
theorem thrC_good {C : Clu} (h : GoodC C) (x t : Int) : GoodT (thrC C x t) := by
  unfold thrC
  split
  · rename_i h1
    have h2 : 0 ≤ x ∧ x < 4 := of_decide_eq_true h1
    have hk := h.ks x.toNat (by omega)
    unfold thrOf
    cases ht : getT (C.ks x.toNat) t with
    | none => exact zero_good
    | some th =>
      obtain ⟨n, _, hn, e⟩ := getT_some ht
      exact hk.ths th (e ▸ List.getElem_mem hn)
  · exact zero_good
set_option linter.unusedSimpArgs false in
set_option maxRecDepth 100000 in
set_option maxHeartbeats 12800000 in
theorem topEnds_any (v va : Value) (l : List Ac) (a : Ac) (w : World) (hv : AcsAt w v l) (ha : AcAt w va a) :
    Calls Tryz.prog 8 #[v, va] w fun e w' => e = .returned (.bool true) ∧ Below w.heap.size w w' := by
  obtain ⟨vl, vg, rfl, hla, hga⟩ := ha
  obtain ⟨pl, cl, rfl, _⟩ := id hla
  obtain ⟨pg, cg, rfl, _⟩ := id hga
  obtain ⟨p, cap, rfl, hlc, _⟩ := hv.slice
  have hbb := below_box w (.cells #[.int .i64 a.kind, .int .i64 a.h, .int .i64 a.t, .int .i64 a.n, .int .i64 a.call.kind, .int .i64 a.call.h, .int .i64 a.call.t, .int .i64 a.call.n, .int .i64 a.call.c, .slice pl a.call.label.length cl, .slice pg a.call.grants.length cg, .string ⟨a.call.text.toArray⟩] 32)
  have hplay := play_quiet _ l (w.alloc (.cells #[.int .i64 a.kind, .int .i64 a.h, .int .i64 a.t, .int .i64 a.n, .int .i64 a.call.kind, .int .i64 a.call.h, .int .i64 a.call.t, .int .i64 a.call.n, .int .i64 a.call.c, .slice pl a.call.label.length cl, .slice pg a.call.grants.length cg, .string ⟨a.call.text.toArray⟩] 32)) (hv.below hbb)
  have HX0 := hid (heap_alloc_new w (.cells #[.int .i64 a.kind, .int .i64 a.h, .int .i64 a.t, .int .i64 a.n, .int .i64 a.call.kind, .int .i64 a.call.h, .int .i64 a.call.t, .int .i64 a.call.n, .int .i64 a.call.c, .slice pl a.call.label.length cl, .slice pg a.call.grants.length cg, .string ⟨a.call.text.toArray⟩] 32))
  have HBB := hid hbb
  have HLA := hid hla
  have HGA := hid hga
  have hfc := field_code
  clear hv hbb hla hga
  unfold acV
  go_enter Tryz.func8, Tryz.ntmps8
  go_upto_region 2 with (go_at_call 9; refine hplay.mono ?_; rintro e w1 ⟨cb, rfl, hcb, hw1, F, ⟨Z, hc1⟩, hF⟩)
  have HA1 := hid (playC_acts (l.take 120) freshClu (by rw [List.length_take]; show 0 + min 120 l.length ≤ 300; omega))
  have HG1 := hid (playC_good (l.take 120) freshC_good)
  have HXA1 := hid (heap_keep HX0.out ⟨hw1.os, hw1.tape, hw1.output, hw1.size, fun k hk => hw1.block k hk⟩)
  have HW1 := hid (below_then HBB.out hw1)
  have HF1 : Hid (∀ k ∈ F, w.heap.size + 1 ≤ k) := hid (fun k hk => by have := hF k hk; rw [size_box] at this; exact this)
  have HC1 := hid hc1
  have hacts : (playC freshClu (l.take 120)).acts = min 120 l.length := by rw [HA1.out, List.length_take]; show 0 + _ = _; omega
  have HAC := hid hacts
  generalize playC freshClu (l.take 120) = C1 at *
  clear hplay hc1 hF hw1 hacts HA1
  have hmin : min (l.length : Int) 120 = ((min 120 l.length : Nat) : Int) := by omega
  go_wp2_with fail
  go_loopw [7] (fun i wr => ∃ (k : Nat) (G : List Nat) (Z' : CluV) (C : Clu), k ≤ 300 ∧ i = .int .i64 k ∧ CluAt wr cb G Z' C ∧ GoodC C ∧ Hid (C.acts = k) ∧ wr.heap[w.heap.size]? = some (.cells #[.int .i64 a.kind, .int .i64 a.h, .int .i64 a.t, .int .i64 a.n, .int .i64 a.call.kind, .int .i64 a.call.h, .int .i64 a.call.t, .int .i64 a.call.n, .int .i64 a.call.c, .slice pl a.call.label.length cl, .slice pg a.call.grants.length cg, .string ⟨a.call.text.toArray⟩] 32 (0, 0)) ∧ Below w.heap.size w wr ∧ (∀ b ∈ G, w.heap.size + 1 ≤ b)) (fun i _ => 300 - (intOf i).toNat)
  case atStart => exact ⟨min 120 l.length, F, Z, C1, by omega, by first | rfl | rw [hmin], HC1.out, HG1.out, HAC, HXA1.out, HW1.out, HF1.out⟩
  case round =>
    clear HC1 HG1 HAC HXA1 HW1 HF1 hmin
    obtain ⟨k, G, Zl, Cl, hk, rfl, hcl, hgd, hac, hxa, hbw, hG⟩ := hrel
    have HCL := hid hcl
    have HGD := hid hgd
    have HXA := hid hxa
    have HBW := hid hbw
    have HGG := hid hG
    have hsz := hbw.size
    clear hcl hgd hxa hbw hG
    by_cases hlt : k < 300
    · have hI : (k : Int) < 300 := by omega
      have hdo := cdo_any cb G Zl Cl _ ⟨0, 0, 0, 0, ⟨0, 0, 0, 0, 0, [], [], []⟩⟩ wr HCL.out HGD.out (acRo_nil wr G 0 0 0 0 0 0 0 0 0 [])
      have HDC : Hid (doC Cl ⟨0, 0, 0, 0, ⟨0, 0, 0, 0, 0, [], [], []⟩⟩ = ({ Cl with acts := Cl.acts + 1 }, code 3)) := hid (doC_kind (by rw [hac.out]; exact hlt) (by decide) (by decide) (by decide))
      rw [HDC.out] at hdo
      simp only [code] at hdo
      go_wp2_with (go_at_call 22; refine hdo.mono ?_; rintro e w5 ⟨rfl, G5, Z5, hc5, hs5⟩)
      obtain ⟨hb5, hG5⟩ := hs5.low HCL.out HGG.out (Nat.lt_of_lt_of_le (heap_lt HXA.out) (Nat.le_refl _))
      go_roundw
      case rel => exact ⟨k + 1, G5, Z5, _, hlt, by go_num, hc5, ⟨HGD.out.ks, HGD.out.now, (by show Cl.acts + 1 ≤ 300; rw [hac.out]; omega), HGD.out.net⟩, hid (by show Cl.acts + 1 = k + 1; rw [hac.out]), by rw [hb5.block _ (Nat.lt_succ_self _)]; exact HXA.out, Below.trans' HBW.out ⟨hb5.os, hb5.tape, hb5.output, hb5.size, fun i hi => hb5.block i (Nat.lt_succ_of_lt hi)⟩, hG5⟩
      case measure => simp [intOf]; omega
    · have hk3 : k = 300 := by omega
      have hfull : 300 ≤ Cl.acts := by rw [hac.out]; omega
      subst hk3
      obtain ⟨th, hth⟩ : ∃ th, thrC Cl 0 0 = th := ⟨_, rfl⟩
      have HGT : Hid (GoodT th) := hid (by rw [← hth]; exact thrC_good HGD.out 0 0)
      have hthr := fun wx G' Z' (h : CluAt wx cb G' Z' Cl) => cthread_any cb 0 0 G' Z' Cl wx h HGD.out
      rw [hth] at hthr
      have hdo0 := fun wx (h : CluAt wx cb G Zl Cl) (hb : Below w.heap.size w wx) => cdo_any cb G Zl Cl _ a wx h HGD.out ⟨_, _, rfl, roLab_old HLA.out (fun k hk => Nat.le_of_succ_le (HGG.out k hk)) (HLA.out.below hb), roInts_old HGA.out (fun k hk => Nat.le_of_succ_le (HGG.out k hk)) (HGA.out.below hb)⟩
      unfold acV at hdo0
      rw [doC_full Cl a hfull] at hdo0
      simp only [code] at hdo0
      have HGL := hid HCL.out.fin
      clear hth hac hfull hfc
      go_upto_region 10 with (first
        | (go_at_call 13; refine (hthr wr G Zl HCL.out).mono ?_; rintro e w3 ⟨p1, q1, p2, q2, p3, q3, p4, q4, rfl, hn3, hw3⟩)
        | (go_at_call 16; refine (cnet_any cb G Zl Cl w3 (HCL.out.below hw3) HGD.out.net).mono ?_; rintro e w4 ⟨pn, cn, rfl, _, hw4⟩))
      have hbx := below_box w4 (.cells #[.slice p1 th.label.length q1, .slice p2 th.own.length q2, .string ⟨th.text.toArray⟩, .slice p3 th.objs.length q3, .slice p4 th.mails.length q4] 42)
      have HXT5 := hid (heap_alloc_new w4 (.cells #[.slice p1 th.label.length q1, .slice p2 th.own.length q2, .string ⟨th.text.toArray⟩, .slice p3 th.objs.length q3, .slice p4 th.mails.length q4] 42))
      have HC5 := hid (((HCL.out.below hw3).below hw4).below hbx)
      have HXA5 := hid (heap_keep (heap_keep (heap_keep HXA.out hw3) hw4) hbx)
      have HN5 := hid ((hn3.below hw4).below hbx)
      have HB5 := hid (below_then (below_then (below_then HBW.out hw3) hw4) hbx)
      generalize w4.alloc (.cells #[.slice p1 th.label.length q1, .slice p2 th.own.length q2, .string ⟨th.text.toArray⟩, .slice p3 th.objs.length q3, .slice p4 th.mails.length q4] 42) = w5 at *
      have hdo := fun wx (hb : Below w5.heap.size w5 wx) => hdo0 wx (HC5.out.below hb) (below_then HB5.out hb)
      have HS : Hid (∀ w' : World, w'.heap[w.heap.size]? = some (.cells #[.int .i64 a.kind, .int .i64 a.h, .int .i64 a.t, .int .i64 a.n, .int .i64 a.call.kind, .int .i64 a.call.h, .int .i64 a.call.t, .int .i64 a.call.n, .int .i64 a.call.c, .slice pl a.call.label.length cl, .slice pg a.call.grants.length cg, .string ⟨a.call.text.toArray⟩] 32 (0, 0)) → w'.heap[w4.heap.size]? = some (.cells #[.slice p1 th.label.length q1, .slice p2 th.own.length q2, .string ⟨th.text.toArray⟩, .slice p3 th.objs.length q3, .slice p4 th.mails.length q4] 42 (0, 0)) → w'.cell? ⟨w.heap.size, 0, none⟩ = some (.int .i64 a.kind) ∧ w'.cell? ⟨w.heap.size, 1, none⟩ = some (.int .i64 a.h) ∧ w'.cell? ⟨w.heap.size, 2, none⟩ = some (.int .i64 a.t) ∧ w'.cell? ⟨w.heap.size, 3, none⟩ = some (.int .i64 a.n) ∧ w'.cell? ⟨w.heap.size, 4, none⟩ = some (.int .i64 a.call.kind) ∧ w'.cell? ⟨w.heap.size, 5, none⟩ = some (.int .i64 a.call.h) ∧ w'.cell? ⟨w.heap.size, 6, none⟩ = some (.int .i64 a.call.t) ∧ w'.cell? ⟨w.heap.size, 7, none⟩ = some (.int .i64 a.call.n) ∧ w'.cell? ⟨w.heap.size, 8, none⟩ = some (.int .i64 a.call.c) ∧ w'.cell? ⟨w.heap.size, 9, none⟩ = some (.slice pl a.call.label.length cl) ∧ w'.cell? ⟨w.heap.size, 10, none⟩ = some (.slice pg a.call.grants.length cg) ∧ w'.cell? ⟨w.heap.size, 11, none⟩ = some (.string ⟨a.call.text.toArray⟩) ∧ w'.cell? ⟨w4.heap.size, 0, none⟩ = some (.slice p1 th.label.length q1) ∧ w'.cell? ⟨w4.heap.size, 1, none⟩ = some (.slice p2 th.own.length q2) ∧ w'.cell? ⟨w4.heap.size, 2, none⟩ = some (.string ⟨th.text.toArray⟩) ∧ w'.cell? ⟨w4.heap.size, 3, none⟩ = some (.slice p3 th.objs.length q3) ∧ w'.cell? ⟨w4.heap.size, 4, none⟩ = some (.slice p4 th.mails.length q4)) := hid (fun w' h1 h2 => ⟨heap_cell h1 0, heap_cell h1 1, heap_cell h1 2, heap_cell h1 3, heap_cell h1 4, heap_cell h1 5, heap_cell h1 6, heap_cell h1 7, heap_cell h1 8, heap_cell h1 9, heap_cell h1 10, heap_cell h1 11, heap_cell h2 0, heap_cell h2 1, heap_cell h2 2, heap_cell h2 3, heap_cell h2 4⟩)
      clear hdo0 hn3 hbx
      refine wp_region_held_drew (S := (fun w' => w'.cell? ⟨w.heap.size, 0, none⟩ = some (.int .i64 a.kind) ∧ w'.cell? ⟨w.heap.size, 1, none⟩ = some (.int .i64 a.h) ∧ w'.cell? ⟨w.heap.size, 2, none⟩ = some (.int .i64 a.t) ∧ w'.cell? ⟨w.heap.size, 3, none⟩ = some (.int .i64 a.n) ∧ w'.cell? ⟨w.heap.size, 4, none⟩ = some (.int .i64 a.call.kind) ∧ w'.cell? ⟨w.heap.size, 5, none⟩ = some (.int .i64 a.call.h) ∧ w'.cell? ⟨w.heap.size, 6, none⟩ = some (.int .i64 a.call.t) ∧ w'.cell? ⟨w.heap.size, 7, none⟩ = some (.int .i64 a.call.n) ∧ w'.cell? ⟨w.heap.size, 8, none⟩ = some (.int .i64 a.call.c) ∧ w'.cell? ⟨w.heap.size, 9, none⟩ = some (.slice pl a.call.label.length cl) ∧ w'.cell? ⟨w.heap.size, 10, none⟩ = some (.slice pg a.call.grants.length cg) ∧ w'.cell? ⟨w.heap.size, 11, none⟩ = some (.string ⟨a.call.text.toArray⟩) ∧ w'.cell? ⟨w4.heap.size, 0, none⟩ = some (.slice p1 th.label.length q1) ∧ w'.cell? ⟨w4.heap.size, 1, none⟩ = some (.slice p2 th.own.length q2) ∧ w'.cell? ⟨w4.heap.size, 2, none⟩ = some (.string ⟨th.text.toArray⟩) ∧ w'.cell? ⟨w4.heap.size, 3, none⟩ = some (.slice p3 th.objs.length q3) ∧ w'.cell? ⟨w4.heap.size, 4, none⟩ = some (.slice p4 th.mails.length q4))) (by as_aux_lemma => kernel_rfl) (HS.out _ HXA5.out HXT5.out) (fun _hHeld => ?_)
      refine takeE 0 33 ?v1 rfl (by as_aux_lemma => kernel_rfl) (fun _ _ _ h => h) (Or.inl ⟨by rfl, ?hy1⟩) (by assumption) ?rest1
      case hy1 => intro wz hSw; (try dsimp only at hSw); go_simp; try with_reducible rfl
      simp only [Act.put, List.setIfInBounds_toArray, List.set_cons_zero, List.set_cons_succ]
      refine takeE 1 34 ?v2 rfl (by as_aux_lemma => kernel_rfl) (fun _ _ _ h => h) (Or.inl ⟨by rfl, ?hy2⟩) (by assumption) ?rest2
      case hy2 => intro wz hSw; (try dsimp only at hSw); go_simp; try with_reducible rfl
      simp only [Act.put, List.setIfInBounds_toArray, List.set_cons_zero, List.set_cons_succ]
      refine takeE 3 36 ?v3 rfl (by as_aux_lemma => kernel_rfl) (fun _ _ _ h => h) (Or.inl ⟨by rfl, ?hy3⟩) (by assumption) ?rest3
      case hy3 => intro wz hSw; (try dsimp only at hSw); go_simp; try with_reducible rfl
      simp only [Act.put, List.setIfInBounds_toArray, List.set_cons_zero, List.set_cons_succ]
      refine wpAnyH_ready (rs := [2]) (by as_aux_lemma => kernel_rfl) (by simp) ?_
      refine (AllReadyH.cons rfl (fun K' hK => ?_) AllReadyH.nil)
      go_simp
      go_wp2_with (go_at_call 22; refine (hdo _ (Below.refl _ _).drew).mono ?_; rintro e w6 ⟨rfl, G6, Z6, hc6, hs6d⟩)
      have hs6 : CStep cb w5 G Zl w6 G6 Z6 := ⟨⟨hs6d.kept.os, hs6d.kept.tape, hs6d.kept.output, hs6d.kept.size, hs6d.kept.block⟩, hs6d.own, hs6d.more⟩
      clear hs6d
      have HXA6 := hid (box_cstep hs6 HC5.out HXA5.out (by decide) (by decide) (by decide) (by decide) (by decide) (by decide))
      have HXT6 := hid (box_cstep hs6 HC5.out HXT5.out (by decide) (by decide) (by decide) (by decide) (by decide) (by decide))
      have HN6 := hid (HN5.out.keep (far_low (R := G) HGL.out) (hs6.keptF HC5.out))
      have HC6 := hid hc6
      have HS6 := hid hs6
      clear hc6 hs6
      refine hK.out _ _ (HS.out _ HXA6.out HXT6.out) (fun _ => ?_)
      clear hK K'
      refine takeE 4 37 ?v4 rfl (by as_aux_lemma => kernel_rfl) (fun _ _ _ h => h) (Or.inl ⟨by rfl, ?hy4⟩) (by assumption) ?rest4
      case hy4 => intro wz hSw; (try dsimp only at hSw); go_simp; try with_reducible rfl
      simp only [Act.put, List.setIfInBounds_toArray, List.set_cons_zero, List.set_cons_succ]
      refine takeE 5 38 ?v5 rfl (by as_aux_lemma => kernel_rfl) (fun _ _ _ h => h) (Or.inl ⟨by rfl, ?hy5⟩) (by assumption) ?rest5
      case hy5 => intro wz hSw; (try dsimp only at hSw); go_simp; try with_reducible rfl
      simp only [Act.put, List.setIfInBounds_toArray, List.set_cons_zero, List.set_cons_succ]
      refine takeE 6 39 ?v6 rfl (by as_aux_lemma => kernel_rfl) (fun _ _ _ h => h) (Or.inl ⟨by rfl, ?hy6⟩) (by assumption) ?rest6
      case hy6 => intro wz hSw; (try dsimp only at hSw); go_simp; try with_reducible rfl
      simp only [Act.put, List.setIfInBounds_toArray, List.set_cons_zero, List.set_cons_succ]
      refine takeE 7 40 ?v7 rfl (by as_aux_lemma => kernel_rfl) (fun _ _ _ h => h) (Or.inl ⟨by rfl, ?hy7⟩) (by assumption) ?rest7
      case hy7 => intro wz hSw; (try dsimp only at hSw); go_simp; try with_reducible rfl
      simp only [Act.put, List.setIfInBounds_toArray, List.set_cons_zero, List.set_cons_succ]
      refine wpAnyH_ready (rs := [8]) (by as_aux_lemma => kernel_rfl) (by simp) ?_
      refine (AllReadyH.cons rfl (fun K' hK => ?_) AllReadyH.nil)
      go_simp
      go_wp2_with (go_at_call 13; refine (hthr w6 G6 Z6 HC6.out).mono ?_; rintro e w7 ⟨r1, s1, r2, s2, r3, s3, r4, s4, rfl, hn7, hw7⟩)
      have HXA7 := hid (heap_keep HXA6.out hw7)
      have HXT7 := hid (heap_keep HXT6.out hw7)
      have HN7 := hid hn7
      have HN67 := hid (HN6.out.below hw7)
      clear hn7
      refine hK.out _ _ (HS.out _ HXA7.out HXT7.out) (fun _ => ?_)
      clear hK K'
      refine wpAnyH_ready (rs := [9]) (by as_aux_lemma => kernel_rfl) (by simp) ?_
      refine (AllReadyH.cons rfl (fun K' hK => ?_) AllReadyH.nil)
      go_simp
      go_wp2_with (go_at_call 24; refine (tsameThread_eq _ _ th p1 p2 p3 p4 r1 r2 r3 r4 q1 q2 q3 q4 s1 s2 s3 s4 w7 HN67.out HN7.out HGT.out).mono ?_; rintro e w8 ⟨rfl, hw8⟩)
      have HXA8 := hid (heap_keep HXA7.out hw8)
      have HXT8 := hid (heap_keep HXT7.out hw8)
      refine hK.out _ _ (HS.out _ HXA8.out HXT8.out) (fun _ => ?_)
      clear hK K'
      refine takeE 10 43 ?v8 rfl (by as_aux_lemma => kernel_rfl) (fun _ _ _ h => h) (Or.inl ⟨by rfl, ?hy8⟩) (by assumption) ?rest8
      case hy8 => intro wz hSw; (try dsimp only at hSw); go_simp; try with_reducible rfl
      simp only [Act.put, List.setIfInBounds_toArray, List.set_cons_zero, List.set_cons_succ]
      refine takeE 11 44 ?v9 rfl (by as_aux_lemma => kernel_rfl) (fun _ _ _ h => h) (Or.inl ⟨by rfl, ?hy9⟩) (by assumption) ?rest9
      case hy9 => intro wz hSw; (try dsimp only at hSw); go_simp; try with_reducible rfl
      simp only [Act.put, List.setIfInBounds_toArray, List.set_cons_zero, List.set_cons_succ]
      refine takeE 12 45 ?v10 rfl (by as_aux_lemma => kernel_rfl) (fun _ _ _ h => h) (Or.inl ⟨by rfl, ?hy10⟩) (by assumption) ?rest10
      case hy10 => intro wz hSw; (try dsimp only at hSw); go_simp; try with_reducible rfl
      simp only [Act.put, List.setIfInBounds_toArray, List.set_cons_zero, List.set_cons_succ]
      refine takeE 13 46 ?v11 rfl (by as_aux_lemma => kernel_rfl) (fun _ _ _ h => h) (Or.inl ⟨by rfl, ?hy11⟩) (by assumption) ?rest11
      case hy11 => intro wz hSw; (try dsimp only at hSw); go_simp; try with_reducible rfl
      simp only [Act.put, List.setIfInBounds_toArray, List.set_cons_zero, List.set_cons_succ]
      refine takeE 14 47 ?v12 rfl (by as_aux_lemma => kernel_rfl) (fun _ _ _ h => h) (Or.inl ⟨by rfl, ?hy12⟩) (by assumption) ?rest12
      case hy12 => intro wz hSw; (try dsimp only at hSw); go_simp; try with_reducible rfl
      simp only [Act.put, List.setIfInBounds_toArray, List.set_cons_zero, List.set_cons_succ]
      refine wpAnyH_ready (rs := [15]) (by as_aux_lemma => kernel_rfl) (by simp) ?_
      refine (AllReadyH.cons rfl (fun K' hK => ?_) AllReadyH.nil)
      go_simp
      go_wp2_with (go_at_call 16; refine (cnet_any cb G6 Z6 Cl w8 ((HC6.out.below hw7).below hw8) HGD.out.net).mono ?_; rintro e w9 ⟨pz, cz, rfl, _, hw9⟩)
      have HXA9 := hid (heap_keep HXA8.out hw9)
      have HXT9 := hid (heap_keep HXT8.out hw9)
      refine hK.out _ _ (HS.out _ HXA9.out HXT9.out) (fun _ => ?_)
      clear hK K'
      refine takeE 16 49 ?v13 rfl (by as_aux_lemma => kernel_rfl) (fun _ _ _ h => h) (Or.inl ⟨by rfl, ?hy13⟩) (by assumption) ?rest13
      case hy13 => intro wz hSw; (try dsimp only at hSw); go_simp; try with_reducible rfl
      simp only [Act.put, List.setIfInBounds_toArray, List.set_cons_zero, List.set_cons_succ]
      refine takeE 17 50 ?v14 rfl (by as_aux_lemma => kernel_rfl) (fun _ _ _ h => h) (Or.inl ⟨by rfl, ?hy14⟩) (by assumption) ?rest14
      case hy14 => intro wz hSw; (try dsimp only at hSw); go_simp; try with_reducible rfl
      simp only [Act.put, List.setIfInBounds_toArray, List.set_cons_zero, List.set_cons_succ]
      refine takeE 18 51 ?v15 rfl (by as_aux_lemma => kernel_rfl) (fun _ _ _ h => h) (Or.inl ⟨by rfl, ?hy15⟩) (by assumption) ?rest15
      case hy15 => intro wz hSw; (try dsimp only at hSw); go_simp; try with_reducible rfl
      simp only [Act.put, List.setIfInBounds_toArray, List.set_cons_zero, List.set_cons_succ]
      refine takeE 19 4 ?v16 rfl (by as_aux_lemma => kernel_rfl) (fun _ _ _ h => h) (Or.inl ⟨by rfl, ?hy16⟩) (by assumption) ?rest16
      case hy16 => intro wz hSw; (try dsimp only at hSw); go_simp; try with_reducible rfl
      simp only [Act.put, List.setIfInBounds_toArray, List.set_cons_zero, List.set_cons_succ]
      refine wpAnyH_done (by as_aux_lemma => kernel_rfl) ?_ _
      have hlow := HS6.out.low HC5.out HGG.out (Nat.lt_of_lt_of_le (heap_lt HXA5.out) (Nat.le_refl _))
      go_wp2
      go_ret
      have hb6 : Below w.heap.size w w6 := Below.trans' HB5.out ⟨hlow.1.os, hlow.1.tape, hlow.1.output, hlow.1.size, fun i hi => hlow.1.block i (Nat.lt_succ_of_lt hi)⟩
      exact ⟨rfl, below_then (below_then (below_then hb6 hw7) hw8) hw9⟩
end Go.Proofs.YtgpldlbmjakjhaaGreat
