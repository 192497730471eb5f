/- Rows of acts, and of replies. -/
import Derived.Test.YtgpldlbmjakjhaaGreatRCCome
import Derived.Test.YtgpldlbmjakjhaaGreatRTAdd
import Derived.Test.YtgpldlbmjakjhaaGreatRCClu
import Derived.Test.YtgpldlbmjakjhaaGreatRPlain
import Derived.Test.YtgpldlbmjakjhaaGreatRNamed
import Derived.Deep.RegionHeld3
import Derived.Test.YtgpldlbmjakjhaaGreatRTakeD
namespace Go.Proofs.YtgpldlbmjakjhaaGreat
open Go.RowKit Go.Proofs.Parclose
structure AcV where
  a : Ac
  vl : Value
  vg : Value
def AcV.cells (x : AcV) : List Value := [.int .i64 x.a.kind, .int .i64 x.a.h, .int .i64 x.a.t, .int .i64 x.a.n, .int .i64 x.a.call.kind, .int .i64 x.a.call.h, .int .i64 x.a.call.t, .int .i64 x.a.call.n, .int .i64 x.a.call.c, x.vl, x.vg, .string ⟨x.a.call.text.toArray⟩]
structure AcV.Ok (w : World) (x : AcV) : Prop where
  lab : LabAt w x.vl x.a.call.label
  nums : IntsAt w x.vg x.a.call.grants
theorem AcV.Ok.below {w wr : World} {x : AcV} (h : x.Ok w) (hb : Below w.heap.size w wr) : x.Ok wr := ⟨h.lab.below hb, h.nums.below hb⟩
def flatA (q : List AcV) : List Value := q.flatMap AcV.cells
theorem flatA_cons (x : AcV) (q : List AcV) : flatA (x :: q) = x.cells ++ flatA q := rfl
theorem flatA_len (q : List AcV) : (flatA q).length = q.length * 12 := by
  induction q with
  | nil => rfl
  | cons x r ih =>
    rw [flatA_cons, List.length_append, ih, List.length_cons]
    show 12 + r.length * 12 = _
    omega
theorem flatA_get : ∀ (q : List AcV) (j : Nat) (hj : j < q.length) (i : Nat) (_ : i < 12), (flatA q)[j * 12 + i]? = (q[j]).cells[i]?
  | x :: r, 0, _, i, hi => by
    rw [flatA_cons, List.getElem?_append_left (by show _ < 12; omega)]
    simp
  | x :: r, j + 1, hj, i, hi => by
    rw [flatA_cons, List.getElem?_append_right (by show 12 ≤ _; omega), show (j + 1) * 12 + i - x.cells.length = j * 12 + i by show (j + 1) * 12 + i - 12 = _; omega, flatA_get r j (by simpa using hj) i hi]
    simp
theorem flatA_take (q : List AcV) (k : Nat) : flatA (q.take k) = (flatA q).take (k * 12) := by
  induction q generalizing k with
  | nil => simp [flatA]
  | cons x r ih =>
    cases k with
    | zero => simp [flatA]
    | succ k =>
      rw [List.take_succ_cons, flatA_cons, flatA_cons, ih, show (k + 1) * 12 = x.cells.length + k * 12 by show _ = 12 + k * 12; omega, List.take_length_add_append]
def AcsAt (w : World) (v : Value) (l : List Ac) : Prop := ∃ q : List AcV, q.map (·.a) = l ∧ (∀ x ∈ q, x.Ok w) ∧ ∃ p cap, v = .slice p q.length cap ∧ (q.length ≤ cap ∧ (p = none → cap = 0)) ∧ (0 < q.length → ∃ b o, p = some ⟨b, o, none⟩ ∧ ∀ j u, (flatA q)[j]? = some u → w.cell? ⟨b, o + j, none⟩ = some u)
theorem AcsAt.below {w wr : World} {v : Value} {l : List Ac} (h : AcsAt w v l) (hb : Below w.heap.size w wr) : AcsAt wr v l := by
  obtain ⟨q, h1, h2, p, cap, h3, h4, h5⟩ := h
  refine ⟨q, h1, fun x hx => (h2 x hx).below hb, p, cap, h3, h4, fun h0 => ?_⟩
  obtain ⟨b, o, h6, h7⟩ := h5 h0
  exact ⟨b, o, h6, fun j u hu => by rw [hb.cell (cell_block (h7 j u hu)), h7 j u hu]⟩
theorem AcsAt.slice {w : World} {v : Value} {l : List Ac} (h : AcsAt w v l) : ∃ p cap, v = .slice p l.length cap ∧ l.length ≤ cap ∧ (p = none → cap = 0) := by
  obtain ⟨q, rfl, _, p, cap, rfl, h4, _⟩ := h
  exact ⟨p, cap, by simp, by simpa using h4.1, h4.2⟩
theorem AcsAt.take {w : World} {p : Option Addr} {n cap : Nat} {l : List Ac} (h : AcsAt w (.slice p n cap) l) (k : Nat) (hk : k ≤ l.length) : AcsAt w (.slice p k cap) (l.take k) := by
  obtain ⟨q, rfl, h2, p', cap', e, h4, h5⟩ := h
  injection e with e1 e2 e3
  subst e1 e3
  have hkq : k ≤ q.length := by simpa using hk
  refine ⟨q.take k, by rw [List.map_take], fun x hx => h2 x (List.mem_of_mem_take hx), p, cap, by rw [List.length_take, Nat.min_eq_left hkq], ⟨by rw [List.length_take]; omega, h4.2⟩, fun h0 => ?_⟩
  rw [List.length_take] at h0
  obtain ⟨b, o, h6, h7⟩ := h5 (by omega)
  refine ⟨b, o, h6, fun j u hu => h7 j u ?_⟩
  rw [flatA_take, List.getElem?_take] at hu
  split at hu
  · exact hu
  · cases hu
theorem AcsAt.get {w : World} {p : Option Addr} {n cap : Nat} {l : List Ac} (h : AcsAt w (.slice p n cap) l) (j : Nat) (hj : j < l.length) :
    ∃ b o pl cl pg cg, p = some ⟨b, o, none⟩ ∧ LabAt w (.slice pl (l[j]).call.label.length cl) (l[j]).call.label ∧ IntsAt w (.slice pg (l[j]).call.grants.length cg) (l[j]).call.grants ∧
      w.cell? ⟨b, o + j * 12, none⟩ = some (.int .i64 (l[j]).kind) ∧ w.cell? ⟨b, o + j * 12 + 1, none⟩ = some (.int .i64 (l[j]).h) ∧ w.cell? ⟨b, o + j * 12 + 2, none⟩ = some (.int .i64 (l[j]).t) ∧ w.cell? ⟨b, o + j * 12 + 3, none⟩ = some (.int .i64 (l[j]).n) ∧ w.cell? ⟨b, o + j * 12 + 4, none⟩ = some (.int .i64 (l[j]).call.kind) ∧ w.cell? ⟨b, o + j * 12 + 5, none⟩ = some (.int .i64 (l[j]).call.h) ∧ w.cell? ⟨b, o + j * 12 + 6, none⟩ = some (.int .i64 (l[j]).call.t) ∧ w.cell? ⟨b, o + j * 12 + 7, none⟩ = some (.int .i64 (l[j]).call.n) ∧ w.cell? ⟨b, o + j * 12 + 8, none⟩ = some (.int .i64 (l[j]).call.c) ∧ w.cell? ⟨b, o + j * 12 + 9, none⟩ = some (.slice pl (l[j]).call.label.length cl) ∧ w.cell? ⟨b, o + j * 12 + 10, none⟩ = some (.slice pg (l[j]).call.grants.length cg) ∧ w.cell? ⟨b, o + j * 12 + 11, none⟩ = some (.string ⟨(l[j]).call.text.toArray⟩) := by
  obtain ⟨q, rfl, hok, p', cap', e, _, h4⟩ := h
  cases e
  have hjq : j < q.length := by simpa using hj
  obtain ⟨b, o, rfl, hc⟩ := h4 (by omega)
  have ho := hok _ (List.getElem_mem hjq)
  have g : ∀ i, i < 12 → ∀ u, (q[j]).cells[i]? = some u → w.cell? ⟨b, o + j * 12 + i, none⟩ = some u := fun i hi u hu => by
    rw [Nat.add_assoc]
    exact hc _ _ (by rw [flatA_get q j hjq i hi, hu])
  have e : (q.map (·.a))[j] = (q[j]).a := by simp
  rw [e]
  generalize q[j] = x at *
  obtain ⟨f, vl, vg⟩ := x
  obtain ⟨h1, h2⟩ := ho
  simp only at h1 h2 ⊢
  obtain ⟨pl, cl, rfl, _⟩ := id h1
  obtain ⟨pg, cg, rfl, _⟩ := id h2
  exact ⟨b, o, pl, cl, pg, cg, rfl, h1, h2, g 0 (by omega) _ rfl, g 1 (by omega) _ rfl, g 2 (by omega) _ rfl, g 3 (by omega) _ rfl, g 4 (by omega) _ rfl, g 5 (by omega) _ rfl, g 6 (by omega) _ rfl, g 7 (by omega) _ rfl, g 8 (by omega) _ rfl, g 9 (by omega) _ rfl, g 10 (by omega) _ rfl, g 11 (by omega) _ rfl⟩
theorem CluAt.row {w w' : World} {cb : Nat} {G : List Nat} {Z : CluV} {C : Clu} {v v' : Value} {n n' : Nat} {xs xs' : List Value} (h : CluAt w cb G Z C) (hv : w.ownsRow 0 35 3 v n xs) (hin : ∀ k, v.ownBlock = some k → k ∈ G) (hg : w.grownBy w' v.ownBlock) (hv' : w'.ownsRow 0 35 3 v' n' xs') (hw : ∀ k, v'.ownBlock = some k → v.ownBlock = some k ∨ w.heap.size ≤ k) : CluAt w' cb (G ++ v'.ownBlock.toList) Z C := by
  refine h.keep (R := v.ownBlock.toList) (kept_grown hg fun k e => .inl (Option.mem_toList.2 e)) (fun k hk => hin k (Option.mem_toList.1 hk)) ⟨fun k hk => List.mem_append.2 (.inl hk), fun k hk => ?_⟩ (fun k hk e => ?_) (fun k hk => ?_)
  · rcases List.mem_append.1 hk with e | e
    · exact .inl e
    · rcases hw k (Option.mem_toList.1 e) with q | q
      · exact .inl (hin k q)
      · exact .inr q
  · have hvk := Option.mem_toList.1 e
    rcases hv.2 with ⟨rfl, _⟩ | ⟨g, cap, cur, rfl, _, hh, _⟩
    · cases hvk
    · cases hvk
      exact h.notown hh (by decide) (by decide) (by decide) (by decide) (by decide) (by decide) hk
  · rcases List.mem_append.1 hk with e | e
    · exact Nat.lt_of_lt_of_le (h.fin k e) hg.size
    · have hvk := Option.mem_toList.1 e
      rcases hv'.2 with ⟨rfl, _⟩ | ⟨g, cap, cur, rfl, _, hh, _⟩
      · cases hvk
      · cases hvk; exact heap_lt hh
end Go.Proofs.YtgpldlbmjakjhaaGreat
namespace Go.Proofs.YtgpldlbmjakjhaaGreat
open Go.RowKit Go.Proofs.Parclose
set_option maxRecDepth 100000 in
set_option maxHeartbeats 400000 in
theorem cloneT_some (a : Addr) (n cap : Nat) (xs : List Value) (w : World) (hl : xs.length = n * 1) (hn : n ≤ 1000) (hc : ∀ j u, xs[j]? = some u → w.cell? (a.add j) = some u) (h1 : ∀ u ∈ xs, u.oneCell' = true) :
    Calls Tryz.prog 40 #[.slice (some a) n cap] w fun e w' => ∃ v', e = .returned v' ∧ w'.ownsRow w.heap.size 9 1 v' n xs ∧ Below w.heap.size w w' := by
  obtain ⟨i0, hi, hz0, hz1, hz2⟩ := info_parts info_text
  have q : ∀ (wx : World) (p : Option Addr) (n c n' c' : Nat), (binOp .eql 48 (.slice p n c) (.slice none n' c')).run Tryz.prog wx = .ok (.bool p.isNone) wx := fun wx p n c n' c' => Lib.run_eql_slice_nil wx _ _ p n c n' c' Tryz.underlying48
  have HC := hid hc
  clear hc
  go_enter Tryz.func40, Tryz.ntmps40
  go_wp2_with (at_builtin; refine wpList_append_own _ rfl _ _ 48 rfl w.heap.size 9 i0 _ 1 16 Tryz.underlying48 hi hz0 hz1 hz2 rfl (by decide) _ 0 [] rfl (cown_empty w _ _ _ (Nat.le_refl _)) a n cap xs rfl hl (fun j u hu => by have := HC.out j u hu; rw [(below_box w _).cell (cell_block this), this]) h1 (by unfold maxLen; omega) (by omega) (by simp) ?_; intro v6 w6 hown6 hgrow6 hnil6)
  have hb6 : Below w.heap.size w w6 := (below_box w (.cells #[] 9)).grown hgrow6 (by simp) (fun k hk => by cases hk; exact Nat.le_refl _)
  clear hgrow6 hnil6
  rw [Nat.zero_add, List.nil_append] at hown6
  go_ret
  exact ⟨v6, rfl, hown6, hb6⟩
theorem cloneT_none (n cap : Nat) (w : World) : Calls Tryz.prog 40 #[.slice none n cap] w fun e w' => e = .returned (.slice none 0 0) ∧ w' = w := by
  have q : ∀ (wx : World) (p : Option Addr) (n c n' c' : Nat), (binOp .eql 48 (.slice p n c) (.slice none n' c')).run Tryz.prog wx = .ok (.bool p.isNone) wx := fun wx p n c n' c' => Lib.run_eql_slice_nil wx _ _ p n c n' c' Tryz.underlying48
  go_enter Tryz.func40, Tryz.ntmps40
  go_wp2
  go_ret
  exact ⟨rfl, rfl⟩
theorem cloneT_any (v : Value) (l : List (List UInt8)) (w : World) (hv : w.ownsRow 0 9 1 v l.length (strs l)) (hl : l.length ≤ 1000) :
    Calls Tryz.prog 40 #[v] w fun e w' => ∃ v', e = .returned v' ∧ w'.ownsRow w.heap.size 9 1 v' l.length (strs l) ∧ Below w.heap.size w w' := by
  rcases hv.2 with ⟨e0, h0⟩ | ⟨g, cap, cur, e0, _⟩
  · subst e0
    have hn : l = [] := List.length_eq_zero_iff.1 h0
    subst hn
    refine (cloneT_none 0 0 w).mono ?_
    rintro e w' ⟨rfl, rfl⟩
    exact ⟨_, rfl, World.ownsRow_nil _ _ _ _, Below.refl _ _⟩
  · subst e0
    exact cloneT_some ⟨g, 0, none⟩ l.length cap (strs l) w (strs_len l) hl (hv.cells (g := g) rfl) (strs_one l)
set_option maxRecDepth 100000 in
theorem cnet_any (cb : Nat) (F : List Nat) (Z : CluV) (C : Clu) (w : World) (hc : CluAt w cb F Z C) (h60 : C.net.length ≤ 60) :
    Calls Tryz.prog 16 #[.pointer (some ⟨cb, 0, none⟩)] w fun e w' => ∃ p cap, e = .returned (.slice p C.net.length cap) ∧ w'.ownsRow w.heap.size 9 1 (.slice p C.net.length cap) C.net.length (strs C.net) ∧ Below w.heap.size w w' := by
  have k := hc.cnet.1
  obtain ⟨pn, cn, hvn⟩ := texts_slice hc.net
  have hcl := cloneT_any Z.vn C.net w hc.net (by omega)
  rw [hvn] at k hcl
  clear hvn
  have hlt := hc.lt
  clear hc
  go_enter Tryz.func16, Tryz.ntmps16
  go_wp2_with (go_at_call 40; refine hcl.mono ?_; rintro e w1 ⟨v1, rfl, hv1, hw1⟩; obtain ⟨p1, c1, e1⟩ := texts_slice hv1; subst e1)
  go_ret
  exact ⟨p1, c1, rfl, hv1, hw1⟩
theorem cnow_any (cb : Nat) (F : List Nat) (Z : CluV) (C : Clu) (w : World) (hc : CluAt w cb F Z C) : Calls Tryz.prog 25 #[.pointer (some ⟨cb, 0, none⟩)] w fun e w' => e = .returned (.int .i64 C.now) ∧ w' = w := by
  have k := hc.cnow
  clear hc
  go_enter Tryz.func25, Tryz.ntmps25
  go_wp2
  go_ret
  exact ⟨rfl, rfl⟩
end Go.Proofs.YtgpldlbmjakjhaaGreat
namespace Go.Proofs.YtgpldlbmjakjhaaGreat
open Go.RowKit Go.Proofs.Parclose
theorem acRo_nil (w : World) (F : List Nat) (k h t n : Int) (ck ch ct cn cc : Int) (x : List UInt8) : AcRo w F (.agg #[.int .i64 k, .int .i64 h, .int .i64 t, .int .i64 n, .int .i64 ck, .int .i64 ch, .int .i64 ct, .int .i64 cn, .int .i64 cc, .slice none 0 0, .slice none 0 0, .string ⟨x.toArray⟩]) ⟨k, h, t, n, ⟨ck, ch, ct, cn, cc, [], [], x⟩⟩ :=
  ⟨_, _, rfl, ⟨LabAt.nil _ _ _ (fun _ => rfl), fun h => absurd h (by simp)⟩, ⟨IntsAt.nil _ _ _ (fun _ => rfl), fun h => absurd h (by simp)⟩⟩
theorem Below.trans' {B : Nat} {a b c : World} (h : Below B a b) (k : Below B b c) : Below B a c := ⟨k.os.trans h.os, k.tape.trans h.tape, k.output.trans h.output, Nat.le_trans h.size k.size, fun i hi => by rw [k.block i hi, h.block i hi]⟩
theorem CStep.low {cb B : Nat} {w w' : World} {F G : List Nat} {Z Z' : CluV} {C : Clu} (h : CStep cb w F Z w' G Z') (hc : CluAt w cb F Z C) (hF : ∀ k ∈ F, B ≤ k) (hB : B ≤ w.heap.size) : Below B w w' ∧ ∀ k ∈ G, B ≤ k := by
  have hk := h.keptF hc
  refine ⟨⟨hk.os, hk.tape, hk.output, hk.size, fun k hk' => hk.block k (by omega) (fun e => by have := hF k e; omega)⟩, fun k hk' => ?_⟩
  rcases h.more.2 k hk' with e | e
  · exact hF k e
  · omega
set_option maxRecDepth 100000 in
set_option maxHeartbeats 3200000 in
theorem talive_any (w : World) : Calls Tryz.prog 26 #[] w fun e w' => e = .returned (.bool true) ∧ Below w.heap.size w w' := by
  have HA := hid alive_a
  have HB := hid alive_two
  go_enter Tryz.func26, Tryz.ntmps26
  go_wp2_with fail
  refine (cnew_any w).mono ?_
  rintro e w1 ⟨rfl, ⟨kp, F, hc1, hF⟩, hw1⟩
  have hdo := cdo_any _ F _ freshClu _ aliveA w1 hc1 freshC_good (acRo_nil w1 F 1 2 0 0 1 0 0 0 0 [])
  have HC1 := hid hc1
  generalize hr1 : doC freshClu aliveA = R1 at *
  obtain ⟨C1, r1⟩ := R1
  simp only at hdo
  have HG1 : Hid (GoodC C1) := hid (by have := doC_good freshC_good aliveA; rw [hr1] at this; exact this)
  clear hr1
  go_wp2_with fail
  refine hdo.mono ?_
  rintro e w2 ⟨rfl, G2, Z2, hc2, hs2⟩
  obtain ⟨hb2, hF2⟩ := hs2.low hc1 hF hw1.size
  have HW2 := hid (Below.trans' hw1 hb2)
  have hbx := below_box w2 (.cells #[.int .i64 r1.code, .int .i64 r1.n, .string ⟨r1.text.toArray⟩] 35)
  have hdo2 := cdo_any _ G2 Z2 C1 _ aliveB (w2.alloc (.cells #[.int .i64 r1.code, .int .i64 r1.n, .string ⟨r1.text.toArray⟩] 35)) (hc2.below hbx) HG1.out (acRo_nil _ G2 1 2 0 0 6 1 3 0 0 [104, 105])
  have HX2 := hid (heap_alloc_new w2 (.cells #[.int .i64 r1.code, .int .i64 r1.n, .string ⟨r1.text.toArray⟩] 35))
  have HC2 := hid (hc2.below hbx)
  have HG2 := hid (doC_good HG1.out aliveB)
  have hr40 : r1.n = 40 := HA.out
  have HBX := hid hbx
  clear hdo hs2 hc1 hc2 HC1 HA hbx
  generalize doC C1 aliveB = R2 at *
  obtain ⟨C2, r2⟩ := R2
  obtain ⟨hr0, hn1⟩ : r2.code = 0 ∧ C2.net.length = 1 := HB.out
  simp only at hdo2
  have HN1 := hid hn1
  have H40 := hid hr40
  have H00 := hid hr0
  clear HB hr40 hr0 hn1
  go_wp2_with fail
  refine hdo2.mono ?_
  rintro e w3 ⟨rfl, G3, Z3, hc3, hs3⟩
  have HX3 := hid (box_cstep hs3 HC2.out HX2.out (by decide) (by decide) (by decide) (by decide) (by decide) (by decide))
  obtain ⟨hb3, hF3⟩ := hs3.low HC2.out hF2 (Nat.le_trans HW2.out.size HBX.out.size)
  have HW3 : Hid (Below w.heap.size w w3) := hid (Below.trans' (Below.trans' HW2.out ⟨HBX.out.os, HBX.out.tape, HBX.out.output, HBX.out.size, fun k hk => HBX.out.block k (Nat.lt_of_lt_of_le hk HW2.out.size)⟩) hb3)
  have hbx3 := below_box w3 (.cells #[.int .i64 r2.code, .int .i64 r2.n, .string ⟨r2.text.toArray⟩] 35)
  have hnet := cnet_any _ G3 Z3 C2 (w3.alloc (.cells #[.int .i64 r2.code, .int .i64 r2.n, .string ⟨r2.text.toArray⟩] 35)) (hc3.below hbx3) HG2.out.net
  rw [HN1.out] at hnet
  have HX4 := hid (heap_alloc_new w3 (.cells #[.int .i64 r2.code, .int .i64 r2.n, .string ⟨r2.text.toArray⟩] 35))
  have HX5 := hid (heap_new HX3.out (.cells #[.int .i64 r2.code, .int .i64 r2.n, .string ⟨r2.text.toArray⟩] 35))
  have HBX3 := hid hbx3
  obtain ⟨a0, a1, a2, _⟩ := cells3 HX4.out
  obtain ⟨d0, d1, d2, _⟩ := cells3 HX5.out
  clear hdo2 hs3 hc3 hb3 hbx3
  go_upto_region 6 with fail
  generalize w3.alloc (.cells #[.int .i64 r2.code, .int .i64 r2.n, .string ⟨r2.text.toArray⟩] 35) = w4 at *
  rw [H40.out] at d1
  rw [H00.out] at a0
  go_wp2_with (go_at_call 16; refine hnet.mono ?_; rintro e w5 ⟨pn, cn, rfl, _, hw5⟩)
  go_ret
  exact ⟨rfl, below_then (below_then HW3.out HBX3.out) hw5⟩
end Go.Proofs.YtgpldlbmjakjhaaGreat
namespace Go.Proofs.YtgpldlbmjakjhaaGreat
open Go.RowKit Go.Proofs.Parclose
theorem roLab_old {w w' : World} {G : List Nat} {v : Value} {l : List (Int × Int)} (h : LabAt w v l) (hG : ∀ k ∈ G, w.heap.size ≤ k) (h' : LabAt w' v l) : RoLab w' G v l := ⟨h', fun h0 k hk hn => by
  obtain ⟨p, cap, rfl, _, _, hc⟩ := h
  obtain ⟨b, o, rfl, hcs⟩ := hc h0
  cases hk
  have h1 : b < w.heap.size := cell_block (hcs 0 h0).1
  have h2 : w.heap.size ≤ b := hG _ hn
  omega⟩
theorem roInts_old {w w' : World} {G : List Nat} {v : Value} {l : List Int} (h : IntsAt w v l) (hG : ∀ k ∈ G, w.heap.size ≤ k) (h' : IntsAt w' v l) : RoInts w' G v l := ⟨h', fun h0 k hk hn => by
  obtain ⟨p, cap, rfl, _, _, hc⟩ := h
  obtain ⟨b, o, rfl, hcs⟩ := hc h0
  cases hk
  have h1 : b < w.heap.size := cell_block (hcs 0 h0)
  have h2 : w.heap.size ≤ b := hG _ hn
  omega⟩
theorem playC_snoc : ∀ (l : List Ac) (C : Clu) (a : Ac), playC C (l ++ [a]) = (doC (playC C l) a).1
  | [], _, _ => rfl
  | b :: r, C, a => playC_snoc r (doC C b).1 a
theorem playC_good : ∀ (l : List Ac) {C : Clu} (_ : GoodC C), GoodC (playC C l)
  | [], _, h => h
  | a :: r, _, h => playC_good r (doC_good h a)
end Go.Proofs.YtgpldlbmjakjhaaGreat
namespace Go.Proofs.YtgpldlbmjakjhaaGreat
open Go.RowKit Go.Proofs.Parclose
theorem quiet_any (vc : Value) (a : Ac) (r : Rep) (pl pg : Option Addr) (cl cg : Nat) (w : World) : Calls Tryz.prog 19 #[vc, (.agg #[.int .i64 a.kind, .int .i64 a.h, .int .i64 a.t, .int .i64 a.n, .int .i64 a.call.kind, .int .i64 a.call.h, .int .i64 a.call.t, .int .i64 a.call.n, .int .i64 a.call.c, .slice pl a.call.label.length cl, .slice pg a.call.grants.length cg, .string ⟨a.call.text.toArray⟩]), (.agg #[.int .i64 r.code, .int .i64 r.n, .string ⟨r.text.toArray⟩])] w fun e w' => e = .returned (.bool true) ∧ Below w.heap.size w w' := by
  go_enter Tryz.func19, Tryz.ntmps19
  go_wp2
  go_ret
  exact ⟨rfl, (below_box w _).alloc (below_box w _).size _⟩
set_option maxRecDepth 100000 in
set_option maxHeartbeats 6400000 in
theorem play_quiet (v : Value) (l : List Ac) (w : World) (hv : AcsAt w v l) :
    Calls Tryz.prog 9 #[v, .func (.func 19) #[] #[]] w fun e w' => ∃ cb, e = .returned (.tuple #[.pointer (some ⟨cb, 0, none⟩), .bool true]) ∧ w.heap.size ≤ cb ∧ Below w.heap.size w w' ∧ ∃ F, (∃ Z, CluAt w' cb F Z (playC freshClu (l.take 120))) ∧ ∀ k ∈ F, w.heap.size ≤ k := by
  have HV := hid hv
  obtain ⟨p, cap, rfl, hlc, _⟩ := hv.slice
  clear hv
  go_enter Tryz.func9, Tryz.ntmps9
  go_upto_region 3 with (go_at_call 26; refine (talive_any _).mono ?_; rintro e w1 ⟨rfl, hw1⟩)
  go_upto_region 4 with (go_at_call 28; refine (cnew_any _).mono ?_; rintro e w2 ⟨rfl, ⟨kp, F, hc2, hF⟩, hw2⟩)
  have HB2 := hid (below_then hw1 hw2)
  have HF2 : Hid (∀ k ∈ F, w.heap.size ≤ k) := hid (fun k hk => Nat.le_trans hw1.size (hF k hk))
  have HC2 := hid hc2
  have HCB := hid hw1.size
  clear hc2 hF hw1 hw2
  go_wp2_with fail
  go_loopw [7] (fun i wr => ∃ (k : Nat) (G : List Nat) (Z' : CluV), k ≤ l.length ∧ k ≤ 120 ∧ i = .int .i64 k ∧ CluAt wr w1.heap.size G Z' (playC freshClu (l.take k)) ∧ Below w.heap.size w wr ∧ (∀ b ∈ G, w.heap.size ≤ b)) (fun i _ => l.length - (intOf i).toNat)
  case atStart => exact ⟨0, F, _, Nat.zero_le _, Nat.zero_le _, rfl, HC2.out, HB2.out, HF2.out⟩
  case round =>
    clear HC2 HB2 HF2
    obtain ⟨k, G, Z', hk, hk120, rfl, hck, hbw, hG⟩ := hrel
    have HCK := hid hck
    have HBW := hid hbw
    have HGG := hid hG
    have hsz := hbw.size
    clear hck hbw hG
    by_cases hlt : k < l.length
    · have hI : (k : Int) < (l.length : Int) := by omega
      by_cases h120 : k < 120
      · have hJ : (k : Int) < 120 := by omega
        obtain ⟨b, o, pl, cl, pg, cg, rfl, hla, hin2, q0, q1, q2, q3, q4, q5, q6, q7, q8, q9, q10, q11⟩ := HV.out.get k hlt
        have HPS : Hid (playC freshClu (l.take (k + 1)) = (doC (playC freshClu (l.take k)) l[k]).1) := hid (by rw [← List.take_append_getElem hlt, playC_snoc])
        have HGD := hid (playC_good (l.take k) freshC_good)
        generalize l[k] = a at *
        generalize playC freshClu (l.take k) = Ck at *
        have r0 := (HBW.out.cell (cell_block q0)).trans q0
        have r1 := (HBW.out.cell (cell_block q1)).trans q1
        have r2 := (HBW.out.cell (cell_block q2)).trans q2
        have r3 := (HBW.out.cell (cell_block q3)).trans q3
        have r4 := (HBW.out.cell (cell_block q4)).trans q4
        have r5 := (HBW.out.cell (cell_block q5)).trans q5
        have r6 := (HBW.out.cell (cell_block q6)).trans q6
        have r7 := (HBW.out.cell (cell_block q7)).trans q7
        have r8 := (HBW.out.cell (cell_block q8)).trans q8
        have r9 := (HBW.out.cell (cell_block q9)).trans q9
        have r10 := (HBW.out.cell (cell_block q10)).trans q10
        have r11 := (HBW.out.cell (cell_block q11)).trans q11
        have hbl := Nat.lt_of_lt_of_le (cell_block q0) hsz
        have hdo := cdo_any w1.heap.size G Z' Ck _ a wr HCK.out HGD.out ⟨_, _, rfl, roLab_old hla HGG.out (hla.below HBW.out), roInts_old hin2 HGG.out (hin2.below HBW.out)⟩
        unfold acV at hdo
        generalize doC Ck a = R at *
        obtain ⟨C2, r⟩ := R
        simp only at hdo HPS
        have HQ : Hid (∀ w', Below w.heap.size w w' → w'.cell? ⟨b, o + k * 12, none⟩ = some (.int .i64 a.kind) ∧ w'.cell? ⟨b, o + k * 12 + 1, none⟩ = some (.int .i64 a.h) ∧ w'.cell? ⟨b, o + k * 12 + 2, none⟩ = some (.int .i64 a.t) ∧ w'.cell? ⟨b, o + k * 12 + 3, none⟩ = some (.int .i64 a.n) ∧ w'.cell? ⟨b, o + k * 12 + 4, none⟩ = some (.int .i64 a.call.kind) ∧ w'.cell? ⟨b, o + k * 12 + 5, none⟩ = some (.int .i64 a.call.h) ∧ w'.cell? ⟨b, o + k * 12 + 6, none⟩ = some (.int .i64 a.call.t) ∧ w'.cell? ⟨b, o + k * 12 + 7, none⟩ = some (.int .i64 a.call.n) ∧ w'.cell? ⟨b, o + k * 12 + 8, none⟩ = some (.int .i64 a.call.c) ∧ w'.cell? ⟨b, o + k * 12 + 9, none⟩ = some (.slice pl a.call.label.length cl) ∧ w'.cell? ⟨b, o + k * 12 + 10, none⟩ = some (.slice pg a.call.grants.length cg) ∧ w'.cell? ⟨b, o + k * 12 + 11, none⟩ = some (.string ⟨a.call.text.toArray⟩)) := hid (fun w' h => ⟨(h.cell (cell_block q0)).trans q0, (h.cell (cell_block q1)).trans q1, (h.cell (cell_block q2)).trans q2, (h.cell (cell_block q3)).trans q3, (h.cell (cell_block q4)).trans q4, (h.cell (cell_block q5)).trans q5, (h.cell (cell_block q6)).trans q6, (h.cell (cell_block q7)).trans q7, (h.cell (cell_block q8)).trans q8, (h.cell (cell_block q9)).trans q9, (h.cell (cell_block q10)).trans q10, (h.cell (cell_block q11)).trans q11⟩)
        clear q0 q1 q2 q3 q4 q5 q6 q7 q8 q9 q10 q11 hla hin2
        go_upto_region 8 with (go_at_call 22; refine hdo.mono ?_; rintro e w5 ⟨rfl, G5, Z5, hc5, hs5⟩)
        obtain ⟨hb5, hG5⟩ := hs5.low HCK.out HGG.out hsz
        have HB5 := hid (Below.trans' HBW.out hb5)
        have hbx := below_box w5 (.cells #[.int .i64 r.code, .int .i64 r.n, .string ⟨r.text.toArray⟩] 35)
        have HB6 := hid (below_then HB5.out hbx)
        have HX6 := hid (heap_alloc_new w5 (.cells #[.int .i64 r.code, .int .i64 r.n, .string ⟨r.text.toArray⟩] 35))
        have HC6 := hid (hc5.below hbx)
        have HG5 := hid hG5
        obtain ⟨s0, s1, s2, s3, s4, s5, s6, s7, s8, s9, s10, s11⟩ := HQ.out _ HB6.out
        obtain ⟨t0, t1, t2, _⟩ := cells3 HX6.out
        have hlt6 := heap_lt HX6.out
        have hbl5 : b < w5.heap.size := Nat.lt_of_lt_of_le hbl hs5.kept.size
        clear hdo hs5 hc5 hb5 hG5 hbx r0 r1 r2 r3 r4 r5 r6 r7 r8 r9 r10 r11
        generalize hw6 : w5.alloc (.cells #[.int .i64 r.code, .int .i64 r.n, .string ⟨r.text.toArray⟩] 35) = w6 at *
        have HW6 := hid (Below.refl w6.heap.size w6)
        clear hw6
        go_region_held3 (fun w' => (w'.cell? ⟨b, o + k * 12, none⟩ = some (.int .i64 a.kind) ∧ w'.cell? ⟨b, o + k * 12 + 1, none⟩ = some (.int .i64 a.h) ∧ w'.cell? ⟨b, o + k * 12 + 2, none⟩ = some (.int .i64 a.t) ∧ w'.cell? ⟨b, o + k * 12 + 3, none⟩ = some (.int .i64 a.n) ∧ w'.cell? ⟨b, o + k * 12 + 4, none⟩ = some (.int .i64 a.call.kind) ∧ w'.cell? ⟨b, o + k * 12 + 5, none⟩ = some (.int .i64 a.call.h) ∧ w'.cell? ⟨b, o + k * 12 + 6, none⟩ = some (.int .i64 a.call.t) ∧ w'.cell? ⟨b, o + k * 12 + 7, none⟩ = some (.int .i64 a.call.n) ∧ w'.cell? ⟨b, o + k * 12 + 8, none⟩ = some (.int .i64 a.call.c) ∧ w'.cell? ⟨b, o + k * 12 + 9, none⟩ = some (.slice pl a.call.label.length cl) ∧ w'.cell? ⟨b, o + k * 12 + 10, none⟩ = some (.slice pg a.call.grants.length cg) ∧ w'.cell? ⟨b, o + k * 12 + 11, none⟩ = some (.string ⟨a.call.text.toArray⟩)) ∧ w'.cell? ⟨w5.heap.size, 0, none⟩ = some (.int .i64 r.code) ∧ w'.cell? ⟨w5.heap.size, 1, none⟩ = some (.int .i64 r.n) ∧ w'.cell? ⟨w5.heap.size, 2, none⟩ = some (.string ⟨r.text.toArray⟩)) (go_keep)
          (first
            | (go_at_call 19; refine (quiet_any _ a r pl pg cl cg _).mono ?_; rintro e w7 ⟨rfl, hwd⟩; have hw := kundrew hwd; have HW7 := hid hw; obtain ⟨u0, u1, u2, u3, u4, u5, u6, u7, u8, u9, u10, u11⟩ := HQ.out _ (below_then HB6.out hw); obtain ⟨y0, y1, y2, _⟩ := cells3 (heap_keep HX6.out hw); clear hw hwd)
            | fail)
        all_goals
          go_wp2
          go_roundw
          case rel => exact ⟨k + 1, G5, Z5, hlt, h120, by go_num, by rw [HPS.out]; exact HC6.out.below HW7.out, below_then HB6.out HW7.out, HG5.out⟩
          case measure => simp [intOf]; omega
      · have hk5 : k = 120 := by omega
        have hJ : ¬ ((k : Int) < 120) := by omega
        have HE : Hid (l.take k = l.take 120) := hid (by rw [hk5])
        clear hk5
        go_wp2
        go_ret2
        have hC := HCK.out
        rw [HE.out] at hC
        exact ⟨w1.heap.size, rfl, HCB.out, HBW.out, G, ⟨Z', hC⟩, HGG.out⟩
    · have hI : ¬ ((k : Int) < (l.length : Int)) := by omega
      have HE : Hid (l.take k = l.take 120) := hid (by rw [List.take_of_length_le (by omega), List.take_of_length_le (by omega)])
      go_wp2
      go_ret2
      have hC := HCK.out
      rw [HE.out] at hC
      exact ⟨w1.heap.size, rfl, HCB.out, HBW.out, G, ⟨Z', hC⟩, HGG.out⟩
end Go.Proofs.YtgpldlbmjakjhaaGreat
namespace Go.Proofs.YtgpldlbmjakjhaaGreat
open Go.RowKit Go.Proofs.Parclose
theorem thrC_good {C : Clu} (h : GoodC C) (x t : Int) : GoodT (thrC C x t) := by
  unfold thrC
  split
  · rename_i h1
    have h2 : 0 ≤ x ∧ x < 4 := of_decide_eq_true h1
    have hk := h.ks x.toNat (by omega)
    unfold thrOf
    cases ht : getT (C.ks x.toNat) t with
    | none => exact zero_good
    | some th =>
      obtain ⟨n, _, hn, e⟩ := getT_some ht
      exact hk.ths th (e ▸ List.getElem_mem hn)
  · exact zero_good
end Go.Proofs.YtgpldlbmjakjhaaGreat
namespace Go.Proofs.YtgpldlbmjakjhaaGreat
open Go.RowKit Go.Proofs.Parclose
structure WasD where
  pl : Option Addr
  cl : Nat
  po : Option Addr
  co : Nat
  pj : Option Addr
  cj : Nat
  pm : Option Addr
  cm : Nat
def WasD.vals (d : WasD) (th : Thr) : List Value := [.slice d.pl th.label.length d.cl, .slice d.po th.own.length d.co, .string ⟨th.text.toArray⟩, .slice d.pj th.objs.length d.cj, .slice d.pm th.mails.length d.cm]
def WasD.New (d : WasD) (w : World) (B : Nat) (th : Thr) : Prop := ThrNew w B (.slice d.pl th.label.length d.cl) (.slice d.po th.own.length d.co) (.slice d.pj th.objs.length d.cj) (.slice d.pm th.mails.length d.cm) th
def WasAt (w : World) (Bw n B : Nat) (D : Nat → Nat → WasD) (C : Clu) : Prop := ∃ A, w.heap[Bw]? = some (.cells A 64 (0, 0)) ∧ A.size = 80 ∧ ∀ h t, h < 4 → t < 4 → h * 4 + t < n → (∀ i, i < 5 → A[h * 20 + t * 5 + i]? = ((D h t).vals (thrC C h t))[i]?) ∧ (D h t).New w B (thrC C h t)
theorem WasAt.below {w w' : World} {Bw n B : Nat} {D : Nat → Nat → WasD} {C : Clu} (h : WasAt w Bw n B D C) (hb : Below w.heap.size w w') : WasAt w' Bw n B D C := by
  obtain ⟨A, h1, h2, h3⟩ := h
  exact ⟨A, heap_keep h1 hb, h2, fun x t hx ht hn => ⟨(h3 x t hx ht hn).1, ThrNew.below (h3 x t hx ht hn).2 hb⟩⟩
theorem WasAt.step {w w' : World} {cb Bw n B : Nat} {F G : List Nat} {Z Z' : CluV} {D : Nat → Nat → WasD} {C C0 : Clu} (h : WasAt w Bw n B D C) (hs : CStep cb w F Z w' G Z') (hc : CluAt w cb F Z C0) (hB : ∀ k ∈ cownL cb Z, k < B) : WasAt w' Bw n B D C := by
  obtain ⟨A, h1, h2, h3⟩ := h
  exact ⟨A, box_cstep hs hc h1 (by decide) (by decide) (by decide) (by decide) (by decide) (by decide), h2, fun x t hx ht hn => ⟨(h3 x t hx ht hn).1, ThrNew.keep (h3 x t hx ht hn).2 (far_low hB) hs.kept⟩⟩
theorem WasAt.slot {w : World} {Bw n B : Nat} {D : Nat → Nat → WasD} {C : Clu} (hw : WasAt w Bw n B D C) {h t : Nat} (hh : h < 4) (ht : t < 4) (hn : h * 4 + t < n) : (w.cell? ⟨Bw, h * 20 + t * 5, none⟩ = some (.slice (D h t).pl (thrC C h t).label.length (D h t).cl) ∧ w.cell? ⟨Bw, h * 20 + t * 5 + 1, none⟩ = some (.slice (D h t).po (thrC C h t).own.length (D h t).co) ∧ w.cell? ⟨Bw, h * 20 + t * 5 + 2, none⟩ = some (.string ⟨(thrC C h t).text.toArray⟩) ∧ w.cell? ⟨Bw, h * 20 + t * 5 + 3, none⟩ = some (.slice (D h t).pj (thrC C h t).objs.length (D h t).cj) ∧ w.cell? ⟨Bw, h * 20 + t * 5 + 4, none⟩ = some (.slice (D h t).pm (thrC C h t).mails.length (D h t).cm)) ∧ (D h t).New w B (thrC C h t) := by
  obtain ⟨A, h1, h2, h3⟩ := hw
  obtain ⟨g, hnew⟩ := h3 h t hh ht hn
  exact ⟨⟨(heap_cell h1 _).trans (g 0 (by omega)), (heap_cell h1 _).trans (g 1 (by omega)), (heap_cell h1 _).trans (g 2 (by omega)), (heap_cell h1 _).trans (g 3 (by omega)), (heap_cell h1 _).trans (g 4 (by omega))⟩, hnew⟩
theorem WasAt.cells {w : World} {Bw n B : Nat} {D : Nat → Nat → WasD} {C : Clu} (hw : WasAt w Bw n B D C) (j : Nat) (hj : j < 80) : (∃ u, w.cell? ⟨Bw, j, none⟩ = some u) ∧ w.frozen? ⟨Bw, j, none⟩ = false := by
  obtain ⟨A, h1, h2, _⟩ := hw
  exact ⟨⟨A[j]'(by omega), (heap_cell h1 j).trans (Array.getElem?_eq_getElem _)⟩, heap_frozen h1 j⟩
theorem was_zero (w : World) (B : Nat) (D : Nat → Nat → WasD) (C : Clu) : WasAt (w.alloc (.cells Tryz.zeroCells64 64)) w.heap.size 0 B D C :=
  ⟨_, heap_alloc_new w _, by kernel_rfl, fun _ _ _ _ h => absurd h (Nat.not_lt_zero _)⟩
theorem was_store {w : World} {Bw B i j : Nat} {D : Nat → Nat → WasD} {C : Clu} (hw : WasAt w Bw (i * 4 + j) B D C) (hi : i < 4) (hj : j < 4) (d : WasD) (hd : d.New w B (thrC C i j)) :
    WasAt (w.setCells Bw (i * 20 + j * 5) (d.vals (thrC C i j))) Bw (i * 4 + j + 1) B (fun h t => if h = i ∧ t = j then d else D h t) C := by
  obtain ⟨A, h1, h2, h3⟩ := hw
  obtain ⟨A', k1, k2, k3⟩ := heap_cells (d.vals (thrC C i j)) (i * 20 + j * 5) w A h1
  have hl : (d.vals (thrC C i j)).length = 5 := rfl
  rw [hl] at k3
  have hk : ∀ (e : WasD) (th : Thr), e.New w B th → e.New (w.setCells Bw (i * 20 + j * 5) (d.vals (thrC C i j))) B th := fun e th he => ThrNew.keep (R := [Bw]) he (fun k hk => .inr ⟨_, _, by simp at hk; subst hk; exact h1, by decide, by decide, by decide, by decide⟩) (kept_grown (grown_cells _ _ w) fun k e => .inl (by have := Option.some.inj e; simp; omega))
  refine ⟨A', k1, by omega, fun h t hh ht hn => ?_⟩
  by_cases e : h = i ∧ t = j
  · obtain ⟨rfl, rfl⟩ := e
    simp only [and_self, if_true]
    refine ⟨fun x hx => ?_, hk d _ hd⟩
    rw [k3, if_pos (by omega), show h * 20 + t * 5 + x - (h * 20 + t * 5) = x by omega]
  · simp only [if_neg e]
    obtain ⟨g, hnew⟩ := h3 h t hh ht (by omega)
    refine ⟨fun x hx => ?_, hk _ _ hnew⟩
    rw [k3, if_neg (by omega)]
    exact g x hx
theorem thrC_unmoved {C D : Clu} (h : Unmoved C D) (x t : Int) : thrC D x t = thrC C x t := by
  unfold thrC
  rw [h.1]
end Go.Proofs.YtgpldlbmjakjhaaGreat
namespace Go.Proofs.YtgpldlbmjakjhaaGreat
open Go.RowKit Go.Proofs.Parclose
set_option linter.unusedSimpArgs false in
set_option maxRecDepth 100000 in
set_option maxHeartbeats 12800000 in
theorem topRefused_any (v va : Value) (l : List Ac) (a : Ac) (w : World) (hv : AcsAt w v l) (ha : AcAt w va a) :
    Calls Tryz.prog 5 #[v, va] w fun e w' => e = .returned (.bool true) ∧ Below w.heap.size w w' := by
  obtain ⟨vl, vg, rfl, hla, hga⟩ := ha
  obtain ⟨pl, cl, rfl, _⟩ := id hla
  obtain ⟨pg, cg, rfl, _⟩ := id hga
  obtain ⟨p, cap, rfl, hlc, _⟩ := hv.slice
  have hbb := below_box w (.cells #[.int .i64 a.kind, .int .i64 a.h, .int .i64 a.t, .int .i64 a.n, .int .i64 a.call.kind, .int .i64 a.call.h, .int .i64 a.call.t, .int .i64 a.call.n, .int .i64 a.call.c, .slice pl a.call.label.length cl, .slice pg a.call.grants.length cg, .string ⟨a.call.text.toArray⟩] 32)
  have hplay := play_quiet _ l (w.alloc (.cells #[.int .i64 a.kind, .int .i64 a.h, .int .i64 a.t, .int .i64 a.n, .int .i64 a.call.kind, .int .i64 a.call.h, .int .i64 a.call.t, .int .i64 a.call.n, .int .i64 a.call.c, .slice pl a.call.label.length cl, .slice pg a.call.grants.length cg, .string ⟨a.call.text.toArray⟩] 32)) (hv.below hbb)
  have HX0 := hid (heap_alloc_new w (.cells #[.int .i64 a.kind, .int .i64 a.h, .int .i64 a.t, .int .i64 a.n, .int .i64 a.call.kind, .int .i64 a.call.h, .int .i64 a.call.t, .int .i64 a.call.n, .int .i64 a.call.c, .slice pl a.call.label.length cl, .slice pg a.call.grants.length cg, .string ⟨a.call.text.toArray⟩] 32))
  have HBB := hid hbb
  have HLA := hid hla
  have HGA := hid hga
  clear hv hbb hla hga
  unfold acV
  go_enter Tryz.func5, Tryz.ntmps5
  go_upto_region 5 with (go_at_call 9; refine hplay.mono ?_; rintro e w1 ⟨cb, rfl, hcb, hw1, F, ⟨Z, hc1⟩, hF⟩)
  have HGC := hid (playC_good (l.take 120) freshC_good)
  have HW1 := hid (below_then HBB.out hw1)
  have hxa1 := heap_keep HX0.out ⟨hw1.os, hw1.tape, hw1.output, hw1.size, fun k hk => hw1.block k hk⟩
  have hlt1 := heap_lt hxa1
  have HF1 : Hid (∀ k ∈ F ++ [w1.heap.size], w.heap.size + 1 ≤ k) := hid (fun k hk => by
    rcases List.mem_append.1 hk with e | e
    · have := hF k e; rw [size_box] at this; exact this
    · rw [List.mem_singleton.1 e]; exact hlt1)
  have HOB : Hid (∀ k ∈ cownL cb Z, k < w1.heap.size + 1) := hid (fun k hk => Nat.lt_succ_of_lt (hc1.fin k (hc1.ownF k hk)))
  have HC2 := hid (hc1.reserve (.cells Tryz.zeroCells64 64))
  have HX2 := hid (heap_new hxa1 (.cells Tryz.zeroCells64 64))
  have HB2 := hid (below_then HW1.out (below_box w1 (.cells Tryz.zeroCells64 64)))
  generalize playC freshClu (l.take 120) = C at *
  have HWZ := hid (was_zero w1 (w1.heap.size + 1) (fun _ _ => ⟨none, 0, none, 0, none, 0, none, 0⟩) C)
  have HS2 : Hid (w1.heap.size + 1 ≤ (w1.alloc (.cells Tryz.zeroCells64 64)).heap.size) := hid (by rw [size_box]; exact Nat.le_refl _)
  clear hplay hc1 hF hw1 hxa1
  go_wp2_with fail
  generalize w1.alloc (.cells Tryz.zeroCells64 64) = w2 at *
  go_loopw [22] (fun c wr => ∃ (i : Nat) (D : Nat → Nat → WasD), i ≤ 4 ∧ c = .int .i64 i ∧ WasAt wr w1.heap.size (i * 4) (w1.heap.size + 1) D C ∧ CluAt wr cb (F ++ [w1.heap.size]) Z C ∧ wr.heap[w.heap.size]? = some (.cells #[.int .i64 a.kind, .int .i64 a.h, .int .i64 a.t, .int .i64 a.n, .int .i64 a.call.kind, .int .i64 a.call.h, .int .i64 a.call.t, .int .i64 a.call.n, .int .i64 a.call.c, .slice pl a.call.label.length cl, .slice pg a.call.grants.length cg, .string ⟨a.call.text.toArray⟩] 32 (0, 0)) ∧ Below w.heap.size w wr ∧ w1.heap.size + 1 ≤ wr.heap.size) (fun c _ => 4 - (intOf c).toNat)
  case atStart => exact ⟨0, _, by omega, rfl, HWZ.out, HC2.out, HX2.out, HB2.out, HS2.out⟩
  case round =>
    clear HWZ HC2 HX2 HB2 HS2
    obtain ⟨i, D1, hi, rfl, hwa, hcl, hxa, hbw, hbs⟩ := hrel
    obtain ⟨wo, hwo⟩ : ∃ wo, wo = wr := ⟨_, rfl⟩
    subst hwo
    have HWAo := hid hwa
    have HCLo := hid hcl
    have HXAo := hid hxa
    have HBWo := hid hbw
    have HBSo := hid hbs
    clear hwa hcl hxa hbw hbs
    by_cases hi4 : i < 4
    · have hI : (i : Int) < 4 := by omega
      have i0 : (0 : Int) ≤ i := by omega
      go_wp2_with fail
      go_loopw [25] (fun c wr => ∃ (j : Nat) (D : Nat → Nat → WasD), j ≤ 4 ∧ c = .int .i64 j ∧ WasAt wr w1.heap.size (i * 4 + j) (w1.heap.size + 1) D C ∧ CluAt wr cb (F ++ [w1.heap.size]) Z C ∧ wr.heap[w.heap.size]? = some (.cells #[.int .i64 a.kind, .int .i64 a.h, .int .i64 a.t, .int .i64 a.n, .int .i64 a.call.kind, .int .i64 a.call.h, .int .i64 a.call.t, .int .i64 a.call.n, .int .i64 a.call.c, .slice pl a.call.label.length cl, .slice pg a.call.grants.length cg, .string ⟨a.call.text.toArray⟩] 32 (0, 0)) ∧ Below w.heap.size w wr ∧ w1.heap.size + 1 ≤ wr.heap.size) (fun c _ => 4 - (intOf c).toNat)
      case atStart => exact ⟨0, D1, by omega, rfl, HWAo.out, HCLo.out, HXAo.out, HBWo.out, HBSo.out⟩
      case round =>
        clear HWAo HCLo HXAo HBWo HBSo
        obtain ⟨j, D2, hj, rfl, hwa, hcl, hxa, hbw, hbs⟩ := hrel
        have HWA := hid hwa
        have HCL := hid hcl
        have HXA := hid hxa
        have HBW := hid hbw
        have HBS := hid hbs
        clear hwa hcl hxa hbw hbs
        by_cases hj4 : j < 4
        · have hJ : (j : Int) < 4 := by omega
          have j0 : (0 : Int) ≤ j := by omega
          have hthr := fun wx (hb : Below wr.heap.size wr wx) => cthread_any cb i j (F ++ [w1.heap.size]) Z C wx (HCL.out.below hb) HGC.out
          obtain ⟨th, hth⟩ : ∃ th, thrC C i j = th := ⟨_, rfl⟩
          rw [hth] at hthr
          go_upto_region 11 with fail
          refine wp_region_held_drew (S := (fun w' => True)) (by as_aux_lemma => kernel_rfl) trivial (fun _hHeld => ?_)
          refine takeF 0 28 ?v1 rfl (Or.inl ⟨by rfl, ?hy1⟩) ?rest1
          case hy1 => intro wz hSw; (try dsimp only at hSw); go_simp; try with_reducible rfl
          simp only [Act.put, List.setIfInBounds_toArray, List.set_cons_zero, List.set_cons_succ]
          refine takeF 1 29 ?v2 rfl (Or.inl ⟨by rfl, ?hy2⟩) ?rest2
          case hy2 => intro wz hSw; (try dsimp only at hSw); go_simp; try with_reducible rfl
          simp only [Act.put, List.setIfInBounds_toArray, List.set_cons_zero, List.set_cons_succ]
          refine takeF 2 30 ?v3 rfl (Or.inl ⟨by rfl, ?hy3⟩) ?rest3
          case hy3 => intro wz hSw; (try dsimp only at hSw); go_simp; try with_reducible rfl
          simp only [Act.put, List.setIfInBounds_toArray, List.set_cons_zero, List.set_cons_succ]
          refine takeF 3 31 ?v4 rfl (Or.inl ⟨by rfl, ?hy4⟩) ?rest4
          case hy4 => intro wz hSw; (try dsimp only at hSw); go_simp; try with_reducible rfl
          simp only [Act.put, List.setIfInBounds_toArray, List.set_cons_zero, List.set_cons_succ]
          refine takeF 4 32 ?v5 rfl (Or.inl ⟨by rfl, ?hy5⟩) ?rest5
          case hy5 => intro wz hSw; (try dsimp only at hSw); go_simp; try with_reducible rfl
          simp only [Act.put, List.setIfInBounds_toArray, List.set_cons_zero, List.set_cons_succ]
          refine takeF 6 34 ?v6 rfl (Or.inl ⟨by rfl, ?hy6⟩) ?rest6
          case hy6 => intro wz hSw; (try dsimp only at hSw); go_simp; try with_reducible rfl
          simp only [Act.put, List.setIfInBounds_toArray, List.set_cons_zero, List.set_cons_succ]
          refine wpAnyH_ready (rs := [5]) (by as_aux_lemma => kernel_rfl) (by simp) ?_
          refine (AllReadyH.cons rfl (fun K' hK => ?_) AllReadyH.nil)
          go_simp
          go_wp2_with (go_at_call 13; refine (hthr _ (Below.refl _ _).drew).mono ?_; rintro e w5 ⟨p1, q1, p2, q2, p3, q3, p4, q4, rfl, hn5, hw5d⟩)
          have hw5 : Below wr.heap.size wr w5 := ⟨hw5d.os, hw5d.tape, hw5d.output, hw5d.size, hw5d.block⟩
          have hn5b : ThrNew w5 (w1.heap.size + 1) (.slice p1 th.label.length q1) (.slice p2 th.own.length q2) (.slice p3 th.objs.length q3) (.slice p4 th.mails.length q4) th := hn5.base HBS.out
          have HWA5 := hid (HWA.out.below hw5)
          have hws := was_store HWA5.out hi4 hj4 ⟨p1, q1, p2, q2, p3, q3, p4, q4⟩ (by rw [hth]; exact hn5b)
          rw [hth] at hws
          have hwc : WasAt (((((w5.setCell ⟨w1.heap.size, i * 20 + j * 5, none⟩ (.slice p1 th.label.length q1)).setCell ⟨w1.heap.size, i * 20 + j * 5 + 1, none⟩ (.slice p2 th.own.length q2)).setCell ⟨w1.heap.size, i * 20 + j * 5 + 2, none⟩ (.string ⟨th.text.toArray⟩)).setCell ⟨w1.heap.size, i * 20 + j * 5 + 3, none⟩ (.slice p3 th.objs.length q3)).setCell ⟨w1.heap.size, i * 20 + j * 5 + 4, none⟩ (.slice p4 th.mails.length q4)) w1.heap.size (i * 4 + j + 1) (w1.heap.size + 1) (fun h t => if h = i ∧ t = j then ⟨p1, q1, p2, q2, p3, q3, p4, q4⟩ else D2 h t) C := hws
          have HWC := hid hwc
          obtain ⟨⟨u0, x0⟩, f0⟩ := HWA5.out.cells (i * 20 + j * 5) (by omega)
          obtain ⟨⟨u1, x1⟩, f1⟩ := HWA5.out.cells (i * 20 + j * 5 + 1) (by omega)
          obtain ⟨⟨u2, x2⟩, f2⟩ := HWA5.out.cells (i * 20 + j * 5 + 2) (by omega)
          obtain ⟨⟨u3, x3⟩, f3⟩ := HWA5.out.cells (i * 20 + j * 5 + 3) (by omega)
          obtain ⟨⟨u4, x4⟩, f4⟩ := HWA5.out.cells (i * 20 + j * 5 + 4) (by omega)
          have hgc : w5.grownBy (((((w5.setCell ⟨w1.heap.size, i * 20 + j * 5, none⟩ (.slice p1 th.label.length q1)).setCell ⟨w1.heap.size, i * 20 + j * 5 + 1, none⟩ (.slice p2 th.own.length q2)).setCell ⟨w1.heap.size, i * 20 + j * 5 + 2, none⟩ (.string ⟨th.text.toArray⟩)).setCell ⟨w1.heap.size, i * 20 + j * 5 + 3, none⟩ (.slice p3 th.objs.length q3)).setCell ⟨w1.heap.size, i * 20 + j * 5 + 4, none⟩ (.slice p4 th.mails.length q4)) (some w1.heap.size) := grown_cells (b := w1.heap.size) [.slice p1 th.label.length q1, .slice p2 th.own.length q2, .string ⟨th.text.toArray⟩, .slice p3 th.objs.length q3, .slice p4 th.mails.length q4] (i * 20 + j * 5) w5
          obtain ⟨A5, hA5, _⟩ := HWA5.out
          have HCC := hid ((HCL.out.below hw5).boxed hgc (by simp) hA5 (by decide) (by decide) (by decide) (by decide) (by decide) (by decide))
          have HXC := hid (heap_tk (heap_keep HXA.out hw5) (show w.heap.size ≠ w1.heap.size by omega) hgc)
          have HBC := hid (((below_then HBW.out hw5).grown hgc (below_then HBW.out hw5).size (fun k hk => by have := Option.some.inj hk; omega)))
          have HSC : Hid (w1.heap.size + 1 ≤ (((((w5.setCell ⟨w1.heap.size, i * 20 + j * 5, none⟩ (.slice p1 th.label.length q1)).setCell ⟨w1.heap.size, i * 20 + j * 5 + 1, none⟩ (.slice p2 th.own.length q2)).setCell ⟨w1.heap.size, i * 20 + j * 5 + 2, none⟩ (.string ⟨th.text.toArray⟩)).setCell ⟨w1.heap.size, i * 20 + j * 5 + 3, none⟩ (.slice p3 th.objs.length q3)).setCell ⟨w1.heap.size, i * 20 + j * 5 + 4, none⟩ (.slice p4 th.mails.length q4)).heap.size) := hid (Nat.le_trans HBS.out (Nat.le_trans hw5.size hgc.size))
          have hl5 := heap_lt hA5
          clear hn5 hn5b hws hwc hgc hA5 hw5d
          refine hK.out _ _ trivial (fun _ => ?_)
          clear hK K'
          refine takeF 7 35 ?v7 rfl (Or.inl ⟨by rfl, ?hy7⟩) ?rest7
          case hy7 => intro wz hSw; (try dsimp only at hSw); go_simp; try with_reducible rfl
          simp only [Act.put, List.setIfInBounds_toArray, List.set_cons_zero, List.set_cons_succ]
          refine wpAnyH_ready (rs := [8]) (by as_aux_lemma => kernel_rfl) (by simp) ?_
          refine (AllReadyH.cons rfl (fun K' hK => ?_) AllReadyH.nil)
          go_simp
          refine hK.out _ _ trivial (fun _ => ?_)
          clear hK K'
          refine wpAnyH_done (by as_aux_lemma => kernel_rfl) ?_ _
          clear hthr hth x0 x1 x2 x3 x4 f0 f1 f2 f3 f4 hw5
          go_wp2
          go_roundw
          case rel => exact ⟨j + 1, _, hj4, by go_num, HWC.out, HCC.out, HXC.out, HBC.out, HSC.out⟩
          case measure => simp [intOf]; omega
        · have hj5 : j = 4 := by omega
          subst hj5
          go_wp2
          go_roundw
          case rel => exact ⟨i + 1, D2, hi4, by go_num, by rw [show (i + 1) * 4 = i * 4 + 4 by omega]; exact HWA.out, HCL.out, HXA.out, HBW.out, HBS.out⟩
          case measure => simp [intOf]; omega
    · have hi5 : i = 4 := by omega
      subst hi5
      obtain ⟨D, hD⟩ : ∃ D, D = D1 := ⟨_, rfl⟩
      subst hD
      have hdo0 := fun wx (h : CluAt wx cb (F ++ [w1.heap.size]) Z C) (hb : Below w.heap.size w wx) => cdo_any cb (F ++ [w1.heap.size]) Z C _ a wx h HGC.out ⟨_, _, rfl, roLab_old HLA.out (fun k hk => Nat.le_of_succ_le (HF1.out k hk)) (HLA.out.below hb), roInts_old HGA.out (fun k hk => Nat.le_of_succ_le (HF1.out k hk)) (HGA.out.below hb)⟩
      unfold acV at hdo0
      have HREF : Hid ((doC C a).2.code ≠ 0 → ¬ (a.kind = 1 ∧ a.call.kind = 7) → Unmoved C (doC C a).1 ∧ (doC C a).2.n = 0 ∧ (doC C a).2.text = []) := hid doC_refused
      have HG7 := hid (doC_good HGC.out a)
      generalize doC C a = R at *
      obtain ⟨C7, r⟩ := R
      simp only at hdo0 HREF HG7
      go_upto_region 15 with (first
        | (go_at_call 16; refine (cnet_any cb (F ++ [w1.heap.size]) Z C wo HCLo.out HGC.out.net).mono ?_; rintro e w6 ⟨pn, cn, rfl, _, hw6⟩)
        | (go_at_call 25; refine (cnow_any cb (F ++ [w1.heap.size]) Z C w6 (HCLo.out.below hw6)).mono ?_; rintro e w11 ⟨rfl, hw11⟩; rw [hw11]; clear hw11))
      have hdo := hdo0 w6 (HCLo.out.below hw6) (below_then HBWo.out hw6)
      have HX6 := hid (heap_keep HXAo.out hw6)
      obtain ⟨e0, e1, e2, e3, e4, e5, e6, e7, e8, e9, e10, e11⟩ : w6.cell? ⟨w.heap.size, 0, none⟩ = some (.int .i64 a.kind) ∧ w6.cell? ⟨w.heap.size, 1, none⟩ = some (.int .i64 a.h) ∧ w6.cell? ⟨w.heap.size, 2, none⟩ = some (.int .i64 a.t) ∧ w6.cell? ⟨w.heap.size, 3, none⟩ = some (.int .i64 a.n) ∧ w6.cell? ⟨w.heap.size, 4, none⟩ = some (.int .i64 a.call.kind) ∧ w6.cell? ⟨w.heap.size, 5, none⟩ = some (.int .i64 a.call.h) ∧ w6.cell? ⟨w.heap.size, 6, none⟩ = some (.int .i64 a.call.t) ∧ w6.cell? ⟨w.heap.size, 7, none⟩ = some (.int .i64 a.call.n) ∧ w6.cell? ⟨w.heap.size, 8, none⟩ = some (.int .i64 a.call.c) ∧ w6.cell? ⟨w.heap.size, 9, none⟩ = some (.slice pl a.call.label.length cl) ∧ w6.cell? ⟨w.heap.size, 10, none⟩ = some (.slice pg a.call.grants.length cg) ∧ w6.cell? ⟨w.heap.size, 11, none⟩ = some (.string ⟨a.call.text.toArray⟩) := ⟨heap_cell HX6.out 0, heap_cell HX6.out 1, heap_cell HX6.out 2, heap_cell HX6.out 3, heap_cell HX6.out 4, heap_cell HX6.out 5, heap_cell HX6.out 6, heap_cell HX6.out 7, heap_cell HX6.out 8, heap_cell HX6.out 9, heap_cell HX6.out 10, heap_cell HX6.out 11⟩
      go_upto_region 16 with (go_at_call 22; refine hdo.mono ?_; rintro e w7 ⟨rfl, G7, Z7, hc7, hs7⟩)
      have hC6 := HCLo.out.below hw6
      have HX7 := hid (heap_keep (box_cstep hs7 hC6 HX6.out (by decide) (by decide) (by decide) (by decide) (by decide) (by decide)) (below_box w7 (.cells #[.int .i64 r.code, .int .i64 r.n, .string ⟨r.text.toArray⟩] 35)))
      have HWA8 := hid (((HWAo.out.below hw6).step hs7 hC6 HOB.out).below (below_box w7 (.cells #[.int .i64 r.code, .int .i64 r.n, .string ⟨r.text.toArray⟩] 35)))
      have HC8 := hid (hc7.below (below_box w7 (.cells #[.int .i64 r.code, .int .i64 r.n, .string ⟨r.text.toArray⟩] 35)))
      have HXR8 := hid (heap_alloc_new w7 (.cells #[.int .i64 r.code, .int .i64 r.n, .string ⟨r.text.toArray⟩] 35))
      obtain ⟨hb7, _⟩ := hs7.low hC6 HF1.out (Nat.lt_of_lt_of_le (heap_lt HX6.out) (Nat.le_refl _))
      have HB8 := hid (below_then (Below.trans' (below_then HBWo.out hw6) ⟨hb7.os, hb7.tape, hb7.output, hb7.size, fun i hi => hb7.block i (Nat.lt_succ_of_lt hi)⟩) (below_box w7 (.cells #[.int .i64 r.code, .int .i64 r.n, .string ⟨r.text.toArray⟩] 35)))
      clear hdo hdo0 hs7 hc7 hC6 hb7 hw6 HX6 HWAo HCLo HXAo HBWo HBSo e0 e1 e2 e3 e4 e5 e6 e7 e8 e9 e10 e11
      generalize w7.alloc (.cells #[.int .i64 r.code, .int .i64 r.n, .string ⟨r.text.toArray⟩] 35) = w8 at *
      obtain ⟨e0, _, _, _, e4⟩ : w8.cell? ⟨w.heap.size, 0, none⟩ = some (.int .i64 a.kind) ∧ True ∧ True ∧ True ∧ w8.cell? ⟨w.heap.size, 4, none⟩ = some (.int .i64 a.call.kind) := ⟨heap_cell HX7.out 0, trivial, trivial, trivial, heap_cell HX7.out 4⟩
      obtain ⟨y0, y1, y2, _⟩ := cells3 HXR8.out
      go_cut [58] (fun v58 wx => (v58 = .bool true ∨ (v58 = .bool false ∧ Unmoved C C7 ∧ r.n = 0 ∧ r.text = [])) ∧ Below w8.heap.size w8 wx)
      case first =>
        by_cases q0 : r.code = 0
        · have g0 : (r.code == 0) = true := by simpa using q0
          clear q0
          go_wp2_with fail
          go_meet
          exact ⟨.inl rfl, Below.refl _ _⟩
        · have g0 : (r.code == 0) = false := by simpa using q0
          by_cases q1 : a.kind = 1
          · have g1 : (a.kind == 1) = true := by simpa using q1
            by_cases q7 : a.call.kind = 7
            · have g7 : (a.call.kind == 7) = true := by simpa using q7
              clear q0 q1 q7
              go_wp2_with fail
              go_meet
              exact ⟨.inl rfl, Below.refl _ _⟩
            · have g7 : (a.call.kind == 7) = false := by simpa using q7
              have H := hid (HREF.out q0 (fun h => q7 h.2))
              clear q0 q1 q7
              go_wp2_with fail
              go_meet
              exact ⟨.inr ⟨rfl, H.out⟩, Below.refl _ _⟩
          · have g1 : (a.kind == 1) = false := by simpa using q1
            have H := hid (HREF.out q0 (fun h => q1 h.1))
            clear q0 q1
            go_wp2_with fail
            go_meet
            exact ⟨.inr ⟨rfl, H.out⟩, Below.refl _ _⟩
      case rest =>
        obtain ⟨hv, hbc⟩ := hcut
        clear e0 e4 y0 y1 y2
        rcases hv with rfl | ⟨rfl, hun, hrn, hrt⟩
        · go_wp2
          go_ret
          exact ⟨rfl, below_then HB8.out hbc⟩
        · have HUN := hid hun
          have HRN := hid hrn
          have HRT := hid hrt
          have HWA9 := hid (HWA8.out.below hbc)
          have HC9 := hid (HC8.out.below hbc)
          have HXR9 := hid (heap_keep HXR8.out hbc)
          have HB9 := hid (below_then HB8.out hbc)
          clear hun hrn hrt HWA8 HC8 HXR8 HB8 hbc HREF
          go_upto_region 19 with fail
          go_loopw [59] (fun c wr => ∃ i : Nat, i ≤ 4 ∧ c = .int .i64 i ∧ WasAt wr w1.heap.size 16 (w1.heap.size + 1) D C ∧ CluAt wr cb G7 Z7 C7 ∧ wr.heap[w7.heap.size]? = some (.cells #[.int .i64 r.code, .int .i64 r.n, .string ⟨r.text.toArray⟩] 35 (0, 0)) ∧ Below w.heap.size w wr) (fun c _ => 4 - (intOf c).toNat)
          case atStart => exact ⟨0, by omega, rfl, HWA9.out, HC9.out, HXR9.out, HB9.out⟩
          case round =>
            clear HWA9 HC9 HXR9 HB9
            obtain ⟨i, hi, rfl, hwa, hcl, hxr, hbw⟩ := hrel
            obtain ⟨wo, hwo⟩ : ∃ wo, wo = wr := ⟨_, rfl⟩
            subst hwo
            have HWAo := hid hwa
            have HCLo := hid hcl
            have HXRo := hid hxr
            have HBWo := hid hbw
            clear hwa hcl hxr hbw
            by_cases hi4 : i < 4
            · have hI : (i : Int) < 4 := by omega
              have i0 : (0 : Int) ≤ i := by omega
              go_upto_region 22 with fail
              go_loopw [62] (fun c wr => ∃ j : Nat, j ≤ 4 ∧ c = .int .i64 j ∧ WasAt wr w1.heap.size 16 (w1.heap.size + 1) D C ∧ CluAt wr cb G7 Z7 C7 ∧ wr.heap[w7.heap.size]? = some (.cells #[.int .i64 r.code, .int .i64 r.n, .string ⟨r.text.toArray⟩] 35 (0, 0)) ∧ Below w.heap.size w wr) (fun c _ => 4 - (intOf c).toNat)
              case atStart => exact ⟨0, by omega, rfl, HWAo.out, HCLo.out, HXRo.out, HBWo.out⟩
              case round =>
                clear HWAo HCLo HXRo HBWo
                obtain ⟨j, hj, rfl, hwa, hcl, hxr, hbw⟩ := hrel
                have HWA := hid hwa
                have HCL := hid hcl
                have HXR := hid hxr
                have HBW := hid hbw
                clear hwa hcl hxr hbw
                by_cases hj4 : j < 4
                · have hJ : (j : Int) < 4 := by omega
                  have j0 : (0 : Int) ≤ j := by omega
                  have hthr := fun wx (hb : Below wr.heap.size wr wx) => cthread_any cb i j G7 Z7 C7 wx (HCL.out.below hb) HG7.out
                  rw [thrC_unmoved HUN.out] at hthr
                  obtain ⟨⟨c0, c1, c2, c3, c4⟩, hnw⟩ := HWA.out.slot hi4 hj4 (by omega)
                  have HGT := hid (thrC_good HGC.out i j)
                  unfold WasD.New at hnw
                  generalize thrC C i j = th at *
                  generalize D i j = dd at *
                  obtain ⟨p1, q1, p2, q2, p3, q3, p4, q4⟩ := dd
                  simp only at c0 c1 c2 c3 c4 hnw
                  have HNW := hid hnw
                  have HS24 : Hid (∀ w', Below wr.heap.size wr w' → w'.cell? ⟨w1.heap.size, i * 20 + j * 5, none⟩ = some (.slice p1 th.label.length q1) ∧ w'.cell? ⟨w1.heap.size, i * 20 + j * 5 + 1, none⟩ = some (.slice p2 th.own.length q2) ∧ w'.cell? ⟨w1.heap.size, i * 20 + j * 5 + 2, none⟩ = some (.string ⟨th.text.toArray⟩) ∧ w'.cell? ⟨w1.heap.size, i * 20 + j * 5 + 3, none⟩ = some (.slice p3 th.objs.length q3) ∧ w'.cell? ⟨w1.heap.size, i * 20 + j * 5 + 4, none⟩ = some (.slice p4 th.mails.length q4)) := hid (fun w' hw => ⟨(hw.cell (cell_block c0)).trans c0, (hw.cell (cell_block c1)).trans c1, (hw.cell (cell_block c2)).trans c2, (hw.cell (cell_block c3)).trans c3, (hw.cell (cell_block c4)).trans c4⟩)
                  clear c0 c1 c2 c3 c4 hnw
                  go_upto_region 24 with fail
                  refine wp_region_held_drew (S := (fun w' => w'.cell? ⟨w1.heap.size, i * 20 + j * 5, none⟩ = some (.slice p1 th.label.length q1) ∧ w'.cell? ⟨w1.heap.size, i * 20 + j * 5 + 1, none⟩ = some (.slice p2 th.own.length q2) ∧ w'.cell? ⟨w1.heap.size, i * 20 + j * 5 + 2, none⟩ = some (.string ⟨th.text.toArray⟩) ∧ w'.cell? ⟨w1.heap.size, i * 20 + j * 5 + 3, none⟩ = some (.slice p3 th.objs.length q3) ∧ w'.cell? ⟨w1.heap.size, i * 20 + j * 5 + 4, none⟩ = some (.slice p4 th.mails.length q4))) (by as_aux_lemma => kernel_rfl) (HS24.out _ (Below.refl _ _).drew) (fun _hHeld => ?_)
                  refine takeF 0 65 ?v8 rfl (Or.inl ⟨by rfl, ?hy8⟩) ?rest8
                  case hy8 => intro wz hSw; (try dsimp only at hSw); go_simp; try with_reducible rfl
                  simp only [Act.put, List.setIfInBounds_toArray, List.set_cons_zero, List.set_cons_succ]
                  refine takeF 1 66 ?v9 rfl (Or.inl ⟨by rfl, ?hy9⟩) ?rest9
                  case hy9 => intro wz hSw; (try dsimp only at hSw); go_simp; try with_reducible rfl
                  simp only [Act.put, List.setIfInBounds_toArray, List.set_cons_zero, List.set_cons_succ]
                  refine takeF 2 67 ?v10 rfl (Or.inl ⟨by rfl, ?hy10⟩) ?rest10
                  case hy10 => intro wz hSw; (try dsimp only at hSw); go_simp; try with_reducible rfl
                  simp only [Act.put, List.setIfInBounds_toArray, List.set_cons_zero, List.set_cons_succ]
                  refine takeF 3 68 ?v11 rfl (Or.inl ⟨by rfl, ?hy11⟩) ?rest11
                  case hy11 => intro wz hSw; (try dsimp only at hSw); go_simp; try with_reducible rfl
                  simp only [Act.put, List.setIfInBounds_toArray, List.set_cons_zero, List.set_cons_succ]
                  refine takeF 4 69 ?v12 rfl (Or.inl ⟨by rfl, ?hy12⟩) ?rest12
                  case hy12 => intro wz hSw; (try dsimp only at hSw); go_simp; try with_reducible rfl
                  simp only [Act.put, List.setIfInBounds_toArray, List.set_cons_zero, List.set_cons_succ]
                  refine takeF 5 70 ?v13 rfl (Or.inl ⟨by rfl, ?hy13⟩) ?rest13
                  case hy13 => intro wz hSw; (try dsimp only at hSw); go_simp; try with_reducible rfl
                  simp only [Act.put, List.setIfInBounds_toArray, List.set_cons_zero, List.set_cons_succ]
                  refine takeF 6 71 ?v14 rfl (Or.inl ⟨by rfl, ?hy14⟩) ?rest14
                  case hy14 => intro wz hSw; (try dsimp only at hSw); go_simp; try with_reducible rfl
                  simp only [Act.put, List.setIfInBounds_toArray, List.set_cons_zero, List.set_cons_succ]
                  refine takeF 7 72 ?v15 rfl (Or.inl ⟨by rfl, ?hy15⟩) ?rest15
                  case hy15 => intro wz hSw; (try dsimp only at hSw); go_simp; try with_reducible rfl
                  simp only [Act.put, List.setIfInBounds_toArray, List.set_cons_zero, List.set_cons_succ]
                  refine wpAnyH_ready (rs := [8]) (by as_aux_lemma => kernel_rfl) (by simp) ?_
                  refine (AllReadyH.cons rfl (fun K' hK => ?_) AllReadyH.nil)
                  go_simp
                  go_wp2_with (go_at_call 13; refine (hthr _ (Below.refl _ _).drew).mono ?_; rintro e w5 ⟨s1, t1, s2, t2, s3, t3, s4, t4, rfl, hn5, hw5d⟩)
                  have hw5 : Below wr.heap.size wr w5 := ⟨hw5d.os, hw5d.tape, hw5d.output, hw5d.size, hw5d.block⟩
                  have HN5 := hid hn5
                  clear hn5 hw5d
                  refine hK.out _ _ (HS24.out _ hw5) (fun _ => ?_)
                  clear hK K'
                  refine wpAnyH_ready (rs := [9]) (by as_aux_lemma => kernel_rfl) (by simp) ?_
                  refine (AllReadyH.cons rfl (fun K' hK => ?_) AllReadyH.nil)
                  go_simp
                  go_wp2_with (go_at_call 24; refine (tsameThread_eq _ _ th p1 p2 p3 p4 s1 s2 s3 s4 q1 q2 q3 q4 t1 t2 t3 t4 w5 (ThrNew.below HNW.out hw5) HN5.out HGT.out).mono ?_; rintro e w6 ⟨rfl, hw6⟩)
                  refine hK.out _ _ (HS24.out _ (below_then hw5 hw6)) (fun _ => ?_)
                  clear hK K'
                  refine takeF 10 75 ?v16 rfl (Or.inl ⟨by rfl, ?hy16⟩) ?rest16
                  case hy16 => intro wz hSw; (try dsimp only at hSw); go_simp; try with_reducible rfl
                  simp only [Act.put, List.setIfInBounds_toArray, List.set_cons_zero, List.set_cons_succ]
                  refine wpAnyH_done (by as_aux_lemma => kernel_rfl) ?_ _
                  have hw56 := below_then hw5 hw6
                  have HWA6 := hid (HWA.out.below hw56)
                  have HCL6 := hid (HCL.out.below hw56)
                  have HXR6 := hid (heap_keep HXR.out hw56)
                  have HBW6 := hid (below_then HBW.out hw56)
                  clear hthr HN5 hw5 hw6 hw56
                  go_wp2
                  go_roundw
                  case rel => exact ⟨j + 1, hj4, by go_num, HWA6.out, HCL6.out, HXR6.out, HBW6.out⟩
                  case measure => simp [intOf]; omega
                · have hj5 : j = 4 := by omega
                  subst hj5
                  go_wp2
                  go_roundw
                  case rel => exact ⟨i + 1, hi4, by go_num, HWA.out, HCL.out, HXR.out, HBW.out⟩
                  case measure => simp [intOf]; omega
            · have hi5 : i = 4 := by omega
              subst hi5
              obtain ⟨y0, y1, y2, _⟩ := cells3 HXRo.out
              rw [HRN.out] at y1
              rw [HRT.out] at y2
              have hnet := cnet_any cb G7 Z7 C7 wo HCLo.out HG7.out.net
              rw [HUN.out.2.2.1] at hnet
              go_wp2_with (first
                | (go_at_call 16; refine hnet.mono ?_; rintro e w10 ⟨pz, cz, rfl, _, hw10⟩)
                | (go_at_call 25; refine (cnow_any cb G7 Z7 C7 w10 (HCLo.out.below hw10)).mono ?_; rw [HUN.out.2.2.2]; rintro e w11 ⟨rfl, hw11⟩; rw [hw11]; clear hw11))
              go_ret
              exact ⟨rfl, below_then HBWo.out hw10⟩
end Go.Proofs.YtgpldlbmjakjhaaGreat
