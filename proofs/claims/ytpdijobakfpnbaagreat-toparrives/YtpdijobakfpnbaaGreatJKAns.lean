/- kernel.answer; appends of objects and clones of labels as steps of a region that draws. -/
import Derived.Test.YtpdijobakfpnbaaGreatJLAppend
import Derived.Test.YtpdijobakfpnbaaGreatJKMail
import Derived.Deep.RegionLaw
import Derived.BigCall
import Derived.Test.YtpdijobakfpnbaaGreatJLClone
import Derived.Test.YtpdijobakfpnbaaGreatJFromA
namespace Go.Proofs.YtpdijobakfpnbaaGreat
open Go.RowKit Go.Proofs.Parclose
def repV (r : Rep) : Value := .agg #[.int .i64 r.code, .int .i64 r.n, .string ⟨r.text.toArray⟩]
theorem kundrew {w w' : World} (h : Below w.drew.heap.size w.drew w') : Below w.heap.size w w' := ⟨h.os, h.tape, h.output, h.size, h.block⟩
theorem QiV (e : Int) (w : World) : Calls Tryz.prog 90 #[.int .i64 e] w fun e' w' => e' = .returned (repV (code e)) ∧ Below w.heap.size w w' := by
 go_enter Tryz.func90, Tryz.ntmps90
 go_wp2
 refine bodyPost_ret (results_cell_row rfl _ _ w.heap.size 31 _ (0, 0) _ rfl (heap_alloc_new w _) Tryz.underlying31 rfl (by kernel_rfl)) rfl ⟨rfl, Qd _ _⟩
theorem Qin (vs : List Value) (os : List Obt) (h : vs.length = os.length) (u : Value) (o : Obt) : flatO (vs ++ [u]) (os ++ [o]) = flatO vs os ++ [u, .string ⟨o.text.toArray⟩] := by
 induction vs generalizing os with
 | nil =>
  have : os = [] := List.length_eq_zero_iff.1 (by simpa using h.symm)
  subst this
  rfl
 | cons x r ih =>
  cases os with
  | nil => simp at h
  | cons y t =>
   show x :: .string ⟨y.text.toArray⟩ :: flatO (r ++ [u]) (t ++ [o]) = _
   rw [ih t (by simpa using h)]
   rfl
theorem Qip (vs : List (Value × Value)) (ms : List Mal) (h : vs.length = ms.length) (u : Value × Value) (m : Mal) : flatM (vs ++ [u]) (ms ++ [m]) = flatM vs ms ++ [.int .i64 m.host, .int .i64 m.thread, u.1, u.2, .string ⟨m.text.toArray⟩] := by
 induction vs generalizing ms with
 | nil =>
  have : ms = [] := List.length_eq_zero_iff.1 (by simpa using h.symm)
  subst this
  rfl
 | cons x r ih =>
  cases ms with
  | nil => simp at h
  | cons y t =>
   show .int .i64 y.host :: .int .i64 y.thread :: x.1 :: x.2 :: .string ⟨y.text.toArray⟩ :: flatM (r ++ [u]) (t ++ [m]) = _
   rw [ih t (by simpa using h)]
   rfl
theorem Qgn {w : World} {ops : Array Oper} {o : Oper} {a0 : Act} {K : Act → World → Prop} {Q : Exit → Act → World → Prop} {E : Prop} (hgd : o.guard = none) (s x : Operand)
 (ho : o.op = .call { callee := .builtin .append, args := #[s, x], argTypes := #[42, 42] }) (v : Value) (n : Nat) (xs : List Value) (hs : a0.eval s = v) (hown : w.ownsRow 0 56 2 v n xs)
 (g : Nat) (x1 x2 : Value) (hx : a0.eval x = .slice (some ⟨g, 0, none⟩) 1 1) (hc : ∀ j u, [x1, x2][j]? = some u → w.cell? ((⟨g, 0, none⟩ : Addr).add j) = some u) (h1 : ∀ u ∈ [x1, x2], u.oneCell' = true) (hn : n ≤ 1000)
 (h : ∀ v' w', w'.ownsRow 0 56 2 v' (n + 1) (xs ++ [x1, x2]) → w.grownBy w' v.ownBlock → (∀ k, v'.ownBlock = some k → v.ownBlock = some k ∨ w.heap.size ≤ k) → K (a0.put o.dst v') w') :
 if Region.wanted o (yielded ops a0.tmps) = true then Oper.wp Tryz.prog o a0 w K Q else E := by
 have hw : Region.wanted o (yielded ops a0.tmps) = true := by simp [Region.wanted, hgd]
 rw [if_pos hw]
 obtain ⟨i0, hi, hz0, hz1, hz2⟩ := info_parts Qds
 obtain ⟨v', w', hr, k1, k2, k3⟩ := Qaq (ty := o.type) (c := 1) Tryz.underlying42 hi hz0 hz1 hz2 rfl (by decide) hown (m := 1) (news := [x1, x2]) rfl hc h1 (by unfold maxLen; omega) (by omega)
 unfold Oper.wp execOp
 simp only [ho, resolve, invoke, builtin, Sem.run_bind, Sem.run_pure, Result.andThen_ok, List.map_toArray, List.map_cons, List.map_nil, hs, hx, hr]
 exact h v' w' k1 k2 k3
theorem QfN (args : Array Value) (w : World) : (callFunc 104 args).run Tryz.prog w = .ok (.enter 104 args) w := by kernel_rfl
theorem Qgo {w : World} {ops : Array Oper} {o : Oper} {a0 : Act} {K : Act → World → Prop} {Q : Exit → Act → World → Prop} {E : Prop} (hgd : o.guard = none) (x : Operand) (ats : Array TypeId)
 (ho : o.op = .call { callee := .value (.func 104), args := #[x], argTypes := ats }) (v : Value) (l : List (Int × Int)) (hx : a0.eval x = v) (hv : LabAt w v l)
 (h : ∀ v' w', w'.ownsRow w.heap.size 54 2 v' l.length (flat2 l) → Below w.heap.size w w' → K (a0.put o.dst v') w') :
 if Region.wanted o (yielded ops a0.tmps) = true then Oper.wp Tryz.prog o a0 w K Q else E := by
 have hw : Region.wanted o (yielded ops a0.tmps) = true := by simp [Region.wanted, hgd]
 rw [if_pos hw]
 unfold Oper.wp
 obtain ⟨dst, op, ty, pos, after, guard⟩ := o
 simp only at ho
 subst ho
 rw [execOp_call_go]
 have e : (#[] ++ #[x].map a0.eval ++ #[] : Array Value) = #[v] := by simp [hx]
 rw [e, QfN, Oper.upon_enter]
 refine (Qa6 v l w hv).mono ?_
 rintro e w' ⟨v', rfl, h1, h2⟩
 exact h v' w' h1 h2
theorem Qbi (w : World) (F : List Nat) : More w F (F ++ [w.heap.size]) :=
 ⟨fun _ h => List.mem_append_left _ h, fun k h => by
  rcases List.mem_append.1 h with g | g
  · exact .inl g
  · simp at g; exact .inr (by omega)⟩
theorem TAt.reserve {w : World} {kb o : Nat} {F : List Nat} {v : ThrV} {th : Thr} (h : TAt w kb o F v th) (ob : Obj) : TAt (w.alloc ob) kb o (F ++ [w.heap.size]) v th ∧ TStep kb o w F v (w.alloc ob) (F ++ [w.heap.size]) v := by
 have hb := Qd w ob
 have hm := Qbi w F
 obtain ⟨⟨C, hC, hc⟩, h2, h3, h4, h5⟩ := h
 refine ⟨⟨⟨C, Qe hC hb, hc⟩, h2.keep (R := []) (Qx _ hb) (fun _ h => by cases h) hm (fun _ _ h => by cases h), fun k hk => hm.1 k (h3 k hk), hm.1 kb h4, fun k hk => ?_⟩, ⟨Qx _ hb, fun C hC => ⟨C, Qe hC hb, rfl, fun _ _ => rfl⟩, fun _ h => .inl h, hm⟩⟩
 rw [World.size_alloc]
 rcases List.mem_append.1 hk with g | g
 · have := h5 k g; omega
 · simp at g; omega
theorem TAt.boxed {w w' : World} {kb o : Nat} {F : List Nat} {v : ThrV} {th : Thr} {B : Nat} {C : Array Value} {t : TypeId} (h : TAt w kb o F v th) (hg : w.grownBy w' (some B)) (hB : B ∈ F) (hC : w.heap[B]? = some (.cells C t (0, 0))) (t1 : (123 : Nat) ≠ t) (t2 : (3 : Nat) ≠ t) (t3 : (56 : Nat) ≠ t) (t4 : (50 : Nat) ≠ t) : TAt w' kb o F v th := by
 obtain ⟨⟨D, hD, hd⟩, h2, h3, h4, h5⟩ := h
 have hk : KeptF [B] w w' := QN hg fun k e => .inl (by cases e; simp)
 have hne : kb ≠ B := fun e => by
  subst e
  rw [hC] at hD
  injection hD with hD
  injection hD with _ e2 _
  exact t1 e2.symm
 obtain ⟨_, o1, ⟨_, _, o2, _⟩, ⟨_, _, o3, _⟩⟩ := id h2
 refine ⟨⟨D, hk.heap hD (by simpa using hne), hd⟩, h2.keep hk (fun k e => by simp at e; subst e; exact hB) (More.refl _ _) (fun k e g => ?_), h3, h4, fun k e => Nat.lt_of_lt_of_le (h5 k e) hg.size⟩
 simp at g
 subst g
 rcases mem_rows.1 e with e | e | e
 · exact Qy o1 hC t2 e
 · exact Qy o2 hC t3 e
 · exact Qy o3 hC t4 e
theorem TStep.boxed {kb o : Nat} {w0 w w' : World} {F G : List Nat} {v0 v : ThrV} {B : Nat} (h : TStep kb o w0 F v0 w G v) (hg : w.grownBy w' (some B)) (hB : w0.heap.size ≤ B) (hne : kb ≠ B) : TStep kb o w0 F v0 w' G v := by
 refine ⟨⟨hg.os.trans h.kept.os, hg.tape.trans h.kept.tape, hg.output.trans h.kept.output, Nat.le_trans h.kept.size hg.size, fun k hk hn => ?_⟩, fun C hC => ?_, h.rows, h.more⟩
 · rw [hg.block k (by have := h.kept.size; omega) (fun e => by have := Option.some.inj e; omega), h.kept.block k hk hn]
 · obtain ⟨C', e1, e2, e3⟩ := h.box C hC
   exact ⟨C', by rw [hg.block kb (Qw e1) (fun e => hne (Option.some.inj e)), e1], e2, e3⟩
theorem QL (e : Int) (w : World) : Calls Tryz.prog 90 #[.int .i64 e] w fun e' w' => e' = .returned (.agg #[.int .i64 e, .int .i64 0, .string ⟨#[]⟩]) ∧ Below w.heap.size w w' := QiV e w
theorem Q6 (w : World) : (w.alloc (.cells #[.int .i64 0, .int .i64 0, .string ⟨#[]⟩] 31)).heap[w.heap.size]? = some (.cells #[.int .i64 0, .int .i64 0, .string ⟨#[]⟩] 31 (0, 0)) := heap_alloc_new w _
abbrev st3 (w : World) (b : Nat) (x0 x1 x2 : Value) : World := ((w.setCell ⟨b, 0, none⟩ x0).setCell ⟨b, 1, none⟩ x1).setCell ⟨b, 2, none⟩ x2
theorem QO {w : World} {b : Nat} {t : TypeId} {y0 y1 y2 : Value} (x0 x1 x2 : Value) (h : w.heap[b]? = some (.cells #[y0, y1, y2] t (0, 0))) : (st3 w b x0 x1 x2).heap[b]? = some (.cells #[x0, x1, x2] t (0, 0)) := by
 have h0 : (w.setCell ⟨b, 0, none⟩ x0).heap[b]? = some (.cells #[x0, y1, y2] t (0, 0)) := by rw [heap_setCell h x0]; rfl
 have h1 : ((w.setCell ⟨b, 0, none⟩ x0).setCell ⟨b, 1, none⟩ x1).heap[b]? = some (.cells #[x0, x1, y2] t (0, 0)) := by rw [heap_setCell h0 x1]; rfl
 rw [heap_setCell h1 x2]; rfl
theorem QD (w : World) (b : Nat) (x0 x1 x2 : Value) : w.grownBy (st3 w b x0 x1 x2) (some b) := Qh (Qh (Qg w b 0 x0) (Qg _ b 1 x1)) (Qg _ b 2 x2)
theorem cells3 {w : World} {b : Nat} {t : TypeId} {y0 y1 y2 : Value} (h : w.heap[b]? = some (.cells #[y0, y1, y2] t (0, 0))) : w.cell? ⟨b, 0, none⟩ = some y0 ∧ w.cell? ⟨b, 1, none⟩ = some y1 ∧ w.cell? ⟨b, 2, none⟩ = some y2 ∧ w.frozen? ⟨b, 0, none⟩ = false ∧ w.frozen? ⟨b, 1, none⟩ = false ∧ w.frozen? ⟨b, 2, none⟩ = false :=
 ⟨Qa h 0, Qa h 1, Qa h 2, Qb h 0, Qb h 1, Qb h 2⟩
theorem QaT {kb o : Nat} {w w1 : World} {F G : List Nat} {v v1 : ThrV} {th1 : Thr} {y0 y1 y2 : Value} (x0 x1 : Int) (x2 : List UInt8) (hb : w1.heap[w.heap.size]? = some (.cells #[y0, y1, y2] 31 (0, 0))) (hF : w.heap.size ∈ G) (h1 : TAt w1 kb o G v1 th1) (hs : TStep kb o w F v w1 G v1) (hk : kb < w.heap.size) :
 (st3 w1 w.heap.size (.int .i64 x0) (.int .i64 x1) (.string ⟨x2.toArray⟩)).heap[w.heap.size]? = some (.cells #[.int .i64 x0, .int .i64 x1, .string ⟨x2.toArray⟩] 31 (0, 0)) ∧ TAt (st3 w1 w.heap.size (.int .i64 x0) (.int .i64 x1) (.string ⟨x2.toArray⟩)) kb o G v1 th1 ∧ TStep kb o w F v (st3 w1 w.heap.size (.int .i64 x0) (.int .i64 x1) (.string ⟨x2.toArray⟩)) G v1 :=
 ⟨QO _ _ _ hb, h1.boxed (QD _ _ _ _ _) hF hb (by decide) (by decide) (by decide) (by decide), hs.boxed (QD _ _ _ _ _) (Nat.le_refl _) (by omega)⟩
theorem TAt.lt {w : World} {kb o : Nat} {F : List Nat} {v : ThrV} {th : Thr} (h : TAt w kb o F v th) : kb < w.heap.size := h.fin kb h.kbF
theorem QjI {w w1 : World} {G : List Nat} {B : Nat} {v v7 u : Value} {vs : List Value} {os : List Obt} {l : List (Int × Int)} (h1 : vs.length = os.length) (hold : w.ownsRow 0 56 2 v os.length (flatO vs os)) (h3 : ∀ j (g1 : j < vs.length) (g2 : j < os.length), RoLab w G vs[j] os[j].label)
 (hv : ∀ k, v.ownBlock = some k → k ∈ G) (hl : w.ownsRow B 54 2 u l.length (flat2 l)) (hlen : l.length ≤ 8796093022208) (hB : ∀ k ∈ G, k < B) (hown : w1.ownsRow 0 56 2 v7 (os.length + 1) (flatO vs os ++ [u, .string ⟨#[]⟩])) (hg : w.grownBy w1 v.ownBlock)
 (hwh : ∀ k, v7.ownBlock = some k → v.ownBlock = some k ∨ w.heap.size ≤ k) : ObjsAt w1 (G ++ v7.ownBlock.toList) v7 (os ++ [⟨l, []⟩]) := by
 have hk : KeptF v.ownBlock.toList w w1 := QN hg fun k e => .inl (by rw [e]; simp)
 have hm := QbJ w G hv hwh
 have hl1 := Qbw hl hold (by decide) hg
 refine ⟨vs ++ [u], by simp [h1], ?_, fun j g1 g2 => ?_⟩
 · rw [Qin vs os h1, List.length_append]
   exact hown
 · by_cases hj : j < vs.length
   · rw [List.getElem_append_left hj, List.getElem_append_left (by omega)]
     exact (h3 j hj (by omega)).keep (hk.sub fun k e => .inl (hv k (QH e))) hm
   · have ej : j = vs.length := by simp at g1; omega
     subst ej
     rw [List.getElem_append_right (Nat.le_refl _), List.getElem_append_right (by omega)]
     simp only [h1, Nat.sub_self, List.getElem_cons_zero]
     refine ⟨QR hl1 hlen, fun _ k e hF => ?_⟩
     have hb := Qs hl1 e
     rcases List.mem_append.1 hF with g | g
     · have := hB k g; omega
     · exact Qac hl1 hown (by decide) e (QH g)
set_option maxRecDepth 100000 in
set_option maxHeartbeats 3200000 in
theorem QeA (kb o : Nat) (F : List Nat) (v : ThrV) (th : Thr) (vl : Value) (l : List (Int × Int)) (w : World) (h : TAt w kb o F v th) (hl : th.own.length ≤ 1000) (hob : th.objs.length ≤ 1000) (hv : LabAt w vl l) :
 Calls Tryz.prog 92 #[.pointer (some ⟨kb, o, none⟩), vl] w fun e w' => e = .returned (repV (objectL th l).2) ∧ ∃ G v', TAt w' kb o G v' (objectL th l).1 ∧ TStep kb o w F v w' G v' := by
 have HL : Hid (objectL th l = if goodB l then (if flowsL th.label l th.own then (if 4 ≤ th.objs.length then (th, code 5) else ({ th with objs := th.objs ++ [⟨l, []⟩] }, ⟨0, (th.objs.length : Int), []⟩)) else (th, code 6)) else (th, code 2)) := hid rfl
 have hkb := h.lt
 have HKB := hid hkb
 have hr := h.reserve (.cells #[.int .i64 0, .int .i64 0, .string ⟨#[]⟩] 31)
 have HR := hid hr
 have hbx := Q6 w
 have HBX := hid hbx
 have hmem : w.heap.size ∈ F ++ [w.heap.size] := by simp
 have HMEM := hid hmem
 have hgood := fun wx (hb : Below w.heap.size w wx) => Qa1 vl l wx (hv.below hb)
 have HV := hid hv
 obtain ⟨p, cp, rfl, _⟩ := id hv
 obtain ⟨t0, t1, _, t3, _⟩ := h.cells
 obtain ⟨ptl, ctl, hvl, _⟩ := id h.thr.1.1
 obtain ⟨po, co, hvo⟩ := ownV h.thr.2.1
 obtain ⟨vs, hvs, hown, hros⟩ := h.thr.2.2.1
 obtain ⟨pj, cj, hvj⟩ := Qo hown
 have HOB := hid hown
 have HVS := hid hvs
 have HVJ := hid hvj
 have hfl := fun wx (hb : Below w.heap.size w wx) => Q4 _ _ _ th.label l th.own wx (h.thr.1.1.below hb) (hv.below hb) ((Qag h.thr.2.1 hl).below hb)
 rw [hvl] at t0
 rw [hvo] at t1
 rw [hvl, hvo] at hfl
 rw [hvj] at t3
 have HT := hid h
 have HROS := hid hros
 clear hv hbx hmem hr h hkb hvl hvo hvj hown hvs hros
 cases hg : goodB l with
 | false =>
  have HL2 : Hid (objectL th l = (th, code 2)) := hid (by rw [HL.out, hg]; rfl)
  rw [hg] at hgood
  clear HL
  go_enter Tryz.func92, Tryz.ntmps92
  go_wp2_with (first
   | (go_at_call 133; refine (hgood _ (Qd _ _)).mono ?_; rintro e w1 ⟨rfl, hw1⟩; have HB1 := hid hw1; clear hw1)
   | (go_at_call 90; refine (QL _ _).mono ?_; rintro e w2 ⟨rfl, hw2⟩; have HB2 := hid (Qc HB1.out hw2); have hb2 := Qe HBX.out HB2.out; obtain ⟨c0, c1, c2, f0, f1, f2⟩ := cells3 hb2; have HX2 := hid hb2; clear hb2 hw2))
  obtain ⟨e1, e2, e3⟩ := QaT 2 0 [] HX2.out HMEM.out (HR.out.1.below HB2.out) (HR.out.2.trans (TStep.below HB2.out)) HKB.out
  refine bodyPost_ret (results_cell_row rfl _ _ w.heap.size 31 _ (0, 0) _ rfl e1 Tryz.underlying31 rfl (by kernel_rfl)) rfl ⟨?_, ?_⟩
  · rw [HL2.out]; rfl
  · rw [HL2.out]; exact ⟨_, _, e2, e3⟩
 | true =>
  rw [hg] at hgood
  cases hf : flowsL th.label l th.own with
  | false =>
   have HL2 : Hid (objectL th l = (th, code 6)) := hid (by rw [HL.out, hg, hf]; rfl)
   rw [hf] at hfl
   clear HL t3
   go_enter Tryz.func92, Tryz.ntmps92
   go_wp2_with (go_at_call 133; refine (hgood _ (Qd _ _)).mono ?_; rintro e w1 ⟨rfl, hw1⟩; have HB1 := hid hw1; have hb1 := Qc (Qd _ _) hw1; have s0 := hb1.cell (Qf t0); rw [t0] at s0; have s1 := hb1.cell (Qf t1); rw [t1] at s1; clear hw1)
   go_region_held3 (fun w' => w'.cell? ⟨kb, o, none⟩ = some (.slice ptl th.label.length ctl) ∧ w'.cell? ⟨kb, o + 1, none⟩ = some (.slice po th.own.length co)) (go_keep)
    (first | (go_at_call 14; refine (hfl _ hb1.drew).mono ?_; rintro e w5 ⟨rfl, hw5d⟩; have hw5 := kundrew hw5d; have HB5 := hid (Qc HB1.out hw5); have r0 := hw5.cell (Qf s0); rw [s0] at r0; have r1 := hw5.cell (Qf s1); rw [s1] at r1; clear hw5d hw5))
   all_goals
    go_wp2_with (go_at_call 90; refine (QL _ _).mono ?_; rintro e w2 ⟨rfl, hw2⟩; have HB2 := hid (Qc HB5.out hw2); have hb2 := Qe HBX.out HB2.out; obtain ⟨c0, c1, c2, f0, f1, f2⟩ := cells3 hb2; have HX2 := hid hb2; clear hb2 hw2)
    obtain ⟨e1, e2, e3⟩ := QaT 6 0 [] HX2.out HMEM.out (HR.out.1.below HB2.out) (HR.out.2.trans (TStep.below HB2.out)) HKB.out
    refine bodyPost_ret (results_cell_row rfl _ _ w.heap.size 31 _ (0, 0) _ rfl e1 Tryz.underlying31 rfl (by kernel_rfl)) rfl ⟨?_, ?_⟩
    · rw [HL2.out]; rfl
    · rw [HL2.out]; exact ⟨_, _, e2, e3⟩
  | true =>
   rw [hf] at hfl
   by_cases h4 : 4 ≤ th.objs.length
   · have HL2 : Hid (objectL th l = (th, code 5)) := hid (by rw [HL.out, hg, hf, if_pos h4]; rfl)
     clear HL
     go_enter Tryz.func92, Tryz.ntmps92
     go_wp2_with (go_at_call 133; refine (hgood _ (Qd _ _)).mono ?_; rintro e w1 ⟨rfl, hw1⟩; have HB1 := hid hw1; have hb1 := Qc (Qd _ _) hw1; have s0 := hb1.cell (Qf t0); rw [t0] at s0; have s1 := hb1.cell (Qf t1); rw [t1] at s1; clear hw1)
     go_region_held3 (fun w' => w'.cell? ⟨kb, o, none⟩ = some (.slice ptl th.label.length ctl) ∧ w'.cell? ⟨kb, o + 1, none⟩ = some (.slice po th.own.length co)) (go_keep)
      (first | (go_at_call 14; refine (hfl _ hb1.drew).mono ?_; rintro e w5 ⟨rfl, hw5d⟩; have hw5 := kundrew hw5d; have HB5 := hid (Qc HB1.out hw5); have r0 := hw5.cell (Qf s0); rw [s0] at r0; have r1 := hw5.cell (Qf s1); rw [s1] at r1; clear hw5d hw5))
     all_goals
      have q3 := (Qc (Qd w _) HB5.out).cell (Qf t3)
      rw [t3] at q3
      go_wp2_with (go_at_call 90; refine (QL _ _).mono ?_; rintro e w2 ⟨rfl, hw2⟩; have HB2 := hid (Qc HB5.out hw2); have hb2 := Qe HBX.out HB2.out; obtain ⟨c0, c1, c2, f0, f1, f2⟩ := cells3 hb2; have HX2 := hid hb2; clear hb2 hw2)
      obtain ⟨e1, e2, e3⟩ := QaT 5 0 [] HX2.out HMEM.out (HR.out.1.below HB2.out) (HR.out.2.trans (TStep.below HB2.out)) HKB.out
      refine bodyPost_ret (results_cell_row rfl _ _ w.heap.size 31 _ (0, 0) _ rfl e1 Tryz.underlying31 rfl (by kernel_rfl)) rfl ⟨?_, ?_⟩
      · rw [HL2.out]; rfl
      · rw [HL2.out]; exact ⟨_, _, e2, e3⟩
   · have HL2 : Hid (objectL th l = ({ th with objs := th.objs ++ [⟨l, []⟩] }, ⟨0, (th.objs.length : Int), []⟩)) := hid (by rw [HL.out, hg, hf, if_neg h4]; rfl)
     clear HL
     go_enter Tryz.func92, Tryz.ntmps92
     go_wp2_with (go_at_call 133; refine (hgood _ (Qd _ _)).mono ?_; rintro e w1 ⟨rfl, hw1⟩; have HB1 := hid hw1; have hb1 := Qc (Qd _ _) hw1; have s0 := hb1.cell (Qf t0); rw [t0] at s0; have s1 := hb1.cell (Qf t1); rw [t1] at s1; clear hw1)
     go_region_held3 (fun w' => w'.cell? ⟨kb, o, none⟩ = some (.slice ptl th.label.length ctl) ∧ w'.cell? ⟨kb, o + 1, none⟩ = some (.slice po th.own.length co)) (go_keep)
      (first | (go_at_call 14; refine (hfl _ hb1.drew).mono ?_; rintro e w5 ⟨rfl, hw5d⟩; have hw5 := kundrew hw5d; have HB5 := hid (Qc HB1.out hw5); have r0 := hw5.cell (Qf s0); rw [s0] at r0; have r1 := hw5.cell (Qf s1); rw [s1] at r1; clear hw5d hw5))
     all_goals
      have q3 := (Qc (Qd w _) HB5.out).cell (Qf t3)
      rw [t3] at q3
      clear r0 r1 s0 s1 hb1
      have hT5 := HR.out.1.below HB5.out
      have hb5 := Qc (Qd w _) HB5.out
      have HT5 := hid hT5
      have hlt5 := hb5.size
      have hdec : (54 : Nat) ≠ 56 := by decide
      clear hT5
      go_wp2
      go_region_law ((first
       | (refine Qgo (by rfl) (.tmp 35) #[34] (by rfl) (.slice p l.length cp) l (by rfl) (HV.out.below hb5.drew) ?_; intro v6 w6 hown6 hw6d; obtain ⟨p6, c6, rfl⟩ := Qo hown6; have hw6 := kundrew hw6d; have z3 := hw6.cell (Qf q3); rw [q3] at z3; have hlt6 : kb < w6.heap.size := Qf z3; have HOWN6 := hid hown6; have HW6 := hid hw6; clear hown6 hw6d hw6)
       | (refine Qgn (by rfl) (.tmp 34) (.tmp 38) (by rfl) (.slice pj th.objs.length cj) th.objs.length (flatO vs th.objs) (by rfl) (by rw [← HVJ.out]; exact Qk (Qk HOB.out (Qc hb5 HW6.out)) (Qd w6 _)) w6.heap.size (.slice p6 l.length c6) (.string ⟨#[]⟩) (by rfl) (laid2 w6 _ _ _) (by intro u hu; simp at hu; rcases hu with rfl | rfl <;> rfl) (by omega) ?_; intro v7 w7 hown7 hg7 hwh7; obtain ⟨p7, c7, rfl⟩ := Qo hown7; have HT6 := hid ((HT5.out.below HW6.out).below (Qd w6 (.cells #[.slice p6 l.length c6, .string ⟨#[]⟩] 56))); have haf := HT6.out.after hg7 (fun k hk => mem_rows.2 (.inr (.inl (by rw [HVJ.out]; exact hk)))) HT6.out.cells.2.2.2.1; obtain ⟨y3, yf⟩ := haf; have HOWN7 := hid hown7; have HG7 := hid hg7; have HWH7 := hid hwh7; clear hown7 hg7 hwh7)))
      all_goals
       have hobjs := QjI (l := l) HVS.out (Qk (Qk (Qk HOB.out hb5) HW6.out) (Qd w6 (.cells #[.slice p6 l.length c6, .string ⟨#[]⟩] 56))) (fun j g1 g2 => (HROS.out j g1 g2).keep (Qx _ (Qc (Qc hb5 HW6.out) (Qd w6 _))) (Qbi w F)) (fun k e => HT6.out.rows k (mem_rows.2 (.inr (.inl e)))) (Qk HOWN6.out (Qd w6 _)) HV.out.len (fun k e => HT5.out.fin k e) HOWN7.out (by rw [HVJ.out]; exact HG7.out) (by rw [HVJ.out]; exact HWH7.out)
       have hst := HT6.out.objs (by rw [HVJ.out]; exact HG7.out) hobjs (by rw [HVJ.out]; exact HWH7.out)
       have hbx7 : w7.heap[w.heap.size]? = some (.cells #[.int .i64 0, .int .i64 0, .string ⟨#[]⟩] 31 (0, 0)) := by
        have a1 := Qe (Qe (Qe HBX.out HB5.out) HW6.out) (Qd w6 (.cells #[.slice p6 l.length c6, .string ⟨#[]⟩] 56))
        rw [HG7.out.block w.heap.size (Qw a1) (fun e => ?_), a1]
        exact Qy (Qk (Qk (Qk HOB.out hb5) HW6.out) (Qd w6 (.cells #[.slice p6 l.length c6, .string ⟨#[]⟩] 56))) a1 (by decide) (by rw [HVJ.out]; exact e.symm)
       have hkne : w.heap.size ≠ kb := by have := HKB.out; omega
       have hbx8 := Qr hbx7 hkne (o + 3) (.slice p7 (th.objs.length + 1) c7)
       have hbs8 : TStep kb o w F v _ _ _ := ((HR.out.2.trans (TStep.below HB5.out)).trans ((TStep.below HW6.out).trans (TStep.below (Qd w6 _)))).trans hst.2
       obtain ⟨e1, e2, e3⟩ := QaT 0 (th.objs.length : Int) [] hbx8 (List.mem_append_left _ HMEM.out) hst.1 hbs8 HKB.out
       obtain ⟨c0, c1, c2, f0, f1, f2⟩ := cells3 hbx8
       have E1 := hid e1
       have E2 := hid e2
       have E3 := hid e3
       clear e1 e2 e3 hobjs hst hbx7 hbx8 hbs8
       go_wp2
       refine bodyPost_ret (results_cell_row rfl _ _ w.heap.size 31 _ (0, 0) _ rfl E1.out Tryz.underlying31 rfl (by kernel_rfl)) rfl ⟨?_, ?_⟩
       · rw [HL2.out]; rfl
       · rw [HL2.out]; exact ⟨_, _, E2.out, E3.out⟩
structure KerAt (w : World) (kb : Nat) (F : List Nat) (V : List ThrV) (K : Ker) : Prop where
 len : V.length = 4
 lenK : K.ths.length = 4
 box : ∃ C, w.heap[kb]? = some (.cells C 123 (0, 0)) ∧ C[0]? = some (.int .i64 K.host) ∧ C[1]? = some (.int .i64 K.made) ∧
  ∀ t (h1 : t < V.length) (h2 : t < K.ths.length), C[2 + t * 5]? = some V[t].vl ∧ C[2 + t * 5 + 1]? = some V[t].vo ∧ C[2 + t * 5 + 2]? = some (.string ⟨K.ths[t].text.toArray⟩) ∧ C[2 + t * 5 + 3]? = some V[t].vj ∧ C[2 + t * 5 + 4]? = some V[t].vm
 thr : ∀ t (h1 : t < V.length) (h2 : t < K.ths.length), ThrAt w F V[t] K.ths[t]
 rows : ∀ t (h1 : t < V.length), ∀ k ∈ rowsOf V[t], k ∈ F
 apart : ∀ s t (hs : s < V.length) (ht : t < V.length), s ≠ t → ∀ k ∈ rowsOf V[s], k ∉ rowsOf V[t]
 kbF : kb ∈ F
 fin : ∀ k ∈ F, k < w.heap.size
theorem KerAt.tat {w : World} {kb : Nat} {F : List Nat} {V : List ThrV} {K : Ker} (h : KerAt w kb F V K) (t : Nat) (h1 : t < V.length) (h2 : t < K.ths.length) : TAt w kb (2 + t * 5) F V[t] K.ths[t] := by
 obtain ⟨C, hC, _, _, hc⟩ := h.box
 exact ⟨⟨C, hC, hc t h1 h2⟩, h.thr t h1 h2, h.rows t h1, h.kbF, h.fin⟩
theorem KerAt.step {w w' : World} {kb : Nat} {F G : List Nat} {V : List ThrV} {K : Ker} {t : Nat} {v' : ThrV} {th' : Thr} (h : KerAt w kb F V K) (h1 : t < V.length) (h2 : t < K.ths.length) (ht : TAt w' kb (2 + t * 5) G v' th') (hs : TStep kb (2 + t * 5) w F V[t] w' G v') : KerAt w' kb G (V.set t v') { K with ths := K.ths.set t th' } := by
 have hkr := (h.tat t h1 h2).kb_rows
 obtain ⟨C, hC, c0, c1, hc⟩ := h.box
 obtain ⟨C', hC', hsz, hout⟩ := hs.box C hC
 obtain ⟨C2, hC2, hc2⟩ := ht.box
 rw [hC'] at hC2
 cases hC2
 refine ⟨by simp [h.len], by simp [h.lenK], ⟨C', hC', by rw [hout 0 (by omega), c0], by rw [hout 1 (by omega), c1], fun s g1 g2 => ?_⟩, fun s g1 g2 => ?_, fun s g1 k hk => ?_, fun s u g1 g2 hne k hk => ?_, hs.more.1 kb h.kbF, ht.fin⟩
 · rw [List.length_set] at g1 g2
   by_cases e : t = s
   · subst e
     simp only [List.getElem_set_self]
     exact hc2
   · rw [List.getElem_set_ne e, List.getElem_set_ne e]
     obtain ⟨d0, d1, d2, d3, d4⟩ := hc s g1 g2
     refine ⟨?_, ?_, ?_, ?_, ?_⟩
     · rw [hout _ (by omega), d0]
     · rw [hout _ (by omega), d1]
     · rw [hout _ (by omega), d2]
     · rw [hout _ (by omega), d3]
     · rw [hout _ (by omega), d4]
 · rw [List.length_set] at g1 g2
   by_cases e : t = s
   · subst e
     simp only [List.getElem_set_self]
     exact ht.thr
   · rw [List.getElem_set_ne e, List.getElem_set_ne e]
     refine (h.thr s g1 g2).keep hs.kept (fun k e => ?_) hs.more fun k hk e2 => ?_
     · rcases List.mem_cons.1 e with rfl | e
       · exact h.kbF
       · exact h.rows t h1 k e
     · rcases List.mem_cons.1 e2 with rfl | e2
       · exact (h.tat s g1 g2).kb_rows hk
       · exact h.apart t s h1 g1 e k e2 hk
 · rw [List.length_set] at g1
   by_cases e : t = s
   · subst e
     rw [List.getElem_set_self] at hk
     exact ht.rows k hk
   · rw [List.getElem_set_ne e] at hk
     exact hs.more.1 k (h.rows s g1 k hk)
 · rw [List.length_set] at g1 g2
   have key : ∀ a (ga : a < V.length), t ≠ a → ∀ k ∈ rowsOf v', k ∉ rowsOf V[a] := fun a ga hna k hk hm => by
    rcases hs.rows k hk with g | g
    · exact h.apart t a h1 ga hna k g hm
    · have := h.fin k (h.rows a ga k hm); omega
   by_cases e : t = s
   · subst e
     rw [List.getElem_set_self] at hk
     rw [List.getElem_set_ne hne]
     exact key u g2 hne k hk
   · rw [List.getElem_set_ne e] at hk
     by_cases e2 : t = u
     · subst e2
       rw [List.getElem_set_self]
       exact fun hm => key s g1 e k hm hk
     · rw [List.getElem_set_ne e2]
       exact h.apart s u g1 g2 hne k hk
theorem KerAt.below {w w' : World} {kb : Nat} {F : List Nat} {V : List ThrV} {K : Ker} (h : KerAt w kb F V K) (hb : Below w.heap.size w w') : KerAt w' kb F V K := by
 obtain ⟨C, hC, hc⟩ := h.box
 exact ⟨h.len, h.lenK, ⟨C, Qe hC hb, hc⟩, fun t g1 g2 => (h.thr t g1 g2).keep (R := []) (Qx _ hb) (fun _ h => by cases h) (More.refl _ _) (fun _ _ h => by cases h), h.rows, h.apart, h.kbF, fun k hk => Nat.lt_of_lt_of_le (h.fin k hk) hb.size⟩
theorem Qby (kb : Nat) (t : Int) (w : World) (ht : ¬ (0 ≤ t ∧ t < 4)) : Calls Tryz.prog 59 #[.pointer (some ⟨kb, 0, none⟩), .int .i64 t] w fun e w' => e = .returned (.pointer none) ∧ w' = w := by
 by_cases h0 : t < 0
 · go_enter Tryz.func59, Tryz.ntmps59
   go_wp2
   go_ret
   exact ⟨rfl, rfl⟩
 · have h4 : 4 ≤ t := by omega
   go_enter Tryz.func59, Tryz.ntmps59
   go_wp2
   go_ret
   exact ⟨rfl, rfl⟩
theorem QJ (kb t : Nat) (w : World) (ht : t < 4) : Calls Tryz.prog 59 #[.pointer (some ⟨kb, 0, none⟩), .int .i64 t] w fun e w' => e = .returned (.pointer (some ⟨kb, 2 + t * 5, none⟩)) ∧ w' = w := by
 have h0 : ¬ ((t : Int) < 0) := by omega
 have h4 : ¬ ((4 : Int) ≤ t) := by omega
 have h5 : (t : Int) < 4 := by omega
 go_enter Tryz.func59, Tryz.ntmps59
 go_wp2
 go_ret
 exact ⟨rfl, rfl⟩
def nilV : ThrV := ⟨.slice none 0 0, .slice none 0 0, .slice none 0 0, .slice none 0 0⟩
theorem QcB (w : World) (F : List Nat) : ThrAt w F nilV zeroThr :=
 ⟨⟨LabAt.nil _ _ _ (fun _ => rfl), fun h => by cases h⟩, World.ownsRow_nil _ _ _ _, ⟨[], rfl, World.ownsRow_nil _ _ _ _, fun j h => by cases h⟩, ⟨[], rfl, World.ownsRow_nil _ _ _ _, fun j h => by cases h⟩⟩
theorem QlK (w : World) (host : Int) : KerAt (w.alloc (.cells #[.int .i64 host, .int .i64 0, .slice none 0 0, .slice none 0 0, .string ⟨#[]⟩, .slice none 0 0, .slice none 0 0, .slice none 0 0, .slice none 0 0, .string ⟨#[]⟩, .slice none 0 0, .slice none 0 0, .slice none 0 0, .slice none 0 0, .string ⟨#[]⟩, .slice none 0 0, .slice none 0 0, .slice none 0 0, .slice none 0 0, .string ⟨#[]⟩, .slice none 0 0, .slice none 0 0] 123)) w.heap.size [w.heap.size] [nilV, nilV, nilV, nilV] (freshKer host) := by
 refine ⟨rfl, rfl, ⟨_, heap_alloc_new w _, rfl, rfl, fun t h1 h2 => ?_⟩, fun t h1 h2 => ?_, fun t h1 k hk => ?_, fun s t hs ht _ k hk => ?_, by simp, fun k hk => by simp at hk; subst hk; simp⟩
 · match t, h1, h2 with
   | 0, _, _ => exact ⟨rfl, rfl, rfl, rfl, rfl⟩
   | 1, _, _ => exact ⟨rfl, rfl, rfl, rfl, rfl⟩
   | 2, _, _ => exact ⟨rfl, rfl, rfl, rfl, rfl⟩
   | 3, _, _ => exact ⟨rfl, rfl, rfl, rfl, rfl⟩
 · match t, h1, h2 with
   | 0, _, _ => exact QcB _ _
   | 1, _, _ => exact QcB _ _
   | 2, _, _ => exact QcB _ _
   | 3, _, _ => exact QcB _ _
 · match t, h1, hk with
   | 0, _, hk => cases hk
   | 1, _, hk => cases hk
   | 2, _, hk => cases hk
   | 3, _, hk => cases hk
 · match s, hs, hk with
   | 0, _, hk => cases hk
   | 1, _, hk => cases hk
   | 2, _, hk => cases hk
   | 3, _, hk => cases hk
set_option maxRecDepth 100000 in
theorem QmD (host : Int) (w : World) (h : 0 ≤ host ∧ host < 4) : Calls Tryz.prog 39 #[.int .i64 host] w fun e w' => e = .returned (.tuple #[.pointer (some ⟨w.heap.size, 0, none⟩), .int .i64 0]) ∧ KerAt w' w.heap.size [w.heap.size] [nilV, nilV, nilV, nilV] (freshKer host) ∧ Below w.heap.size w w' := by
 have h0 : ¬ (host < 0) := by omega
 have h4 : ¬ ((4 : Int) ≤ host) := by omega
 go_enter Tryz.func39, Tryz.ntmps39
 go_wp2
 go_ret2
 exact ⟨rfl, QlK w host, Qd _ _⟩
theorem KerAt.head {w : World} {kb : Nat} {F : List Nat} {V : List ThrV} {K : Ker} (h : KerAt w kb F V K) : w.cell? ⟨kb, 0, none⟩ = some (.int .i64 K.host) ∧ w.cell? ⟨kb, 1, none⟩ = some (.int .i64 K.made) ∧ w.frozen? ⟨kb, 1, none⟩ = false := by
 obtain ⟨C, hC, c0, c1, _⟩ := h.box
 exact ⟨by rw [Qa hC, c0], by rw [Qa hC, c1], Qb hC 1⟩
theorem KerAt.madeMore {w : World} {kb : Nat} {F : List Nat} {V : List ThrV} {K : Ker} (h : KerAt w kb F V K) (n : Int) : KerAt (w.setCell ⟨kb, 1, none⟩ (.int .i64 n)) kb F V { K with made := n } := by
 obtain ⟨C, hC, c0, c1, hc⟩ := h.box
 have hk : KeptF [kb] w (w.setCell ⟨kb, 1, none⟩ (.int .i64 n)) := Qai w kb _ _ (by simp)
 refine ⟨h.len, h.lenK, ⟨_, heap_setCell hC _, QB c0 (by omega), Qbh c1, fun t h1 h2 => ?_⟩, fun t h1 h2 => ?_, h.rows, h.apart, h.kbF, fun k hk => by simpa using h.fin k hk⟩
 · obtain ⟨d0, d1, d2, d3, d4⟩ := hc t h1 h2
   exact ⟨QB d0 (by omega), QB d1 (by omega), QB d2 (by omega), QB d3 (by omega), QB d4 (by omega)⟩
 · exact (h.thr t h1 h2).keep hk (fun k e => by simp at e; subst e; exact h.kbF) (More.refl _ _) (fun k e g => by simp at g; subst g; exact (h.tat t h1 h2).kb_rows e)
theorem KerAt.reserve {w : World} {kb : Nat} {F : List Nat} {V : List ThrV} {K : Ker} (h : KerAt w kb F V K) (ob : Obj) : KerAt (w.alloc ob) kb (F ++ [w.heap.size]) V K := by
 have hb := Qd w ob
 have hm := Qbi w F
 obtain ⟨C, hC, hc⟩ := h.box
 refine ⟨h.len, h.lenK, ⟨C, Qe hC hb, hc⟩, fun t g1 g2 => (h.thr t g1 g2).keep (R := []) (Qx _ hb) (fun _ h => by cases h) hm (fun _ _ h => by cases h), fun t g1 k hk => hm.1 k (h.rows t g1 k hk), h.apart, hm.1 kb h.kbF, fun k hk => ?_⟩
 rw [World.size_alloc]
 rcases List.mem_append.1 hk with g | g
 · have := h.fin k g; omega
 · simp at g; omega
theorem KerAt.boxed {w w' : World} {kb : Nat} {F : List Nat} {V : List ThrV} {K : Ker} {B : Nat} {C : Array Value} {t : TypeId} (h : KerAt w kb F V K) (hg : w.grownBy w' (some B)) (hB : B ∈ F) (hC : w.heap[B]? = some (.cells C t (0, 0))) (t1 : (123 : Nat) ≠ t) (t2 : (3 : Nat) ≠ t) (t3 : (56 : Nat) ≠ t) (t4 : (50 : Nat) ≠ t) : KerAt w' kb F V K := by
 have hx : ∀ s (g1 : s < V.length) (g2 : s < K.ths.length), TAt w' kb (2 + s * 5) F V[s] K.ths[s] := fun s g1 g2 => (h.tat s g1 g2).boxed hg hB hC t1 t2 t3 t4
 obtain ⟨D, hD, hd⟩ := h.box
 have hne : kb ≠ B := fun e => by
  subst e
  rw [hC] at hD
  injection hD with hD
  injection hD with _ e2 _
  exact t1 e2.symm
 exact ⟨h.len, h.lenK, ⟨D, by rw [hg.block kb (Qw hD) (fun e => hne (Option.some.inj e)), hD], hd⟩, fun s g1 g2 => (hx s g1 g2).thr, h.rows, h.apart, h.kbF, fun k hk => Nat.lt_of_lt_of_le (h.fin k hk) hg.size⟩
def rowsAll (V : List ThrV) : List Nat := V.flatMap rowsOf
theorem Q8 {V : List ThrV} {k : Nat} : k ∈ rowsAll V ↔ ∃ t, ∃ h : t < V.length, k ∈ rowsOf V[t] := by
 unfold rowsAll
 rw [List.mem_flatMap]
 constructor
 · rintro ⟨v, hv, hk⟩
   obtain ⟨t, ht, rfl⟩ := List.mem_iff_getElem.1 hv
   exact ⟨t, ht, hk⟩
 · rintro ⟨t, ht, hk⟩
   exact ⟨V[t], List.getElem_mem ht, hk⟩
structure KStep (kb : Nat) (w : World) (F : List Nat) (V : List ThrV) (w' : World) (G : List Nat) (V' : List ThrV) : Prop where
 kept : KeptF (kb :: rowsAll V) w w'
 rows : ∀ k ∈ rowsAll V', k ∈ rowsAll V ∨ w.heap.size ≤ k
 more : More w F G
theorem KStep.refl (kb : Nat) (w : World) (F : List Nat) (V : List ThrV) : KStep kb w F V w F V := ⟨KeptF.refl _ _, fun _ h => .inl h, More.refl _ _⟩
theorem KStep.trans {kb : Nat} {a b c : World} {F G H : List Nat} {V V1 V2 : List ThrV} (h : KStep kb a F V b G V1) (k : KStep kb b G V1 c H V2) : KStep kb a F V c H V2 :=
 ⟨⟨k.kept.os.trans h.kept.os, k.kept.tape.trans h.kept.tape, k.kept.output.trans h.kept.output, Nat.le_trans h.kept.size k.kept.size, fun i hi hn => by
  rw [k.kept.block i (by have := h.kept.size; omega) (fun e => ?_), h.kept.block i hi hn]
  rcases List.mem_cons.1 e with rfl | e
  · exact hn (by simp)
  · rcases h.rows i e with g | g
    · exact hn (List.mem_cons_of_mem _ g)
    · omega⟩, fun i hi => by
  rcases k.rows i hi with g | g
  · exact h.rows i g
  · exact .inr (by have := h.kept.size; omega), h.more.trans k.more h.kept.size⟩
theorem KStep.below {kb : Nat} {w w' : World} {F : List Nat} {V : List ThrV} (h : Below w.heap.size w w') : KStep kb w F V w' F V := ⟨Qx _ h, fun _ h => .inl h, More.refl _ _⟩
theorem KStep.reserve (kb : Nat) (w : World) (F : List Nat) (V : List ThrV) (ob : Obj) : KStep kb w F V (w.alloc ob) (F ++ [w.heap.size]) V := ⟨Qx _ (Qd _ _), fun _ h => .inl h, Qbi w F⟩
theorem KStep.boxed {kb : Nat} {w0 w w' : World} {F G : List Nat} {V V' : List ThrV} {B : Nat} (h : KStep kb w0 F V w G V') (hg : w.grownBy w' (some B)) (hB : w0.heap.size ≤ B) : KStep kb w0 F V w' G V' :=
 ⟨⟨hg.os.trans h.kept.os, hg.tape.trans h.kept.tape, hg.output.trans h.kept.output, Nat.le_trans h.kept.size hg.size, fun k hk hn => by
  rw [hg.block k (by have := h.kept.size; omega) (fun e => by have := Option.some.inj e; omega), h.kept.block k hk hn]⟩, h.rows, h.more⟩
theorem KStep.of {w w' : World} {kb o t : Nat} {F G : List Nat} {V : List ThrV} {v' : ThrV} (ht : t < V.length) (h : TStep kb o w F V[t] w' G v') : KStep kb w F V w' G (V.set t v') := by
 refine ⟨h.kept.sub fun k e => .inl ?_, fun k hk => ?_, h.more⟩
 · rcases List.mem_cons.1 e with rfl | e
   · simp
   · exact List.mem_cons_of_mem _ (Q8.2 ⟨t, ht, e⟩)
 · obtain ⟨s, hs, hk⟩ := Q8.1 hk
   rw [List.length_set] at hs
   by_cases e : t = s
   · subst e
     rw [List.getElem_set_self] at hk
     rcases h.rows k hk with g | g
     · exact .inl (Q8.2 ⟨t, ht, g⟩)
     · exact .inr g
   · rw [List.getElem_set_ne e] at hk
     exact .inl (Q8.2 ⟨s, hs, hk⟩)
theorem KStep.set {w : World} {kb : Nat} {F : List Nat} {V : List ThrV} (j : Nat) (u : Value) : KStep kb w F V (w.setCell ⟨kb, j, none⟩ u) F V := ⟨Qai w kb j u (by simp), fun _ h => .inl h, More.refl _ _⟩
theorem KStep.keptF {kb : Nat} {w w' : World} {F G : List Nat} {V V' : List ThrV} {K : Ker} (h : KStep kb w F V w' G V') (hk : KerAt w kb F V K) : KeptF F w w' := h.kept.sub fun k e => .inl (by
 rcases List.mem_cons.1 e with rfl | e
 · exact hk.kbF
 · obtain ⟨t, ht, hk2⟩ := Q8.1 e
   exact hk.rows t ht k hk2)
theorem QY {w w' : World} {kb : Nat} {F G : List Nat} {V V' : List ThrV} {K : Ker} {B : Nat} {C : Array Value} {t : TypeId} (h : KStep kb w F V w' G V') (hk : KerAt w kb F V K) (hC : w.heap[B]? = some (.cells C t (0, 0))) (t1 : (123 : Nat) ≠ t) (t2 : (3 : Nat) ≠ t) (t3 : (56 : Nat) ≠ t) (t4 : (50 : Nat) ≠ t) : w'.heap[B]? = some (.cells C t (0, 0)) := by
 obtain ⟨D, hD, _⟩ := hk.box
 refine h.kept.heap hC fun e => ?_
 rcases List.mem_cons.1 e with rfl | e
 · rw [hC] at hD
   injection hD with hD
   injection hD with _ e2 _
   exact t1 e2.symm
 · obtain ⟨s, hs, e⟩ := Q8.1 e
   obtain ⟨_, o1, ⟨_, _, o2, _⟩, ⟨_, _, o3, _⟩⟩ := hk.thr s hs (by rw [hk.lenK, ← hk.len]; exact hs)
   rcases mem_rows.1 e with e | e | e
   · exact Qy o1 hC t2 e
   · exact Qy o2 hC t3 e
   · exact Qy o3 hC t4 e
theorem Qcu {kb : Nat} {w w1 : World} {F G : List Nat} {V V1 : List ThrV} {K1 : Ker} {y0 y1 y2 : Value} (x0 x1 : Int) (x2 : List UInt8) (hb : w1.heap[w.heap.size]? = some (.cells #[y0, y1, y2] 31 (0, 0))) (hF : w.heap.size ∈ G) (h1 : KerAt w1 kb G V1 K1) (hs : KStep kb w F V w1 G V1) :
 (st3 w1 w.heap.size (.int .i64 x0) (.int .i64 x1) (.string ⟨x2.toArray⟩)).heap[w.heap.size]? = some (.cells #[.int .i64 x0, .int .i64 x1, .string ⟨x2.toArray⟩] 31 (0, 0)) ∧ KerAt (st3 w1 w.heap.size (.int .i64 x0) (.int .i64 x1) (.string ⟨x2.toArray⟩)) kb G V1 K1 ∧ KStep kb w F V (st3 w1 w.heap.size (.int .i64 x0) (.int .i64 x1) (.string ⟨x2.toArray⟩)) G V1 :=
 ⟨QO _ _ _ hb, h1.boxed (QD _ _ _ _ _) hF hb (by decide) (by decide) (by decide) (by decide), hs.boxed (QD _ _ _ _ _) (Nat.le_refl _)⟩
theorem QaY {w w' : World} {kb o : Nat} {F G : List Nat} {v v' : ThrV} {B : Nat} {C : Array Value} {t : TypeId} {th : Thr} (h : TStep kb o w F v w' G v') (ht : TAt w kb o F v th) (hC : w.heap[B]? = some (.cells C t (0, 0))) (t1 : (123 : Nat) ≠ t) (t2 : (3 : Nat) ≠ t) (t3 : (56 : Nat) ≠ t) (t4 : (50 : Nat) ≠ t) : w'.heap[B]? = some (.cells C t (0, 0)) := by
 obtain ⟨D, hD, _⟩ := ht.box
 obtain ⟨_, o1, ⟨_, _, o2, _⟩, ⟨_, _, o3, _⟩⟩ := ht.thr
 refine h.kept.heap hC fun e => ?_
 rcases List.mem_cons.1 e with rfl | e
 · rw [hC] at hD
   injection hD with hD
   injection hD with _ e2 _
   exact t1 e2.symm
 · rcases mem_rows.1 e with e | e | e
   · exact Qy o1 hC t2 e
   · exact Qy o2 hC t3 e
   · exact Qy o3 hC t4 e
set_option maxRecDepth 100000 in
set_option maxHeartbeats 3200000 in
theorem Qgx (kb t : Nat) (F : List Nat) (V : List ThrV) (K : Ker) (w : World) (h : KerAt w kb F V K) (h1 : t < V.length) (h2 : t < K.ths.length) (hs : K.ths[t].own.Pairwise (· < ·)) (hl : K.ths[t].own.length ≤ 8) (hh : 0 ≤ K.host ∧ K.host < 4) (hm : 0 ≤ K.made ∧ K.made ≤ 20) :
 Calls Tryz.prog 91 #[.pointer (some ⟨kb, 0, none⟩), .pointer (some ⟨kb, 2 + t * 5, none⟩)] w fun e w' => e = .returned (repV (categoryL K t K.ths[t]).2) ∧ ∃ G V', KerAt w' kb G V' (categoryL K t K.ths[t]).1 ∧ KStep kb w F V w' G V' := by
 have HC : Hid (categoryL K t K.ths[t] = if 20 ≤ K.made then (K, code 5)
  else if (ownL K.ths[t].own (K.host * 20 + K.made)).1 = 0 then ({ setT K t { K.ths[t] with own := (ownL K.ths[t].own (K.host * 20 + K.made)).2 } with made := K.made + 1 }, ⟨0, K.host * 20 + K.made, []⟩)
  else (K, code (ownL K.ths[t].own (K.host * 20 + K.made)).1)) := hid rfl
 have hkb := h.fin kb h.kbF
 have HR := hid (h.reserve (.cells #[.int .i64 0, .int .i64 0, .string ⟨#[]⟩] 31))
 have HS := hid (KStep.reserve kb w F V (.cells #[.int .i64 0, .int .i64 0, .string ⟨#[]⟩] 31))
 have HBX := hid (Q6 w)
 have HMEM : Hid (w.heap.size ∈ F ++ [w.heap.size]) := hid (by simp)
 obtain ⟨k0, k1, _⟩ := h.head
 by_cases h20 : 20 ≤ K.made
 · have HC2 : Hid (categoryL K t K.ths[t] = (K, code 5)) := hid (by rw [HC.out, if_pos h20])
   clear HC
   go_enter Tryz.func91, Tryz.ntmps91
   go_wp2_with (go_at_call 90; refine (QL _ _).mono ?_; rintro e w2 ⟨rfl, hw2⟩; have HB2 := hid hw2; have hb2 := Qe HBX.out HB2.out; obtain ⟨c0, c1, c2, f0, f1, f2⟩ := cells3 hb2; have HX2 := hid hb2; clear hb2 hw2)
   obtain ⟨e1, e2, e3⟩ := Qcu 5 0 [] HX2.out HMEM.out (HR.out.below HB2.out) (HS.out.trans (KStep.below HB2.out))
   refine bodyPost_ret (results_cell_row rfl _ _ w.heap.size 31 _ (0, 0) _ rfl e1 Tryz.underlying31 rfl (by kernel_rfl)) rfl ⟨?_, ?_⟩
   · rw [HC2.out]; rfl
   · rw [HC2.out]; exact ⟨_, _, e2, e3⟩
 · have HC2 : Hid (categoryL K t K.ths[t] = if (ownL K.ths[t].own (K.host * 20 + K.made)).1 = 0 then ({ setT K t { K.ths[t] with own := (ownL K.ths[t].own (K.host * 20 + K.made)).2 } with made := K.made + 1 }, ⟨0, K.host * 20 + K.made, []⟩)
    else (K, code (ownL K.ths[t].own (K.host * 20 + K.made)).1)) := hid (by rw [HC.out, if_neg h20])
   clear HC
   have hw1 : wrap64 (K.host * 20) = K.host * 20 := by unfold wrap64; omega
   have hw2 : wrap64 (K.host * 20 + K.made) = K.host * 20 + K.made := by unfold wrap64; omega
   have hw3 : wrap64 (K.made + 1) = K.made + 1 := by unfold wrap64; omega
   have hlt := h20
   have hT := fun wx (hb : Below (w.alloc (.cells #[.int .i64 0, .int .i64 0, .string ⟨#[]⟩] 31)).heap.size (w.alloc (.cells #[.int .i64 0, .int .i64 0, .string ⟨#[]⟩] 31)) wx) => Qi9 kb (2 + t * 5) (F ++ [w.heap.size]) V[t] K.ths[t] (K.host * 20 + K.made) wx ((HR.out.tat t h1 h2).below hb) hs hl
   have HT := hid hT
   clear hT
   have HL0 : Hid ((ownL K.ths[t].own (K.host * 20 + K.made)).1 ≠ 0 → (ownL K.ths[t].own (K.host * 20 + K.made)).2 = K.ths[t].own) := hid (by
    unfold ownL
    split
    · exact fun h => absurd rfl h
    · split
      · exact fun _ => rfl
      · exact fun h => absurd rfl h)
   clear h
   by_cases hz : (ownL K.ths[t].own (K.host * 20 + K.made)).1 = 0
   · have hne : ((ownL K.ths[t].own (K.host * 20 + K.made)).1 != 0) = false := by simpa using hz
     have HC3 : Hid (categoryL K t K.ths[t] = ({ setT K t { K.ths[t] with own := (ownL K.ths[t].own (K.host * 20 + K.made)).2 } with made := K.made + 1 }, ⟨0, K.host * 20 + K.made, []⟩)) := hid (by rw [HC2.out, if_pos hz])
     clear HC2 HL0
     generalize ownL K.ths[t].own (K.host * 20 + K.made) = ow at *
     go_enter Tryz.func91, Tryz.ntmps91
     go_wp2_with fail
     go_quiet (fail)
     go_wp2_with fail
     refine (HT.out _ (Qt _ _)).mono ?_
     rintro e w2 ⟨rfl, G, v', hT2, hS2⟩
     have hK1 := HR.out.below (Qt (w.alloc (.cells #[.int .i64 0, .int .i64 0, .string ⟨#[]⟩] 31)) nq)
     have hK2 := hK1.step h1 h2 hT2 hS2
     have hx2 := QaY hS2 (hK1.tat t h1 h2) (Qe HBX.out (Qt _ nq)) (by decide) (by decide) (by decide) (by decide)
     have hst2 := (HS.out.trans (KStep.below (Qt _ nq))).trans (KStep.of h1 hS2)
     obtain ⟨m0, m1, mf⟩ := hK2.head
     have hK3 := hK2.madeMore (K.made + 1)
     have hne2 : w.heap.size ≠ kb := by omega
     have hx3 := Qr hx2 hne2 1 (.int .i64 (K.made + 1))
     have hst3 := hst2.trans (KStep.set 1 (.int .i64 (K.made + 1)))
     obtain ⟨e1, e2, e3⟩ := Qcu 0 (K.host * 20 + K.made) [] hx3 (hS2.more.1 _ HMEM.out) hK3 hst3
     obtain ⟨c0, c1, c2, f0, f1, f2⟩ := cells3 hx3
     have E1 := hid e1
     have E2 := hid e2
     have E3 := hid e3
     clear e1 e2 e3 hK1 hK2 hK3 hx2 hx3 hst2 hst3 hT2 hS2 HT HR HS
     go_wp2
     refine bodyPost_ret (results_cell_row rfl _ _ w.heap.size 31 _ (0, 0) _ rfl E1.out Tryz.underlying31 rfl (by kernel_rfl)) rfl ⟨?_, ?_⟩
     · rw [HC3.out]; rfl
     · rw [HC3.out]; exact ⟨_, _, E2.out, E3.out⟩
   · have hne : ((ownL K.ths[t].own (K.host * 20 + K.made)).1 != 0) = true := by simpa using hz
     have HC3 : Hid (categoryL K t K.ths[t] = (K, code (ownL K.ths[t].own (K.host * 20 + K.made)).1)) := hid (by rw [HC2.out, if_neg hz])
     have HL1 := hid (HL0.out hz)
     clear HC2 HL0
     generalize ownL K.ths[t].own (K.host * 20 + K.made) = ow at *
     go_enter Tryz.func91, Tryz.ntmps91
     go_wp2_with fail
     go_quiet (fail)
     go_wp2_with fail
     refine (HT.out _ (Qt _ _)).mono ?_
     rintro e w2 ⟨rfl, G, v', hT2, hS2⟩
     have hK1 := HR.out.below (Qt (w.alloc (.cells #[.int .i64 0, .int .i64 0, .string ⟨#[]⟩] 31)) nq)
     have hK2 := hK1.step h1 h2 hT2 hS2
     have hx2 := QaY hS2 (hK1.tat t h1 h2) (Qe HBX.out (Qt _ nq)) (by decide) (by decide) (by decide) (by decide)
     have HST := hid ((HS.out.trans (KStep.below (Qt _ nq))).trans (KStep.of h1 hS2))
     have HX := hid hx2
     have HG : Hid (w.heap.size ∈ G) := hid (hS2.more.1 _ HMEM.out)
     have HK2 : Hid (KerAt w2 kb G (V.set t v') K) := hid (by
      have e : ({ K with ths := K.ths.set t { K.ths[t] with own := ow.2 } } : Ker) = K := by
       rw [HL1.out]
       show ({ K with ths := K.ths.set t K.ths[t] } : Ker) = K
       rw [List.set_getElem_self]
      rw [e] at hK2
      exact hK2)
     clear hK1 hK2 hx2 hT2 hS2 HT HR HS
     go_wp2_with (go_at_call 90; refine (QL _ _).mono ?_; rintro e w3 ⟨rfl, hw3⟩; have HB3 := hid hw3; have hb3 := Qe HX.out hw3; obtain ⟨c0, c1, c2, f0, f1, f2⟩ := cells3 hb3; have HX3 := hid hb3; clear hb3 hw3)
     obtain ⟨e1, e2, e3⟩ := Qcu ow.1 0 [] HX3.out HG.out (HK2.out.below HB3.out) (HST.out.trans (KStep.below HB3.out))
     refine bodyPost_ret (results_cell_row rfl _ _ w.heap.size 31 _ (0, 0) _ rfl e1 Tryz.underlying31 rfl (by kernel_rfl)) rfl ⟨?_, ?_⟩
     · rw [HC3.out]; rfl
     · rw [HC3.out]; exact ⟨_, _, e2, e3⟩
theorem KerAt.keep {w w' : World} {kb : Nat} {R F G : List Nat} {V : List ThrV} {K : Ker} (h : KerAt w kb F V K) (hk : KeptF R w w') (hR : ∀ k ∈ R, k ∈ F) (hm : More w F G) (hkb : kb ∉ R) (hv : ∀ t (_ : t < V.length), ∀ k ∈ rowsOf V[t], k ∉ R) (hG : ∀ k ∈ G, k < w'.heap.size) : KerAt w' kb G V K := by
 obtain ⟨C, hC, hc⟩ := h.box
 exact ⟨h.len, h.lenK, ⟨C, hk.heap hC hkb, hc⟩, fun t g1 g2 => (h.thr t g1 g2).keep hk hR hm (hv t g1), fun t g1 k hk' => hm.1 k (h.rows t g1 k hk'), h.apart, hm.1 _ h.kbF, hG⟩
theorem KerAt.other {w w' : World} {kb kb' : Nat} {F G : List Nat} {V V' V2 : List ThrV} {K K2 K2' : Ker} (h : KerAt w kb F V K) (h2 : KerAt w kb' F V2 K2) (hs : KStep kb' w F V2 w' G V') (h2' : KerAt w' kb' G V' K2') (hne : kb ≠ kb') (h3 : kb ∉ rowsAll V2) (h4 : kb' ∉ rowsAll V) (h5 : ∀ k ∈ rowsAll V, k ∉ rowsAll V2) : KerAt w' kb G V K := by
 refine h.keep hs.kept (fun k hk => ?_) hs.more (fun e => ?_) (fun t ht k hk e => ?_) h2'.fin
 · rcases List.mem_cons.1 hk with rfl | e
   · exact h2.kbF
   · obtain ⟨t, ht, hkt⟩ := Q8.1 e
     exact h2.rows t ht k hkt
 · rcases List.mem_cons.1 e with e | e
   · exact hne e
   · exact h3 e
 · have hka : k ∈ rowsAll V := Q8.2 ⟨t, ht, hk⟩
   rcases List.mem_cons.1 e with e | e
   · exact h4 (e ▸ hka)
   · exact h5 k hka e
abbrev st5 (w : World) (b : Nat) (x0 x1 x2 x3 x4 : Value) : World := ((((w.setCell ⟨b, 0, none⟩ x0).setCell ⟨b, 1, none⟩ x1).setCell ⟨b, 2, none⟩ x2).setCell ⟨b, 3, none⟩ x3).setCell ⟨b, 4, none⟩ x4
theorem QcE {w : World} {b : Nat} {t : TypeId} {y0 y1 y2 y3 y4 : Value} (x0 x1 x2 x3 x4 : Value) (h : w.heap[b]? = some (.cells #[y0, y1, y2, y3, y4] t (0, 0))) : (st5 w b x0 x1 x2 x3 x4).heap[b]? = some (.cells #[x0, x1, x2, x3, x4] t (0, 0)) := by
 have h0 : (w.setCell ⟨b, 0, none⟩ x0).heap[b]? = some (.cells #[x0, y1, y2, y3, y4] t (0, 0)) := by rw [heap_setCell h x0]; rfl
 have h1 : ((w.setCell ⟨b, 0, none⟩ x0).setCell ⟨b, 1, none⟩ x1).heap[b]? = some (.cells #[x0, x1, y2, y3, y4] t (0, 0)) := by rw [heap_setCell h0 x1]; rfl
 have h2 : (((w.setCell ⟨b, 0, none⟩ x0).setCell ⟨b, 1, none⟩ x1).setCell ⟨b, 2, none⟩ x2).heap[b]? = some (.cells #[x0, x1, x2, y3, y4] t (0, 0)) := by rw [heap_setCell h1 x2]; rfl
 have h3 : ((((w.setCell ⟨b, 0, none⟩ x0).setCell ⟨b, 1, none⟩ x1).setCell ⟨b, 2, none⟩ x2).setCell ⟨b, 3, none⟩ x3).heap[b]? = some (.cells #[x0, x1, x2, x3, y4] t (0, 0)) := by rw [heap_setCell h2 x3]; rfl
 rw [heap_setCell h3 x4]; rfl
theorem Qb5 (w : World) (b : Nat) (x0 x1 x2 x3 x4 : Value) : w.grownBy (st5 w b x0 x1 x2 x3 x4) (some b) := Qh (Qh (Qh (Qh (Qg w b 0 x0) (Qg _ b 1 x1)) (Qg _ b 2 x2)) (Qg _ b 3 x3)) (Qg _ b 4 x4)
theorem cells5 {w : World} {b : Nat} {t : TypeId} {y0 y1 y2 y3 y4 : Value} (h : w.heap[b]? = some (.cells #[y0, y1, y2, y3, y4] t (0, 0))) : (w.cell? ⟨b, 0, none⟩ = some y0 ∧ w.cell? ⟨b, 1, none⟩ = some y1 ∧ w.cell? ⟨b, 2, none⟩ = some y2 ∧ w.cell? ⟨b, 3, none⟩ = some y3 ∧ w.cell? ⟨b, 4, none⟩ = some y4) ∧ w.frozen? ⟨b, 0, none⟩ = false ∧ w.frozen? ⟨b, 1, none⟩ = false ∧ w.frozen? ⟨b, 2, none⟩ = false ∧ w.frozen? ⟨b, 3, none⟩ = false ∧ w.frozen? ⟨b, 4, none⟩ = false :=
 ⟨⟨Qa h 0, Qa h 1, Qa h 2, Qa h 3, Qa h 4⟩, Qb h 0, Qb h 1, Qb h 2, Qb h 3, Qb h 4⟩
def calV (c : Cal) (vl vg : Value) : Value := .agg #[.int .i64 c.kind, .int .i64 c.h, .int .i64 c.t, .int .i64 c.n, .int .i64 c.c, vl, vg, .string ⟨c.text.toArray⟩]
def CalAt (w : World) (v : Value) (c : Cal) : Prop := ∃ vl vg, v = calV c vl vg ∧ LabAt w vl c.label ∧ IntsAt w vg c.grants
theorem CalAt.below {w wr : World} {v : Value} {c : Cal} (h : CalAt w v c) (hb : Below w.heap.size w wr) : CalAt wr v c := by
 obtain ⟨vl, vg, e, h1, h2⟩ := h
 exact ⟨vl, vg, e, h1.below hb, h2.below hb⟩
theorem QcK {fn : Func} {p u : Tmp} (h : fn.results = #[.cell p 50, .tmp u]) (tmps : Array Value) (w : World) (g : Nat) (cs : Array Value) (hc : cs.size = 5)
 (hp : tmps.getD p undef = .pointer (some ⟨g, 0, none⟩)) (hg : w.heap[g]? = some (.cells cs 50 (0, 0))) :
 (results fn tmps).run Tryz.prog w = .ok (.tuple #[.agg cs, tmps.getD u undef]) w := by
 have hl := run_loadVar_row (P := Tryz.prog) w g 50 50 cs (0, 0) _ hg Tryz.underlying50 rfl (by rw [hc]; kernel_rfl)
 rw [results_cell_tmp h, hp]
 simp [asAddr, hl]
theorem Qdf (vs : List Value) (os : List Obt) (h : vs.length = os.length) (i : Nat) (h1 : i < vs.length) (h2 : i < os.length) : (flatO vs os)[i * 2]? = some vs[i] ∧ (flatO vs os)[i * 2 + 1]? = some (.string ⟨os[i].text.toArray⟩) := by
 induction vs generalizing os i with
 | nil => simp at h1
 | cons x r ih =>
  cases os with
  | nil => simp at h2
  | cons y t =>
   have e : flatO (x :: r) (y :: t) = x :: .string ⟨y.text.toArray⟩ :: flatO r t := rfl
   cases i with
   | zero => rw [e]; exact ⟨rfl, rfl⟩
   | succ i =>
    obtain ⟨g1, g2⟩ := ih t (by simpa using h) i (by simpa using h1) (by simpa using h2)
    rw [e, show (i + 1) * 2 = i * 2 + 1 + 1 by omega]
    simp only [List.getElem?_cons_succ, List.getElem_cons_succ]
    exact ⟨g1, g2⟩
theorem ObjsAt.cell {w : World} {F : List Nat} {v : Value} {os : List Obt} (h : ObjsAt w F v os) (i : Nat) (hi : i < os.length) : ∃ g cap u, v = .slice (some ⟨g, 0, none⟩) os.length cap ∧ w.cell? ⟨g, i * 2, none⟩ = some u ∧ w.cell? ⟨g, i * 2 + 1, none⟩ = some (.string ⟨os[i].text.toArray⟩) ∧ w.frozen? ⟨g, i * 2 + 1, none⟩ = false ∧ RoLab w F u os[i].label := by
 obtain ⟨vs, h1, h2, h3⟩ := h
 rcases h2.2 with ⟨_, hn⟩ | ⟨g, cap, cur, rfl, _, hg, _⟩
 · omega
 · obtain ⟨g1, g2⟩ := Qdf vs os h1 i (by omega) hi
   have c1 := World.ownsRow.cells h2 (g := g) rfl _ _ g1
   have c2 := World.ownsRow.cells h2 (g := g) rfl _ _ g2
   rw [WideShapes.add_plain, Nat.zero_add] at c1 c2
   exact ⟨g, cap, vs[i], rfl, c1, c2, Qb hg _, h3 i (by omega) hi⟩
theorem Qdp (kb : Nat) (F : List Nat) (V : List ThrV) (K : Ker) (t n : Int) (w : World) (h : KerAt w kb F V K) (hno : objAt K t n = none) :
 Calls Tryz.prog 134 #[.pointer (some ⟨kb, 0, none⟩), .int .i64 t, .int .i64 n] w fun e w' => e = .returned (.pointer none) ∧ w' = w := by
 by_cases ht : 0 ≤ t ∧ t < 4
 rotate_left
 · go_enter Tryz.func134, Tryz.ntmps134
   go_wp2_with (go_at_call 59; refine (Qby kb t _ ht).mono ?_; rintro e w1 ⟨rfl, rfl⟩)
   go_ret
   exact ⟨rfl, rfl⟩
 · obtain ⟨u, hu⟩ : ∃ u : Nat, t = u := ⟨t.toNat, by omega⟩
   subst hu
   have h4 : u < 4 := by omega
   have h1 : u < V.length := by rw [h.len]; exact h4
   have h2 : u < K.ths.length := by rw [h.lenK]; exact h4
   have hT := h.tat u h1 h2
   obtain ⟨_, _, _, t3, _⟩ := hT.cells
   obtain ⟨_, _, j2, _⟩ := hT.thr.2.2.1
   obtain ⟨pj, cj, hj⟩ := Qo j2
   rw [hj] at t3
   have hbad : n < 0 ∨ (K.ths[u].objs.length : Int) ≤ n := by
    unfold objAt getT at hno
    rw [if_pos (by omega)] at hno
    simp only [Int.toNat_natCast, List.getElem?_eq_getElem h2] at hno
    split at hno
    · right
      have := List.getElem?_eq_none_iff.1 hno
      omega
    · left; omega
   generalize K.ths[u].objs.length = m at t3 hbad
   clear hT hno j2 hj
   by_cases hn : n < 0
   · go_enter Tryz.func134, Tryz.ntmps134
     go_wp2_with (go_at_call 59; refine (QJ kb u _ h4).mono ?_; rintro e w1 ⟨rfl, rfl⟩)
     go_ret
     exact ⟨rfl, rfl⟩
   · have hm : (m : Int) ≤ n := by omega
     go_enter Tryz.func134, Tryz.ntmps134
     go_wp2_with (go_at_call 59; refine (QJ kb u _ h4).mono ?_; rintro e w1 ⟨rfl, rfl⟩)
     go_ret
     exact ⟨rfl, rfl⟩
theorem Qba (kb u i g cap m : Nat) (F : List Nat) (v : ThrV) (th : Thr) (w : World) (h : TAt w kb (2 + u * 5) F v th) (h4 : u < 4) (hi : i < m) (hv : v.vj = .slice (some ⟨g, 0, none⟩) m cap) :
 Calls Tryz.prog 134 #[.pointer (some ⟨kb, 0, none⟩), .int .i64 u, .int .i64 i] w fun e w' => e = .returned (.pointer (some ⟨g, i * 2, none⟩)) ∧ w' = w := by
 obtain ⟨_, _, _, t3, _⟩ := h.cells
 rw [hv] at t3
 clear h
 have h0 : ¬ ((i : Int) < 0) := by omega
 have h1 : ¬ ((m : Int) ≤ i) := by omega
 have h2 : (i : Int) < m := by omega
 go_enter Tryz.func134, Tryz.ntmps134
 go_wp2_with (go_at_call 59; refine (QJ kb u _ h4).mono ?_; rintro e w1 ⟨rfl, rfl⟩)
 go_ret
 exact ⟨rfl, rfl⟩
theorem Qkb (vs : List Value) (os : List Obt) (h : vs.length = os.length) (i : Nat) (hi : i < os.length) (x : List UInt8) : (flatO vs os).set (i * 2 + 1) (.string ⟨x.toArray⟩) = flatO vs (os.modify i fun o => { o with text := x }) := by
 induction vs generalizing os i with
 | nil => simp at h; omega
 | cons y r ih =>
  cases os with
  | nil => simp at hi
  | cons z t =>
   have e : flatO (y :: r) (z :: t) = y :: .string ⟨z.text.toArray⟩ :: flatO r t := rfl
   cases i with
   | zero => rw [e]; rfl
   | succ i =>
    rw [e, show (i + 1) * 2 + 1 = i * 2 + 1 + 1 + 1 by omega, List.set_cons_succ, List.set_cons_succ, ih t (by simpa using h) i (by simpa using hi)]
    rfl
theorem TAt.put {w : World} {kb o : Nat} {F : List Nat} {v : ThrV} {th : Thr} (h : TAt w kb o F v th) {g cap i : Nat} (hv : v.vj = .slice (some ⟨g, 0, none⟩) th.objs.length cap) (hi : i < th.objs.length) (x : List UInt8) :
 TAt (w.setCell ⟨g, i * 2 + 1, none⟩ (.string ⟨x.toArray⟩)) kb o F v (putO th i x) ∧ TStep kb o w F v (w.setCell ⟨g, i * 2 + 1, none⟩ (.string ⟨x.toArray⟩)) F v := by
 have hkr := h.kb_rows
 obtain ⟨⟨C, hC, hc⟩, ⟨t1, t2, t3, t4⟩, h3, h4, h5⟩ := h
 have hgv : v.vj.ownBlock = some g := by rw [hv]; rfl
 have hgF : g ∈ F := h3 g (mem_rows.2 (.inr (.inl hgv)))
 have hne : kb ≠ g := fun e => hkr (mem_rows.2 (.inr (.inl (by rw [hgv, e]))))
 have hk : KeptF [g] w (w.setCell ⟨g, i * 2 + 1, none⟩ (.string ⟨x.toArray⟩)) := Qai w g _ _ (by simp)
 have hR : ∀ k ∈ [g], k ∈ F := fun k e => by simp at e; subst e; exact hgF
 obtain ⟨vs, j1, j2, j3⟩ := t3
 have m2 := t4
 obtain ⟨_, _, m2, _⟩ := m2
 refine ⟨⟨⟨C, hk.heap hC (by simpa using hne), hc⟩, ⟨t1.keep (hk.sub fun k e => .inl (hR k e)) (More.refl _ _), QP t2 hk (fun k e g2 => ?_), ⟨vs, ?_, ?_, fun j g1 g2 => ?_⟩, t4.keep hk hR (More.refl _ _) (fun k e g2 => ?_)⟩, h3, h4, fun k e => by simpa using h5 k e⟩, ⟨hk.sub fun k e => .inl ?_, fun D hD => ⟨D, hk.heap hD (by simpa using hne), rfl, fun _ _ => rfl⟩, fun _ h => .inl h, More.refl _ _⟩⟩
 · simp at g2; subst g2; exact Qac t2 j2 (by decide) e hgv
 · show vs.length = (th.objs.modify _ _).length
   rw [List.length_modify]; exact j1
 · show (w.setCell _ _).ownsRow 0 56 2 v.vj (th.objs.modify _ _).length (flatO vs (th.objs.modify _ _))
   rw [List.length_modify, Int.toNat_natCast, ← Qkb vs th.objs j1 i hi x]
   rw [hv] at j2 ⊢
   exact Qi8 j2 (by omega) _
 · have e : ((putO th i x).objs[j]'g2).label = (th.objs[j]'(by have := g2; simp [putO] at this; exact this)).label := by
    simp only [putO, List.getElem_modify]
    split <;> rfl
   rw [e]
   exact (j3 j g1 _).keep (hk.sub fun k e => .inl (hR k e)) (More.refl _ _)
 · simp at g2; subst g2; exact Qac m2 j2 (by decide) e hgv
 · simp at e; subst e; exact List.mem_cons_of_mem _ (mem_rows.2 (.inr (.inl hgv)))
set_option maxRecDepth 100000 in
set_option maxHeartbeats 1600000 in
theorem Qfx (kb o : Nat) (F : List Nat) (v : ThrV) (th : Thr) (c n : Int) (w : World) (h : TAt w kb o F v th) (hl : th.own.length ≤ 1000) :
 Calls Tryz.prog 95 #[.pointer (some ⟨kb, o, none⟩), .int .i64 c, .int .i64 n] w fun e w' => e = .returned (.int .i64 (levelL th c n).2) ∧ ∃ v', TAt w' kb o F v' (levelL th c n).1 ∧ TStep kb o w F v w' F v' := by
 have HL : Hid (levelL th c n = if setE th.label c n = 0 then (if flowsL th.label (setL th.label c n) th.own then ({ th with label := setL th.label c n }, 0) else (th, 6)) else (th, setE th.label c n)) := hid rfl
 have HE : Hid (setE th.label c n = if setB th.label c n = false then 2 else if 8 < (setL th.label c n).length then 5 else 0) := hid rfl
 obtain ⟨t0, t1, _, _, _⟩ := h.cells
 obtain ⟨ptl, ctl, hvl, _⟩ := id h.thr.1.1
 obtain ⟨po, co, hvo⟩ := ownV h.thr.2.1
 have HT := hid h
 have HV := hid hvo
 have HVL := hid hvl
 have hsb := Qmf v.vl th.label c n w h.thr.1.1
 have hsg := Qme v.vl th.label c n w h.thr.1.1
 rw [hvl] at t0 hsb hsg
 rw [hvo] at t1
 clear h hvo hvl
 cases hb : setB th.label c n with
 | false =>
  have HL2 : Hid (levelL th c n = (th, 2)) := hid (by rw [HL.out, HE.out, hb]; rfl)
  have hsb := hsb hb
  clear hsg HL HE
  go_enter Tryz.func95, Tryz.ntmps95
  go_wp2_with (go_at_call 136; refine hsb.mono ?_; rintro e w1 ⟨rfl, hw1⟩)
  go_ret
  rw [HL2.out]
  exact ⟨rfl, v, HT.out.below hw1, TStep.below hw1⟩
 | true =>
  have hsg := hsg hb
  clear hsb
  by_cases h8 : 8 < (setL th.label c n).length
  · have HL2 : Hid (levelL th c n = (th, 5)) := hid (by rw [HL.out, HE.out, hb, if_pos h8]; rfl)
    clear HL HE
    simp only [if_pos h8] at hsg
    go_enter Tryz.func95, Tryz.ntmps95
    go_wp2_with (go_at_call 136; refine hsg.mono ?_; rintro e w1 ⟨v1, x1, rfl, ⟨rfl, rfl⟩, hw1⟩)
    go_ret
    rw [HL2.out]
    exact ⟨rfl, v, HT.out.below hw1, TStep.below hw1⟩
  · have HL2 : Hid (levelL th c n = if flowsL th.label (setL th.label c n) th.own then ({ th with label := setL th.label c n }, 0) else (th, 6)) := hid (by rw [HL.out, HE.out, hb, if_neg h8]; rfl)
    clear HL HE
    simp only [if_neg h8] at hsg
    generalize setL th.label c n = l2 at *
    have HO := hid (Qag HT.out.thr.2.1 hl)
    cases hf : flowsL th.label l2 th.own with
    | false =>
     have HL3 : Hid (levelL th c n = (th, 6)) := hid (by rw [HL2.out, hf]; rfl)
     clear HL2
     go_enter Tryz.func95, Tryz.ntmps95
     go_wp2_with (go_at_call 136; refine hsg.mono ?_; rintro e w1 ⟨v1, x1, rfl, ⟨rfl, hv1⟩, hw1⟩; obtain ⟨p1, c1, rfl, _⟩ := id hv1.1; have HV1 := hid hv1; have HB1 := hid hw1; have s0 := hw1.cell (Qf t0); rw [t0] at s0; have s1 := hw1.cell (Qf t1); rw [t1] at s1; have hfl := fun wx (hbx : Below w1.heap.size w1 wx) => Q4 _ _ _ th.label l2 th.own wx (HT.out.thr.1.1.below (Qc hw1 hbx)) (hv1.1.below hbx) (HO.out.below (Qc hw1 hbx)); rw [HVL.out, HV.out, hf] at hfl; clear hv1 hw1)
     go_region_held3 (fun w' => w'.cell? ⟨kb, o, none⟩ = some (.slice ptl th.label.length ctl) ∧ w'.cell? ⟨kb, o + 1, none⟩ = some (.slice po th.own.length co)) (go_keep)
      (first | (go_at_call 14; refine (hfl _ (Below.refl _ _).drew).mono ?_; rintro e w5 ⟨rfl, hw5d⟩; have hw5 := kundrew hw5d; have hb5 := Qc HB1.out hw5; have r0 := hw5.cell (Qf s0); rw [s0] at r0; have r1 := hw5.cell (Qf s1); rw [s1] at r1))
     all_goals
      go_wp2
      go_ret
      rw [HL3.out]
      exact ⟨rfl, v, HT.out.below hb5, TStep.below hb5⟩
    | true =>
     have HL3 : Hid (levelL th c n = ({ th with label := l2 }, 0)) := hid (by rw [HL2.out, hf]; rfl)
     clear HL2
     go_enter Tryz.func95, Tryz.ntmps95
     go_wp2_with (go_at_call 136; refine hsg.mono ?_; rintro e w1 ⟨v1, x1, rfl, ⟨rfl, hv1⟩, hw1⟩; obtain ⟨p1, c1, rfl, _⟩ := id hv1.1; have HV1 := hid hv1; have HB1 := hid hw1; have s0 := hw1.cell (Qf t0); rw [t0] at s0; have s1 := hw1.cell (Qf t1); rw [t1] at s1; have hfl := fun wx (hbx : Below w1.heap.size w1 wx) => Q4 _ _ _ th.label l2 th.own wx (HT.out.thr.1.1.below (Qc hw1 hbx)) (hv1.1.below hbx) (HO.out.below (Qc hw1 hbx)); rw [HVL.out, HV.out, hf] at hfl; clear hv1 hw1)
     go_region_held3 (fun w' => w'.cell? ⟨kb, o, none⟩ = some (.slice ptl th.label.length ctl) ∧ w'.cell? ⟨kb, o + 1, none⟩ = some (.slice po th.own.length co)) (go_keep)
      (first | (go_at_call 14; refine (hfl _ (Below.refl _ _).drew).mono ?_; rintro e w5 ⟨rfl, hw5d⟩; have hw5 := kundrew hw5d; have hb5 := Qc HB1.out hw5; have r0 := hw5.cell (Qf s0); rw [s0] at r0; have r1 := hw5.cell (Qf s1); rw [s1] at r1))
     all_goals
      have h5 := HT.out.below hb5
      have hfr := h5.frozen o
      have hro : RoLab w5 F (.slice p1 l2.length c1) l2 := ⟨HV1.out.1.below hw5, fun _ k hk hF => by have a1 := HV1.out.2 k hk; have a2 := HT.out.fin k hF; omega⟩
      have hst := h5.lab hro
      go_wp2
      go_ret
      rw [HL3.out]
      exact ⟨rfl, _, hst.1, (TStep.below hb5).trans hst.2⟩
end Go.Proofs.YtpdijobakfpnbaaGreat
