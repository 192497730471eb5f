/- kernel.answer; appends of objects and clones of labels as steps of a region that draws. -/
import Derived.Test.YtpdijobakfpnbaaQKMail
import Derived.Deep.RegionLaw
import Derived.BigCall
import Derived.Test.YtpdijobakfpnbaaQFromB
namespace Go.Proofs.Ytpdijobakfpnbaa
open Go.RowKit Go.Proofs.Parclose
def repV (r : Rep) : Value := .agg #[.int .i64 r.code, .int .i64 r.n, .string ⟨r.text.toArray⟩]
theorem kundrew {w w' : World} (h : Below w.drew.heap.size w.drew w') : Below w.heap.size w w' := ⟨h.os, h.tape, h.output, h.size, h.block⟩
theorem Qfm (e : Int) (w : World) : Calls Try.prog 32 #[.int .i64 e] w fun e' w' => e' = .returned (repV (code e)) ∧ Below w.heap.size w w' := by
 go_enter Try.func32, Try.ntmps32
 go_wp2
 refine bodyPost_ret (results_cell_row rfl _ _ w.heap.size 52 _ (0, 0) _ rfl (heap_alloc_new w _) Try.underlying52 rfl (by kernel_rfl)) rfl ⟨rfl, Qe _ _⟩
theorem Qe8 (vs : List Value) (os : List Obt) (h : vs.length = os.length) (u : Value) (o : Obt) : flatO (vs ++ [u]) (os ++ [o]) = flatO vs os ++ [u, .string ⟨o.text.toArray⟩] := by
 induction vs generalizing os with
 | nil =>
  have : os = [] := List.length_eq_zero_iff.1 (by simpa using h.symm)
  subst this
  rfl
 | cons x r ih =>
  cases os with
  | nil => simp at h
  | cons y t =>
   show x :: .string ⟨y.text.toArray⟩ :: flatO (r ++ [u]) (t ++ [o]) = _
   rw [ih t (by simpa using h)]
   rfl
theorem QcF (vs : List (Value × Value)) (ms : List Mal) (h : vs.length = ms.length) (u : Value × Value) (m : Mal) : flatM (vs ++ [u]) (ms ++ [m]) = flatM vs ms ++ [.int .i64 m.host, .int .i64 m.thread, u.1, u.2, .string ⟨m.text.toArray⟩] := by
 induction vs generalizing ms with
 | nil =>
  have : ms = [] := List.length_eq_zero_iff.1 (by simpa using h.symm)
  subst this
  rfl
 | cons x r ih =>
  cases ms with
  | nil => simp at h
  | cons y t =>
   show .int .i64 y.host :: .int .i64 y.thread :: x.1 :: x.2 :: .string ⟨y.text.toArray⟩ :: flatM (r ++ [u]) (t ++ [m]) = _
   rw [ih t (by simpa using h)]
   rfl
theorem Qa0 {w : World} {t ty e : TypeId} {i : TypeInfo} {z : Value} {size bytes : Nat} (ht : Try.prog.underlying t = some (.slice e)) (hi : Try.prog.info? e = some i) (hz : i.zero = some z) (hsize : i.size = size) (hby : i.bytes = bytes) (hzs : z.cells.size = size) (hsz : 0 < size)
 {v : Value} {n : Nat} {xs : List Value} (hown : w.ownsRow 0 e size v n xs) {a : Addr} {m c : Nat} {news : List Value} (hl : news.length = m * size) (hnews : ∀ j u, news[j]? = some u → w.cell? (a.add j) = some u) (h1 : ∀ u ∈ news, u.oneCell' = true)
 (h63 : n + m ≤ maxLen) (hbytes : (n + m) * bytes ≤ 140737488355328) :
 ∃ v' w', (Builtin.append_ #[t, t] ty #[v, .slice (some a) m c]).run Try.prog w = .ok v' w' ∧ w'.ownsRow 0 e size v' (n + m) (xs ++ news) ∧ w.grownBy w' v.ownBlock ∧ ∀ k, v'.ownBlock = some k → v.ownBlock = some k ∨ w.heap.size ≤ k := by
 obtain ⟨v', w', hr, h2, h3, _⟩ := run_append_own (P := Try.prog) w 0 t ty e i z size bytes ht hi hz hsize hby hzs hsz v n xs hown a m c news hl hnews h1 h63 hbytes (Nat.zero_le _)
 refine ⟨v', w', hr, h2, h3, ?_⟩
 rcases hown.2 with ⟨rfl, rfl⟩ | ⟨g, cap, cur, rfl, hbg, hg, hnc, hcm, hcs, htake⟩
 · have hx : xs = [] := List.eq_nil_of_length_eq_zero (by simpa using hown.1)
   subst hx
   obtain ⟨v2, w2, hr2, k2, _, _⟩ := run_append_own (P := Try.prog) w w.heap.size t ty e i z size bytes ht hi hz hsize hby hzs hsz (.slice none 0 0) 0 [] (World.ownsRow_nil _ _ _ _) a m c news hl hnews h1 h63 hbytes (Nat.le_refl _)
   rw [hr] at hr2
   injection hr2 with e1 e2
   subst e1
   exact fun k hk => .inr (QE k2 hk)
 · subst hsize
   subst hby
   by_cases hroom : n + m ≤ cap
   · have hfit : n * i.size + news.length ≤ cur.size := by rw [hl, hcs, ← Nat.add_mul]; exact Nat.mul_le_mul_right _ hroom
     have hr2 := run_append_room (P := Try.prog) w t ty e i ht hi g n cap cur hg a m c news hl hnews h1 hroom hfit
     rw [hr] at hr2
     injection hr2 with e1 e2
     subst e1
     exact fun k hk => .inl hk
   · have holds : ∀ j u, xs[j]? = some u → w.cell? ((⟨g, 0, none⟩ : Addr).add j) = some u := hown.cells (g := g) rfl
     have hr2 := run_append_grow (P := Try.prog) w t ty e i z ht hi hz ⟨g, 0, none⟩ n cap xs hown.1 holds a m c news hl hnews (by omega) (by simp only [maxLen] at h63; omega) (growslice_fits (by omega) hbytes)
     rw [hr] at hr2
     injection hr2 with e1 e2
     subst e1
     exact fun k hk => .inr (by cases hk; exact Nat.le_refl _)
theorem Qb0 {w : World} {ops : Array Oper} {o : Oper} {a0 : Act} {K : Act → World → Prop} {Q : Exit → Act → World → Prop} {E : Prop} (hgd : o.guard = none) (s x : Operand)
 (ho : o.op = .call { callee := .builtin .append, args := #[s, x], argTypes := #[32, 32] }) (v : Value) (n : Nat) (xs : List Value) (hs : a0.eval s = v) (hown : w.ownsRow 0 80 2 v n xs)
 (g : Nat) (x1 x2 : Value) (hx : a0.eval x = .slice (some ⟨g, 0, none⟩) 1 1) (hc : ∀ j u, [x1, x2][j]? = some u → w.cell? ((⟨g, 0, none⟩ : Addr).add j) = some u) (h1 : ∀ u ∈ [x1, x2], u.oneCell' = true) (hn : n ≤ 1000)
 (h : ∀ v' w', w'.ownsRow 0 80 2 v' (n + 1) (xs ++ [x1, x2]) → w.grownBy w' v.ownBlock → (∀ k, v'.ownBlock = some k → v.ownBlock = some k ∨ w.heap.size ≤ k) → K (a0.put o.dst v') w') :
 if Region.wanted o (yielded ops a0.tmps) = true then Oper.wp Try.prog o a0 w K Q else E := by
 have hw : Region.wanted o (yielded ops a0.tmps) = true := by simp [Region.wanted, hgd]
 rw [if_pos hw]
 obtain ⟨i0, hi, hz0, hz1, hz2⟩ := info_parts Qb3
 obtain ⟨v', w', hr, k1, k2, k3⟩ := Qa0 (ty := o.type) (c := 1) Try.underlying32 hi hz0 hz1 hz2 rfl (by decide) hown (m := 1) (news := [x1, x2]) rfl hc h1 (by unfold maxLen; omega) (by omega)
 unfold Oper.wp execOp
 simp only [ho, resolve, invoke, builtin, Sem.run_bind, Sem.run_pure, Result.andThen_ok, List.map_toArray, List.map_cons, List.map_nil, hs, hx, hr]
 exact h v' w' k1 k2 k3
theorem QdF (args : Array Value) (w : World) : (callFunc 45 args).run Try.prog w = .ok (.enter 45 args) w := by kernel_rfl
theorem QdW {w : World} {ops : Array Oper} {o : Oper} {a0 : Act} {K : Act → World → Prop} {Q : Exit → Act → World → Prop} {E : Prop} (hgd : o.guard = none) (x : Operand) (ats : Array TypeId)
 (ho : o.op = .call { callee := .value (.func 45), args := #[x], argTypes := ats }) (v : Value) (l : List (Int × Int)) (hx : a0.eval x = v) (hv : LabAt w v l)
 (h : ∀ v' w', w'.ownsRow w.heap.size 86 2 v' l.length (flat2 l) → Below w.heap.size w w' → K (a0.put o.dst v') w') :
 if Region.wanted o (yielded ops a0.tmps) = true then Oper.wp Try.prog o a0 w K Q else E := by
 have hw : Region.wanted o (yielded ops a0.tmps) = true := by simp [Region.wanted, hgd]
 rw [if_pos hw]
 unfold Oper.wp
 obtain ⟨dst, op, ty, pos, after, guard⟩ := o
 simp only at ho
 subst ho
 rw [execOp_call_go]
 have e : (#[] ++ #[x].map a0.eval ++ #[] : Array Value) = #[v] := by simp [hx]
 rw [e, QdF, Oper.upon_enter]
 refine (QaG v l w hv).mono ?_
 rintro e w' ⟨v', rfl, h1, h2⟩
 exact h v' w' h1 h2
theorem QaM (w : World) (F : List Nat) : More w F (F ++ [w.heap.size]) :=
 ⟨fun _ h => List.mem_append_left _ h, fun k h => by
  rcases List.mem_append.1 h with g | g
  · exact .inl g
  · simp at g; exact .inr (by omega)⟩
theorem TAt.reserve {w : World} {kb o : Nat} {F : List Nat} {v : ThrV} {th : Thr} (h : TAt w kb o F v th) (ob : Obj) : TAt (w.alloc ob) kb o (F ++ [w.heap.size]) v th ∧ TStep kb o w F v (w.alloc ob) (F ++ [w.heap.size]) v := by
 have hb := Qe w ob
 have hm := QaM w F
 obtain ⟨⟨C, hC, hc⟩, h2, h3, h4, h5⟩ := h
 refine ⟨⟨⟨C, Qc hC hb, hc⟩, h2.keep (R := []) (Qk _ hb) (fun _ h => by cases h) hm (fun _ _ h => by cases h), fun k hk => hm.1 k (h3 k hk), hm.1 kb h4, fun k hk => ?_⟩, ⟨Qk _ hb, fun C hC => ⟨C, Qc hC hb, rfl, fun _ _ => rfl⟩, fun _ h => .inl h, hm⟩⟩
 rw [World.size_alloc]
 rcases List.mem_append.1 hk with g | g
 · have := h5 k g; omega
 · simp at g; omega
theorem TAt.boxed {w w' : World} {kb o : Nat} {F : List Nat} {v : ThrV} {th : Thr} {B : Nat} {C : Array Value} {t : TypeId} (h : TAt w kb o F v th) (hg : w.grownBy w' (some B)) (hB : B ∈ F) (hC : w.heap[B]? = some (.cells C t (0, 0))) (t1 : (58 : Nat) ≠ t) (t2 : (3 : Nat) ≠ t) (t3 : (80 : Nat) ≠ t) (t4 : (42 : Nat) ≠ t) : TAt w' kb o F v th := by
 obtain ⟨⟨D, hD, hd⟩, h2, h3, h4, h5⟩ := h
 have hk : KeptF [B] w w' := QD hg fun k e => .inl (by cases e; simp)
 have hne : kb ≠ B := fun e => by
  subst e
  rw [hC] at hD
  injection hD with hD
  injection hD with _ e2 _
  exact t1 e2.symm
 obtain ⟨_, o1, ⟨_, _, o2, _⟩, ⟨_, _, o3, _⟩⟩ := id h2
 refine ⟨⟨D, hk.heap hD (by simpa using hne), hd⟩, h2.keep hk (fun k e => by simp at e; subst e; exact hB) (More.refl _ _) (fun k e g => ?_), h3, h4, fun k e => Nat.lt_of_lt_of_le (h5 k e) hg.size⟩
 simp at g
 subst g
 rcases mem_rows.1 e with e | e | e
 · exact Qn o1 hC t2 e
 · exact Qn o2 hC t3 e
 · exact Qn o3 hC t4 e
theorem TStep.boxed {kb o : Nat} {w0 w w' : World} {F G : List Nat} {v0 v : ThrV} {B : Nat} (h : TStep kb o w0 F v0 w G v) (hg : w.grownBy w' (some B)) (hB : w0.heap.size ≤ B) (hne : kb ≠ B) : TStep kb o w0 F v0 w' G v := by
 refine ⟨⟨hg.os.trans h.kept.os, hg.tape.trans h.kept.tape, hg.output.trans h.kept.output, Nat.le_trans h.kept.size hg.size, fun k hk hn => ?_⟩, fun C hC => ?_, h.rows, h.more⟩
 · rw [hg.block k (by have := h.kept.size; omega) (fun e => by have := Option.some.inj e; omega), h.kept.block k hk hn]
 · obtain ⟨C', e1, e2, e3⟩ := h.box C hC
   exact ⟨C', by rw [hg.block kb (QJ e1) (fun e => hne (Option.some.inj e)), e1], e2, e3⟩
theorem QB (e : Int) (w : World) : Calls Try.prog 32 #[.int .i64 e] w fun e' w' => e' = .returned (.agg #[.int .i64 e, .int .i64 0, .string ⟨#[]⟩]) ∧ Below w.heap.size w w' := Qfm e w
theorem Qcr (w : World) : (w.alloc (.cells #[.int .i64 0, .int .i64 0, .string ⟨#[]⟩] 52)).heap[w.heap.size]? = some (.cells #[.int .i64 0, .int .i64 0, .string ⟨#[]⟩] 52 (0, 0)) := heap_alloc_new w _
abbrev st3 (w : World) (b : Nat) (x0 x1 x2 : Value) : World := ((w.setCell ⟨b, 0, none⟩ x0).setCell ⟨b, 1, none⟩ x1).setCell ⟨b, 2, none⟩ x2
theorem QA {w : World} {b : Nat} {t : TypeId} {y0 y1 y2 : Value} (x0 x1 x2 : Value) (h : w.heap[b]? = some (.cells #[y0, y1, y2] t (0, 0))) : (st3 w b x0 x1 x2).heap[b]? = some (.cells #[x0, x1, x2] t (0, 0)) := by
 have h0 : (w.setCell ⟨b, 0, none⟩ x0).heap[b]? = some (.cells #[x0, y1, y2] t (0, 0)) := by rw [heap_setCell h x0]; rfl
 have h1 : ((w.setCell ⟨b, 0, none⟩ x0).setCell ⟨b, 1, none⟩ x1).heap[b]? = some (.cells #[x0, x1, y2] t (0, 0)) := by rw [heap_setCell h0 x1]; rfl
 rw [heap_setCell h1 x2]; rfl
theorem Qv (w : World) (b : Nat) (x0 x1 x2 : Value) : w.grownBy (st3 w b x0 x1 x2) (some b) := Qh (Qh (Qg w b 0 x0) (Qg _ b 1 x1)) (Qg _ b 2 x2)
theorem cells3 {w : World} {b : Nat} {t : TypeId} {y0 y1 y2 : Value} (h : w.heap[b]? = some (.cells #[y0, y1, y2] t (0, 0))) : w.cell? ⟨b, 0, none⟩ = some y0 ∧ w.cell? ⟨b, 1, none⟩ = some y1 ∧ w.cell? ⟨b, 2, none⟩ = some y2 ∧ w.frozen? ⟨b, 0, none⟩ = false ∧ w.frozen? ⟨b, 1, none⟩ = false ∧ w.frozen? ⟨b, 2, none⟩ = false :=
 ⟨Qa h 0, Qa h 1, Qa h 2, Qf h 0, Qf h 1, Qf h 2⟩
theorem Qay {kb o : Nat} {w w1 : World} {F G : List Nat} {v v1 : ThrV} {th1 : Thr} {y0 y1 y2 : Value} (x0 x1 : Int) (x2 : List UInt8) (hb : w1.heap[w.heap.size]? = some (.cells #[y0, y1, y2] 52 (0, 0))) (hF : w.heap.size ∈ G) (h1 : TAt w1 kb o G v1 th1) (hs : TStep kb o w F v w1 G v1) (hk : kb < w.heap.size) :
 (st3 w1 w.heap.size (.int .i64 x0) (.int .i64 x1) (.string ⟨x2.toArray⟩)).heap[w.heap.size]? = some (.cells #[.int .i64 x0, .int .i64 x1, .string ⟨x2.toArray⟩] 52 (0, 0)) ∧ TAt (st3 w1 w.heap.size (.int .i64 x0) (.int .i64 x1) (.string ⟨x2.toArray⟩)) kb o G v1 th1 ∧ TStep kb o w F v (st3 w1 w.heap.size (.int .i64 x0) (.int .i64 x1) (.string ⟨x2.toArray⟩)) G v1 :=
 ⟨QA _ _ _ hb, h1.boxed (Qv _ _ _ _ _) hF hb (by decide) (by decide) (by decide) (by decide), hs.boxed (Qv _ _ _ _ _) (Nat.le_refl _) (by omega)⟩
theorem TAt.lt {w : World} {kb o : Nat} {F : List Nat} {v : ThrV} {th : Thr} (h : TAt w kb o F v th) : kb < w.heap.size := h.fin kb h.kbF
theorem Qc7 {w w1 : World} {G : List Nat} {B : Nat} {v v7 u : Value} {vs : List Value} {os : List Obt} {l : List (Int × Int)} (h1 : vs.length = os.length) (hold : w.ownsRow 0 80 2 v os.length (flatO vs os)) (h3 : ∀ j (g1 : j < vs.length) (g2 : j < os.length), RoLab w G vs[j] os[j].label)
 (hv : ∀ k, v.ownBlock = some k → k ∈ G) (hl : w.ownsRow B 86 2 u l.length (flat2 l)) (hlen : l.length ≤ 8796093022208) (hB : ∀ k ∈ G, k < B) (hown : w1.ownsRow 0 80 2 v7 (os.length + 1) (flatO vs os ++ [u, .string ⟨#[]⟩])) (hg : w.grownBy w1 v.ownBlock)
 (hwh : ∀ k, v7.ownBlock = some k → v.ownBlock = some k ∨ w.heap.size ≤ k) : ObjsAt w1 (G ++ v7.ownBlock.toList) v7 (os ++ [⟨l, []⟩]) := by
 have hk : KeptF v.ownBlock.toList w w1 := QD hg fun k e => .inl (by rw [e]; simp)
 have hm := Qau w G hv hwh
 have hl1 := Qdp hl hold (by decide) hg
 refine ⟨vs ++ [u], by simp [h1], ?_, fun j g1 g2 => ?_⟩
 · rw [Qe8 vs os h1, List.length_append]
   exact hown
 · by_cases hj : j < vs.length
   · rw [List.getElem_append_left hj, List.getElem_append_left (by omega)]
     exact (h3 j hj (by omega)).keep (hk.sub fun k e => .inl (hv k (Qo e))) hm
   · have ej : j = vs.length := by simp at g1; omega
     subst ej
     rw [List.getElem_append_right (Nat.le_refl _), List.getElem_append_right (by omega)]
     simp only [h1, Nat.sub_self, List.getElem_cons_zero]
     refine ⟨QY hl1 hlen, fun _ k e hF => ?_⟩
     have hb := QE hl1 e
     rcases List.mem_append.1 hF with g | g
     · have := hB k g; omega
     · exact Qac hl1 hown (by decide) e (Qo g)
set_option maxRecDepth 100000 in
set_option maxHeartbeats 3200000 in
theorem QcN (kb o : Nat) (F : List Nat) (v : ThrV) (th : Thr) (vl : Value) (l : List (Int × Int)) (w : World) (h : TAt w kb o F v th) (hl : th.own.length ≤ 1000) (hob : th.objs.length ≤ 1000) (hv : LabAt w vl l) :
 Calls Try.prog 34 #[.pointer (some ⟨kb, o, none⟩), vl] w fun e w' => e = .returned (repV (objectL th l).2) ∧ ∃ G v', TAt w' kb o G v' (objectL th l).1 ∧ TStep kb o w F v w' G v' := by
 have HL : Hid (objectL th l = if goodB l then (if flowsL th.label l th.own then (if 4 ≤ th.objs.length then (th, code 5) else ({ th with objs := th.objs ++ [⟨l, []⟩] }, ⟨0, (th.objs.length : Int), []⟩)) else (th, code 6)) else (th, code 2)) := hid rfl
 have hkb := h.lt
 have HKB := hid hkb
 have hr := h.reserve (.cells #[.int .i64 0, .int .i64 0, .string ⟨#[]⟩] 52)
 have HR := hid hr
 have hbx := Qcr w
 have HBX := hid hbx
 have hmem : w.heap.size ∈ F ++ [w.heap.size] := by simp
 have HMEM := hid hmem
 have hgood := fun wx (hb : Below w.heap.size w wx) => QaD vl l wx (hv.below hb)
 have HV := hid hv
 obtain ⟨p, cp, rfl, _⟩ := id hv
 obtain ⟨t0, t1, _, t3, _⟩ := h.cells
 obtain ⟨ptl, ctl, hvl, _⟩ := id h.thr.1.1
 obtain ⟨po, co, hvo⟩ := ownV h.thr.2.1
 obtain ⟨vs, hvs, hown, hros⟩ := h.thr.2.2.1
 obtain ⟨pj, cj, hvj⟩ := Qi hown
 have HOB := hid hown
 have HVS := hid hvs
 have HVJ := hid hvj
 have hfl := fun wx (hb : Below w.heap.size w wx) => QS _ _ _ th.label l th.own wx (h.thr.1.1.below hb) (hv.below hb) ((QV h.thr.2.1 hl).below hb)
 rw [hvl] at t0
 rw [hvo] at t1
 rw [hvl, hvo] at hfl
 rw [hvj] at t3
 have HT := hid h
 have HROS := hid hros
 clear hv hbx hmem hr h hkb hvl hvo hvj hown hvs hros
 cases hg : goodB l with
 | false =>
  have HL2 : Hid (objectL th l = (th, code 2)) := hid (by rw [HL.out, hg]; rfl)
  rw [hg] at hgood
  clear HL
  go_enter Try.func34, Try.ntmps34
  go_wp2_with (first
   | (go_at_call 51; refine (hgood _ (Qe _ _)).mono ?_; rintro e w1 ⟨rfl, hw1⟩; have HB1 := hid hw1; clear hw1)
   | (go_at_call 32; refine (QB _ _).mono ?_; rintro e w2 ⟨rfl, hw2⟩; have HB2 := hid (Qd HB1.out hw2); have hb2 := Qc HBX.out HB2.out; obtain ⟨c0, c1, c2, f0, f1, f2⟩ := cells3 hb2; have HX2 := hid hb2; clear hb2 hw2))
  obtain ⟨e1, e2, e3⟩ := Qay 2 0 [] HX2.out HMEM.out (HR.out.1.below HB2.out) (HR.out.2.trans (TStep.below HB2.out)) HKB.out
  refine bodyPost_ret (results_cell_row rfl _ _ w.heap.size 52 _ (0, 0) _ rfl e1 Try.underlying52 rfl (by kernel_rfl)) rfl ⟨?_, ?_⟩
  · rw [HL2.out]; rfl
  · rw [HL2.out]; exact ⟨_, _, e2, e3⟩
 | true =>
  rw [hg] at hgood
  cases hf : flowsL th.label l th.own with
  | false =>
   have HL2 : Hid (objectL th l = (th, code 6)) := hid (by rw [HL.out, hg, hf]; rfl)
   rw [hf] at hfl
   clear HL t3
   go_enter Try.func34, Try.ntmps34
   go_wp2_with (go_at_call 51; refine (hgood _ (Qe _ _)).mono ?_; rintro e w1 ⟨rfl, hw1⟩; have HB1 := hid hw1; have hb1 := Qd (Qe _ _) hw1; have s0 := hb1.cell (Qb t0); rw [t0] at s0; have s1 := hb1.cell (Qb t1); rw [t1] at s1; clear hw1)
   go_region_held3 (fun w' => w'.cell? ⟨kb, o, none⟩ = some (.slice ptl th.label.length ctl) ∧ w'.cell? ⟨kb, o + 1, none⟩ = some (.slice po th.own.length co)) (go_keep)
    (first | (go_at_call 31; refine (hfl _ hb1.drew).mono ?_; rintro e w5 ⟨rfl, hw5d⟩; have hw5 := kundrew hw5d; have HB5 := hid (Qd HB1.out hw5); have r0 := hw5.cell (Qb s0); rw [s0] at r0; have r1 := hw5.cell (Qb s1); rw [s1] at r1; clear hw5d hw5))
   all_goals
    go_wp2_with (go_at_call 32; refine (QB _ _).mono ?_; rintro e w2 ⟨rfl, hw2⟩; have HB2 := hid (Qd HB5.out hw2); have hb2 := Qc HBX.out HB2.out; obtain ⟨c0, c1, c2, f0, f1, f2⟩ := cells3 hb2; have HX2 := hid hb2; clear hb2 hw2)
    obtain ⟨e1, e2, e3⟩ := Qay 6 0 [] HX2.out HMEM.out (HR.out.1.below HB2.out) (HR.out.2.trans (TStep.below HB2.out)) HKB.out
    refine bodyPost_ret (results_cell_row rfl _ _ w.heap.size 52 _ (0, 0) _ rfl e1 Try.underlying52 rfl (by kernel_rfl)) rfl ⟨?_, ?_⟩
    · rw [HL2.out]; rfl
    · rw [HL2.out]; exact ⟨_, _, e2, e3⟩
  | true =>
   rw [hf] at hfl
   by_cases h4 : 4 ≤ th.objs.length
   · have HL2 : Hid (objectL th l = (th, code 5)) := hid (by rw [HL.out, hg, hf, if_pos h4]; rfl)
     clear HL
     go_enter Try.func34, Try.ntmps34
     go_wp2_with (go_at_call 51; refine (hgood _ (Qe _ _)).mono ?_; rintro e w1 ⟨rfl, hw1⟩; have HB1 := hid hw1; have hb1 := Qd (Qe _ _) hw1; have s0 := hb1.cell (Qb t0); rw [t0] at s0; have s1 := hb1.cell (Qb t1); rw [t1] at s1; clear hw1)
     go_region_held3 (fun w' => w'.cell? ⟨kb, o, none⟩ = some (.slice ptl th.label.length ctl) ∧ w'.cell? ⟨kb, o + 1, none⟩ = some (.slice po th.own.length co)) (go_keep)
      (first | (go_at_call 31; refine (hfl _ hb1.drew).mono ?_; rintro e w5 ⟨rfl, hw5d⟩; have hw5 := kundrew hw5d; have HB5 := hid (Qd HB1.out hw5); have r0 := hw5.cell (Qb s0); rw [s0] at r0; have r1 := hw5.cell (Qb s1); rw [s1] at r1; clear hw5d hw5))
     all_goals
      have q3 := (Qd (Qe w _) HB5.out).cell (Qb t3)
      rw [t3] at q3
      go_wp2_with (go_at_call 32; refine (QB _ _).mono ?_; rintro e w2 ⟨rfl, hw2⟩; have HB2 := hid (Qd HB5.out hw2); have hb2 := Qc HBX.out HB2.out; obtain ⟨c0, c1, c2, f0, f1, f2⟩ := cells3 hb2; have HX2 := hid hb2; clear hb2 hw2)
      obtain ⟨e1, e2, e3⟩ := Qay 5 0 [] HX2.out HMEM.out (HR.out.1.below HB2.out) (HR.out.2.trans (TStep.below HB2.out)) HKB.out
      refine bodyPost_ret (results_cell_row rfl _ _ w.heap.size 52 _ (0, 0) _ rfl e1 Try.underlying52 rfl (by kernel_rfl)) rfl ⟨?_, ?_⟩
      · rw [HL2.out]; rfl
      · rw [HL2.out]; exact ⟨_, _, e2, e3⟩
   · have HL2 : Hid (objectL th l = ({ th with objs := th.objs ++ [⟨l, []⟩] }, ⟨0, (th.objs.length : Int), []⟩)) := hid (by rw [HL.out, hg, hf, if_neg h4]; rfl)
     clear HL
     go_enter Try.func34, Try.ntmps34
     go_wp2_with (go_at_call 51; refine (hgood _ (Qe _ _)).mono ?_; rintro e w1 ⟨rfl, hw1⟩; have HB1 := hid hw1; have hb1 := Qd (Qe _ _) hw1; have s0 := hb1.cell (Qb t0); rw [t0] at s0; have s1 := hb1.cell (Qb t1); rw [t1] at s1; clear hw1)
     go_region_held3 (fun w' => w'.cell? ⟨kb, o, none⟩ = some (.slice ptl th.label.length ctl) ∧ w'.cell? ⟨kb, o + 1, none⟩ = some (.slice po th.own.length co)) (go_keep)
      (first | (go_at_call 31; refine (hfl _ hb1.drew).mono ?_; rintro e w5 ⟨rfl, hw5d⟩; have hw5 := kundrew hw5d; have HB5 := hid (Qd HB1.out hw5); have r0 := hw5.cell (Qb s0); rw [s0] at r0; have r1 := hw5.cell (Qb s1); rw [s1] at r1; clear hw5d hw5))
     all_goals
      have q3 := (Qd (Qe w _) HB5.out).cell (Qb t3)
      rw [t3] at q3
      clear r0 r1 s0 s1 hb1
      have hT5 := HR.out.1.below HB5.out
      have hb5 := Qd (Qe w _) HB5.out
      have HT5 := hid hT5
      have hlt5 := hb5.size
      have hdec : (86 : Nat) ≠ 80 := by decide
      clear hT5
      go_wp2
      go_region_law ((first
       | (refine QdW (by rfl) (.tmp 35) #[30] (by rfl) (.slice p l.length cp) l (by rfl) (HV.out.below hb5.drew) ?_; intro v6 w6 hown6 hw6d; obtain ⟨p6, c6, rfl⟩ := Qi hown6; have hw6 := kundrew hw6d; have z3 := hw6.cell (Qb q3); rw [q3] at z3; have hlt6 : kb < w6.heap.size := Qb z3; have HOWN6 := hid hown6; have HW6 := hid hw6; clear hown6 hw6d hw6)
       | (refine Qb0 (by rfl) (.tmp 34) (.tmp 38) (by rfl) (.slice pj th.objs.length cj) th.objs.length (flatO vs th.objs) (by rfl) (by rw [← HVJ.out]; exact Ql (Ql HOB.out (Qd hb5 HW6.out)) (Qe w6 _)) w6.heap.size (.slice p6 l.length c6) (.string ⟨#[]⟩) (by rfl) (laid2 w6 _ _ _) (by intro u hu; simp at hu; rcases hu with rfl | rfl <;> rfl) (by omega) ?_; intro v7 w7 hown7 hg7 hwh7; obtain ⟨p7, c7, rfl⟩ := Qi hown7; have HT6 := hid ((HT5.out.below HW6.out).below (Qe w6 (.cells #[.slice p6 l.length c6, .string ⟨#[]⟩] 80))); have haf := HT6.out.after hg7 (fun k hk => mem_rows.2 (.inr (.inl (by rw [HVJ.out]; exact hk)))) HT6.out.cells.2.2.2.1; obtain ⟨y3, yf⟩ := haf; have HOWN7 := hid hown7; have HG7 := hid hg7; have HWH7 := hid hwh7; clear hown7 hg7 hwh7)))
      all_goals
       have hobjs := Qc7 (l := l) HVS.out (Ql (Ql (Ql HOB.out hb5) HW6.out) (Qe w6 (.cells #[.slice p6 l.length c6, .string ⟨#[]⟩] 80))) (fun j g1 g2 => (HROS.out j g1 g2).keep (Qk _ (Qd (Qd hb5 HW6.out) (Qe w6 _))) (QaM w F)) (fun k e => HT6.out.rows k (mem_rows.2 (.inr (.inl e)))) (Ql HOWN6.out (Qe w6 _)) HV.out.len (fun k e => HT5.out.fin k e) HOWN7.out (by rw [HVJ.out]; exact HG7.out) (by rw [HVJ.out]; exact HWH7.out)
       have hst := HT6.out.objs (by rw [HVJ.out]; exact HG7.out) hobjs (by rw [HVJ.out]; exact HWH7.out)
       have hbx7 : w7.heap[w.heap.size]? = some (.cells #[.int .i64 0, .int .i64 0, .string ⟨#[]⟩] 52 (0, 0)) := by
        have a1 := Qc (Qc (Qc HBX.out HB5.out) HW6.out) (Qe w6 (.cells #[.slice p6 l.length c6, .string ⟨#[]⟩] 80))
        rw [HG7.out.block w.heap.size (QJ a1) (fun e => ?_), a1]
        exact Qn (Ql (Ql (Ql HOB.out hb5) HW6.out) (Qe w6 (.cells #[.slice p6 l.length c6, .string ⟨#[]⟩] 80))) a1 (by decide) (by rw [HVJ.out]; exact e.symm)
       have hkne : w.heap.size ≠ kb := by have := HKB.out; omega
       have hbx8 := Qr hbx7 hkne (o + 3) (.slice p7 (th.objs.length + 1) c7)
       have hbs8 : TStep kb o w F v _ _ _ := ((HR.out.2.trans (TStep.below HB5.out)).trans ((TStep.below HW6.out).trans (TStep.below (Qe w6 _)))).trans hst.2
       obtain ⟨e1, e2, e3⟩ := Qay 0 (th.objs.length : Int) [] hbx8 (List.mem_append_left _ HMEM.out) hst.1 hbs8 HKB.out
       obtain ⟨c0, c1, c2, f0, f1, f2⟩ := cells3 hbx8
       have E1 := hid e1
       have E2 := hid e2
       have E3 := hid e3
       clear e1 e2 e3 hobjs hst hbx7 hbx8 hbs8
       go_wp2
       refine bodyPost_ret (results_cell_row rfl _ _ w.heap.size 52 _ (0, 0) _ rfl E1.out Try.underlying52 rfl (by kernel_rfl)) rfl ⟨?_, ?_⟩
       · rw [HL2.out]; rfl
       · rw [HL2.out]; exact ⟨_, _, E2.out, E3.out⟩
set_option maxRecDepth 100000 in
set_option maxHeartbeats 1600000 in
theorem Qdv (kb o : Nat) (F : List Nat) (v : ThrV) (th : Thr) (c n : Int) (w : World) (h : TAt w kb o F v th) (hl : th.own.length ≤ 1000) :
 Calls Try.prog 37 #[.pointer (some ⟨kb, o, none⟩), .int .i64 c, .int .i64 n] w fun e w' => e = .returned (.int .i64 (levelL th c n).2) ∧ ∃ v', TAt w' kb o F v' (levelL th c n).1 ∧ TStep kb o w F v w' F v' := by
 have HL : Hid (levelL th c n = if setE th.label c n = 0 then (if flowsL th.label (setL th.label c n) th.own then ({ th with label := setL th.label c n }, 0) else (th, 6)) else (th, setE th.label c n)) := hid rfl
 have HE : Hid (setE th.label c n = if setB th.label c n = false then 2 else if 8 < (setL th.label c n).length then 5 else 0) := hid rfl
 obtain ⟨t0, t1, _, _, _⟩ := h.cells
 obtain ⟨ptl, ctl, hvl, _⟩ := id h.thr.1.1
 obtain ⟨po, co, hvo⟩ := ownV h.thr.2.1
 have HT := hid h
 have HV := hid hvo
 have HVL := hid hvl
 have hsb := QgM v.vl th.label c n w h.thr.1.1
 have hsg := QgL v.vl th.label c n w h.thr.1.1
 rw [hvl] at t0 hsb hsg
 rw [hvo] at t1
 clear h hvo hvl
 cases hb : setB th.label c n with
 | false =>
  have HL2 : Hid (levelL th c n = (th, 2)) := hid (by rw [HL.out, HE.out, hb]; rfl)
  have hsb := hsb hb
  clear hsg HL HE
  go_enter Try.func37, Try.ntmps37
  go_wp2_with (go_at_call 58; refine hsb.mono ?_; rintro e w1 ⟨rfl, hw1⟩)
  go_ret
  rw [HL2.out]
  exact ⟨rfl, v, HT.out.below hw1, TStep.below hw1⟩
 | true =>
  have hsg := hsg hb
  clear hsb
  by_cases h8 : 8 < (setL th.label c n).length
  · have HL2 : Hid (levelL th c n = (th, 5)) := hid (by rw [HL.out, HE.out, hb, if_pos h8]; rfl)
    clear HL HE
    simp only [if_pos h8] at hsg
    go_enter Try.func37, Try.ntmps37
    go_wp2_with (go_at_call 58; refine hsg.mono ?_; rintro e w1 ⟨v1, x1, rfl, ⟨rfl, rfl⟩, hw1⟩)
    go_ret
    rw [HL2.out]
    exact ⟨rfl, v, HT.out.below hw1, TStep.below hw1⟩
  · have HL2 : Hid (levelL th c n = if flowsL th.label (setL th.label c n) th.own then ({ th with label := setL th.label c n }, 0) else (th, 6)) := hid (by rw [HL.out, HE.out, hb, if_neg h8]; rfl)
    clear HL HE
    simp only [if_neg h8] at hsg
    generalize setL th.label c n = l2 at *
    have HO := hid (QV HT.out.thr.2.1 hl)
    cases hf : flowsL th.label l2 th.own with
    | false =>
     have HL3 : Hid (levelL th c n = (th, 6)) := hid (by rw [HL2.out, hf]; rfl)
     clear HL2
     go_enter Try.func37, Try.ntmps37
     go_wp2_with (go_at_call 58; refine hsg.mono ?_; rintro e w1 ⟨v1, x1, rfl, ⟨rfl, hv1⟩, hw1⟩; obtain ⟨p1, c1, rfl, _⟩ := id hv1.1; have HV1 := hid hv1; have HB1 := hid hw1; have s0 := hw1.cell (Qb t0); rw [t0] at s0; have s1 := hw1.cell (Qb t1); rw [t1] at s1; have hfl := fun wx (hbx : Below w1.heap.size w1 wx) => QS _ _ _ th.label l2 th.own wx (HT.out.thr.1.1.below (Qd hw1 hbx)) (hv1.1.below hbx) (HO.out.below (Qd hw1 hbx)); rw [HVL.out, HV.out, hf] at hfl; clear hv1 hw1)
     go_region_held3 (fun w' => w'.cell? ⟨kb, o, none⟩ = some (.slice ptl th.label.length ctl) ∧ w'.cell? ⟨kb, o + 1, none⟩ = some (.slice po th.own.length co)) (go_keep)
      (first | (go_at_call 31; refine (hfl _ (Below.refl _ _).drew).mono ?_; rintro e w5 ⟨rfl, hw5d⟩; have hw5 := kundrew hw5d; have hb5 := Qd HB1.out hw5; have r0 := hw5.cell (Qb s0); rw [s0] at r0; have r1 := hw5.cell (Qb s1); rw [s1] at r1))
     all_goals
      go_wp2
      go_ret
      rw [HL3.out]
      exact ⟨rfl, v, HT.out.below hb5, TStep.below hb5⟩
    | true =>
     have HL3 : Hid (levelL th c n = ({ th with label := l2 }, 0)) := hid (by rw [HL2.out, hf]; rfl)
     clear HL2
     go_enter Try.func37, Try.ntmps37
     go_wp2_with (go_at_call 58; refine hsg.mono ?_; rintro e w1 ⟨v1, x1, rfl, ⟨rfl, hv1⟩, hw1⟩; obtain ⟨p1, c1, rfl, _⟩ := id hv1.1; have HV1 := hid hv1; have HB1 := hid hw1; have s0 := hw1.cell (Qb t0); rw [t0] at s0; have s1 := hw1.cell (Qb t1); rw [t1] at s1; have hfl := fun wx (hbx : Below w1.heap.size w1 wx) => QS _ _ _ th.label l2 th.own wx (HT.out.thr.1.1.below (Qd hw1 hbx)) (hv1.1.below hbx) (HO.out.below (Qd hw1 hbx)); rw [HVL.out, HV.out, hf] at hfl; clear hv1 hw1)
     go_region_held3 (fun w' => w'.cell? ⟨kb, o, none⟩ = some (.slice ptl th.label.length ctl) ∧ w'.cell? ⟨kb, o + 1, none⟩ = some (.slice po th.own.length co)) (go_keep)
      (first | (go_at_call 31; refine (hfl _ (Below.refl _ _).drew).mono ?_; rintro e w5 ⟨rfl, hw5d⟩; have hw5 := kundrew hw5d; have hb5 := Qd HB1.out hw5; have r0 := hw5.cell (Qb s0); rw [s0] at r0; have r1 := hw5.cell (Qb s1); rw [s1] at r1))
     all_goals
      have h5 := HT.out.below hb5
      have hfr := h5.frozen o
      have hro : RoLab w5 F (.slice p1 l2.length c1) l2 := ⟨HV1.out.1.below hw5, fun _ k hk hF => by have a1 := HV1.out.2 k hk; have a2 := HT.out.fin k hF; omega⟩
      have hst := h5.lab hro
      go_wp2
      go_ret
      rw [HL3.out]
      exact ⟨rfl, _, hst.1, (TStep.below hb5).trans hst.2⟩
end Go.Proofs.Ytpdijobakfpnbaa
