/- The reference's Deliver: a copy of mail, and append to a row that was cut, as steps of a region that draws. -/
import Derived.Test.YtpdijobakfpnbaaQKRLetter
import Derived.Test.YtpdijobakfpnbaaQKDelivD
import Derived.Test.YtpdijobakfpnbaaQKKer
import Derived.Test.YtpdijobakfpnbaaQPlain
namespace Go.Proofs.Ytpdijobakfpnbaa
open Go.RowKit Go.Proofs.Parclose
theorem QeD {w : World} {ops : Array Oper} {o : Oper} {a0 : Act} {K : Act → World → Prop} {Q : Exit → Act → World → Prop} {E : Prop} (hgd : o.guard = none) (s x : Operand)
 (ho : o.op = .call { callee := .builtin .append, args := #[s, x], argTypes := #[33, 33] }) (v : Value) (n : Nat) (xs : List Value) (hs : a0.eval s = v) (hown : cutRow w 42 5 v n xs)
 (g : Nat) (x1 x2 x3 x4 x5 : Value) (hx : a0.eval x = .slice (some ⟨g, 0, none⟩) 1 1) (hc : ∀ j u, [x1, x2, x3, x4, x5][j]? = some u → w.cell? ((⟨g, 0, none⟩ : Addr).add j) = some u) (h1 : ∀ u ∈ [x1, x2, x3, x4, x5], u.oneCell' = true) (hn : n ≤ 1000)
 (h : ∀ v' w', cutRow w' 42 5 v' (n + 1) (xs ++ [x1, x2, x3, x4, x5]) → w.grownBy w' v.ownBlock → (∀ k, v'.ownBlock = some k → v.ownBlock = some k ∨ w.heap.size ≤ k) → K (a0.put o.dst v') w') :
 if Region.wanted o (yielded ops a0.tmps) = true then Oper.wp Try.prog o a0 w K Q else E := by
 have hw : Region.wanted o (yielded ops a0.tmps) = true := by simp [Region.wanted, hgd]
 rw [if_pos hw]
 obtain ⟨i0, hi, hz0, hz1, hz2⟩ := info_parts Qbh
 obtain ⟨v', w', hr, k1, k2, k3⟩ := Qfl (ty := o.type) (c := 1) Try.underlying33 hi hz0 hz1 hz2 rfl (by decide) hown (news := [x1, x2, x3, x4, x5]) rfl hc h1 (by unfold maxLen; omega) (by omega)
 unfold Oper.wp execOp
 simp only [ho, resolve, invoke, builtin, Sem.run_bind, Sem.run_pure, Result.andThen_ok, List.map_toArray, List.map_cons, List.map_nil, hs, hx, hr]
 exact h v' w' k1 k2 k3
theorem Qck (args : Array Value) (w : World) : (callFunc 11 args).run Try.prog w = .ok (.enter 11 args) w := by kernel_rfl
theorem QcL {w : World} {ops : Array Oper} {o : Oper} {a0 : Act} {K : Act → World → Prop} {Q : Exit → Act → World → Prop} {E : Prop} (hgd : o.guard = none) (x : Operand) (ats : Array TypeId)
 (ho : o.op = .call { callee := .value (.func 11), args := #[x], argTypes := ats }) (v : Value) (m : Mal) (hx : a0.eval x = v) (hv : MalAt w v m)
 (h : ∀ p6 c6 q6 d6 w', w'.ownsRow w.heap.size 86 2 (.slice p6 m.label.length c6) m.label.length (flat2 m.label) → w'.ownsRow w.heap.size 3 1 (.slice q6 m.grants.length d6) m.grants.length (flat1 m.grants) → Below w.heap.size w w' → K (a0.put o.dst (.agg #[.int .i64 m.host, .int .i64 m.thread, .slice p6 m.label.length c6, .slice q6 m.grants.length d6, .string ⟨m.text.toArray⟩])) w') :
 if Region.wanted o (yielded ops a0.tmps) = true then Oper.wp Try.prog o a0 w K Q else E := by
 have hw : Region.wanted o (yielded ops a0.tmps) = true := by simp [Region.wanted, hgd]
 rw [if_pos hw]
 unfold Oper.wp
 obtain ⟨dst, op, ty, pos, after, guard⟩ := o
 simp only at ho
 subst ho
 rw [execOp_call_go]
 have e : (#[] ++ #[x].map a0.eval ++ #[] : Array Value) = #[v] := by simp [hx]
 rw [e, Qck, Oper.upon_enter]
 refine (Qbi v m w hv).mono ?_
 rintro e w' ⟨p, q, c, d, rfl, h1, h2, h3⟩
 exact h p c q d w' h1 h2 h3
theorem Qft {w w1 : World} {b : Nat} {e e' : TypeId} {s s' : Nat} {u v : Value} {n n' : Nat} {xs xs' : List Value} (h : w.ownsRow b e s u n xs) (h' : cutRow w e' s' v n' xs') (hne : e ≠ e') (hg : w.grownBy w1 v.ownBlock) : w1.ownsRow b e s u n xs := by
 refine h.kept hg ?_
 cases e1 : u.ownBlock with
 | none => exact .inl rfl
 | some k => exact .inr (fun e2 => QbL (Qax h) h' hne e1 e2.symm)
theorem QdY {w w1 : World} {G : List Nat} {B : Nat} {v v7 u1 u2 : Value} {vs : List (Value × Value)} {ms : List Mal} {m : Mal} (h1 : vs.length = ms.length) (hold : cutRow w 42 5 v ms.length (flatM vs ms)) (h3 : ∀ j (g1 : j < vs.length) (g2 : j < ms.length), RoLab w G vs[j].1 ms[j].label ∧ RoInts w G vs[j].2 ms[j].grants)
 (hv : ∀ k, v.ownBlock = some k → k ∈ G) (hl : w.ownsRow B 86 2 u1 m.label.length (flat2 m.label)) (hi : w.ownsRow B 3 1 u2 m.grants.length (flat1 m.grants)) (hlen : m.label.length ≤ 8796093022208) (hlen2 : m.grants.length ≤ 17592186044416) (hB : ∀ k ∈ G, k < B)
 (hown : cutRow w1 42 5 v7 (ms.length + 1) (flatM vs ms ++ [.int .i64 m.host, .int .i64 m.thread, u1, u2, .string ⟨m.text.toArray⟩])) (hg : w.grownBy w1 v.ownBlock)
 (hwh : ∀ k, v7.ownBlock = some k → v.ownBlock = some k ∨ w.heap.size ≤ k) : RMails w1 (G ++ v7.ownBlock.toList) v7 (ms ++ [m]) := by
 have hk : KeptF v.ownBlock.toList w w1 := QD hg fun k e => .inl (by rw [e]; simp)
 have hm := Qau w G hv hwh
 have hl1 := Qft hl hold (by decide) hg
 have hi1 := Qft hi hold (by decide) hg
 refine ⟨vs ++ [(u1, u2)], by simp [h1], ?_, fun j g1 g2 => ?_⟩
 · rw [QcF vs ms h1, List.length_append]
   exact hown
 · by_cases hj : j < vs.length
   · rw [List.getElem_append_left hj, List.getElem_append_left (by omega)]
     have hh := h3 j hj (by omega)
     exact ⟨hh.1.keep (hk.sub fun k e => .inl (hv k (Qo e))) hm, hh.2.keep (hk.sub fun k e => .inl (hv k (Qo e))) hm⟩
   · have ej : j = vs.length := by simp at g1; omega
     subst ej
     rw [List.getElem_append_right (Nat.le_refl _), List.getElem_append_right (by omega)]
     simp only [h1, Nat.sub_self, List.getElem_cons_zero]
     refine ⟨⟨QY hl1 hlen, fun _ k e hF => ?_⟩, ⟨QX hi1 hlen2, fun _ k e hF => ?_⟩⟩
     · have hb := QE hl1 e
       rcases List.mem_append.1 hF with g | g
       · have := hB k g; omega
       · exact QbL (Qax hl1) hown (by decide) e (Qo g)
     · have hb := QE hi1 e
       rcases List.mem_append.1 hF with g | g
       · have := hB k g; omega
       · exact QbL (Qax hi1) hown (by decide) e (Qo g)
theorem RKerAt.mails {w w1 : World} {rb : Nat} {F : List Nat} {V : List ThrV} {K : Ker} {t : Nat} {v7 : Value} {ms : List Mal} (h : RKerAt w rb F V K) (h1 : t < V.length) (h2 : t < K.ths.length) (hg : w.grownBy w1 V[t].vm.ownBlock) (hm : RMails w1 (F ++ v7.ownBlock.toList) v7 ms) (hwh : ∀ k, v7.ownBlock = some k → V[t].vm.ownBlock = some k ∨ w.heap.size ≤ k) :
 RKerAt (w1.setCell ⟨rb, 1 + t * 5 + 4, none⟩ v7) rb (F ++ v7.ownBlock.toList) (V.set t { V[t] with vm := v7 }) { K with ths := K.ths.set t { K.ths[t] with mails := ms } } ∧ RStep rb w F V (w1.setCell ⟨rb, 1 + t * 5 + 4, none⟩ v7) (F ++ v7.ownBlock.toList) (V.set t { V[t] with vm := v7 }) := by
 have hthr := h.thr t h1 h2
 have hv : ∀ k, V[t].vm.ownBlock = some k → k ∈ F := fun k e => h.rows t h1 k (mem_rrows.2 (.inr e))
 have hmr := Qau w F hv hwh
 have hk0 : KeptF V[t].vm.ownBlock.toList w w1 := QD hg fun k e => .inl (by rw [e]; simp)
 have hk : KeptF (rrows V[t]) w w1 := hk0.sub fun k e => .inl (mem_rrows.2 (.inr (Qo e)))
 have hR : ∀ k ∈ V[t].vm.ownBlock.toList, k ∈ F := fun k e => hv k (Qo e)
 have hr : ∀ k ∈ rrows { V[t] with vm := v7 }, k ∈ rrows V[t] ∨ w.heap.size ≤ k := fun k e => by
  rcases mem_rrows.1 e with e | e
  · exact .inl (mem_rrows.2 (.inl e))
  · rcases hwh k e with g | g
    · exact .inl (mem_rrows.2 (.inr g))
    · exact .inr g
 obtain ⟨r1, r2, r3, r4⟩ := hthr
 obtain ⟨_, _, o3, _⟩ := id r3
 obtain ⟨_, _, o4, _⟩ := id r4
 have ht : RThr w1 (F ++ v7.ownBlock.toList) { V[t] with vm := v7 } { K.ths[t] with mails := ms } :=
  ⟨r1.keep (hk0.sub fun k e => .inl (hR k e)) hmr, r2.keep (hk0.sub fun k e => .inl (hR k e)) hmr, r3.keep hk0 hR hmr (fun k e e2 => QbL (Qax o3) o4 (by decide) e (Qo e2)), hm⟩
 obtain ⟨_, _, o7, _⟩ := id hm
 refine ⟨h.store h1 h2 hk 4 (by omega) v7 rfl ht hr (fun k e => ?_) hmr (fun k e => ?_), RStep.store h1 hk hr hmr _ _⟩
 · rcases mem_rrows.1 e with e | e
   · exact List.mem_append_left _ (h.rows t h1 k (mem_rrows.2 (.inl e)))
   · exact List.mem_append_right _ (by rw [e]; simp)
 · rcases List.mem_append.1 e with g | g
   · exact Nat.lt_of_lt_of_le (h.fin k g) hg.size
   · exact Qgf o7 (Qo g)
theorem QeH {w w1 : World} {rb : Nat} {F : List Nat} {V : List ThrV} {K : Ker} {t : Nat} (h : RKerAt w rb F V K) (h1 : t < V.length) (h2 : t < K.ths.length) (hg : w.grownBy w1 V[t].vm.ownBlock) : w1.cell? ⟨rb, 1 + t * 5 + 4, none⟩ = some V[t].vm ∧ w1.frozen? ⟨rb, 1 + t * 5 + 4, none⟩ = false := by
 obtain ⟨C, hC, _, _, _, hcc⟩ := h.box
 have hb := (h.thr t h1 h2).box hC
 have hC1 : w1.heap[rb]? = some (.cells C 38 (0, 0)) := by rw [hg.block rb (QJ hC) (fun e => hb (mem_rrows.2 (.inr e.symm))), hC]
 exact ⟨by rw [Qa hC1, (hcc t h1 h2).2.2.2.2], Qf hC1 _⟩
theorem Qdy (rb : Nat) (t : Int) (v : Value) (m : Mal) (w : World) (hv : MalAt w v m) (ht : ¬ (0 ≤ t ∧ t < 4)) : Calls Try.prog 12 #[.pointer (some ⟨rb, 0, none⟩), .int .i64 t, v] w fun e w' => e = .returned (.tuple #[]) ∧ Below w.heap.size w w' := by
 have hf : hostB t = false := by unfold hostB; simp; omega
 have hfour := Qj t
 rw [hf] at hfour
 obtain ⟨vl, vg, rfl, hla, hgr⟩ := hv
 unfold malV
 go_enter Try.func12, Try.ntmps12
 go_wp2_with (go_at_call 23; refine (hfour _).mono ?_; rintro e w1 ⟨rfl, hw1⟩; rw [hw1]; clear hw1 w1)
 exact bodyPost_ret (results_none rfl _ _ _) rfl ⟨rfl, Qe _ _⟩
set_option maxRecDepth 100000 in
set_option maxHeartbeats 1600000 in
theorem QdA (rb t : Nat) (m : Mal) (v : Value) (w : World) (h4 : t < 4) (hv : MalAt w v m) (he : mailE m ≠ 0) : Calls Try.prog 12 #[.pointer (some ⟨rb, 0, none⟩), .int .i64 t, v] w fun e w' => e = .returned (.tuple #[]) ∧ Below w.heap.size w w' := by
 have hf : hostB t = true := by unfold hostB; simp; omega
 have hfour := Qj t
 rw [hf] at hfour
 have hgood := fun wx (hb : Below w.heap.size w wx) => Qad v m wx (hv.below hb)
 obtain ⟨vl, vg, rfl, hla, hgr⟩ := hv
 unfold malV at *
 have hE : (mailE m == 0) = false := beq_eq_false_iff_ne.2 he
 generalize mailE m = cE at *
 clear he
 go_enter Try.func12, Try.ntmps12
 go_wp2_with (first | (go_at_call 23; refine (hfour _).mono ?_; rintro e w1 ⟨rfl, hw1⟩; rw [hw1]; clear hw1 w1) | (go_at_call 25; refine (hgood _ (Qe _ _)).mono ?_; rintro e w2 ⟨rfl, hw2⟩))
 exact bodyPost_ret (results_none rfl _ _ _) rfl ⟨rfl, Qd (Qe _ _) hw2⟩
set_option maxRecDepth 100000 in
set_option maxHeartbeats 3200000 in
theorem QcU (rb t : Nat) (F : List Nat) (V : List ThrV) (K : Ker) (m : Mal) (v : Value) (w : World) (h : RKerAt w rb F V K) (h1 : t < V.length) (h2 : t < K.ths.length) (hv : MalAt w v m) (hwf : WfL K.ths[t].label) (he : mailE m = 0) (hfull : 6 ≤ K.ths[t].mails.length) :
 Calls Try.prog 12 #[.pointer (some ⟨rb, 0, none⟩), .int .i64 t, v] w fun e w' => e = .returned (.tuple #[]) ∧ Below w.heap.size w w' := by
 have h4 : t < 4 := by rw [← h.len]; exact h1
 have hf4 : hostB t = true := by unfold hostB; simp; omega
 have hfour := Qj t
 rw [hf4] at hfour
 have hgood := fun wx (hb : Below w.heap.size w wx) => Qad v m wx (hv.below hb)
 rw [he] at hgood
 have hthr := h.thr t h1 h2
 obtain ⟨C, hC, _, _, _, hcc⟩ := h.box
 obtain ⟨d0, d1, _, _, d4⟩ := hcc t h1 h2
 have x0 : w.cell? ⟨rb, 1 + t * 5, none⟩ = some V[t].vl := by rw [Qa hC, d0]
 have x1 : w.cell? ⟨rb, 1 + t * 5 + 1, none⟩ = some V[t].vo := by rw [Qa hC, d1]
 have x4 : w.cell? ⟨rb, 1 + t * 5 + 4, none⟩ = some V[t].vm := by rw [Qa hC, d4]
 have hrlt : rb < w.heap.size := h.fin rb h.kbF
 have hwm := Qbt he
 have HV := hid hv
 obtain ⟨vl, vg, rfl, hla, hgr⟩ := hv
 obtain ⟨pl, cl, rfl, _⟩ := id hla
 obtain ⟨pg, cg, rfl, _⟩ := id hgr
 obtain ⟨hrl, hro, _, ⟨vs, hvs, hrm, hros⟩⟩ := hthr
 have hfl := fun wx (hb : Below w.heap.size w wx) => QF (.slice pl m.label.length cl) V[t].vl V[t].vo m.label K.ths[t].label K.ths[t].own wx (hla.below hb) (hrl.1.below hb) (hro.1.below hb) hwm hwf
 obtain ⟨p0, c0, e0, _⟩ := id hrl.1
 obtain ⟨p1, c1, e1, _⟩ := id hro.1
 obtain ⟨p4, c4, e4, _⟩ := Q6 hrm
 rw [e0, e1] at hfl
 rw [e0] at x0
 rw [e1] at x1
 rw [e4] at x4
 have HLL : Hid (m.label.length ≤ 8796093022208) := hid hla.len
 have HGL : Hid (m.grants.length ≤ 17592186044416) := hid hgr.len
 have hti : (t : Int) < 4 := by omega
 unfold malV at *
 clear hC hcc d0 d1 d4 hla hgr hwm
 have hf6 : ¬ ((K.ths[t].mails.length : Int) < 6) := by omega
 clear h hrl hro hvs hrm hros e0 e1 e4
 generalize K.ths[t] = th at *
 go_enter Try.func12, Try.ntmps12
 go_upto_region 3 with (first | (go_at_call 23; refine (hfour _).mono ?_; rintro e w1 ⟨rfl, hw1⟩; rw [hw1]; clear hw1 w1) | (go_at_call 25; refine (hgood _ (Qe _ _)).mono ?_; rintro e w2 ⟨rfl, hw2⟩; have HBX := hid (Qc (heap_alloc_new w (.cells #[.int .i64 m.host, .int .i64 m.thread, .slice pl m.label.length cl, .slice pg m.grants.length cg, .string ⟨m.text.toArray⟩] 42)) hw2); have hb2 := Qd (Qe w (.cells #[.int .i64 m.host, .int .i64 m.thread, .slice pl m.label.length cl, .slice pg m.grants.length cg, .string ⟨m.text.toArray⟩] 42)) hw2; clear hw2))
 have y0 := hb2.cell (p := ⟨rb, 1 + t * 5, none⟩) hrlt
 rw [x0] at y0
 have y1 := hb2.cell (p := ⟨rb, 1 + t * 5 + 1, none⟩) hrlt
 rw [x1] at y1
 have y4 := hb2.cell (p := ⟨rb, 1 + t * 5 + 4, none⟩) hrlt
 rw [x4] at y4
 have b2 := Qa HBX.out 2
 have b2' : w2.cell? ⟨w.heap.size, 2, none⟩ = some (.slice pl m.label.length cl) := b2
 clear b2
 have Y0 := hid y0
 have Y1 := hid y1
 have Y4 := hid y4
 have B2 := hid b2'
 clear x0 x1 x4 hgood hfour
 have HS : Hid (∀ w', Below w2.heap.size w2 w' → w'.cell? ⟨w.heap.size, 2, none⟩ = some (.slice pl m.label.length cl) ∧ w'.cell? ⟨rb, 1 + t * 5, none⟩ = some (.slice p0 th.label.length c0) ∧ w'.cell? ⟨rb, 1 + t * 5 + 1, none⟩ = some (.slice p1 th.own.length c1) ∧ w'.cell? ⟨rb, 1 + t * 5 + 4, none⟩ = some (.slice p4 th.mails.length c4)) := hid (fun w' hb => ⟨by rw [hb.cell (Qb B2.out), B2.out], by rw [hb.cell (Qb Y0.out), Y0.out], by rw [hb.cell (Qb Y1.out), Y1.out], by rw [hb.cell (Qb Y4.out), Y4.out]⟩)
 go_cut [38] (fun v38 wx => v38 = .bool false ∧ Below w2.heap.size w2 wx)
 case first =>
  refine wp_region_held_drew (S := (fun w' => w'.cell? ⟨w.heap.size, 2, none⟩ = some (.slice pl m.label.length cl) ∧ w'.cell? ⟨rb, 1 + t * 5, none⟩ = some (.slice p0 th.label.length c0) ∧ w'.cell? ⟨rb, 1 + t * 5 + 1, none⟩ = some (.slice p1 th.own.length c1) ∧ w'.cell? ⟨rb, 1 + t * 5 + 4, none⟩ = some (.slice p4 th.mails.length c4))) (by as_aux_lemma => kernel_rfl) (HS.out _ (Below.refl _ _).drew) (fun _ => ?_)
  refine takeF 0 20 ?v1 rfl (Or.inl ⟨by rfl, ?hy1⟩) ?rest1
  case hy1 => intro wz hSw; (try dsimp only at hSw); go_simp; try with_reducible rfl
  simp only [Act.put, List.setIfInBounds_toArray, List.set_cons_zero, List.set_cons_succ]
  refine takeF 1 21 ?v2 rfl (Or.inl ⟨by rfl, ?hy2⟩) ?rest2
  case hy2 => intro wz hSw; (try dsimp only at hSw); go_simp; try with_reducible rfl
  simp only [Act.put, List.setIfInBounds_toArray, List.set_cons_zero, List.set_cons_succ]
  refine takeF 2 22 ?v3 rfl (Or.inl ⟨by rfl, ?hy3⟩) ?rest3
  case hy3 => intro wz hSw; (try dsimp only at hSw); go_simp; try with_reducible rfl
  simp only [Act.put, List.setIfInBounds_toArray, List.set_cons_zero, List.set_cons_succ]
  refine takeF 3 23 ?v4 rfl (Or.inl ⟨by rfl, ?hy4⟩) ?rest4
  case hy4 => intro wz hSw; (try dsimp only at hSw); go_simp; try with_reducible rfl
  simp only [Act.put, List.setIfInBounds_toArray, List.set_cons_zero, List.set_cons_succ]
  refine takeF 4 24 ?v5 rfl (Or.inl ⟨by rfl, ?hy5⟩) ?rest5
  case hy5 => intro wz hSw; (try dsimp only at hSw); go_simp; try with_reducible rfl
  simp only [Act.put, List.setIfInBounds_toArray, List.set_cons_zero, List.set_cons_succ]
  refine takeD 5 25 (.bool false) rfl (by as_aux_lemma => kernel_rfl) (by as_aux_lemma => kernel_rfl) (by as_aux_lemma => kernel_rfl) (by as_aux_lemma => kernel_rfl) (fun _ _ _ h => h) (Or.inl ⟨by rfl, ?hy6⟩) (by assumption) ?rest6
  case hy6 => intro wz hSw; go_simp; try simp [hf6]
  simp only [Act.put, List.setIfInBounds_toArray, List.set_cons_zero, List.set_cons_succ]
  refine takeF 6 26 ?v7 rfl (Or.inl ⟨by rfl, ?hy7⟩) ?rest7
  case hy7 => intro wz hSw; (try dsimp only at hSw); go_simp; try with_reducible rfl
  simp only [Act.put, List.setIfInBounds_toArray, List.set_cons_zero, List.set_cons_succ]
  refine skipD 7 27 rfl (by as_aux_lemma => kernel_rfl) (by as_aux_lemma => kernel_rfl) (by as_aux_lemma => kernel_rfl) (by as_aux_lemma => kernel_rfl) (fun _ _ _ h => h) (by as_aux_lemma => kernel_rfl) (by assumption) ?_
  simp only [Act.put, List.setIfInBounds_toArray, List.set_cons_zero, List.set_cons_succ]
  refine skipD 8 28 rfl (by as_aux_lemma => kernel_rfl) (by as_aux_lemma => kernel_rfl) (by as_aux_lemma => kernel_rfl) (by as_aux_lemma => kernel_rfl) (fun _ _ _ h => h) (by as_aux_lemma => kernel_rfl) (by assumption) ?_
  simp only [Act.put, List.setIfInBounds_toArray, List.set_cons_zero, List.set_cons_succ]
  refine skipD 9 29 rfl (by as_aux_lemma => kernel_rfl) (by as_aux_lemma => kernel_rfl) (by as_aux_lemma => kernel_rfl) (by as_aux_lemma => kernel_rfl) (fun _ _ _ h => h) (by as_aux_lemma => kernel_rfl) (by assumption) ?_
  simp only [Act.put, List.setIfInBounds_toArray, List.set_cons_zero, List.set_cons_succ]
  refine skipD 10 30 rfl (by as_aux_lemma => kernel_rfl) (by as_aux_lemma => kernel_rfl) (by as_aux_lemma => kernel_rfl) (by as_aux_lemma => kernel_rfl) (fun _ _ _ h => h) (by as_aux_lemma => kernel_rfl) (by assumption) ?_
  simp only [Act.put, List.setIfInBounds_toArray, List.set_cons_zero, List.set_cons_succ]
  refine skipD 11 31 rfl (by as_aux_lemma => kernel_rfl) (by as_aux_lemma => kernel_rfl) (by as_aux_lemma => kernel_rfl) (by as_aux_lemma => kernel_rfl) (fun _ _ _ h => h) (by as_aux_lemma => kernel_rfl) (by assumption) ?_
  simp only [Act.put, List.setIfInBounds_toArray, List.set_cons_zero, List.set_cons_succ]
  refine skipD 12 32 rfl (by as_aux_lemma => kernel_rfl) (by as_aux_lemma => kernel_rfl) (by as_aux_lemma => kernel_rfl) (by as_aux_lemma => kernel_rfl) (fun _ _ _ h => h) (by as_aux_lemma => kernel_rfl) (by assumption) ?_
  simp only [Act.put, List.setIfInBounds_toArray, List.set_cons_zero, List.set_cons_succ]
  refine skipD 13 33 rfl (by as_aux_lemma => kernel_rfl) (by as_aux_lemma => kernel_rfl) (by as_aux_lemma => kernel_rfl) (by as_aux_lemma => kernel_rfl) (fun _ _ _ h => h) (by as_aux_lemma => kernel_rfl) (by assumption) ?_
  simp only [Act.put, List.setIfInBounds_toArray, List.set_cons_zero, List.set_cons_succ]
  refine skipD 14 34 rfl (by as_aux_lemma => kernel_rfl) (by as_aux_lemma => kernel_rfl) (by as_aux_lemma => kernel_rfl) (by as_aux_lemma => kernel_rfl) (fun _ _ _ h => h) (by as_aux_lemma => kernel_rfl) (by assumption) ?_
  simp only [Act.put, List.setIfInBounds_toArray, List.set_cons_zero, List.set_cons_succ]
  refine skipD 15 35 rfl (by as_aux_lemma => kernel_rfl) (by as_aux_lemma => kernel_rfl) (by as_aux_lemma => kernel_rfl) (by as_aux_lemma => kernel_rfl) (fun _ _ _ h => h) (by as_aux_lemma => kernel_rfl) (by assumption) ?_
  simp only [Act.put, List.setIfInBounds_toArray, List.set_cons_zero, List.set_cons_succ]
  refine skipD 16 36 rfl (by as_aux_lemma => kernel_rfl) (by as_aux_lemma => kernel_rfl) (by as_aux_lemma => kernel_rfl) (by as_aux_lemma => kernel_rfl) (fun _ _ _ h => h) (by as_aux_lemma => kernel_rfl) (by assumption) ?_
  simp only [Act.put, List.setIfInBounds_toArray, List.set_cons_zero, List.set_cons_succ]
  refine skipD 17 37 rfl (by as_aux_lemma => kernel_rfl) (by as_aux_lemma => kernel_rfl) (by as_aux_lemma => kernel_rfl) (by as_aux_lemma => kernel_rfl) (fun _ _ _ h => h) (by as_aux_lemma => kernel_rfl) (by assumption) ?_
  simp only [Act.put, List.setIfInBounds_toArray, List.set_cons_zero, List.set_cons_succ]
  refine takeF 18 38 ?v8 rfl (Or.inl ⟨by rfl, ?hy8⟩) ?rest8
  case hy8 => intro wz hSw; (try dsimp only at hSw); go_simp; try with_reducible rfl
  simp only [Act.put, List.setIfInBounds_toArray, List.set_cons_zero, List.set_cons_succ]
  refine wpAnyH_done (by as_aux_lemma => kernel_rfl) ?_ _
  go_wp2_with fail
  go_meet
  exact ⟨rfl, (Below.refl _ _).drew⟩
 case rest =>
  obtain ⟨rfl, hw3⟩ := hcut
  go_wp2
  go_end0
  exact ⟨rfl, Qd hb2 hw3⟩
set_option maxRecDepth 100000 in
set_option maxHeartbeats 3200000 in
theorem Qdz (rb t : Nat) (F : List Nat) (V : List ThrV) (K : Ker) (m : Mal) (v : Value) (w : World) (h : RKerAt w rb F V K) (h1 : t < V.length) (h2 : t < K.ths.length) (hv : MalAt w v m) (hwf : WfL K.ths[t].label) (he : mailE m = 0) (hroom : K.ths[t].mails.length < 6) (hf : flowsL m.label K.ths[t].label K.ths[t].own = false) :
 Calls Try.prog 12 #[.pointer (some ⟨rb, 0, none⟩), .int .i64 t, v] w fun e w' => e = .returned (.tuple #[]) ∧ Below w.heap.size w w' := by
 have h4 : t < 4 := by rw [← h.len]; exact h1
 have hf4 : hostB t = true := by unfold hostB; simp; omega
 have hfour := Qj t
 rw [hf4] at hfour
 have hgood := fun wx (hb : Below w.heap.size w wx) => Qad v m wx (hv.below hb)
 rw [he] at hgood
 have hthr := h.thr t h1 h2
 obtain ⟨C, hC, _, _, _, hcc⟩ := h.box
 obtain ⟨d0, d1, _, _, d4⟩ := hcc t h1 h2
 have x0 : w.cell? ⟨rb, 1 + t * 5, none⟩ = some V[t].vl := by rw [Qa hC, d0]
 have x1 : w.cell? ⟨rb, 1 + t * 5 + 1, none⟩ = some V[t].vo := by rw [Qa hC, d1]
 have x4 : w.cell? ⟨rb, 1 + t * 5 + 4, none⟩ = some V[t].vm := by rw [Qa hC, d4]
 have hrlt : rb < w.heap.size := h.fin rb h.kbF
 have hwm := Qbt he
 have HV := hid hv
 obtain ⟨vl, vg, rfl, hla, hgr⟩ := hv
 obtain ⟨pl, cl, rfl, _⟩ := id hla
 obtain ⟨pg, cg, rfl, _⟩ := id hgr
 obtain ⟨hrl, hro, _, ⟨vs, hvs, hrm, hros⟩⟩ := hthr
 have hfl := fun wx (hb : Below w.heap.size w wx) => QF (.slice pl m.label.length cl) V[t].vl V[t].vo m.label K.ths[t].label K.ths[t].own wx (hla.below hb) (hrl.1.below hb) (hro.1.below hb) hwm hwf
 obtain ⟨p0, c0, e0, _⟩ := id hrl.1
 obtain ⟨p1, c1, e1, _⟩ := id hro.1
 obtain ⟨p4, c4, e4, _⟩ := Q6 hrm
 rw [e0, e1] at hfl
 rw [e0] at x0
 rw [e1] at x1
 rw [e4] at x4
 have HLL : Hid (m.label.length ≤ 8796093022208) := hid hla.len
 have HGL : Hid (m.grants.length ≤ 17592186044416) := hid hgr.len
 have hti : (t : Int) < 4 := by omega
 unfold malV at *
 clear hC hcc d0 d1 d4 hla hgr hwm
 have hf6 : (K.ths[t].mails.length : Int) < 6 := by omega
 rw [hf] at hfl
 clear h hrl hro hvs hrm hros e0 e1 e4
 generalize K.ths[t] = th at *
 go_enter Try.func12, Try.ntmps12
 go_upto_region 3 with (first | (go_at_call 23; refine (hfour _).mono ?_; rintro e w1 ⟨rfl, hw1⟩; rw [hw1]; clear hw1 w1) | (go_at_call 25; refine (hgood _ (Qe _ _)).mono ?_; rintro e w2 ⟨rfl, hw2⟩; have HBX := hid (Qc (heap_alloc_new w (.cells #[.int .i64 m.host, .int .i64 m.thread, .slice pl m.label.length cl, .slice pg m.grants.length cg, .string ⟨m.text.toArray⟩] 42)) hw2); have hb2 := Qd (Qe w (.cells #[.int .i64 m.host, .int .i64 m.thread, .slice pl m.label.length cl, .slice pg m.grants.length cg, .string ⟨m.text.toArray⟩] 42)) hw2; clear hw2))
 have y0 := hb2.cell (p := ⟨rb, 1 + t * 5, none⟩) hrlt
 rw [x0] at y0
 have y1 := hb2.cell (p := ⟨rb, 1 + t * 5 + 1, none⟩) hrlt
 rw [x1] at y1
 have y4 := hb2.cell (p := ⟨rb, 1 + t * 5 + 4, none⟩) hrlt
 rw [x4] at y4
 have b2 := Qa HBX.out 2
 have b2' : w2.cell? ⟨w.heap.size, 2, none⟩ = some (.slice pl m.label.length cl) := b2
 clear b2
 have Y0 := hid y0
 have Y1 := hid y1
 have Y4 := hid y4
 have B2 := hid b2'
 clear x0 x1 x4 hgood hfour
 have HS : Hid (∀ w', Below w2.heap.size w2 w' → w'.cell? ⟨w.heap.size, 2, none⟩ = some (.slice pl m.label.length cl) ∧ w'.cell? ⟨rb, 1 + t * 5, none⟩ = some (.slice p0 th.label.length c0) ∧ w'.cell? ⟨rb, 1 + t * 5 + 1, none⟩ = some (.slice p1 th.own.length c1) ∧ w'.cell? ⟨rb, 1 + t * 5 + 4, none⟩ = some (.slice p4 th.mails.length c4)) := hid (fun w' hb => ⟨by rw [hb.cell (Qb B2.out), B2.out], by rw [hb.cell (Qb Y0.out), Y0.out], by rw [hb.cell (Qb Y1.out), Y1.out], by rw [hb.cell (Qb Y4.out), Y4.out]⟩)
 go_cut [38] (fun v38 wx => v38 = .bool false ∧ Below w2.heap.size w2 wx)
 case first =>
  refine wp_region_held_drew (S := (fun w' => w'.cell? ⟨w.heap.size, 2, none⟩ = some (.slice pl m.label.length cl) ∧ w'.cell? ⟨rb, 1 + t * 5, none⟩ = some (.slice p0 th.label.length c0) ∧ w'.cell? ⟨rb, 1 + t * 5 + 1, none⟩ = some (.slice p1 th.own.length c1) ∧ w'.cell? ⟨rb, 1 + t * 5 + 4, none⟩ = some (.slice p4 th.mails.length c4))) (by as_aux_lemma => kernel_rfl) (HS.out _ (Below.refl _ _).drew) (fun _ => ?_)
  refine takeF 0 20 ?v9 rfl (Or.inl ⟨by rfl, ?hy9⟩) ?rest9
  case hy9 => intro wz hSw; (try dsimp only at hSw); go_simp; try with_reducible rfl
  simp only [Act.put, List.setIfInBounds_toArray, List.set_cons_zero, List.set_cons_succ]
  refine takeF 1 21 ?v10 rfl (Or.inl ⟨by rfl, ?hy10⟩) ?rest10
  case hy10 => intro wz hSw; (try dsimp only at hSw); go_simp; try with_reducible rfl
  simp only [Act.put, List.setIfInBounds_toArray, List.set_cons_zero, List.set_cons_succ]
  refine takeF 2 22 ?v11 rfl (Or.inl ⟨by rfl, ?hy11⟩) ?rest11
  case hy11 => intro wz hSw; (try dsimp only at hSw); go_simp; try with_reducible rfl
  simp only [Act.put, List.setIfInBounds_toArray, List.set_cons_zero, List.set_cons_succ]
  refine takeF 3 23 ?v12 rfl (Or.inl ⟨by rfl, ?hy12⟩) ?rest12
  case hy12 => intro wz hSw; (try dsimp only at hSw); go_simp; try with_reducible rfl
  simp only [Act.put, List.setIfInBounds_toArray, List.set_cons_zero, List.set_cons_succ]
  refine takeF 4 24 ?v13 rfl (Or.inl ⟨by rfl, ?hy13⟩) ?rest13
  case hy13 => intro wz hSw; (try dsimp only at hSw); go_simp; try with_reducible rfl
  simp only [Act.put, List.setIfInBounds_toArray, List.set_cons_zero, List.set_cons_succ]
  refine takeD 5 25 (.bool true) rfl (by as_aux_lemma => kernel_rfl) (by as_aux_lemma => kernel_rfl) (by as_aux_lemma => kernel_rfl) (by as_aux_lemma => kernel_rfl) (fun _ _ _ h => h) (Or.inl ⟨by rfl, ?hy14⟩) (by assumption) ?rest14
  case hy14 => intro wz hSw; go_simp; try simp [hf6]
  simp only [Act.put, List.setIfInBounds_toArray, List.set_cons_zero, List.set_cons_succ]
  refine takeF 6 26 ?v15 rfl (Or.inl ⟨by rfl, ?hy15⟩) ?rest15
  case hy15 => intro wz hSw; (try dsimp only at hSw); go_simp; try with_reducible rfl
  simp only [Act.put, List.setIfInBounds_toArray, List.set_cons_zero, List.set_cons_succ]
  refine takeF 7 27 ?v16 rfl (Or.inl ⟨by rfl, ?hy16⟩) ?rest16
  case hy16 => intro wz hSw; (try dsimp only at hSw); go_simp; try with_reducible rfl
  simp only [Act.put, List.setIfInBounds_toArray, List.set_cons_zero, List.set_cons_succ]
  refine takeF 8 28 ?v17 rfl (Or.inl ⟨by rfl, ?hy17⟩) ?rest17
  case hy17 => intro wz hSw; (try dsimp only at hSw); go_simp; try with_reducible rfl
  simp only [Act.put, List.setIfInBounds_toArray, List.set_cons_zero, List.set_cons_succ]
  refine takeF 9 29 ?v18 rfl (Or.inl ⟨by rfl, ?hy18⟩) ?rest18
  case hy18 => intro wz hSw; (try dsimp only at hSw); go_simp; try with_reducible rfl
  simp only [Act.put, List.setIfInBounds_toArray, List.set_cons_zero, List.set_cons_succ]
  refine takeF 10 30 ?v19 rfl (Or.inl ⟨by rfl, ?hy19⟩) ?rest19
  case hy19 => intro wz hSw; (try dsimp only at hSw); go_simp; try with_reducible rfl
  simp only [Act.put, List.setIfInBounds_toArray, List.set_cons_zero, List.set_cons_succ]
  refine takeF 11 31 ?v20 rfl (Or.inl ⟨by rfl, ?hy20⟩) ?rest20
  case hy20 => intro wz hSw; (try dsimp only at hSw); go_simp; try with_reducible rfl
  simp only [Act.put, List.setIfInBounds_toArray, List.set_cons_zero, List.set_cons_succ]
  refine takeF 12 32 ?v21 rfl (Or.inl ⟨by rfl, ?hy21⟩) ?rest21
  case hy21 => intro wz hSw; (try dsimp only at hSw); go_simp; try with_reducible rfl
  simp only [Act.put, List.setIfInBounds_toArray, List.set_cons_zero, List.set_cons_succ]
  refine takeF 13 33 ?v22 rfl (Or.inl ⟨by rfl, ?hy22⟩) ?rest22
  case hy22 => intro wz hSw; (try dsimp only at hSw); go_simp; try with_reducible rfl
  simp only [Act.put, List.setIfInBounds_toArray, List.set_cons_zero, List.set_cons_succ]
  refine takeF 14 34 ?v23 rfl (Or.inl ⟨by rfl, ?hy23⟩) ?rest23
  case hy23 => intro wz hSw; (try dsimp only at hSw); go_simp; try with_reducible rfl
  simp only [Act.put, List.setIfInBounds_toArray, List.set_cons_zero, List.set_cons_succ]
  refine takeF 15 35 ?v24 rfl (Or.inl ⟨by rfl, ?hy24⟩) ?rest24
  case hy24 => intro wz hSw; (try dsimp only at hSw); go_simp; try with_reducible rfl
  simp only [Act.put, List.setIfInBounds_toArray, List.set_cons_zero, List.set_cons_succ]
  refine takeF 16 36 ?v25 rfl (Or.inl ⟨by rfl, ?hy25⟩) ?rest25
  case hy25 => intro wz hSw; (try dsimp only at hSw); go_simp; try with_reducible rfl
  simp only [Act.put, List.setIfInBounds_toArray, List.set_cons_zero, List.set_cons_succ]
  refine wpAnyH_ready (rs := [17]) (by as_aux_lemma => kernel_rfl) (by simp) ?_
  refine (AllReadyH.cons rfl (fun K' hK => ?_) AllReadyH.nil)
  go_simp
  go_wp2_with (go_at_call 27; refine (hfl _ (by first | exact hb2 | exact hb2.drew)).mono ?_; rintro e w3 ⟨rfl, hwd⟩; have hw3 : Below w2.heap.size w2 w3 := (by first | exact hwd | exact kundrew hwd); clear hwd)
  refine hK.out _ _ (HS.out _ hw3) (fun _ => ?_)
  clear hK K'
  refine takeF 18 38 ?v26 rfl (Or.inl ⟨by rfl, ?hy26⟩) ?rest26
  case hy26 => intro wz hSw; (try dsimp only at hSw); go_simp; try with_reducible rfl
  simp only [Act.put, List.setIfInBounds_toArray, List.set_cons_zero, List.set_cons_succ]
  refine wpAnyH_done (by as_aux_lemma => kernel_rfl) ?_ _
  go_wp2_with fail
  go_meet
  exact ⟨rfl, hw3⟩
 case rest =>
  obtain ⟨rfl, hw3⟩ := hcut
  go_wp2
  go_end0
  exact ⟨rfl, Qd hb2 hw3⟩
set_option maxRecDepth 100000 in
set_option maxHeartbeats 6400000 in
theorem Qdx (rb t : Nat) (F : List Nat) (V : List ThrV) (K : Ker) (m : Mal) (v : Value) (w : World) (h : RKerAt w rb F V K) (h1 : t < V.length) (h2 : t < K.ths.length) (hv : MalAt w v m) (hwf : WfL K.ths[t].label) (he : mailE m = 0) (hroom : K.ths[t].mails.length < 6) (hf : flowsL m.label K.ths[t].label K.ths[t].own = true) :
 Calls Try.prog 12 #[.pointer (some ⟨rb, 0, none⟩), .int .i64 t, v] w fun e w' => e = .returned (.tuple #[]) ∧ ∃ G V', RKerAt w' rb G V' { K with ths := K.ths.set t { K.ths[t] with mails := K.ths[t].mails ++ [m] } } ∧ RStep rb w F V w' G V' := by
 have h4 : t < 4 := by rw [← h.len]; exact h1
 have hf4 : hostB t = true := by unfold hostB; simp; omega
 have hfour := Qj t
 rw [hf4] at hfour
 have hgood := fun wx (hb : Below w.heap.size w wx) => Qad v m wx (hv.below hb)
 rw [he] at hgood
 have hthr := h.thr t h1 h2
 obtain ⟨C, hC, _, _, _, hcc⟩ := h.box
 obtain ⟨d0, d1, _, _, d4⟩ := hcc t h1 h2
 have x0 : w.cell? ⟨rb, 1 + t * 5, none⟩ = some V[t].vl := by rw [Qa hC, d0]
 have x1 : w.cell? ⟨rb, 1 + t * 5 + 1, none⟩ = some V[t].vo := by rw [Qa hC, d1]
 have x4 : w.cell? ⟨rb, 1 + t * 5 + 4, none⟩ = some V[t].vm := by rw [Qa hC, d4]
 have hrlt : rb < w.heap.size := h.fin rb h.kbF
 have hwm := Qbt he
 have HV := hid hv
 obtain ⟨vl, vg, rfl, hla, hgr⟩ := hv
 obtain ⟨pl, cl, rfl, _⟩ := id hla
 obtain ⟨pg, cg, rfl, _⟩ := id hgr
 obtain ⟨hrl, hro, _, ⟨vs, hvs, hrm, hros⟩⟩ := hthr
 have hfl := fun wx (hb : Below w.heap.size w wx) => QF (.slice pl m.label.length cl) V[t].vl V[t].vo m.label K.ths[t].label K.ths[t].own wx (hla.below hb) (hrl.1.below hb) (hro.1.below hb) hwm hwf
 obtain ⟨p0, c0, e0, _⟩ := id hrl.1
 obtain ⟨p1, c1, e1, _⟩ := id hro.1
 obtain ⟨p4, c4, e4, _⟩ := Q6 hrm
 rw [e0, e1] at hfl
 rw [e0] at x0
 rw [e1] at x1
 rw [e4] at x4
 have HLL : Hid (m.label.length ≤ 8796093022208) := hid hla.len
 have HGL : Hid (m.grants.length ≤ 17592186044416) := hid hgr.len
 have hti : (t : Int) < 4 := by omega
 unfold malV at *
 clear hC hcc d0 d1 d4 hla hgr hwm
 have hf6 : (K.ths[t].mails.length : Int) < 6 := by omega
 rw [hf] at hfl
 have HK := hid h
 have HVS := hid hvs
 have HRM := hid hrm
 have HROS := hid hros
 have E4 := hid e4
 clear h hrl hro hvs hrm hros e0 e1 e4
 have HTH : Hid (K.ths[t] = K.ths[t]) := hid rfl
 generalize hth : K.ths[t] = th at *
 clear HTH
 have HTH := hid hth
 clear hth
 go_enter Try.func12, Try.ntmps12
 go_upto_region 3 with (first | (go_at_call 23; refine (hfour _).mono ?_; rintro e w1 ⟨rfl, hw1⟩; rw [hw1]; clear hw1 w1) | (go_at_call 25; refine (hgood _ (Qe _ _)).mono ?_; rintro e w2 ⟨rfl, hw2⟩; have HBX := hid (Qc (heap_alloc_new w (.cells #[.int .i64 m.host, .int .i64 m.thread, .slice pl m.label.length cl, .slice pg m.grants.length cg, .string ⟨m.text.toArray⟩] 42)) hw2); have hb2 := Qd (Qe w (.cells #[.int .i64 m.host, .int .i64 m.thread, .slice pl m.label.length cl, .slice pg m.grants.length cg, .string ⟨m.text.toArray⟩] 42)) hw2; clear hw2))
 have y0 := hb2.cell (p := ⟨rb, 1 + t * 5, none⟩) hrlt
 rw [x0] at y0
 have y1 := hb2.cell (p := ⟨rb, 1 + t * 5 + 1, none⟩) hrlt
 rw [x1] at y1
 have y4 := hb2.cell (p := ⟨rb, 1 + t * 5 + 4, none⟩) hrlt
 rw [x4] at y4
 have b2 := Qa HBX.out 2
 have b2' : w2.cell? ⟨w.heap.size, 2, none⟩ = some (.slice pl m.label.length cl) := b2
 clear b2
 have Y0 := hid y0
 have Y1 := hid y1
 have Y4 := hid y4
 have B2 := hid b2'
 clear x0 x1 x4 hgood hfour
 have HS : Hid (∀ w', Below w2.heap.size w2 w' → w'.cell? ⟨w.heap.size, 2, none⟩ = some (.slice pl m.label.length cl) ∧ w'.cell? ⟨rb, 1 + t * 5, none⟩ = some (.slice p0 th.label.length c0) ∧ w'.cell? ⟨rb, 1 + t * 5 + 1, none⟩ = some (.slice p1 th.own.length c1) ∧ w'.cell? ⟨rb, 1 + t * 5 + 4, none⟩ = some (.slice p4 th.mails.length c4)) := hid (fun w' hb => ⟨by rw [hb.cell (Qb B2.out), B2.out], by rw [hb.cell (Qb Y0.out), Y0.out], by rw [hb.cell (Qb Y1.out), Y1.out], by rw [hb.cell (Qb Y4.out), Y4.out]⟩)
 go_cut [38] (fun v38 wx => v38 = .bool true ∧ Below w2.heap.size w2 wx)
 case first =>
  refine wp_region_held_drew (S := (fun w' => w'.cell? ⟨w.heap.size, 2, none⟩ = some (.slice pl m.label.length cl) ∧ w'.cell? ⟨rb, 1 + t * 5, none⟩ = some (.slice p0 th.label.length c0) ∧ w'.cell? ⟨rb, 1 + t * 5 + 1, none⟩ = some (.slice p1 th.own.length c1) ∧ w'.cell? ⟨rb, 1 + t * 5 + 4, none⟩ = some (.slice p4 th.mails.length c4))) (by as_aux_lemma => kernel_rfl) (HS.out _ (Below.refl _ _).drew) (fun _ => ?_)
  refine takeF 0 20 ?v27 rfl (Or.inl ⟨by rfl, ?hy27⟩) ?rest27
  case hy27 => intro wz hSw; (try dsimp only at hSw); go_simp; try with_reducible rfl
  simp only [Act.put, List.setIfInBounds_toArray, List.set_cons_zero, List.set_cons_succ]
  refine takeF 1 21 ?v28 rfl (Or.inl ⟨by rfl, ?hy28⟩) ?rest28
  case hy28 => intro wz hSw; (try dsimp only at hSw); go_simp; try with_reducible rfl
  simp only [Act.put, List.setIfInBounds_toArray, List.set_cons_zero, List.set_cons_succ]
  refine takeF 2 22 ?v29 rfl (Or.inl ⟨by rfl, ?hy29⟩) ?rest29
  case hy29 => intro wz hSw; (try dsimp only at hSw); go_simp; try with_reducible rfl
  simp only [Act.put, List.setIfInBounds_toArray, List.set_cons_zero, List.set_cons_succ]
  refine takeF 3 23 ?v30 rfl (Or.inl ⟨by rfl, ?hy30⟩) ?rest30
  case hy30 => intro wz hSw; (try dsimp only at hSw); go_simp; try with_reducible rfl
  simp only [Act.put, List.setIfInBounds_toArray, List.set_cons_zero, List.set_cons_succ]
  refine takeF 4 24 ?v31 rfl (Or.inl ⟨by rfl, ?hy31⟩) ?rest31
  case hy31 => intro wz hSw; (try dsimp only at hSw); go_simp; try with_reducible rfl
  simp only [Act.put, List.setIfInBounds_toArray, List.set_cons_zero, List.set_cons_succ]
  refine takeD 5 25 (.bool true) rfl (by as_aux_lemma => kernel_rfl) (by as_aux_lemma => kernel_rfl) (by as_aux_lemma => kernel_rfl) (by as_aux_lemma => kernel_rfl) (fun _ _ _ h => h) (Or.inl ⟨by rfl, ?hy32⟩) (by assumption) ?rest32
  case hy32 => intro wz hSw; go_simp; try simp [hf6]
  simp only [Act.put, List.setIfInBounds_toArray, List.set_cons_zero, List.set_cons_succ]
  refine takeF 6 26 ?v33 rfl (Or.inl ⟨by rfl, ?hy33⟩) ?rest33
  case hy33 => intro wz hSw; (try dsimp only at hSw); go_simp; try with_reducible rfl
  simp only [Act.put, List.setIfInBounds_toArray, List.set_cons_zero, List.set_cons_succ]
  refine takeF 7 27 ?v34 rfl (Or.inl ⟨by rfl, ?hy34⟩) ?rest34
  case hy34 => intro wz hSw; (try dsimp only at hSw); go_simp; try with_reducible rfl
  simp only [Act.put, List.setIfInBounds_toArray, List.set_cons_zero, List.set_cons_succ]
  refine takeF 8 28 ?v35 rfl (Or.inl ⟨by rfl, ?hy35⟩) ?rest35
  case hy35 => intro wz hSw; (try dsimp only at hSw); go_simp; try with_reducible rfl
  simp only [Act.put, List.setIfInBounds_toArray, List.set_cons_zero, List.set_cons_succ]
  refine takeF 9 29 ?v36 rfl (Or.inl ⟨by rfl, ?hy36⟩) ?rest36
  case hy36 => intro wz hSw; (try dsimp only at hSw); go_simp; try with_reducible rfl
  simp only [Act.put, List.setIfInBounds_toArray, List.set_cons_zero, List.set_cons_succ]
  refine takeF 10 30 ?v37 rfl (Or.inl ⟨by rfl, ?hy37⟩) ?rest37
  case hy37 => intro wz hSw; (try dsimp only at hSw); go_simp; try with_reducible rfl
  simp only [Act.put, List.setIfInBounds_toArray, List.set_cons_zero, List.set_cons_succ]
  refine takeF 11 31 ?v38 rfl (Or.inl ⟨by rfl, ?hy38⟩) ?rest38
  case hy38 => intro wz hSw; (try dsimp only at hSw); go_simp; try with_reducible rfl
  simp only [Act.put, List.setIfInBounds_toArray, List.set_cons_zero, List.set_cons_succ]
  refine takeF 12 32 ?v39 rfl (Or.inl ⟨by rfl, ?hy39⟩) ?rest39
  case hy39 => intro wz hSw; (try dsimp only at hSw); go_simp; try with_reducible rfl
  simp only [Act.put, List.setIfInBounds_toArray, List.set_cons_zero, List.set_cons_succ]
  refine takeF 13 33 ?v40 rfl (Or.inl ⟨by rfl, ?hy40⟩) ?rest40
  case hy40 => intro wz hSw; (try dsimp only at hSw); go_simp; try with_reducible rfl
  simp only [Act.put, List.setIfInBounds_toArray, List.set_cons_zero, List.set_cons_succ]
  refine takeF 14 34 ?v41 rfl (Or.inl ⟨by rfl, ?hy41⟩) ?rest41
  case hy41 => intro wz hSw; (try dsimp only at hSw); go_simp; try with_reducible rfl
  simp only [Act.put, List.setIfInBounds_toArray, List.set_cons_zero, List.set_cons_succ]
  refine takeF 15 35 ?v42 rfl (Or.inl ⟨by rfl, ?hy42⟩) ?rest42
  case hy42 => intro wz hSw; (try dsimp only at hSw); go_simp; try with_reducible rfl
  simp only [Act.put, List.setIfInBounds_toArray, List.set_cons_zero, List.set_cons_succ]
  refine takeF 16 36 ?v43 rfl (Or.inl ⟨by rfl, ?hy43⟩) ?rest43
  case hy43 => intro wz hSw; (try dsimp only at hSw); go_simp; try with_reducible rfl
  simp only [Act.put, List.setIfInBounds_toArray, List.set_cons_zero, List.set_cons_succ]
  refine wpAnyH_ready (rs := [17]) (by as_aux_lemma => kernel_rfl) (by simp) ?_
  refine (AllReadyH.cons rfl (fun K' hK => ?_) AllReadyH.nil)
  go_simp
  go_wp2_with (go_at_call 27; refine (hfl _ (by first | exact hb2 | exact hb2.drew)).mono ?_; rintro e w3 ⟨rfl, hwd⟩; have hw3 : Below w2.heap.size w2 w3 := (by first | exact hwd | exact kundrew hwd); clear hwd)
  refine hK.out _ _ (HS.out _ hw3) (fun _ => ?_)
  clear hK K'
  refine takeF 18 38 ?v44 rfl (Or.inl ⟨by rfl, ?hy44⟩) ?rest44
  case hy44 => intro wz hSw; (try dsimp only at hSw); go_simp; try with_reducible rfl
  simp only [Act.put, List.setIfInBounds_toArray, List.set_cons_zero, List.set_cons_succ]
  refine wpAnyH_done (by as_aux_lemma => kernel_rfl) ?_ _
  go_wp2_with fail
  go_meet
  exact ⟨rfl, hw3⟩
 case rest =>
  obtain ⟨rfl, hw3⟩ := hcut
  have HW3 := hid hw3
  have z4 := hw3.cell (Qb Y4.out)
  rw [Y4.out] at z4
  have hb3 := Qd hb2 hw3
  have HB3 := hid (Qc HBX.out HW3.out)
  obtain ⟨⟨b0, b1, b2, b3, b4⟩, _⟩ := cells5 HB3.out
  clear y0 y1 y4 b2' hfl hw3
  go_wp2
  go_region_law ((first
   | (refine QcL (by rfl) (.tmp 44) #[42] (by rfl) _ m (by rfl) (HV.out.below hb3.drew) ?_; intro p6 c6 q6 d6 w6 hownL hownG hw6d; have hw6 := kundrew hw6d; have r4 := hw6.cell (Qb z4); rw [z4] at r4; have hlt6 : rb < w6.heap.size := Qb r4; have HOWL := hid hownL; have HOWG := hid hownG; have HW6 := hid hw6; clear hownL hownG hw6d hw6)
   | (refine QeD (by rfl) (.tmp 43) (.tmp 46) (by rfl) (.slice p4 th.mails.length c4) th.mails.length (flatM vs th.mails) (by rfl) (by rw [← E4.out]; exact Qcv (F := []) HRM.out (Qk _ (Qd (Qd hb3 HW6.out) (Qe w6 _))) (fun _ _ e => by cases e)) w6.heap.size (.int .i64 m.host) (.int .i64 m.thread) (.slice p6 m.label.length c6) (.slice q6 m.grants.length d6) (.string ⟨m.text.toArray⟩) (by rfl) (laid5 w6 _ _ _ _ _ _) (by intro u hu; simp at hu; rcases hu with rfl | rfl | rfl | rfl | rfl <;> rfl) (by omega) ?_; intro v7 w7 hown7 hg7 hwh7; have HOWN7 := hid hown7; have HG7 := hid hg7; have HWH7 := hid hwh7; have s47 := QeH (HK.out.below (Qd (Qd hb3 HW6.out) (Qe w6 (.cells #[.int .i64 m.host, .int .i64 m.thread, .slice p6 m.label.length c6, .slice q6 m.grants.length d6, .string ⟨m.text.toArray⟩] 42)))) h1 h2 (by rw [E4.out]; exact hg7); rw [E4.out] at s47; obtain ⟨s4, sf4⟩ := s47; obtain ⟨p7, c7, e7, _⟩ := Q6 hown7; subst e7; clear hown7 hg7 hwh7)))
  all_goals
   have hbA := Qd (Qd hb3 HW6.out) (Qe w6 (.cells #[.int .i64 m.host, .int .i64 m.thread, .slice p6 m.label.length c6, .slice q6 m.grants.length d6, .string ⟨m.text.toArray⟩] 42))
   have hmails := QdY (m := m) HVS.out (Qcv (F := []) HRM.out (Qk _ hbA) (fun _ _ e => by cases e)) (fun j g1 g2 => ⟨(HROS.out j g1 g2).1.keep (Qk _ hbA) (More.refl _ _), (HROS.out j g1 g2).2.keep (Qk _ hbA) (More.refl _ _)⟩) (fun k e => HK.out.rows t h1 k (mem_rrows.2 (.inr e))) (Ql HOWL.out (Qe w6 _)) (Ql HOWG.out (Qe w6 _)) HLL.out HGL.out (fun k e => (HK.out.below hb3).fin k e) HOWN7.out (by rw [E4.out]; exact HG7.out) (by rw [E4.out]; exact HWH7.out)
   have hst := (HK.out.below hbA).mails h1 h2 (by rw [E4.out]; exact HG7.out) hmails (by rw [E4.out]; exact HWH7.out)
   simp only [HTH.out] at hst
   have HST := hid hst
   clear hst hmails
   go_wp2
   go_end0
   exact ⟨rfl, _, _, HST.out.1, (RStep.below hbA).trans HST.out.2⟩
theorem QdB (rb : Nat) (t : Int) (F : List Nat) (V : List ThrV) (K : Ker) (m : Mal) (vm : Value) (w : World) (h : RKerAt w rb F V K) (hg : GoodK K) (hwf : ∀ th ∈ K.ths, WfL th.label) (hm : MalAt w vm m) :
 Calls Try.prog 12 #[.pointer (some ⟨rb, 0, none⟩), .int .i64 t, vm] w fun e w' => e = .returned (.tuple #[]) ∧ ∃ G V', RKerAt w' rb G V' (deliverL K t m) ∧ RStep rb w F V w' G V' := by
 have hV : V.length = 4 := h.len
 cases hth : getT K t with
 | none =>
  have e : deliverL K t m = K := by unfold deliverL; rw [hth]
  rw [e]
  exact (Qdy rb t vm m w hm (QaB hg.four hth)).mono fun _ _ ⟨h1, h2⟩ => ⟨h1, _, _, h.below h2, RStep.below h2⟩
 | some th =>
  obtain ⟨n, rfl, hn, rfl⟩ := Q5 hth
  have e : deliverL K n m = { K with ths := K.ths.set n (boxL K.ths[n] m) } := by unfold deliverL; rw [hth]; exact QC K n _
  rw [e]
  have h1 : n < V.length := by rw [hV]; have := hg.four; omega
  have hw := hwf _ (List.getElem_mem hn)
  by_cases he : mailE m = 0
  rotate_left
  · rw [QdP he, Q1 hn]
    exact (QdA rb n m vm w (by rw [← hV]; exact h1) hm he).mono fun _ _ ⟨h1, h2⟩ => ⟨h1, _, _, h.below h2, RStep.below h2⟩
  by_cases hr : 6 ≤ K.ths[n].mails.length
  · rw [Qdj hr, Q1 hn]
    exact (QcU rb n F V K m vm w h h1 hn hm hw he hr).mono fun _ _ ⟨h1, h2⟩ => ⟨h1, _, _, h.below h2, RStep.below h2⟩
  cases hf : flowsL m.label K.ths[n].label K.ths[n].own with
  | false =>
   rw [QdO hf, Q1 hn]
   exact (Qdz rb n F V K m vm w h h1 hn hm hw he (by omega) hf).mono fun _ _ ⟨h1, h2⟩ => ⟨h1, _, _, h.below h2, RStep.below h2⟩
  | true =>
   have eb : boxL K.ths[n] m = { K.ths[n] with mails := K.ths[n].mails ++ [m] } := by unfold boxL; rw [if_pos ⟨he, hf, by omega⟩]
   rw [eb]
   exact Qdx rb n F V K m vm w h h1 hn hm hw he (by omega) hf
theorem RKerAt.reserve {w : World} {rb : Nat} {F : List Nat} {V : List ThrV} {K : Ker} (h : RKerAt w rb F V K) (ob : Obj) : RKerAt (w.alloc ob) rb (F ++ [w.heap.size]) V K := by
 refine h.others (R := []) (Qk _ (Qe _ _)) (fun _ e => by cases e) (fun e => by cases e) (fun _ _ _ _ e => by cases e) (QaM w F) fun k hk => ?_
 rcases List.mem_append.1 hk with g | g
 · have := h.fin k g
   simp
   omega
 · rw [List.mem_singleton] at g
   subst g
   simp
theorem RKerAt.boxed {w w' : World} {rb : Nat} {F : List Nat} {V : List ThrV} {K : Ker} {B : Nat} {C : Array Value} {t : TypeId} (h : RKerAt w rb F V K) (hg : w.grownBy w' (some B)) (hB : B ∈ F) (hC : w.heap[B]? = some (.cells C t (0, 0))) (t1 : (38 : Nat) ≠ t) (t3 : (80 : Nat) ≠ t) (t4 : (42 : Nat) ≠ t) : RKerAt w' rb F V K := by
 obtain ⟨D, hD, _⟩ := h.box
 have hV := h.len
 have hK := h.lenK
 refine h.others (R := [B]) (QD hg fun k e => .inl (by rw [Option.some.inj e]; simp)) (fun k e => ?_) (fun e => ?_) (fun s g1 k e e2 => ?_) (More.refl _ _) (fun k hk => Nat.lt_of_lt_of_le (h.fin k hk) hg.size)
 · rw [List.mem_singleton] at e
   rw [e]
   exact hB
 · rw [List.mem_singleton] at e
   rw [e, hC] at hD
   injection hD with hD
   injection hD with _ h2 _
   exact t1 h2.symm
 · rw [List.mem_singleton] at e2
   subst e2
   obtain ⟨_, _, ⟨_, _, h3, _⟩, ⟨_, _, h4, _⟩⟩ := h.thr s g1 (by omega)
   rcases mem_rrows.1 e with e | e
   · exact Qn h3 hC t3 e
   · exact QfA h4 hC t4 e
theorem RStep.reserve (rb : Nat) (w : World) (F : List Nat) (V : List ThrV) (ob : Obj) : RStep rb w F V (w.alloc ob) (F ++ [w.heap.size]) V := ⟨Qk _ (Qe _ _), fun _ h => .inl h, QaM w F⟩
theorem RStep.boxed {rb : Nat} {w0 w w' : World} {F G : List Nat} {V V' : List ThrV} {B : Nat} (h : RStep rb w0 F V w G V') (hg : w.grownBy w' (some B)) (hB : w0.heap.size ≤ B) : RStep rb w0 F V w' G V' :=
 ⟨⟨hg.os.trans h.kept.os, hg.tape.trans h.kept.tape, hg.output.trans h.kept.output, Nat.le_trans h.kept.size hg.size, fun i hi hn => by
  rw [hg.block i (by have := h.kept.size; omega) (fun e => by have := Option.some.inj e; omega), h.kept.block i hi hn]⟩, h.rows, h.more⟩
theorem Qt {rb B : Nat} {w w1 : World} {F G : List Nat} {V V1 : List ThrV} {K1 : Ker} {y0 y1 y2 : Value} (x0 x1 : Int) (x2 : List UInt8) (hb : w1.heap[B]? = some (.cells #[y0, y1, y2] 52 (0, 0))) (hw : w.heap.size ≤ B) (hF : B ∈ G) (h1 : RKerAt w1 rb G V1 K1) (hs : RStep rb w F V w1 G V1) :
 (st3 w1 B (.int .i64 x0) (.int .i64 x1) (.string ⟨x2.toArray⟩)).heap[B]? = some (.cells #[.int .i64 x0, .int .i64 x1, .string ⟨x2.toArray⟩] 52 (0, 0)) ∧ RKerAt (st3 w1 B (.int .i64 x0) (.int .i64 x1) (.string ⟨x2.toArray⟩)) rb G V1 K1 ∧ RStep rb w F V (st3 w1 B (.int .i64 x0) (.int .i64 x1) (.string ⟨x2.toArray⟩)) G V1 :=
 ⟨QA _ _ _ hb, h1.boxed (Qv _ _ _ _ _) hF hb (by decide) (by decide) (by decide), hs.boxed (Qv _ _ _ _ _) hw⟩
theorem Qw (e : Int) (w : World) : Calls Try.prog 39 #[.int .i64 e] w fun e' w' => e' = .returned (.agg #[.int .i64 e, .int .i64 0, .string ⟨#[]⟩]) ∧ Below w.heap.size w w' := by
 go_enter Try.func39, Try.ntmps39
 go_wp2
 refine bodyPost_ret (results_cell_row rfl _ _ w.heap.size 52 _ (0, 0) _ rfl (heap_alloc_new w _) Try.underlying52 rfl (by kernel_rfl)) rfl ⟨rfl, Qe _ _⟩
structure Both (w wr : World) (ka rb : Nat) (F : List Nat) (V U : List ThrV) (K : Ker) : Prop where
 one : KerAt wr ka F V K
 two : RKerAt wr rb F U K
 apart : ∀ k ∈ ka :: rowsAll V, k ∉ rb :: rrAll U
 good : GoodK K
 below : Below w.heap.size w wr
 far : ∀ k ∈ F, w.heap.size ≤ k
theorem Both.more {w wr ws : World} {ka rb : Nat} {F : List Nat} {V U : List ThrV} {K : Ker} (h : Both w wr ka rb F V U K) (hb : Below wr.heap.size wr ws) : Both w ws ka rb F V U K :=
 ⟨h.one.below hb, h.two.below hb, h.apart, h.good, Qd h.below hb, h.far⟩
theorem QdM {w a b : World} {F : List Nat} (h : Below w.heap.size w a) (hk : KeptF F a b) (hF : ∀ k ∈ F, w.heap.size ≤ k) : Below w.heap.size w b := by
 have h1 := h.size
 exact h.trans ⟨hk.os, hk.tape, hk.output, hk.size, fun k hk' => hk.block k (by omega) (fun e => by have := hF _ e; omega)⟩
theorem RStep.keptF {rb : Nat} {w w' : World} {F G : List Nat} {V V' : List ThrV} {K : Ker} (h : RStep rb w F V w' G V') (hk : RKerAt w rb F V K) : KeptF F w w' := h.kept.sub fun k e => .inl (by
 rcases List.mem_cons.1 e with rfl | e
 · exact hk.kbF
 · obtain ⟨t, ht, e⟩ := Q9.1 e
   exact hk.rows t ht k e)
theorem QdL {w a : World} {F G : List Nat} (hm : More a F G) (h : Below w.heap.size w a) (hF : ∀ k ∈ F, w.heap.size ≤ k) : ∀ k ∈ G, w.heap.size ≤ k := fun k hk => by
 rcases hm.2 k hk with g | g
 · exact hF k g
 · have := h.size; omega
structure Half (w wr : World) (ka rb : Nat) (F : List Nat) (V U : List ThrV) (K' K : Ker) : Prop where
 one : KerAt wr ka F V K'
 two : RKerAt wr rb F U K
 apart : ∀ k ∈ ka :: rowsAll V, k ∉ rb :: rrAll U
 below : Below w.heap.size w wr
 far : ∀ k ∈ F, w.heap.size ≤ k
theorem Half.more {w wr ws : World} {ka rb : Nat} {F : List Nat} {V U : List ThrV} {K' K : Ker} (h : Half w wr ka rb F V U K' K) (hb : Below wr.heap.size wr ws) : Half w ws ka rb F V U K' K :=
 ⟨h.one.below hb, h.two.below hb, h.apart, Qd h.below hb, h.far⟩
theorem Both.half {w wr ws : World} {ka rb : Nat} {F G : List Nat} {V V' U : List ThrV} {K K' : Ker} (h : Both w wr ka rb F V U K) (hs : KStep ka wr F V ws G V') (hk : KerAt ws ka G V' K') : Half w ws ka rb G V' U K' K := by
 obtain ⟨r1, r2⟩ := Pair.kstep h.one h.two h.apart hs hk
 exact ⟨hk, r1, r2, QdM h.below (hs.keptF h.one) h.far, QdL hs.more h.below h.far⟩
theorem Half.whole {w wr ws : World} {ka rb : Nat} {F G : List Nat} {V U U' : List ThrV} {K K' : Ker} (h : Half w wr ka rb F V U K' K) (hs : RStep rb wr F U ws G U') (hk : RKerAt ws rb G U' K') (hg : GoodK K') : Both w ws ka rb G V U' K' := by
 obtain ⟨r1, r2⟩ := Pair.rstep h.one h.two h.apart hs hk
 exact ⟨r1, hk, r2, hg, QdM h.below (hs.keptF h.two) h.far, QdL hs.more h.below h.far⟩
theorem Qbx (w : World) (F : List Nat) : RThr w F nilV zeroThr :=
 ⟨⟨LabAt.nil _ _ _ (fun _ => rfl), fun h => by cases h⟩, ⟨IntsAt.nil _ _ _ (fun _ => rfl), fun h => by cases h⟩, ⟨[], rfl, World.ownsRow_nil _ _ _ _, fun j h => by cases h⟩, ⟨[], rfl, Qg4 _ _ _, fun j h => by cases h⟩⟩
def rfresh (host : Int) : Obj := .cells #[.int .i64 host, .slice none 0 0, .slice none 0 0, .string ⟨#[]⟩, .slice none 0 0, .slice none 0 0, .slice none 0 0, .slice none 0 0, .string ⟨#[]⟩, .slice none 0 0, .slice none 0 0, .slice none 0 0, .slice none 0 0, .string ⟨#[]⟩, .slice none 0 0, .slice none 0 0, .slice none 0 0, .slice none 0 0, .string ⟨#[]⟩, .slice none 0 0, .slice none 0 0, .int .i64 0] 38
theorem QfK (w : World) (host : Int) (F : List Nat) (hF : ∀ k ∈ F, k < w.heap.size) : RKerAt (w.alloc (rfresh host)) w.heap.size (F ++ [w.heap.size]) [nilV, nilV, nilV, nilV] (freshKer host) := by
 have hv : ∀ t (h : t < [nilV, nilV, nilV, nilV].length), [nilV, nilV, nilV, nilV][t] = nilV := fun t h => by
  match t, h with
  | 0, _ => rfl
  | 1, _ => rfl
  | 2, _ => rfl
  | 3, _ => rfl
 have hr : rrows nilV = [] := rfl
 refine ⟨rfl, rfl, ⟨_, heap_alloc_new w _, rfl, rfl, rfl, fun t h1 h2 => ?_⟩, fun t h1 h2 => ?_, fun t h1 k hk => ?_, fun s t hs ht _ k hk => ?_, by simp, fun k hk => ?_⟩
 · match t, h1, h2 with
   | 0, _, _ => exact ⟨rfl, rfl, rfl, rfl, rfl⟩
   | 1, _, _ => exact ⟨rfl, rfl, rfl, rfl, rfl⟩
   | 2, _, _ => exact ⟨rfl, rfl, rfl, rfl, rfl⟩
   | 3, _, _ => exact ⟨rfl, rfl, rfl, rfl, rfl⟩
 · match t, h1, h2 with
   | 0, _, _ => exact Qbx _ _
   | 1, _, _ => exact Qbx _ _
   | 2, _, _ => exact Qbx _ _
   | 3, _, _ => exact Qbx _ _
 · rw [hv t h1, hr] at hk
   cases hk
 · rw [hv s hs, hr] at hk
   cases hk
 · rcases List.mem_append.1 hk with g | g
   · have := hF k g
     simp
     omega
   · rw [List.mem_singleton] at g
     subst g
     simp
theorem Qfi {w w1 : World} {ka : Nat} {host : Int} (h : KerAt w1 ka [ka] [nilV, nilV, nilV, nilV] (freshKer host)) (hb : Below w.heap.size w w1) (hka : ka = w.heap.size) (hh : 0 ≤ host ∧ host < 4) :
 Both w (w1.alloc (rfresh host)) ka w1.heap.size ([ka] ++ [w1.heap.size]) [nilV, nilV, nilV, nilV] [nilV, nilV, nilV, nilV] (freshKer host) := by
 have hlt := h.fin ka (by simp)
 refine ⟨h.reserve _, QfK w1 host [ka] h.fin, fun k hk e => ?_, Qe6 hh, Qd hb (Qe _ _), fun k hk => ?_⟩
 · have e1 : rowsAll [nilV, nilV, nilV, nilV] = [] := rfl
   have e2 : rrAll [nilV, nilV, nilV, nilV] = [] := rfl
   rw [e1] at hk
   rw [e2] at e
   simp at hk e
   omega
 · have := hb.size
   simp at hk
   rcases hk with rfl | rfl <;> omega
set_option linter.unusedSimpArgs false in
set_option maxRecDepth 100000 in
set_option maxHeartbeats 6400000 in
theorem QfL (rb : Nat) (t : Int) (v : Value) (c : Cal) (w : World) (hv : CalAt w v c) (ht : ¬ (0 ≤ t ∧ t < 4)) : Calls Try.prog 14 #[.pointer (some ⟨rb, 0, none⟩), .int .i64 t, v] w fun e w' => e = .returned (repV (code 4)) ∧ Below w.heap.size w w' := by
 have hf : hostB t = false := by unfold hostB; simp; omega
 have hfour := Qj t
 rw [hf] at hfour
 obtain ⟨vl, vg, rfl, hvl, hvg⟩ := hv
 obtain ⟨pl, cl, rfl, _⟩ := id hvl
 obtain ⟨pg, cg, rfl, _⟩ := id hvg
 have HVL := hid hvl
 have HVG := hid hvg
 unfold calV
 clear hvl hvg
 go_enter Try.func14, Try.ntmps14
 go_upto_region 2 with fail
 have hb0 : Below w.heap.size w ((w.alloc (.cells #[.int .i64 c.kind, .int .i64 c.h, .int .i64 c.t, .int .i64 c.n, .int .i64 c.c, .slice pl c.label.length cl, .slice pg c.grants.length cg, .string ⟨c.text.toArray⟩] 40)).alloc (.cells #[.int .i64 0, .int .i64 0, .string ⟨#[]⟩] 52)) := (Qe w _).alloc (by simp) _
 have HB0 : Hid (((w.alloc (.cells #[.int .i64 c.kind, .int .i64 c.h, .int .i64 c.t, .int .i64 c.n, .int .i64 c.c, .slice pl c.label.length cl, .slice pg c.grants.length cg, .string ⟨c.text.toArray⟩] 40)).alloc (.cells #[.int .i64 0, .int .i64 0, .string ⟨#[]⟩] 52)).heap[w.heap.size]? = some (.cells #[.int .i64 c.kind, .int .i64 c.h, .int .i64 c.t, .int .i64 c.n, .int .i64 c.c, .slice pl c.label.length cl, .slice pg c.grants.length cg, .string ⟨c.text.toArray⟩] 40 (0, 0))) := hid (QI (heap_alloc_new w _) _)
 have HR0 : Hid (((w.alloc (.cells #[.int .i64 c.kind, .int .i64 c.h, .int .i64 c.t, .int .i64 c.n, .int .i64 c.c, .slice pl c.label.length cl, .slice pg c.grants.length cg, .string ⟨c.text.toArray⟩] 40)).alloc (.cells #[.int .i64 0, .int .i64 0, .string ⟨#[]⟩] 52)).heap[w.heap.size + 1]? = some (.cells #[.int .i64 0, .int .i64 0, .string ⟨#[]⟩] 52 (0, 0))) := hid (by have := heap_alloc_new (w.alloc (.cells #[.int .i64 c.kind, .int .i64 c.h, .int .i64 c.t, .int .i64 c.n, .int .i64 c.c, .slice pl c.label.length cl, .slice pg c.grants.length cg, .string ⟨c.text.toArray⟩] 40)) (.cells #[.int .i64 0, .int .i64 0, .string ⟨#[]⟩] 52); simpa using this)
 generalize ((w.alloc (.cells #[.int .i64 c.kind, .int .i64 c.h, .int .i64 c.t, .int .i64 c.n, .int .i64 c.c, .slice pl c.label.length cl, .slice pg c.grants.length cg, .string ⟨c.text.toArray⟩] 40)).alloc (.cells #[.int .i64 0, .int .i64 0, .string ⟨#[]⟩] 52)) = w0 at *
 go_wp2_with (first | (go_at_call 23; refine (hfour _).mono ?_; rintro e w1 ⟨rfl, hw1⟩; rw [hw1]; clear hw1 w1) | (go_at_call 39; refine (Qw _ _).mono ?_; rintro e w9 ⟨rfl, hw9⟩; have HR9 := hid (Qc HR0.out hw9); have hb9 := Qd hb0 hw9; have HW9 := hid hw9; clear hw9; have g0 := Qa HR9.out 0; have g1 := Qa HR9.out 1; have g2 := Qa HR9.out 2; have gf0 := Qf HR9.out 0; have gf1 := Qf HR9.out 1; have gf2 := Qf HR9.out 2))
 have hE := Qv w9 (w.heap.size + 1) (.int .i64 4) (.int .i64 0) (.string ⟨#[]⟩)
 exact bodyPost_ret (results_cell_row rfl _ _ (w.heap.size + 1) 52 _ (0, 0) _ rfl (QA _ _ _ HR9.out) Try.underlying52 rfl (by kernel_rfl)) rfl ⟨rfl, hb9.grown hE hb9.size (fun k e => by have := Option.some.inj e; omega)⟩
set_option linter.unusedSimpArgs false in
set_option maxRecDepth 100000 in
set_option maxHeartbeats 6400000 in
theorem QeL (rb t : Nat) (v : Value) (c : Cal) (w : World) (hv : CalAt w v c) (ht : t < 4) (hx : 64 < c.text.length) : Calls Try.prog 14 #[.pointer (some ⟨rb, 0, none⟩), .int .i64 t, v] w fun e w' => e = .returned (repV (code 9)) ∧ Below w.heap.size w w' := by
 have hf : hostB t = true := by unfold hostB; simp; omega
 have hfour := Qj t
 rw [hf] at hfour
 have hx1 : (64 : Int) < (c.text.length : Int) := by omega
 obtain ⟨vl, vg, rfl, hvl, hvg⟩ := hv
 obtain ⟨pl, cl, rfl, _⟩ := id hvl
 obtain ⟨pg, cg, rfl, _⟩ := id hvg
 have HVL := hid hvl
 have HVG := hid hvg
 unfold calV
 clear hvl hvg
 go_enter Try.func14, Try.ntmps14
 go_upto_region 2 with fail
 have hb0 : Below w.heap.size w ((w.alloc (.cells #[.int .i64 c.kind, .int .i64 c.h, .int .i64 c.t, .int .i64 c.n, .int .i64 c.c, .slice pl c.label.length cl, .slice pg c.grants.length cg, .string ⟨c.text.toArray⟩] 40)).alloc (.cells #[.int .i64 0, .int .i64 0, .string ⟨#[]⟩] 52)) := (Qe w _).alloc (by simp) _
 have HB0 : Hid (((w.alloc (.cells #[.int .i64 c.kind, .int .i64 c.h, .int .i64 c.t, .int .i64 c.n, .int .i64 c.c, .slice pl c.label.length cl, .slice pg c.grants.length cg, .string ⟨c.text.toArray⟩] 40)).alloc (.cells #[.int .i64 0, .int .i64 0, .string ⟨#[]⟩] 52)).heap[w.heap.size]? = some (.cells #[.int .i64 c.kind, .int .i64 c.h, .int .i64 c.t, .int .i64 c.n, .int .i64 c.c, .slice pl c.label.length cl, .slice pg c.grants.length cg, .string ⟨c.text.toArray⟩] 40 (0, 0))) := hid (QI (heap_alloc_new w _) _)
 have HR0 : Hid (((w.alloc (.cells #[.int .i64 c.kind, .int .i64 c.h, .int .i64 c.t, .int .i64 c.n, .int .i64 c.c, .slice pl c.label.length cl, .slice pg c.grants.length cg, .string ⟨c.text.toArray⟩] 40)).alloc (.cells #[.int .i64 0, .int .i64 0, .string ⟨#[]⟩] 52)).heap[w.heap.size + 1]? = some (.cells #[.int .i64 0, .int .i64 0, .string ⟨#[]⟩] 52 (0, 0))) := hid (by have := heap_alloc_new (w.alloc (.cells #[.int .i64 c.kind, .int .i64 c.h, .int .i64 c.t, .int .i64 c.n, .int .i64 c.c, .slice pl c.label.length cl, .slice pg c.grants.length cg, .string ⟨c.text.toArray⟩] 40)) (.cells #[.int .i64 0, .int .i64 0, .string ⟨#[]⟩] 52); simpa using this)
 generalize ((w.alloc (.cells #[.int .i64 c.kind, .int .i64 c.h, .int .i64 c.t, .int .i64 c.n, .int .i64 c.c, .slice pl c.label.length cl, .slice pg c.grants.length cg, .string ⟨c.text.toArray⟩] 40)).alloc (.cells #[.int .i64 0, .int .i64 0, .string ⟨#[]⟩] 52)) = w0 at *
 have b7 := Qa HB0.out 7
 have b7' : w0.cell? ⟨w.heap.size, 7, none⟩ = some (.string ⟨c.text.toArray⟩) := b7
 clear b7
 go_wp2_with (first | (go_at_call 23; refine (hfour _).mono ?_; rintro e w1 ⟨rfl, hw1⟩; rw [hw1]; clear hw1 w1) | (go_at_call 39; refine (Qw _ _).mono ?_; rintro e w9 ⟨rfl, hw9⟩; have HR9 := hid (Qc HR0.out hw9); have hb9 := Qd hb0 hw9; have HW9 := hid hw9; clear hw9; have g0 := Qa HR9.out 0; have g1 := Qa HR9.out 1; have g2 := Qa HR9.out 2; have gf0 := Qf HR9.out 0; have gf1 := Qf HR9.out 1; have gf2 := Qf HR9.out 2))
 have hE := Qv w9 (w.heap.size + 1) (.int .i64 9) (.int .i64 0) (.string ⟨#[]⟩)
 exact bodyPost_ret (results_cell_row rfl _ _ (w.heap.size + 1) 52 _ (0, 0) _ rfl (QA _ _ _ HR9.out) Try.underlying52 rfl (by kernel_rfl)) rfl ⟨rfl, hb9.grown hE hb9.size (fun k e => by have := Option.some.inj e; omega)⟩
end Go.Proofs.Ytpdijobakfpnbaa
