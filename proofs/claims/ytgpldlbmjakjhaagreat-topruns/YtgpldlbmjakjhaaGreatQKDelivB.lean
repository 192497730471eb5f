/- kernel.Deliver of mail that is not good. -/
import Derived.Test.YtgpldlbmjakjhaaGreatQPlain
import Derived.Test.YtgpldlbmjakjhaaGreatQKDeliv
namespace Go.Proofs.YtgpldlbmjakjhaaGreat
open Go.RowKit Go.Proofs.Parclose

set_option maxRecDepth 100000 in
set_option maxHeartbeats 3200000 in
theorem Deliver_bad (kb t : Nat) (m : Mal) (vm : Value) (w : World) (h4 : t < 4) (hm : MalAt w vm m) (he : mailE m ≠ 0) :
    Calls Tryz.prog 83 #[.pointer (some ⟨kb, 0, none⟩), .int .i64 t, vm] w fun e w' => e = .returned (.tuple #[]) ∧ Below w.heap.size w w' := by
  have hmal := fun wx (hb : Below w.heap.size w wx) => goodMail_any vm m wx (hm.below hb)
  have hne : (mailE m != 0) = true := by simpa using he
  generalize mailE m = E at *
  obtain ⟨vl, vg, rfl, hla, hgr⟩ := hm
  obtain ⟨pl, cl, rfl, _⟩ := id hla
  obtain ⟨pg, cg, rfl, _⟩ := id hgr
  unfold malV at hmal ⊢
  clear hla hgr
  go_enter Tryz.func83, Tryz.ntmps83
  go_wp2_with (go_at_call 58; refine (thread_in kb t _ h4).mono ?_; rintro e w1 ⟨rfl, rfl⟩)
  have HW0 := hid (Below.refl (w.alloc (.cells #[.int .i64 m.host, .int .i64 m.thread, .slice pl m.label.length cl, .slice pg m.grants.length cg, .string ⟨m.text.toArray⟩] 46)).heap.size (w.alloc (.cells #[.int .i64 m.host, .int .i64 m.thread, .slice pl m.label.length cl, .slice pg m.grants.length cg, .string ⟨m.text.toArray⟩] 46)))
  have HB0 := hid (below_box w (.cells #[.int .i64 m.host, .int .i64 m.thread, .slice pl m.label.length cl, .slice pg m.grants.length cg, .string ⟨m.text.toArray⟩] 46))
  obtain ⟨s0, s1, s2, s3, s4⟩ := box5k HW0.out
  refine wp_region_held_drew (S := (fun w' => w'.cell? ⟨w.heap.size, 0, none⟩ = some (.int .i64 m.host) ∧ w'.cell? ⟨w.heap.size, 1, none⟩ = some (.int .i64 m.thread) ∧ w'.cell? ⟨w.heap.size, 2, none⟩ = some (.slice pl m.label.length cl) ∧ w'.cell? ⟨w.heap.size, 3, none⟩ = some (.slice pg m.grants.length cg) ∧ w'.cell? ⟨w.heap.size, 4, none⟩ = some (.string ⟨m.text.toArray⟩))) (by kernel_rfl) ⟨s0, s1, s2, s3, s4⟩ (fun hHeld => ?_)
  refine takeD 0 10 ?v1 rfl (by kernel_rfl) (by kernel_rfl) (by kernel_rfl) (by kernel_rfl) (fun _ _ _ h => h) (Or.inl ⟨by rfl, ?hy1⟩) (by assumption) ?rest1
  case hy1 => intro wz hSw; (try dsimp only at hSw); go_simp; try with_reducible rfl
  simp only [Act.put, List.setIfInBounds_toArray, List.set_cons_zero, List.set_cons_succ]
  refine takeD 1 11 ?v2 rfl (by kernel_rfl) (by kernel_rfl) (by kernel_rfl) (by kernel_rfl) (fun _ _ _ h => h) (Or.inl ⟨by rfl, ?hy2⟩) (by assumption) ?rest2
  case hy2 => intro wz hSw; (try dsimp only at hSw); go_simp; try with_reducible rfl
  simp only [Act.put, List.setIfInBounds_toArray, List.set_cons_zero, List.set_cons_succ]
  refine takeD 2 12 ?v3 rfl (by kernel_rfl) (by kernel_rfl) (by kernel_rfl) (by kernel_rfl) (fun _ _ _ h => h) (Or.inl ⟨by rfl, ?hy3⟩) (by assumption) ?rest3
  case hy3 => intro wz hSw; (try dsimp only at hSw); go_simp; try with_reducible rfl
  simp only [Act.put, List.setIfInBounds_toArray, List.set_cons_zero, List.set_cons_succ]
  refine takeD 3 13 ?v4 rfl (by kernel_rfl) (by kernel_rfl) (by kernel_rfl) (by kernel_rfl) (fun _ _ _ h => h) (Or.inl ⟨by rfl, ?hy4⟩) (by assumption) ?rest4
  case hy4 => intro wz hSw; (try dsimp only at hSw); go_simp; try with_reducible rfl
  simp only [Act.put, List.setIfInBounds_toArray, List.set_cons_zero, List.set_cons_succ]
  refine wpAnyH_ready (rs := [4]) (by kernel_rfl) (by simp) ?_
  refine AllReadyH.cons rfl (fun K' hK => ?_) AllReadyH.nil
  go_simp
  go_wp2_with (go_at_call 15; refine (hmal _ HB0.out.drew).mono ?_; rintro e w2 ⟨rfl, hwd⟩; have hw := kundrew hwd; have HW2 := hid (below_then HW0.out hw); have HB2 := hid (below_then HB0.out hw); obtain ⟨z0, z1, z2, z3, z4⟩ := box5k HW2.out; clear hw hwd)
  refine hK.out _ _ ⟨z0, z1, z2, z3, z4⟩ (fun hHeld2 => ?_)
  clear hK K' hHeld
  refine takeD 5 15 ?v5 rfl (by kernel_rfl) (by kernel_rfl) (by kernel_rfl) (by kernel_rfl) (fun _ _ _ h => h) (Or.inl ⟨by rfl, ?hy5⟩) (by assumption) ?rest5
  case hy5 => intro wz hSw; (try dsimp only at hSw); go_simp; try with_reducible rfl
  simp only [Act.put, List.setIfInBounds_toArray, List.set_cons_zero, List.set_cons_succ]
  refine takeD 6 16 ?v6 rfl (by kernel_rfl) (by kernel_rfl) (by kernel_rfl) (by kernel_rfl) (fun _ _ _ h => h) (Or.inl ⟨by rfl, ?hy6⟩) (by assumption) ?rest6
  case hy6 => intro wz hSw; (try dsimp only at hSw); go_simp; try with_reducible rfl
  simp only [Act.put, List.setIfInBounds_toArray, List.set_cons_zero, List.set_cons_succ]
  refine takeD 7 17 ?v7 rfl (by kernel_rfl) (by kernel_rfl) (by kernel_rfl) (by kernel_rfl) (fun _ _ _ h => h) (Or.inl ⟨by rfl, ?hy7⟩) (by assumption) ?rest7
  case hy7 => intro wz hSw; (try dsimp only at hSw); go_simp; try with_reducible rfl
  simp only [Act.put, List.setIfInBounds_toArray, List.set_cons_zero, List.set_cons_succ]
  refine skipD 8 18 rfl (by kernel_rfl) (by kernel_rfl) (by kernel_rfl) (by kernel_rfl) (fun _ _ _ h => h) (by kernel_rfl) (by assumption) ?_
  simp only [Act.put, List.setIfInBounds_toArray, List.set_cons_zero, List.set_cons_succ]
  refine skipD 9 19 rfl (by kernel_rfl) (by kernel_rfl) (by kernel_rfl) (by kernel_rfl) (fun _ _ _ h => h) (by kernel_rfl) (by assumption) ?_
  simp only [Act.put, List.setIfInBounds_toArray, List.set_cons_zero, List.set_cons_succ]
  refine skipD 10 20 rfl (by kernel_rfl) (by kernel_rfl) (by kernel_rfl) (by kernel_rfl) (fun _ _ _ h => h) (by kernel_rfl) (by assumption) ?_
  simp only [Act.put, List.setIfInBounds_toArray, List.set_cons_zero, List.set_cons_succ]
  refine skipD 11 21 rfl (by kernel_rfl) (by kernel_rfl) (by kernel_rfl) (by kernel_rfl) (fun _ _ _ h => h) (by kernel_rfl) (by assumption) ?_
  simp only [Act.put, List.setIfInBounds_toArray, List.set_cons_zero, List.set_cons_succ]
  refine skipD 12 22 rfl (by kernel_rfl) (by kernel_rfl) (by kernel_rfl) (by kernel_rfl) (fun _ _ _ h => h) (by kernel_rfl) (by assumption) ?_
  simp only [Act.put, List.setIfInBounds_toArray, List.set_cons_zero, List.set_cons_succ]
  refine skipD 13 23 rfl (by kernel_rfl) (by kernel_rfl) (by kernel_rfl) (by kernel_rfl) (fun _ _ _ h => h) (by kernel_rfl) (by assumption) ?_
  simp only [Act.put, List.setIfInBounds_toArray, List.set_cons_zero, List.set_cons_succ]
  refine skipD 14 24 rfl (by kernel_rfl) (by kernel_rfl) (by kernel_rfl) (by kernel_rfl) (fun _ _ _ h => h) (by kernel_rfl) (by assumption) ?_
  simp only [Act.put, List.setIfInBounds_toArray, List.set_cons_zero, List.set_cons_succ]
  refine skipD 15 25 rfl (by kernel_rfl) (by kernel_rfl) (by kernel_rfl) (by kernel_rfl) (fun _ _ _ h => h) (by kernel_rfl) (by assumption) ?_
  simp only [Act.put, List.setIfInBounds_toArray, List.set_cons_zero, List.set_cons_succ]
  refine skipD 16 26 rfl (by kernel_rfl) (by kernel_rfl) (by kernel_rfl) (by kernel_rfl) (fun _ _ _ h => h) (by kernel_rfl) (by assumption) ?_
  simp only [Act.put, List.setIfInBounds_toArray, List.set_cons_zero, List.set_cons_succ]
  refine skipD 17 27 rfl (by kernel_rfl) (by kernel_rfl) (by kernel_rfl) (by kernel_rfl) (fun _ _ _ h => h) (by kernel_rfl) (by assumption) ?_
  simp only [Act.put, List.setIfInBounds_toArray, List.set_cons_zero, List.set_cons_succ]
  refine skipD 18 28 rfl (by kernel_rfl) (by kernel_rfl) (by kernel_rfl) (by kernel_rfl) (fun _ _ _ h => h) (by kernel_rfl) (by assumption) ?_
  simp only [Act.put, List.setIfInBounds_toArray, List.set_cons_zero, List.set_cons_succ]
  refine skipD 19 29 rfl (by kernel_rfl) (by kernel_rfl) (by kernel_rfl) (by kernel_rfl) (fun _ _ _ h => h) (by kernel_rfl) (by assumption) ?_
  simp only [Act.put, List.setIfInBounds_toArray, List.set_cons_zero, List.set_cons_succ]
  refine takeD 20 30 ?v8 rfl (by kernel_rfl) (by kernel_rfl) (by kernel_rfl) (by kernel_rfl) (fun _ _ _ h => h) (Or.inl ⟨by rfl, ?hy8⟩) (by assumption) ?rest8
  case hy8 => intro wz hSw; (try dsimp only at hSw); go_simp; try with_reducible rfl
  simp only [Act.put, List.setIfInBounds_toArray, List.set_cons_zero, List.set_cons_succ]
  refine wpAnyH_done (by kernel_rfl) ?_ _
  go_wp2
  exact bodyPost_ret (results_none rfl _ _ _) rfl ⟨rfl, HB2.out⟩
end Go.Proofs.YtgpldlbmjakjhaaGreat

namespace Go.Proofs.YtgpldlbmjakjhaaGreat
open Go.RowKit Go.Proofs.Parclose

/-- append of one mail, as a step of a region that draws -/
theorem step_mail {w : World} {ops : Array Oper} {o : Oper} {a0 : Act} {K : Act → World → Prop} {Q : Exit → Act → World → Prop} {E : Prop} (hgd : o.guard = none) (s x : Operand)
    (ho : o.op = .call { callee := .builtin .append, args := #[s, x], argTypes := #[40, 40] }) (v : Value) (n : Nat) (xs : List Value) (hs : a0.eval s = v) (hown : w.ownsRow 0 46 5 v n xs)
    (g : Nat) (x1 x2 x3 x4 x5 : Value) (hx : a0.eval x = .slice (some ⟨g, 0, none⟩) 1 1) (hc : ∀ j u, [x1, x2, x3, x4, x5][j]? = some u → w.cell? ((⟨g, 0, none⟩ : Addr).add j) = some u) (h1 : ∀ u ∈ [x1, x2, x3, x4, x5], u.oneCell' = true) (hn : n ≤ 1000)
    (h : ∀ v' w', w'.ownsRow 0 46 5 v' (n + 1) (xs ++ [x1, x2, x3, x4, x5]) → w.grownBy w' v.ownBlock → (∀ k, v'.ownBlock = some k → v.ownBlock = some k ∨ w.heap.size ≤ k) → K (a0.put o.dst v') w') :
    if Region.wanted o (yielded ops a0.tmps) = true then Oper.wp Tryz.prog o a0 w K Q else E := by
  have hw : Region.wanted o (yielded ops a0.tmps) = true := by simp [Region.wanted, hgd]
  rw [if_pos hw]
  obtain ⟨i0, hi, hz0, hz1, hz2⟩ := info_parts info_mail
  obtain ⟨v', w', hr, k1, k2, k3⟩ := append_where (ty := o.type) (c := 1) Tryz.underlying40 hi hz0 hz1 hz2 rfl (by decide) hown (m := 1) (news := [x1, x2, x3, x4, x5]) rfl hc h1 (by unfold maxLen; omega) (by omega)
  unfold Oper.wp execOp
  simp only [ho, resolve, invoke, builtin, Sem.run_bind, Sem.run_pure, Result.andThen_ok, List.map_toArray, List.map_cons, List.map_nil, hs, hx, hr]
  exact h v' w' k1 k2 k3
theorem enter_kcopyMail (args : Array Value) (w : World) : (callFunc 80 args).run Tryz.prog w = .ok (.enter 80 args) w := by kernel_rfl
/-- a copy of mail, as a step of a region that draws -/
theorem step_kcopyMail {w : World} {ops : Array Oper} {o : Oper} {a0 : Act} {K : Act → World → Prop} {Q : Exit → Act → World → Prop} {E : Prop} (hgd : o.guard = none) (x : Operand) (ats : Array TypeId)
    (ho : o.op = .call { callee := .value (.func 80), args := #[x], argTypes := ats }) (v : Value) (m : Mal) (hx : a0.eval x = v) (hv : MalAt w v m) (hxl : m.text.length ≤ 64)
    (h : ∀ p6 c6 q6 d6 w', w'.ownsRow w.heap.size 74 2 (.slice p6 m.label.length c6) m.label.length (flat2 m.label) → w'.ownsRow w.heap.size 3 1 (.slice q6 m.grants.length d6) m.grants.length (flat1 m.grants) → Below w.heap.size w w' → K (a0.put o.dst (.agg #[.int .i64 m.host, .int .i64 m.thread, .slice p6 m.label.length c6, .slice q6 m.grants.length d6, .string ⟨m.text.toArray⟩])) w') :
    if Region.wanted o (yielded ops a0.tmps) = true then Oper.wp Tryz.prog o a0 w K Q else E := by
  have hw : Region.wanted o (yielded ops a0.tmps) = true := by simp [Region.wanted, hgd]
  rw [if_pos hw]
  unfold Oper.wp
  obtain ⟨dst, op, ty, pos, after, guard⟩ := o
  simp only at ho
  subst ho
  rw [execOp_call_go]
  have e : (#[] ++ #[x].map a0.eval ++ #[] : Array Value) = #[v] := by simp [hx]
  rw [e, enter_kcopyMail, Oper.upon_enter]
  refine (copyMail_any v m w hv (by omega)).mono ?_
  rintro e w' ⟨vl, vg, rfl, h1, h2, h3⟩
  obtain ⟨p6, c6, rfl⟩ := own_slice h1
  obtain ⟨q6, d6, rfl⟩ := own_slice h2
  have hx2 := h p6 c6 q6 d6 w' h1 h2 h3
  unfold malV
  rw [lastL_short hxl]
  exact hx2

theorem mails_snoc {w w1 : World} {G : List Nat} {B : Nat} {v v7 u1 u2 : Value} {vs : List (Value × Value)} {ms : List Mal} {m : Mal} (h1 : vs.length = ms.length) (hold : w.ownsRow 0 46 5 v ms.length (flatM vs ms)) (h3 : ∀ j (g1 : j < vs.length) (g2 : j < ms.length), RoLab w G vs[j].1 ms[j].label ∧ RoInts w G vs[j].2 ms[j].grants)
    (hv : ∀ k, v.ownBlock = some k → k ∈ G) (hl : w.ownsRow B 74 2 u1 m.label.length (flat2 m.label)) (hi : w.ownsRow B 3 1 u2 m.grants.length (flat1 m.grants)) (hlen : m.label.length ≤ 8796093022208) (hlen2 : m.grants.length ≤ 17592186044416) (hB : ∀ k ∈ G, k < B)
    (hown : w1.ownsRow 0 46 5 v7 (ms.length + 1) (flatM vs ms ++ [.int .i64 m.host, .int .i64 m.thread, u1, u2, .string ⟨m.text.toArray⟩])) (hg : w.grownBy w1 v.ownBlock)
    (hwh : ∀ k, v7.ownBlock = some k → v.ownBlock = some k ∨ w.heap.size ≤ k) : MailsAt w1 (G ++ v7.ownBlock.toList) v7 (ms ++ [m]) := by
  have hk : KeptF v.ownBlock.toList w w1 := kept_grown hg fun k e => .inl (by rw [e]; simp)
  have hm := more_row w G hv hwh
  have hl1 := own_own hl hold (by decide) hg
  have hi1 := own_own hi hold (by decide) hg
  refine ⟨vs ++ [(u1, u2)], by simp [h1], ?_, fun j g1 g2 => ?_⟩
  · rw [flatM_snoc vs ms h1, List.length_append]
    exact hown
  · by_cases hj : j < vs.length
    · rw [List.getElem_append_left hj, List.getElem_append_left (by omega)]
      have hh := h3 j hj (by omega)
      exact ⟨hh.1.keep (hk.sub fun k e => .inl (hv k (list_row e))) hm, hh.2.keep (hk.sub fun k e => .inl (hv k (list_row e))) hm⟩
    · have ej : j = vs.length := by simp at g1; omega
      subst ej
      rw [List.getElem_append_right (Nat.le_refl _), List.getElem_append_right (by omega)]
      simp only [h1, Nat.sub_self, List.getElem_cons_zero]
      refine ⟨⟨labs_of_own hl1 hlen, fun _ k e hF => ?_⟩, ⟨nums_of_own hi1 hlen2, fun _ k e hF => ?_⟩⟩
      · have hb := own_base hl1 e
        rcases List.mem_append.1 hF with g | g
        · have := hB k g; omega
        · exact own_ne hl1 hown (by decide) e (list_row g)
      · have hb := own_base hi1 e
        rcases List.mem_append.1 hF with g | g
        · have := hB k g; omega
        · exact own_ne hi1 hown (by decide) e (list_row g)
end Go.Proofs.YtgpldlbmjakjhaaGreat

namespace Go.Proofs.YtgpldlbmjakjhaaGreat
open Go.RowKit Go.Proofs.Parclose

theorem laid5 (w : World) (a b c d e : Value) (t : TypeId) : ∀ j u, [a, b, c, d, e][j]? = some u → (w.alloc (.cells #[a, b, c, d, e] t)).cell? ((⟨w.heap.size, 0, none⟩ : Addr).add j) = some u := by
  intro j u hu
  rw [WideShapes.add_plain, Nat.zero_add, World.cell?_alloc_mark]
  simpa using hu

set_option maxRecDepth 100000 in
set_option maxHeartbeats 6400000 in
theorem Deliver_put (kb t : Nat) (F : List Nat) (V : List ThrV) (K : Ker) (m : Mal) (vm : Value) (w : World) (h : KerAt w kb F V K) (h1 : t < V.length) (h2 : t < K.ths.length) (hm : MalAt w vm m) (hl : K.ths[t].own.length ≤ 1000) (he : mailE m = 0) (hf : flowsL m.label K.ths[t].label K.ths[t].own = true) (hroom : K.ths[t].mails.length < 6) :
    Calls Tryz.prog 83 #[.pointer (some ⟨kb, 0, none⟩), .int .i64 t, vm] w fun e w' => e = .returned (.tuple #[]) ∧ ∃ G V', KerAt w' kb G V' { K with ths := K.ths.set t { K.ths[t] with mails := K.ths[t].mails ++ [m] } } ∧ KStep kb w F V w' G V' := by
  have h4 : t < 4 := by rw [← h.len]; exact h1
  have hT := h.tat t h1 h2
  obtain ⟨t0, t1, t2, t3, t4⟩ := hT.cells
  obtain ⟨ptl, ctl, hvl, _⟩ := id hT.thr.1.1
  obtain ⟨po, co, hvo⟩ := ownV hT.thr.2.1
  obtain ⟨vs, hvs, hmr, hros⟩ := id hT.thr.2.2.2
  obtain ⟨pm, cm, hvm⟩ := own_slice hmr
  have hxl : m.text.length ≤ 64 := (fit_of he).2.2
  have hmal := fun wx (hb : Below w.heap.size w wx) => goodMail_any vm m wx (hm.below hb)
  rw [he] at hmal
  have HM := hid hm
  obtain ⟨vl, vg, rfl, hla, hgr⟩ := hm
  have hlen := hla.len
  have hlen2 := hgr.len
  have hfl := fun wx (hb : Below w.heap.size w wx) => flows_any _ _ _ m.label K.ths[t].label K.ths[t].own wx (hla.below hb) (hT.thr.1.1.below hb) ((own_ints hT.thr.2.1 hl).below hb)
  rw [hf, hvl, hvo] at hfl
  obtain ⟨pl, cl, rfl, _⟩ := id hla
  obtain ⟨pg, cg, rfl, _⟩ := id hgr
  rw [hvl] at t0
  rw [hvo] at t1
  rw [hvm] at t4
  have hkb := h.fin kb h.kbF
  have s0 := fun ob => cell_over2 ob t0
  have s1 := fun ob => cell_over2 ob t1
  have HVM := hid hvm
  have HOB := hid hmr
  have HVS := hid hvs
  have HROS := hid hros
  have HT := hid hT
  have HK := hid h
  unfold malV at hmal HM ⊢
  clear hT h hla hgr hmr hvm hvs hros
  generalize hth : K.ths[t] = th at *
  have HTH := hid hth
  clear hth
  go_enter Tryz.func83, Tryz.ntmps83
  go_wp2_with (go_at_call 58; refine (thread_in kb t _ h4).mono ?_; rintro e w1 ⟨rfl, rfl⟩)
  have HW0 := hid (Below.refl (w.alloc (.cells #[.int .i64 m.host, .int .i64 m.thread, .slice pl m.label.length cl, .slice pg m.grants.length cg, .string ⟨m.text.toArray⟩] 46)).heap.size (w.alloc (.cells #[.int .i64 m.host, .int .i64 m.thread, .slice pl m.label.length cl, .slice pg m.grants.length cg, .string ⟨m.text.toArray⟩] 46)))
  have HB0 := hid (below_box w (.cells #[.int .i64 m.host, .int .i64 m.thread, .slice pl m.label.length cl, .slice pg m.grants.length cg, .string ⟨m.text.toArray⟩] 46))
  have HT0 := hid t0
  have HT1 := hid t1
  have HT4 := hid t4
  go_region_held3 (fun w' => (w'.cell? ⟨w.heap.size, 0, none⟩ = some (.int .i64 m.host) ∧ w'.cell? ⟨w.heap.size, 1, none⟩ = some (.int .i64 m.thread) ∧ w'.cell? ⟨w.heap.size, 2, none⟩ = some (.slice pl m.label.length cl) ∧ w'.cell? ⟨w.heap.size, 3, none⟩ = some (.slice pg m.grants.length cg) ∧ w'.cell? ⟨w.heap.size, 4, none⟩ = some (.string ⟨m.text.toArray⟩)) ∧ w'.cell? ⟨kb, 2 + t * 5, none⟩ = some (.slice ptl th.label.length ctl) ∧ w'.cell? ⟨kb, 2 + t * 5 + 1, none⟩ = some (.slice po th.own.length co)) (go_keep)
    (first
      | (go_at_call 15; refine (hmal _ HB0.out.drew).mono ?_; rintro e w2 ⟨rfl, hwd⟩; have hw := kundrew hwd; have HW2 := hid (below_then HW0.out hw); have HB2 := hid (below_then HB0.out hw); obtain ⟨z0, z1, z2, z3, z4⟩ := box5k HW2.out; have u0 := HB2.out.cell (cell_block HT0.out); rw [HT0.out] at u0; have u1 := HB2.out.cell (cell_block HT1.out); rw [HT1.out] at u1; clear hw hwd)
      | (go_at_call 23; refine (hfl _ HB2.out).mono ?_; rintro e w3 ⟨rfl, hw⟩; have HW3 := hid (below_then HW2.out hw); have HB3 := hid (below_then HB2.out hw); obtain ⟨y0, y1, y2, y3, y4⟩ := box5k HW3.out; have v0 := HB3.out.cell (cell_block HT0.out); rw [HT0.out] at v0; have v1 := HB3.out.cell (cell_block HT1.out); rw [HT1.out] at v1; clear hw))
  all_goals
    have q4 := HB3.out.cell (cell_block HT4.out)
    rw [HT4.out] at q4
    have HT3 := hid (HT.out.below HB3.out)
    have hb3 := HB3.out
    have hroom2 : ((th.mails.length : Int)) < 6 := by omega
    have hdec : (74 : Nat) ≠ 46 := by decide
    clear v0 v1 t0 t1 t4 hmal hfl s0 s1
    go_wp2
    go_region_law ((first
      | (refine step_kcopyMail (by rfl) (.tmp 42) #[46] (by rfl) _ m (by rfl) (HM.out.below hb3.drew) hxl ?_; intro p6 c6 q6 d6 w6 hownL hownG hw6d; have hw6 := kundrew hw6d; have z4 := hw6.cell (cell_block q4); rw [q4] at z4; have hlt6 : kb < w6.heap.size := cell_block z4; have HOWL := hid hownL; have HOWG := hid hownG; have HW6 := hid hw6; clear hownL hownG hw6d hw6)
      | (refine step_mail (by rfl) (.tmp 41) (.tmp 44) (by rfl) (.slice pm th.mails.length cm) th.mails.length (flatM vs th.mails) (by rfl) (by rw [← HVM.out]; exact own_later (own_later HOB.out (below_then hb3 HW6.out)) (below_box w6 _)) w6.heap.size (.int .i64 m.host) (.int .i64 m.thread) (.slice p6 m.label.length c6) (.slice q6 m.grants.length d6) (.string ⟨m.text.toArray⟩) (by rfl) (laid5 w6 _ _ _ _ _ _) (by intro u hu; simp at hu; rcases hu with rfl | rfl | rfl | rfl | rfl <;> rfl) (by omega) ?_; intro v7 w7 hown7 hg7 hwh7; obtain ⟨p7, c7, rfl⟩ := own_slice hown7; have HT6 := hid ((HT3.out.below HW6.out).below (below_box w6 (.cells #[.int .i64 m.host, .int .i64 m.thread, .slice p6 m.label.length c6, .slice q6 m.grants.length d6, .string ⟨m.text.toArray⟩] 46))); have haf := HT6.out.after hg7 (fun k hk => mem_rows.2 (.inr (.inr (by rw [HVM.out]; exact hk)))) HT6.out.cells.2.2.2.2; obtain ⟨y5, yf⟩ := haf; have HOWN7 := hid hown7; have HG7 := hid hg7; have HWH7 := hid hwh7; clear hown7 hg7 hwh7)))
    all_goals
      have hmails := mails_snoc (m := m) HVS.out (own_later (own_later HOB.out (below_then hb3 HW6.out)) (below_box w6 (.cells #[.int .i64 m.host, .int .i64 m.thread, .slice p6 m.label.length c6, .slice q6 m.grants.length d6, .string ⟨m.text.toArray⟩] 46))) (fun j g1 g2 => ⟨(HROS.out j g1 g2).1.keep (kept_below _ (below_then (below_then hb3 HW6.out) (below_box w6 _))) (More.refl _ _), (HROS.out j g1 g2).2.keep (kept_below _ (below_then (below_then hb3 HW6.out) (below_box w6 _))) (More.refl _ _)⟩) (fun k e => HT6.out.rows k (mem_rows.2 (.inr (.inr e)))) (own_later HOWL.out (below_box w6 _)) (own_later HOWG.out (below_box w6 _)) hlen hlen2 (fun k e => HT3.out.fin k e) HOWN7.out (by rw [HVM.out]; exact HG7.out) (by rw [HVM.out]; exact HWH7.out)
      have hst := HT6.out.mails (by rw [HVM.out]; exact HG7.out) hmails (by rw [HVM.out]; exact HWH7.out)
      have HST := hid hst
      clear hst hmails
      go_wp2
      go_end0
      exact ⟨rfl, _, _, ((HK.out.below (below_then (below_then hb3 HW6.out) (below_box w6 _))).step h1 h2 HST.out.1 HST.out.2), (KStep.below (below_then (below_then hb3 HW6.out) (below_box w6 _))).trans (KStep.of h1 HST.out.2)⟩
end Go.Proofs.YtgpldlbmjakjhaaGreat
