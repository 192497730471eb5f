/- Plain facts: what a step upon a kernel moves, and what it does not; no program is named here. -/
import Derived.Test.YtgpldlbmjakjhaaGreatQPlainInv
import Derived.Test.YtgpldlbmjakjhaaGreatQKDelivE
import Derived.Test.YtgpldlbmjakjhaaGreatQTAdd
import Derived.Test.YtgpldlbmjakjhaaGreatQCRo
import Derived.Test.YtgpldlbmjakjhaaGreatQPlainWire
import Derived.Test.YtgpldlbmjakjhaaGreatQPlain
namespace Go.Proofs.Parclose

def thrOf (K : Ker) (t : Int) : Thr := (getT K t).getD zeroThr
theorem thrOf_nat {K : Ker} {n : Nat} (h : n < K.ths.length) : thrOf K n = K.ths[n] := by unfold thrOf; rw [getT_nat h]; rfl
/-- a step that moves the caller alone -/
structure SelfStep (K : Ker) (th th2 : Thr) (c : Cal) (r : Rep) : Prop where
  label : th2.label = th.label ∨ (c.kind = 5 ∧ r.code = 0 ∧ flowsL th.label th2.label th.own = true)
  own : ∀ x ∈ th.own, x ∈ th2.own
  objs : th2.objs = th.objs ∨ ∃ o, th2.objs = th.objs ++ [o]
  text : th2.text = th.text ∨ c.kind = 9 ∨ (c.kind = 7 ∧ r.code = 0) ∨ (c.kind = 4 ∧ r.code = 0 ∧ th2.objs = th.objs ∧ ∃ o, objAt K c.t c.n = some o ∧ flowsL o.label th.label th.own = true)
theorem SelfStep.refl (K : Ker) (th : Thr) (c : Cal) (r : Rep) : SelfStep K th th c r := ⟨.inl rfl, fun _ h => h, .inl rfl, .inl rfl⟩

end Go.Proofs.Parclose

namespace Go.Proofs.YtgpldlbmjakjhaaGreat
open Go.RowKit Go.Proofs.Parclose

theorem ObjsNew.base {w : World} {B B' : Nat} {v : Value} {os : List Obt} (h : ObjsNew w B v os) (hB : B' ≤ B) : ObjsNew w B' v os := by
  obtain ⟨vs, h1, h2, h3⟩ := h
  exact ⟨vs, h1, own_base_le h2 hB, fun j g1 g2 => own_base_le (h3 j g1 g2) hB⟩
theorem MailsNew.base {w : World} {B B' : Nat} {v : Value} {ms : List Mal} (h : MailsNew w B v ms) (hB : B' ≤ B) : MailsNew w B' v ms := by
  obtain ⟨vs, h1, h2, h3⟩ := h
  exact ⟨vs, h1, own_base_le h2 hB, fun j g1 g2 => ⟨own_base_le (h3 j g1 g2).1 hB, own_base_le (h3 j g1 g2).2 hB⟩⟩
theorem ThrNew.base {w : World} {B B' : Nat} {vl vo vj vm : Value} {th : Thr} (h : ThrNew w B vl vo vj vm th) (hB : B' ≤ B) : ThrNew w B' vl vo vj vm th :=
  ⟨own_base_le h.lab hB, own_base_le h.own hB, h.objs.base hB, h.mails.base hB⟩
theorem zero_new (w : World) (B : Nat) : ThrNew w B (.slice none 0 0) (.slice none 0 0) (.slice none 0 0) (.slice none 0 0) zeroThr :=
  ⟨World.ownsRow_nil _ _ _ _, World.ownsRow_nil _ _ _ _, ⟨[], rfl, World.ownsRow_nil _ _ _ _, fun _ h => by simp at h⟩, ⟨[], rfl, World.ownsRow_nil _ _ _ _, fun _ h => by simp at h⟩⟩

theorem Thread_out (kb : Nat) (t : Int) (w : World) (ht : ¬ (0 ≤ t ∧ t < 4)) : Calls Tryz.prog 34 #[.pointer (some ⟨kb, 0, none⟩), .int .i64 t] w fun e w' => e = .returned (.agg #[.slice none 0 0, .slice none 0 0, .string ⟨#[]⟩, .slice none 0 0, .slice none 0 0]) ∧ Below w.heap.size w w' := by
  go_enter Tryz.func34, Tryz.ntmps34
  go_wp2_with (go_at_call 58; refine (thread_out kb t _ ht).mono ?_; rintro e w1 ⟨rfl, rfl⟩)
  exact bodyPost_ret (results_cell_row rfl _ _ w.heap.size 42 _ (0, 0) _ rfl (heap_alloc_new w _) Tryz.underlying42 rfl (by kernel_rfl)) rfl ⟨rfl, below_box _ _⟩

set_option maxRecDepth 100000 in
set_option maxHeartbeats 1600000 in
theorem Thread_in (kb t : Nat) (F : List Nat) (V : List ThrV) (K : Ker) (w : World) (h : KerAt w kb F V K) (hg : GoodK K) (h4 : t < 4) (h2 : t < K.ths.length) :
    Calls Tryz.prog 34 #[.pointer (some ⟨kb, 0, none⟩), .int .i64 t] w fun e w' => ∃ pl cl po co pj cj pm cm, e = .returned (.agg #[.slice pl K.ths[t].label.length cl, .slice po K.ths[t].own.length co, .string ⟨K.ths[t].text.toArray⟩, .slice pj K.ths[t].objs.length cj, .slice pm K.ths[t].mails.length cm]) ∧ ThrNew w' w.heap.size (.slice pl K.ths[t].label.length cl) (.slice po K.ths[t].own.length co) (.slice pj K.ths[t].objs.length cj) (.slice pm K.ths[t].mails.length cm) K.ths[t] ∧ Below w.heap.size w w' := by
  have h1 : t < V.length := by rw [h.len]; exact h4
  have hT := h.tat t h1 h2
  have gt := hg.ths _ (List.getElem_mem h2)
  obtain ⟨t0, t1, t2, t3, t4⟩ := hT.cells
  obtain ⟨ptl, ctl, hvl, _⟩ := id hT.thr.1.1
  obtain ⟨po, co, hvo⟩ := ownV hT.thr.2.1
  obtain ⟨pj, cj, hj⟩ : ∃ p c, V[t].vj = .slice p K.ths[t].objs.length c := by
    obtain ⟨_, _, j2, _⟩ := hT.thr.2.2.1
    exact own_slice j2
  obtain ⟨pm, cm, hm⟩ : ∃ p c, V[t].vm = .slice p K.ths[t].mails.length c := by
    obtain ⟨_, _, j2, _⟩ := hT.thr.2.2.2
    exact own_slice j2
  have hcp := fun wx (hb : Below w.heap.size w wx) => copyThread_any V[t] K.ths[t] F wx ((hT.below hb).thr) (Nat.le_trans gt.own (by decide)) (Nat.le_trans gt.objs (by decide)) (Nat.le_trans gt.mails (by decide)) (fun m hm => (fit_of (gt.mail m hm)).2.2)
  rw [hvl] at t0
  rw [hvo] at t1
  rw [hj] at t3
  rw [hm] at t4
  rw [hvl, hvo, hj, hm] at hcp
  have hkb := h.fin kb h.kbF
  clear hT h gt hg
  generalize K.ths[t] = th at *
  go_enter Tryz.func34, Tryz.ntmps34
  go_wp2_with (first
    | (go_at_call 58; refine (thread_in kb t _ h4).mono ?_; rintro e w1 ⟨rfl, rfl⟩)
    | (go_at_call 59; refine (hcp _ (below_box _ _)).mono ?_; rintro e w2 ⟨vl, vo, vj, vm, rfl, hn, hw2⟩; have HN := hid hn; obtain ⟨p, q, rfl⟩ := own_slice hn.lab; obtain ⟨p', q', rfl⟩ := own_slice hn.own; obtain ⟨_, _, j2, _⟩ := hn.objs; obtain ⟨p5, q5, rfl⟩ := own_slice j2; obtain ⟨_, _, j3, _⟩ := hn.mails; obtain ⟨p6, q6, rfl⟩ := own_slice j3; have hx := heap_keep (heap_alloc_new w _) hw2; obtain ⟨⟨c0, c1, c2, c3, c4⟩, f0, f1, f2, f3, f4⟩ := cells5 hx; have HX := hid hx; have HB := hid (below_then (below_box _ _) hw2); clear hx hw2 hn j2 j3))
  have hW := st5_heap (.slice p th.label.length q) (.slice p' th.own.length q') (.string ⟨th.text.toArray⟩) (.slice p5 th.objs.length q5) (.slice p6 th.mails.length q6) HX.out
  have hS := st5_grown w2 w.heap.size (.slice p th.label.length q) (.slice p' th.own.length q') (.string ⟨th.text.toArray⟩) (.slice p5 th.objs.length q5) (.slice p6 th.mails.length q6)
  have hb7 := HB.out.grown hS HB.out.size (fun k hk => by cases hk; exact Nat.le_refl _)
  have hn := (HN.out.base (below_box w _).size).keep (R := [w.heap.size]) (fun k hk => .inr ⟨_, _, by simp at hk; subst hk; exact HX.out, by decide, by decide, by decide, by decide⟩) (kept_grown hS fun k e => .inl (by have := Option.some.inj e; simp; omega))
  exact bodyPost_ret (results_cell_row rfl _ _ w.heap.size 42 _ (0, 0) _ rfl hW Tryz.underlying42 rfl (by kernel_rfl)) rfl ⟨_, _, _, _, _, _, _, _, rfl, hn, hb7⟩

theorem Thread_any (kb : Nat) (t : Int) (F : List Nat) (V : List ThrV) (K : Ker) (w : World) (h : KerAt w kb F V K) (hg : GoodK K) :
    Calls Tryz.prog 34 #[.pointer (some ⟨kb, 0, none⟩), .int .i64 t] w fun e w' => ∃ pl cl po co pj cj pm cm, e = .returned (.agg #[.slice pl (thrOf K t).label.length cl, .slice po (thrOf K t).own.length co, .string ⟨(thrOf K t).text.toArray⟩, .slice pj (thrOf K t).objs.length cj, .slice pm (thrOf K t).mails.length cm]) ∧ ThrNew w' w.heap.size (.slice pl (thrOf K t).label.length cl) (.slice po (thrOf K t).own.length co) (.slice pj (thrOf K t).objs.length cj) (.slice pm (thrOf K t).mails.length cm) (thrOf K t) ∧ Below w.heap.size w w' := by
  cases hth : getT K t with
  | none =>
    have e : thrOf K t = zeroThr := by unfold thrOf; rw [hth]; rfl
    rw [e]
    exact (Thread_out kb t w (getT_none hg.four hth)).mono fun _ _ ⟨h1, h2⟩ => ⟨none, 0, none, 0, none, 0, none, 0, h1, zero_new _ _, h2⟩
  | some th =>
    obtain ⟨n, rfl, hn, rfl⟩ := getT_some hth
    rw [thrOf_nat hn]
    exact Thread_in kb n F V K w h hg (by have := hg.four; omega) hn
end Go.Proofs.YtgpldlbmjakjhaaGreat

namespace Go.Proofs.YtgpldlbmjakjhaaGreat
open Go.RowKit Go.Proofs.Parclose

theorem field_own (a b c d e : Value) (w : World) : (Instr.field 42 (.agg #[a, b, c, d, e]) 1).run Tryz.prog w = .ok b w := by kernel_rfl
theorem cells8 {w : World} {b : Nat} {t : TypeId} {y0 y1 y2 y3 y4 y5 y6 y7 : Value} (h : w.heap[b]? = some (.cells #[y0, y1, y2, y3, y4, y5, y6, y7] t (0, 0))) : w.cell? ⟨b, 0, none⟩ = some y0 ∧ w.cell? ⟨b, 1, none⟩ = some y1 ∧ w.cell? ⟨b, 2, none⟩ = some y2 ∧ w.cell? ⟨b, 3, none⟩ = some y3 ∧ w.cell? ⟨b, 4, none⟩ = some y4 ∧ w.cell? ⟨b, 5, none⟩ = some y5 ∧ w.cell? ⟨b, 6, none⟩ = some y6 ∧ w.cell? ⟨b, 7, none⟩ = some y7 :=
  ⟨heap_cell h 0, heap_cell h 1, heap_cell h 2, heap_cell h 3, heap_cell h 4, heap_cell h 5, heap_cell h 6, heap_cell h 7⟩

theorem hasB_contains (l : List Int) (x : Int) : hasB l x = l.contains x := by
  unfold hasB
  first | rfl | simp
theorem own_eight {K : Ker} (h : GoodK K) (t : Int) : (thrOf K t).own.length ≤ 8 := by
  unfold thrOf
  cases ht : getT K t with
  | none => simp [zeroThr]
  | some th =>
    obtain ⟨n, _, hn, e⟩ := getT_some ht
    exact (h.ths th (e ▸ List.getElem_mem hn)).own
set_option linter.unusedSimpArgs false in
set_option maxRecDepth 100000 in
set_option maxHeartbeats 3200000 in
theorem ccertify_any (cb h : Nat) (t : Int) (F : List Nat) (Z : CluV) (C : Clu) (vx : Value) (c : Cal) (w : World) (hc : CluAt w cb F Z C) (hg : GoodC C) (h4 : h < 4) (hv : CalAt w vx c) :
    Calls Tryz.prog 67 #[.pointer (some ⟨cb, 0, none⟩), .int .i64 h, .int .i64 t, vx] w fun e w' => e = .returned (.int .i64 (certifyC C h t c).2) ∧ ∃ G Z', CluAt w' cb G Z' (certifyC C h t c).1 ∧ CStep cb w F Z w' G Z' := by
  obtain ⟨vl, vg, rfl, ⟨pl, cl, rfl, _⟩, ⟨pg, cg, rfl, _⟩⟩ := hv
  unfold calV
  have HCF : Hid (certifyC C h t c = if hostB c.h && !(c.h == (h : Int)) && timeB c.n then (if ((thrOf (C.ks h) t).own.contains c.c) then addC C h ⟨c.c, h, c.h, c.n⟩ else (C, 7)) else (C, 2)) := hid (by unfold certifyC kerC thrOf; simp only [Int.toNat_natCast])
  have HBB := hid (below_box w (.cells #[.int .i64 c.kind, .int .i64 c.h, .int .i64 c.t, .int .i64 c.n, .int .i64 c.c, .slice pl c.label.length cl, .slice pg c.grants.length cg, .string ⟨c.text.toArray⟩] 30))
  have HX0 := hid (heap_alloc_new w (.cells #[.int .i64 c.kind, .int .i64 c.h, .int .i64 c.t, .int .i64 c.n, .int .i64 c.c, .slice pl c.label.length cl, .slice pg c.grants.length cg, .string ⟨c.text.toArray⟩] 30))
  have HC0 := hid (hc.below HBB.out)
  have HG := hid hg
  have hlt := hc.lt
  clear hc hg
  have hh := fun wx => chost_any c.h wx
  have htm := fun wx => ctime_any c.n wx
  by_cases g1 : hostB c.h = true
  rotate_left
  · have e1 : hostB c.h = false := by simpa using g1
    have HP : Hid (certifyC C h t c = (C, 2)) := hid (by rw [HCF.out, e1]; rfl)
    rw [e1] at hh
    clear HCF g1 e1 htm
    go_enter Tryz.func67, Tryz.ntmps67
    go_wp2_with (go_at_call 32; refine (hh _).mono ?_; rintro e w1 ⟨rfl, hw⟩; subst hw)
    go_ret
    rw [HP.out]
    exact ⟨rfl, _, _, HC0.out, CStep.below HBB.out⟩
  · rw [g1] at hh
    by_cases g2 : c.h = (h : Int)
    · have HP : Hid (certifyC C h t c = (C, 2)) := hid (by rw [HCF.out, g1, show (c.h == (h : Int)) = true by simpa using g2]; rfl)
      have e2 : (c.h == (h : Int)) = true := by simpa using g2
      clear HCF g1 g2 htm
      go_enter Tryz.func67, Tryz.ntmps67
      go_wp2_with (go_at_call 32; refine (hh _).mono ?_; rintro e w1 ⟨rfl, hw⟩; subst hw)
      go_ret
      rw [HP.out]
      exact ⟨rfl, _, _, HC0.out, CStep.below HBB.out⟩
    · have e2 : (c.h == (h : Int)) = false := by simpa using g2
      by_cases g3 : timeB c.n = true
      rotate_left
      · have e3 : timeB c.n = false := by simpa using g3
        have HP : Hid (certifyC C h t c = (C, 2)) := hid (by rw [HCF.out, g1, e2, e3]; rfl)
        rw [e3] at htm
        clear HCF g1 g2 g3 e3
        go_enter Tryz.func67, Tryz.ntmps67
        go_wp2_with (first | (go_at_call 32; refine (hh _).mono ?_; rintro e w1 ⟨rfl, hw⟩; subst hw) | (go_at_call 85; refine (htm _).mono ?_; rintro e w1 ⟨rfl, hw⟩; subst hw))
        go_ret
        rw [HP.out]
        exact ⟨rfl, _, _, HC0.out, CStep.below HBB.out⟩
      · rw [g3] at htm
        have HCF2 : Hid (certifyC C h t c = if ((thrOf (C.ks h) t).own.contains c.c) then addC C h ⟨c.c, h, c.h, c.n⟩ else (C, 7)) := hid (by rw [HCF.out, g1, e2, g3]; rfl)
        clear HCF g1 g2 g3
        have i0 : ¬ ((h : Int) < 0) := by omega
        have i1 : ¬ ((4 : Int) ≤ h) := by omega
        have i2 : (h : Int) < 4 := by omega
        have i3 : (0 : Int) ≤ h := by omega
        have hfo := field_own
        have k2 := HC0.out.cker h4
        have HK2 := hid k2
        go_enter Tryz.func67, Tryz.ntmps67
        go_upto_region 3 with (first | (go_at_call 32; refine (hh _).mono ?_; rintro e w1 ⟨rfl, hw⟩; subst hw) | (go_at_call 85; refine (htm _).mono ?_; rintro e w1 ⟨rfl, hw⟩; subst hw))
        generalize (w.alloc (.cells #[.int .i64 c.kind, .int .i64 c.h, .int .i64 c.t, .int .i64 c.n, .int .i64 c.c, .slice pl c.label.length cl, .slice pg c.grants.length cg, .string ⟨c.text.toArray⟩] 30)) = w0 at *
        have HS : Hid (∀ w', Below w0.heap.size w0 w' → w'.cell? ⟨cb, 2 + h, none⟩ = some (.pointer (some ⟨Z.kp h, 0, none⟩)) ∧ w'.cell? ⟨w.heap.size, 4, none⟩ = some (.int .i64 c.c)) := hid (fun w' hw => ⟨(hw.cell (cell_block HK2.out)).trans HK2.out, heap_cell (heap_keep HX0.out hw) 4⟩)
        have hth := fun wx (hb : Below w0.heap.size w0 wx) => Thread_any (Z.kp h) t F (Z.V h) (C.ks h) wx ((HC0.out.ker h h4).below hb) (HG.out.ks h h4)
        have HOL : Hid ((thrOf (C.ks h) t).own.length ≤ 8) := hid (own_eight (HG.out.ks h h4) t)
        refine wp_region_held_drew (S := (fun w' => w'.cell? ⟨cb, 2 + h, none⟩ = some (.pointer (some ⟨Z.kp h, 0, none⟩)) ∧ w'.cell? ⟨w.heap.size, 4, none⟩ = some (.int .i64 c.c))) (by as_aux_lemma => kernel_rfl) (HS.out _ (Below.refl _ _).drew) (fun _hHeld => ?_)
        refine takeD 0 25 ?v1 rfl (by as_aux_lemma => kernel_rfl) (by as_aux_lemma => kernel_rfl) (by as_aux_lemma => kernel_rfl) (by as_aux_lemma => kernel_rfl) (fun _ _ _ h => h) (Or.inl ⟨by rfl, ?hy1⟩) (by assumption) ?rest1
        case hy1 => intro wz hSw; (try dsimp only at hSw); go_simp; try with_reducible rfl
        simp only [Act.put, List.setIfInBounds_toArray, List.set_cons_zero, List.set_cons_succ]
        refine takeD 1 26 ?v2 rfl (by as_aux_lemma => kernel_rfl) (by as_aux_lemma => kernel_rfl) (by as_aux_lemma => kernel_rfl) (by as_aux_lemma => kernel_rfl) (fun _ _ _ h => h) (Or.inl ⟨by rfl, ?hy2⟩) (by assumption) ?rest2
        case hy2 => intro wz hSw; (try dsimp only at hSw); go_simp; try with_reducible rfl
        simp only [Act.put, List.setIfInBounds_toArray, List.set_cons_zero, List.set_cons_succ]
        refine takeD 2 27 ?v3 rfl (by as_aux_lemma => kernel_rfl) (by as_aux_lemma => kernel_rfl) (by as_aux_lemma => kernel_rfl) (by as_aux_lemma => kernel_rfl) (fun _ _ _ h => h) (Or.inl ⟨by rfl, ?hy3⟩) (by assumption) ?rest3
        case hy3 => intro wz hSw; (try dsimp only at hSw); go_simp; try with_reducible rfl
        simp only [Act.put, List.setIfInBounds_toArray, List.set_cons_zero, List.set_cons_succ]
        refine takeD 3 28 ?v4 rfl (by as_aux_lemma => kernel_rfl) (by as_aux_lemma => kernel_rfl) (by as_aux_lemma => kernel_rfl) (by as_aux_lemma => kernel_rfl) (fun _ _ _ h => h) (Or.inl ⟨by rfl, ?hy4⟩) (by assumption) ?rest4
        case hy4 => intro wz hSw; (try dsimp only at hSw); go_simp; try with_reducible rfl
        simp only [Act.put, List.setIfInBounds_toArray, List.set_cons_zero, List.set_cons_succ]
        refine takeD 4 29 ?v5 rfl (by as_aux_lemma => kernel_rfl) (by as_aux_lemma => kernel_rfl) (by as_aux_lemma => kernel_rfl) (by as_aux_lemma => kernel_rfl) (fun _ _ _ h => h) (Or.inl ⟨by rfl, ?hy5⟩) (by assumption) ?rest5
        case hy5 => intro wz hSw; (try dsimp only at hSw); go_simp; try with_reducible rfl
        simp only [Act.put, List.setIfInBounds_toArray, List.set_cons_zero, List.set_cons_succ]
        refine takeD 5 30 ?v6 rfl (by as_aux_lemma => kernel_rfl) (by as_aux_lemma => kernel_rfl) (by as_aux_lemma => kernel_rfl) (by as_aux_lemma => kernel_rfl) (fun _ _ _ h => h) (Or.inl ⟨by rfl, ?hy6⟩) (by assumption) ?rest6
        case hy6 => intro wz hSw; (try dsimp only at hSw); go_simp; try with_reducible rfl
        simp only [Act.put, List.setIfInBounds_toArray, List.set_cons_zero, List.set_cons_succ]
        refine takeD 6 31 ?v7 rfl (by as_aux_lemma => kernel_rfl) (by as_aux_lemma => kernel_rfl) (by as_aux_lemma => kernel_rfl) (by as_aux_lemma => kernel_rfl) (fun _ _ _ h => h) (Or.inl ⟨by rfl, ?hy7⟩) (by assumption) ?rest7
        case hy7 => intro wz hSw; (try dsimp only at hSw); go_simp; try with_reducible rfl
        simp only [Act.put, List.setIfInBounds_toArray, List.set_cons_zero, List.set_cons_succ]
        refine takeD 9 34 ?v8 rfl (by as_aux_lemma => kernel_rfl) (by as_aux_lemma => kernel_rfl) (by as_aux_lemma => kernel_rfl) (by as_aux_lemma => kernel_rfl) (fun _ _ _ h => h) (Or.inl ⟨by rfl, ?hy8⟩) (by assumption) ?rest8
        case hy8 => intro wz hSw; (try dsimp only at hSw); go_simp; try with_reducible rfl
        simp only [Act.put, List.setIfInBounds_toArray, List.set_cons_zero, List.set_cons_succ]
        refine takeD 10 35 ?v9 rfl (by as_aux_lemma => kernel_rfl) (by as_aux_lemma => kernel_rfl) (by as_aux_lemma => kernel_rfl) (by as_aux_lemma => kernel_rfl) (fun _ _ _ h => h) (Or.inl ⟨by rfl, ?hy9⟩) (by assumption) ?rest9
        case hy9 => intro wz hSw; (try dsimp only at hSw); go_simp; try with_reducible rfl
        simp only [Act.put, List.setIfInBounds_toArray, List.set_cons_zero, List.set_cons_succ]
        refine wpAnyH_ready (rs := [7]) (by as_aux_lemma => kernel_rfl) (by simp) ?_
        refine (AllReadyH.cons rfl (fun K' hK => ?_) AllReadyH.nil)
        go_simp
        go_wp2_with (go_at_call 34; refine (hth _ (Below.refl _ _).drew).mono ?_; rintro e w1 ⟨p1, c1, po, co, p3, c3, p4, c4, rfl, hnew, hwd⟩)
        have hw1 : Below w0.heap.size w0 w1 := ⟨hwd.os, hwd.tape, hwd.output, hwd.size, hwd.block⟩
        clear hwd
        have HIN : Hid (IntsAt w1 (.slice po (thrOf (C.ks h) t).own.length co) (thrOf (C.ks h) t).own) := hid (nums_of_own hnew.own (by have := HOL.out; omega))
        clear hnew
        refine hK.out _ _ (HS.out _ hw1) (fun _ => ?_)
        clear hK K'
        refine takeD 8 33 ?v10 rfl (by as_aux_lemma => kernel_rfl) (by as_aux_lemma => kernel_rfl) (by as_aux_lemma => kernel_rfl) (by as_aux_lemma => kernel_rfl) (fun _ _ _ h => h) (Or.inl ⟨by rfl, ?hy10⟩) (by assumption) ?rest10
        case hy10 => intro wz hSw; (try dsimp only at hSw); go_simp; try with_reducible rfl
        simp only [Act.put, List.setIfInBounds_toArray, List.set_cons_zero, List.set_cons_succ]
        refine wpAnyH_ready (rs := [11]) (by as_aux_lemma => kernel_rfl) (by simp) ?_
        refine (AllReadyH.cons rfl (fun K' hK => ?_) AllReadyH.nil)
        go_simp
        go_wp2_with (go_at_call 53; refine (contains_any _ _ c.c _ HIN.out).mono ?_; rintro e w2 ⟨rfl, hw2⟩; rw [hw2]; clear hw2)
        refine hK.out _ _ (HS.out _ hw1) (fun _ => ?_)
        clear hK K'
        refine takeD 12 37 ?v11 rfl (by as_aux_lemma => kernel_rfl) (by as_aux_lemma => kernel_rfl) (by as_aux_lemma => kernel_rfl) (by as_aux_lemma => kernel_rfl) (fun _ _ _ h => h) (Or.inl ⟨by rfl, ?hy11⟩) (by assumption) ?rest11
        case hy11 => intro wz hSw; (try dsimp only at hSw); go_simp; try with_reducible rfl
        simp only [Act.put, List.setIfInBounds_toArray, List.set_cons_zero, List.set_cons_succ]
        refine wpAnyH_done (by as_aux_lemma => kernel_rfl) ?_ _
        have HC1 := hid (HC0.out.below hw1)
        have HX1 := hid (heap_keep HX0.out hw1)
        obtain ⟨y0, y1, y2, y3, y4, y5, y6, y7⟩ := cells8 HX1.out
        clear hth HIN HOL
        cases hct : hasB (thrOf (C.ks h) t).own c.c with
        | false =>
          have HP : Hid (certifyC C h t c = (C, 7)) := hid (by rw [HCF2.out, ← hasB_contains, hct]; rfl)
          go_wp2
          go_ret
          rw [HP.out]
          exact ⟨rfl, _, _, HC1.out, CStep.below (below_then HBB.out hw1)⟩
        | true =>
          have HP : Hid (certifyC C h t c = addC C h ⟨c.c, h, c.h, c.n⟩) := hid (by rw [HCF2.out, ← hasB_contains, hct]; rfl)
          have hadd := cadd_any cb h F Z C ⟨c.c, h, c.h, c.n⟩ w1 HC1.out h4
          unfold crtV at hadd
          go_wp2_with (go_at_call 86; refine hadd.mono ?_; rintro e w3 ⟨rfl, G3, Z3, hC3, hS3⟩)
          go_ret
          rw [HP.out]
          exact ⟨rfl, _, _, hC3, (CStep.below (below_then HBB.out hw1)).trans hS3⟩
end Go.Proofs.YtgpldlbmjakjhaaGreat
