/- parcloselaw.call answers a call of its own memory. -/
import Derived.Test.YtpdijobakfpnbaaQFromB
import Derived.Test.YtpdijobakfpnbaaQKRef0
import Derived.Test.YtpdijobakfpnbaaQKKer
import Derived.Test.YtpdijobakfpnbaaQKMem
import Derived.Deep.RegionLaw
namespace Go.Proofs.Ytpdijobakfpnbaa
open Go.RowKit Go.Proofs.Parclose
set_option maxHeartbeats 400000 in
theorem QeX (v : Value) (l : List (Int × Int)) (w : World) (hv : LabAt w v l) :
 Calls Try.prog 21 #[v] w fun e w' => ∃ p6 c6, e = .returned (.slice p6 l.length c6) ∧ w'.ownsRow w.heap.size 86 2 (.slice p6 l.length c6) l.length (flat l) ∧ Below w.heap.size w w' := by
 obtain ⟨p, cap, rfl, hlc, hcap, hcells⟩ := hv
 obtain ⟨i0, hi, hz0, hz1, hz2⟩ := info_parts Qaf
 have hnil := World.ownsRow_nil w w.heap.size 86 2
 have hroom : (0 + l.length) * 16 ≤ 140737488355328 := by omega
 have hsz : 0 + l.length ≤ maxLen := by unfold maxLen; omega
 have hnone : p = none → l = [] := fun hp => by
  by_cases h0 : 0 < l.length
  · obtain ⟨b, o, e, _⟩ := hcells h0
    rw [hp] at e; cases e
  · exact List.length_eq_zero_iff.1 (by omega)
 cases p with
 | none =>
  have e := hnone rfl
  subst e
  have ec : cap = 0 := hlc.2 rfl
  subst ec
  go_enter Try.func21, Try.ntmps21
  go_wp2_with (at_builtin; refine wpList_append_own_none rfl _ _ 30 rfl w.heap.size 86 i0 2 Try.underlying30 hi _ _ _ rfl hnil rfl ?_)
  go_ret
  exact ⟨_, _, rfl, hnil, Below.refl _ _⟩
 | some ad =>
  have hnews : ∀ j u, (flat l)[j]? = some u → w.cell? (ad.add j) = some u := by
   by_cases h0 : 0 < l.length
   · obtain ⟨b, o, e, hc⟩ := hcells h0
     cases e
     exact QaW hc
   · have e : l = [] := List.length_eq_zero_iff.1 (by omega)
     subst e
     intro j u hu
     simp [flat] at hu
  go_enter Try.func21, Try.ntmps21
  go_wp2_with (at_builtin; refine wpList_append_own _ rfl _ _ 30 rfl w.heap.size 86 i0 _ 2 16 Try.underlying30 hi hz0 hz1 hz2 rfl (by decide) _ _ _ rfl hnil ad l.length cap (flat l) rfl (Qal l) hnews (Qby l) hsz hroom (Nat.le_refl _) ?_; intro v' w1 hown1 hgrow1 hnil1)
  go_ret
  have ho : w1.ownsRow w.heap.size 86 2 v' l.length (flat l) := by simpa using hown1
  obtain ⟨p6, c6, rfl⟩ := Qi ho
  exact ⟨_, _, rfl, ho, (Below.refl _ _).grown hgrow1 (Nat.le_refl _) (fun k hk => by cases hk)⟩
set_option maxHeartbeats 400000 in
theorem Qd2 (v : Value) (zs : List Int) (w : World) (hv : IntsAt w v zs) :
 Calls Try.prog 22 #[v] w fun e w' => ∃ p6 c6, e = .returned (.slice p6 zs.length c6) ∧ w'.ownsRow w.heap.size 3 1 (.slice p6 zs.length c6) zs.length (zs.map (Value.int .i64)) ∧ Below w.heap.size w w' := by
 obtain ⟨p, cap, rfl, hlc, hcap, hcells⟩ := hv
 obtain ⟨i0, hi, hz0, hz1, hz2⟩ := info_parts Qa3
 have hnil := World.ownsRow_nil w w.heap.size 3 1
 have hroom : (0 + zs.length) * 8 ≤ 140737488355328 := by omega
 have hsz : 0 + zs.length ≤ maxLen := by unfold maxLen; omega
 have hnone : p = none → zs = [] := fun hp => by
  by_cases h0 : 0 < zs.length
  · obtain ⟨b, o, e, _⟩ := hcells h0
    rw [hp] at e; cases e
  · exact List.length_eq_zero_iff.1 (by omega)
 cases p with
 | none =>
  have e := hnone rfl
  subst e
  have ec : cap = 0 := hlc.2 rfl
  subst ec
  go_enter Try.func22, Try.ntmps22
  go_wp2_with (at_builtin; refine wpList_append_own_none rfl _ _ 31 rfl w.heap.size 3 i0 1 Try.underlying31 hi _ _ _ rfl hnil rfl ?_)
  go_ret
  exact ⟨_, _, rfl, hnil, Below.refl _ _⟩
 | some ad =>
  have hnews : ∀ j u, (zs.map (Value.int .i64))[j]? = some u → w.cell? (ad.add j) = some u := by
   intro j u hu
   have hj : j < zs.length := by simpa using (List.getElem?_eq_some_iff.1 hu).1
   obtain ⟨b, o, e, hc⟩ := hcells (by omega)
   cases e
   rw [WideShapes.add_plain, hc j hj]
   simpa [hj] using hu
  go_enter Try.func22, Try.ntmps22
  go_wp2_with (at_builtin; refine wpList_append_own _ rfl _ _ 31 rfl w.heap.size 3 i0 _ 1 8 Try.underlying31 hi hz0 hz1 hz2 rfl (by decide) _ _ _ rfl hnil ad zs.length cap (zs.map (Value.int .i64)) rfl (by simp) hnews (ints_oneCell _ _) hsz hroom (Nat.le_refl _) ?_; intro v' w1 hown1 hgrow1 hnil1)
  go_ret
  have ho : w1.ownsRow w.heap.size 3 1 v' zs.length (zs.map (Value.int .i64)) := by simpa using hown1
  obtain ⟨p6, c6, rfl⟩ := Qi ho
  exact ⟨_, _, rfl, ho, (Below.refl _ _).grown hgrow1 (Nat.le_refl _) (fun k hk => by cases hk)⟩
theorem QdE (args : Array Value) (w : World) : (callFunc 21 args).run Try.prog w = .ok (.enter 21 args) w := by kernel_rfl
theorem QcY (args : Array Value) (w : World) : (callFunc 22 args).run Try.prog w = .ok (.enter 22 args) w := by kernel_rfl
theorem QdV {w : World} {ops : Array Oper} {o : Oper} {a0 : Act} {K : Act → World → Prop} {Q : Exit → Act → World → Prop} {E : Prop} (hgd : o.guard = none) (x : Operand) (ats : Array TypeId)
 (ho : o.op = .call { callee := .value (.func 21), args := #[x], argTypes := ats }) (v : Value) (l : List (Int × Int)) (hx : a0.eval x = v) (hv : LabAt w v l)
 (h : ∀ p6 c6 w', w'.ownsRow w.heap.size 86 2 (.slice p6 l.length c6) l.length (flat l) → Below w.heap.size w w' → K (a0.put o.dst (.slice p6 l.length c6)) w') :
 if Region.wanted o (yielded ops a0.tmps) = true then Oper.wp Try.prog o a0 w K Q else E := by
 have hw : Region.wanted o (yielded ops a0.tmps) = true := by simp [Region.wanted, hgd]
 rw [if_pos hw]
 unfold Oper.wp
 obtain ⟨dst, op, ty, pos, after, guard⟩ := o
 simp only at ho
 subst ho
 rw [execOp_call_go]
 have e : (#[] ++ #[x].map a0.eval ++ #[] : Array Value) = #[v] := by simp [hx]
 rw [e, QdE, Oper.upon_enter]
 refine (QeX v l w hv).mono ?_
 rintro e w' ⟨p, c, rfl, h1, h2⟩
 exact h p c w' h1 h2
theorem Qdu {w : World} {ops : Array Oper} {o : Oper} {a0 : Act} {K : Act → World → Prop} {Q : Exit → Act → World → Prop} {E : Prop} (hgd : o.guard = none) (x : Operand) (ats : Array TypeId)
 (ho : o.op = .call { callee := .value (.func 22), args := #[x], argTypes := ats }) (v : Value) (l : List Int) (hx : a0.eval x = v) (hv : IntsAt w v l)
 (h : ∀ p6 c6 w', w'.ownsRow w.heap.size 3 1 (.slice p6 l.length c6) l.length (l.map (Value.int .i64)) → Below w.heap.size w w' → K (a0.put o.dst (.slice p6 l.length c6)) w') :
 if Region.wanted o (yielded ops a0.tmps) = true then Oper.wp Try.prog o a0 w K Q else E := by
 have hw : Region.wanted o (yielded ops a0.tmps) = true := by simp [Region.wanted, hgd]
 rw [if_pos hw]
 unfold Oper.wp
 obtain ⟨dst, op, ty, pos, after, guard⟩ := o
 simp only at ho
 subst ho
 rw [execOp_call_go]
 have e : (#[] ++ #[x].map a0.eval ++ #[] : Array Value) = #[v] := by simp [hx]
 rw [e, QcY, Oper.upon_enter]
 refine (Qd2 v l w hv).mono ?_
 rintro e w' ⟨p, c, rfl, h1, h2⟩
 exact h p c w' h1 h2
set_option linter.unusedSimpArgs false in
set_option maxRecDepth 100000 in
set_option maxHeartbeats 3200000 in
theorem QbQ (v : Value) (c : Cal) (w : World) (hv : CalAt w v c) :
 Calls Try.prog 7 #[v] w fun e w' => ∃ p6 c6 p7 c7, e = .returned (.agg #[.int .i64 c.kind, .int .i64 c.h, .int .i64 c.t, .int .i64 c.n, .int .i64 c.c, .slice p6 c.label.length c6, .slice p7 c.grants.length c7, .string ⟨c.text.toArray⟩]) ∧ CalAt w' (.agg #[.int .i64 c.kind, .int .i64 c.h, .int .i64 c.t, .int .i64 c.n, .int .i64 c.c, .slice p6 c.label.length c6, .slice p7 c.grants.length c7, .string ⟨c.text.toArray⟩]) c ∧ Below w.heap.size w w' := by
 obtain ⟨vl, vg, rfl, hl, hg⟩ := hv
 obtain ⟨pl, cl, rfl, _⟩ := id hl
 obtain ⟨pg, cg, rfl, _⟩ := id hg
 unfold calV
 have hm := heap_alloc2_old w (.cells #[.int .i64 c.kind, .int .i64 c.h, .int .i64 c.t, .int .i64 c.n, .int .i64 c.c, .slice pl c.label.length cl, .slice pg c.grants.length cg, .string ⟨c.text.toArray⟩] 40) (.cells #[.int .i64 0, .int .i64 0, .int .i64 0, .int .i64 0, .int .i64 0, .slice none 0 0, .slice none 0 0, .string ⟨#[]⟩] 40)
 have hr := heap_alloc2_new w (.cells #[.int .i64 c.kind, .int .i64 c.h, .int .i64 c.t, .int .i64 c.n, .int .i64 c.c, .slice pl c.label.length cl, .slice pg c.grants.length cg, .string ⟨c.text.toArray⟩] 40) (.cells #[.int .i64 0, .int .i64 0, .int .i64 0, .int .i64 0, .int .i64 0, .slice none 0 0, .slice none 0 0, .string ⟨#[]⟩] 40)
 have hb0 : Below w.heap.size w ((w.alloc (.cells #[.int .i64 c.kind, .int .i64 c.h, .int .i64 c.t, .int .i64 c.n, .int .i64 c.c, .slice pl c.label.length cl, .slice pg c.grants.length cg, .string ⟨c.text.toArray⟩] 40)).alloc (.cells #[.int .i64 0, .int .i64 0, .int .i64 0, .int .i64 0, .int .i64 0, .slice none 0 0, .slice none 0 0, .string ⟨#[]⟩] 40)) := (Qe w _).alloc (by simp) _
 have hlt0 : w.heap.size + 2 = ((w.alloc (.cells #[.int .i64 c.kind, .int .i64 c.h, .int .i64 c.t, .int .i64 c.n, .int .i64 c.c, .slice pl c.label.length cl, .slice pg c.grants.length cg, .string ⟨c.text.toArray⟩] 40)).alloc (.cells #[.int .i64 0, .int .i64 0, .int .i64 0, .int .i64 0, .int .i64 0, .slice none 0 0, .slice none 0 0, .string ⟨#[]⟩] 40)).heap.size := by simp
 go_enter Try.func7, Try.ntmps7
 go_upto_region 1 with fail
 generalize ((w.alloc (.cells #[.int .i64 c.kind, .int .i64 c.h, .int .i64 c.t, .int .i64 c.n, .int .i64 c.c, .slice pl c.label.length cl, .slice pg c.grants.length cg, .string ⟨c.text.toArray⟩] 40)).alloc (.cells #[.int .i64 0, .int .i64 0, .int .i64 0, .int .i64 0, .int .i64 0, .slice none 0 0, .slice none 0 0, .string ⟨#[]⟩] 40)) = W at *
 have k5 := Qa hm 5
 have k6 := Qa hm 6
 have hlW := hl.below hb0
 have hgW := hg.below hb0
 have hdec : (40 : Nat) ≠ 86 := by decide
 have hdec2 : (40 : Nat) ≠ 3 := by decide
 have HM := hid hm
 have HR := hid hr
 clear hm hr
 go_region_law ((first
  | (refine QdV (by rfl) (.tmp 4) #[30] (by rfl) (.slice pl c.label.length cl) c.label (by rfl) (by first | exact hlW | exact hlW.below (Below.refl _ _).drew) ?_; intro p6 c6 w6 ho6 hw6d; have hw6 : Below W.heap.size W w6 := (by first | exact hw6d | exact kundrew hw6d); have HO6 := hid ho6; have HW6 := hid hw6; have d6 := Qa (Qc HM.out hw6) 6; clear ho6 hw6 hw6d k5 k6)
  | (refine Qdu (by rfl) (.tmp 7) #[31] (by rfl) (.slice pg c.grants.length cg) c.grants (by rfl) (hgW.below HW6.out) ?_; intro p7 c7 w7 ho7 hw7; have HO7 := hid ho7; have HW7 := hid hw7; have HM7 := hid (Qc (Qc HM.out HW6.out) hw7); have e5 := Qa HM7.out 5; have e6 := Qa HM7.out 6; have f5 := Qf HM7.out 5; have f6 := Qf HM7.out 6; have h1 : (w7.setCell ⟨w.heap.size, 5, none⟩ (.slice p6 c.label.length c6)).heap[w.heap.size]? = some (.cells #[.int .i64 c.kind, .int .i64 c.h, .int .i64 c.t, .int .i64 c.n, .int .i64 c.c, .slice p6 c.label.length c6, .slice pg c.grants.length cg, .string ⟨c.text.toArray⟩] 40 (0, 0)) := (by rw [heap_setCell HM7.out _]; rfl); have f6' := Qf h1 6; clear ho7 hw7 d6)))
 all_goals
  have h1 : (w7.setCell ⟨w.heap.size, 5, none⟩ (.slice p6 c.label.length c6)).heap[w.heap.size]? = some (.cells #[.int .i64 c.kind, .int .i64 c.h, .int .i64 c.t, .int .i64 c.n, .int .i64 c.c, .slice p6 c.label.length c6, .slice pg c.grants.length cg, .string ⟨c.text.toArray⟩] 40 (0, 0)) := by rw [heap_setCell HM7.out _]; rfl
  have hmF : ((w7.setCell ⟨w.heap.size, 5, none⟩ (.slice p6 c.label.length c6)).setCell ⟨w.heap.size, 6, none⟩ (.slice p7 c.grants.length c7)).heap[w.heap.size]? = some (.cells #[.int .i64 c.kind, .int .i64 c.h, .int .i64 c.t, .int .i64 c.n, .int .i64 c.c, .slice p6 c.label.length c6, .slice p7 c.grants.length c7, .string ⟨c.text.toArray⟩] 40 (0, 0)) := by rw [heap_setCell h1 _]; rfl
  have hrF := Qr (Qr (Qc (Qc HR.out HW6.out) HW7.out) (show w.heap.size + 1 ≠ w.heap.size by omega) 5 (.slice p6 c.label.length c6)) (show w.heap.size + 1 ≠ w.heap.size by omega) 6 (.slice p7 c.grants.length c7)
  have hLF := Qy (Qy (Ql HO6.out HW7.out) HM7.out hdec 5 (.slice p6 c.label.length c6)) h1 hdec 6 (.slice p7 c.grants.length c7)
  have hGF := Qy (Qy HO7.out HM7.out hdec2 5 (.slice p6 c.label.length c6)) h1 hdec2 6 (.slice p7 c.grants.length c7)
  have hbF := ((Qd hb0 (Qd HW6.out HW7.out)).setCell (p := ⟨w.heap.size, 5, none⟩) (Nat.le_refl _) (.slice p6 c.label.length c6)).setCell (p := ⟨w.heap.size, 6, none⟩) (Nat.le_refl _) (.slice p7 c.grants.length c7)
  have HLEN := hid (show c.label.length ≤ 8796093022208 ∧ c.grants.length ≤ 17592186044416 from ⟨hl.len, hg.len⟩)
  clear h1 e5 e6 f5 f6 f6'
  generalize ((w7.setCell ⟨w.heap.size, 5, none⟩ (.slice p6 c.label.length c6)).setCell ⟨w.heap.size, 6, none⟩ (.slice p7 c.grants.length c7)) = wE at *
  have m0 := Qa hmF 0
  have d0 := Qa hrF 0
  have q0 := Qf hrF 0
  have m1 := Qa hmF 1
  have d1 := Qa hrF 1
  have q1 := Qf hrF 1
  have m2 := Qa hmF 2
  have d2 := Qa hrF 2
  have q2 := Qf hrF 2
  have m3 := Qa hmF 3
  have d3 := Qa hrF 3
  have q3 := Qf hrF 3
  have m4 := Qa hmF 4
  have d4 := Qa hrF 4
  have q4 := Qf hrF 4
  have m5 := Qa hmF 5
  have d5 := Qa hrF 5
  have q5 := Qf hrF 5
  have m6 := Qa hmF 6
  have d6 := Qa hrF 6
  have q6 := Qf hrF 6
  have m7 := Qa hmF 7
  have d7 := Qa hrF 7
  have q7 := Qf hrF 7
  have HRF := hid hrF
  clear hmF hrF
  go_wp2
  have hS := (Qh (Qh (Qh (Qh (Qh (Qh (Qh (Qg wE (w.heap.size + 1) 0 (.int .i64 c.kind)) (Qg _ (w.heap.size + 1) 1 (.int .i64 c.h))) (Qg _ (w.heap.size + 1) 2 (.int .i64 c.t))) (Qg _ (w.heap.size + 1) 3 (.int .i64 c.n))) (Qg _ (w.heap.size + 1) 4 (.int .i64 c.c))) (Qg _ (w.heap.size + 1) 5 (.slice p6 c.label.length c6))) (Qg _ (w.heap.size + 1) 6 (.slice p7 c.grants.length c7))) (Qg _ (w.heap.size + 1) 7 (.string ⟨c.text.toArray⟩)))
  have hW := (heap_setCell (j := 7) (heap_setCell (j := 6) (heap_setCell (j := 5) (heap_setCell (j := 4) (heap_setCell (j := 3) (heap_setCell (j := 2) (heap_setCell (j := 1) (heap_setCell (j := 0) HRF.out (.int .i64 c.kind)) (.int .i64 c.h)) (.int .i64 c.t)) (.int .i64 c.n)) (.int .i64 c.c)) (.slice p6 c.label.length c6)) (.slice p7 c.grants.length c7)) (.string ⟨c.text.toArray⟩))
  have hL2 := Qaz hLF HRF.out hdec hS
  have hG2 := Qaz hGF HRF.out hdec2 hS
  have hb2 := hbF.grown hS (by have := hbF.size; omega) (fun k hk => by have := Option.some.inj hk; omega)
  refine bodyPost_ret (results_cell_row rfl _ _ (w.heap.size + 1) 40 _ (0, 0) _ rfl hW Try.underlying40 rfl (by kernel_rfl)) rfl ⟨p6, c6, p7, c7, rfl, ⟨_, _, rfl, Qbo hL2 HLEN.out.1, Qea hG2 HLEN.out.2⟩, hb2⟩
end Go.Proofs.Ytpdijobakfpnbaa
