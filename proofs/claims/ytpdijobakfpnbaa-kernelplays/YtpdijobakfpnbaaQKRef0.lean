/- The reference, in a seat without certs: four, GoodMail, CopyMail, SameNumbers, SameMail (written by genkref0.py). -/
import Derived.Test.YtpdijobakfpnbaaQFromB
import Derived.Test.YtpdijobakfpnbaaQRows0
import Derived.Test.YtpdijobakfpnbaaQKAns
import Derived.Laws.AppendOwnNone
import Derived.Laws.OwnMore
import Derived.Deep.RegionLaw
import Derived.Deep.RegionLawGrows
import Derived.Laws.StructEq
import Derived.Deep.QuietTactic
import Derived.BigQuiet
import Derived.Test.YtpdijobakfpnbaaQKKer
import Derived.Test.YtpdijobakfpnbaaQPlain
import Derived.Test.YtpdijobakfpnbaaQKText
namespace Go.Proofs.Ytpdijobakfpnbaa
open Go.RowKit Go.Proofs.Parclose
theorem Qj (c : Int) (w : World) : Calls Try.prog 23 #[.int .i64 c] w fun e w' => e = .returned (.bool (hostB c)) ∧ w' = w := by
 unfold hostB
 by_cases h1 : 0 ≤ c
 · by_cases h2 : c < 4
   · go_enter Try.func23, Try.ntmps23
     go_wp2
     go_ret
     exact ⟨Qm (by simp [h1, h2]), rfl⟩
   · go_enter Try.func23, Try.ntmps23
     go_wp2
     go_ret
     exact ⟨Qm (by simp [h2]), rfl⟩
 · go_enter Try.func23, Try.ntmps23
   go_wp2
   go_ret
   exact ⟨Qm (by simp; omega), rfl⟩
theorem QbF (l : List (Int × Int)) : (flat2 l).length = l.length * 2 := by
 induction l with
 | nil => rfl
 | cons x r ih =>
  have e : flat2 (x :: r) = .int .i64 x.1 :: .int .i64 x.2 :: flat2 r := rfl
  rw [e]
  simp only [List.length_cons, ih]
  omega
theorem Qef {w : World} {b o : Nat} {l : List (Int × Int)} (h : Cells2 w b o l) : ∀ j u, (flat2 l)[j]? = some u → w.cell? ((⟨b, o, none⟩ : Addr).add j) = some u := by
 intro j u hu
 have hj : j < l.length * 2 := by
  have := (List.getElem?_eq_some_iff.1 hu).1
  rwa [QbF] at this
 obtain ⟨h1, h2⟩ := h (j / 2) (by omega)
 obtain ⟨g1, g2⟩ := QbW l (j / 2) (by omega)
 rw [WideShapes.add_plain]
 by_cases hp : j % 2 = 0
 · have e : j = j / 2 * 2 := by omega
   rw [e] at hu ⊢
   rw [g1] at hu
   rw [h1, ← hu]
 · have e : j = j / 2 * 2 + 1 := by omega
   rw [e] at hu ⊢
   rw [g2] at hu
   rw [← Nat.add_assoc, h2, ← hu]
theorem Qbm {w : World} {ops : Array Oper} {o : Oper} {a0 : Act} {K : Act → World → Prop} {Q : Exit → Act → World → Prop} {E : Prop} (hgd : o.guard = none) (x : Operand)
 (ho : o.op = .call { callee := .builtin .append, args := #[.const (.slice none 0 0), x], argTypes := #[30, 30] }) (base : Nat) (u : Value) (l : List (Int × Int)) (hx : a0.eval x = u) (hu : LabAt w u l) (hbase : base ≤ w.heap.size)
 (h : ∀ v' w', w'.ownsRow base 86 2 v' l.length (flat2 l) → w.grownBy w' none → K (a0.put o.dst v') w') :
 if Region.wanted o (yielded ops a0.tmps) = true then Oper.wp Try.prog o a0 w K Q else E := by
 have hw : Region.wanted o (yielded ops a0.tmps) = true := by simp [Region.wanted, hgd]
 rw [if_pos hw]
 obtain ⟨i0, hi, hz0, hz1, hz2⟩ := info_parts Qaf
 obtain ⟨p, cap, rfl, hlc, hcap, hcells⟩ := hu
 have hnil := World.ownsRow_nil w base 86 2
 cases p with
 | none =>
  have e : l = [] := by
   by_cases h0 : 0 < l.length
   · obtain ⟨b, o, e, _⟩ := hcells h0
     cases e
   · exact List.length_eq_zero_iff.1 (by omega)
  subst e
  have ec : cap = 0 := hlc.2 rfl
  subst ec
  have hrun := run_append_owned_none (P := Try.prog) (w := w) base 30 o.type 86 i0 2 Try.underlying30 hi (.slice none 0 0) 0 [] hnil
  unfold Oper.wp
  have hs : a0.eval (.const (.slice none 0 0)) = .slice none 0 0 := rfl
  simp [execOp, ho, resolve, invoke, builtin, hs, hx, hrun, Result.andThen]
  exact h _ w hnil ⟨rfl, rfl, rfl, Nat.le_refl _, fun _ _ _ => rfl⟩
 | some ad =>
  have hnews : ∀ j u, (flat2 l)[j]? = some u → w.cell? (ad.add j) = some u := by
   by_cases h0 : 0 < l.length
   · obtain ⟨b, o, e, hc⟩ := hcells h0
     cases e
     exact Qef hc
   · have e : l = [] := List.length_eq_zero_iff.1 (by omega)
     subst e
     intro j u hu
     simp [flat2] at hu
  exact wp_append_own w _ x 30 ho base 86 i0 _ 2 16 Try.underlying30 hi hz0 hz1 hz2 rfl (by decide) (.slice none 0 0) 0 [] rfl hnil ad l.length cap (flat2 l) hx (QbF l) hnews (Qdi l) (by unfold maxLen; omega) (by omega) hbase
   (fun v' w' h1 h2 _ => h v' w' (by simpa using h1) h2)
theorem QcA {w : World} {ops : Array Oper} {o : Oper} {a0 : Act} {K : Act → World → Prop} {Q : Exit → Act → World → Prop} {E : Prop} (hgd : o.guard = none) (x : Operand)
 (ho : o.op = .call { callee := .builtin .append, args := #[.const (.slice none 0 0), x], argTypes := #[31, 31] }) (base : Nat) (u : Value) (l : List Int) (hx : a0.eval x = u) (hu : IntsAt w u l) (hbase : base ≤ w.heap.size)
 (h : ∀ v' w', w'.ownsRow base 3 1 v' l.length (flat1 l) → w.grownBy w' none → K (a0.put o.dst v') w') :
 if Region.wanted o (yielded ops a0.tmps) = true then Oper.wp Try.prog o a0 w K Q else E := by
 have hw : Region.wanted o (yielded ops a0.tmps) = true := by simp [Region.wanted, hgd]
 rw [if_pos hw]
 obtain ⟨i0, hi, hz0, hz1, hz2⟩ := info_parts Qa3
 obtain ⟨p, cap, rfl, hlc, hcap, hcells⟩ := hu
 have hnil := World.ownsRow_nil w base 3 1
 cases p with
 | none =>
  have e : l = [] := by
   by_cases h0 : 0 < l.length
   · obtain ⟨b, o, e, _⟩ := hcells h0
     cases e
   · exact List.length_eq_zero_iff.1 (by omega)
  subst e
  have ec : cap = 0 := hlc.2 rfl
  subst ec
  have hrun := run_append_owned_none (P := Try.prog) (w := w) base 31 o.type 3 i0 1 Try.underlying31 hi (.slice none 0 0) 0 [] hnil
  unfold Oper.wp
  have hs : a0.eval (.const (.slice none 0 0)) = .slice none 0 0 := rfl
  simp [execOp, ho, resolve, invoke, builtin, hs, hx, hrun, Result.andThen]
  exact h _ w hnil ⟨rfl, rfl, rfl, Nat.le_refl _, fun _ _ _ => rfl⟩
 | some ad =>
  have hnews : ∀ j u, (flat1 l)[j]? = some u → w.cell? (ad.add j) = some u := by
   intro j u hu
   have hj : j < l.length := by simpa [flat1] using (List.getElem?_eq_some_iff.1 hu).1
   obtain ⟨b, o, e, hc⟩ := hcells (by omega)
   cases e
   rw [WideShapes.add_plain, hc j hj]
   simpa [flat1, hj] using hu
  exact wp_append_own w _ x 31 ho base 3 i0 _ 1 8 Try.underlying31 hi hz0 hz1 hz2 rfl (by decide) (.slice none 0 0) 0 [] rfl hnil ad l.length cap (flat1 l) hx (by simp [flat1]) hnews (QaS l) (by unfold maxLen; omega) (by omega) hbase
   (fun v' w' h1 h2 _ => h v' w' (by simpa using h1) h2)
theorem Qah {w w' : World} {b : Nat} {o : Obj} (h : w.heap[b]? = some o) (hg : w.grownBy w' none) : w'.heap[b]? = some o := by
 rw [hg.block b (QJ h) (by simp), h]
theorem Qag {w w' : World} (hg : w.grownBy w' none) : Below w.heap.size w w' := ⟨hg.os, hg.tape, hg.output, hg.size, fun k hk => hg.block k hk (by simp)⟩
set_option maxRecDepth 100000 in
set_option maxHeartbeats 1600000 in
theorem Qbi (v : Value) (m : Mal) (w : World) (hv : MalAt w v m) :
 Calls Try.prog 11 #[v] w fun e w' => ∃ p q c d, e = .returned (malV m (.slice p m.label.length c) (.slice q m.grants.length d)) ∧ w'.ownsRow w.heap.size 86 2 (.slice p m.label.length c) m.label.length (flat2 m.label) ∧ w'.ownsRow w.heap.size 3 1 (.slice q m.grants.length d) m.grants.length (flat1 m.grants) ∧ Below w.heap.size w w' := by
 obtain ⟨vl, vg, rfl, hl, hg⟩ := hv
 obtain ⟨pl, cl, rfl, _⟩ := id hl
 obtain ⟨pg, cg, rfl, _⟩ := id hg
 unfold malV
 have hm := heap_alloc2_old w (.cells #[.int .i64 m.host, .int .i64 m.thread, .slice pl m.label.length cl, .slice pg m.grants.length cg, .string ⟨m.text.toArray⟩] 42) (.cells #[.int .i64 0, .int .i64 0, .slice none 0 0, .slice none 0 0, .string ⟨#[]⟩] 42)
 have hr := heap_alloc2_new w (.cells #[.int .i64 m.host, .int .i64 m.thread, .slice pl m.label.length cl, .slice pg m.grants.length cg, .string ⟨m.text.toArray⟩] 42) (.cells #[.int .i64 0, .int .i64 0, .slice none 0 0, .slice none 0 0, .string ⟨#[]⟩] 42)
 have hb0 : Below w.heap.size w ((w.alloc (.cells #[.int .i64 m.host, .int .i64 m.thread, .slice pl m.label.length cl, .slice pg m.grants.length cg, .string ⟨m.text.toArray⟩] 42)).alloc (.cells #[.int .i64 0, .int .i64 0, .slice none 0 0, .slice none 0 0, .string ⟨#[]⟩] 42)) := (Qe w _).alloc (by simp) _
 have hlt0 : (w.heap.size + 2 : Nat) = ((w.alloc (.cells #[.int .i64 m.host, .int .i64 m.thread, .slice pl m.label.length cl, .slice pg m.grants.length cg, .string ⟨m.text.toArray⟩] 42)).alloc (.cells #[.int .i64 0, .int .i64 0, .slice none 0 0, .slice none 0 0, .string ⟨#[]⟩] 42)).heap.size := by simp
 go_enter Try.func11, Try.ntmps11
 go_wp2
 generalize ((w.alloc (.cells #[.int .i64 m.host, .int .i64 m.thread, .slice pl m.label.length cl, .slice pg m.grants.length cg, .string ⟨m.text.toArray⟩] 42)).alloc (.cells #[.int .i64 0, .int .i64 0, .slice none 0 0, .slice none 0 0, .string ⟨#[]⟩] 42)) = W at *
 have c2 := Qa hm 2
 have c3 := Qa hm 3
 have k2 := Qf hm 2
 have k3 := Qf hm 3
 have hdec : (42 : Nat) ≠ 86 := by decide
 have hdec2 : (42 : Nat) ≠ 3 := by decide
 have hlW := hl.below hb0
 have hgW := hg.below hb0
 have hbase : w.heap.size + 2 ≤ W.heap.size := by omega
 go_region_law ((first
  | (refine Qbm (by rfl) (.tmp 4) (by rfl) (w.heap.size + 2) _ m.label (by rfl) (hlW.below (Qag hgB)) (by have := hgB.size; omega) ?_; intro vC wC hownC hgC; obtain ⟨pC, cC, rfl, _⟩ := QN hownC; have hmC := Qah hmB hgC; have hrC := Qah hrB hgC; have hownB2 := hownB.kept hgC (Classical.em _); have hbC := Qd hb0 (Qd (Qag hgB) (Qag hgC)); have c2C := Qa hmC 2; have c3C := Qa hmC 3; have k2C := Qf hmC 2; have k3C := Qf hmC 3)
  | (refine QcA (by rfl) (.tmp 7) (by rfl) (w.heap.size + 2) _ m.grants (by rfl) (hgW.below (Qag hgA)) (by have := hgA.size; omega) ?_; intro vD wD hownD hgD; obtain ⟨pD, cD, rfl, _⟩ := QN hownD; have hmD := Qah hmA hgD; have hrD := Qah hrA hgD; have hownA2 := hownA.kept hgD (Classical.em _); have hbD := Qd hb0 (Qd (Qag hgA) (Qag hgD)); have c2D := Qa hmD 2; have c3D := Qa hmD 3; have k2D := Qf hmD 2; have k3D := Qf hmD 3)
  | (refine Qbm (by rfl) (.tmp 4) (by rfl) (w.heap.size + 2) _ m.label (by rfl) hlW hbase ?_; intro vA wA hownA hgA0; obtain ⟨pA, cA, rfl, _⟩ := QN hownA; have hgA : W.grownBy wA none := QaF hgA0; have hmA := Qah hm hgA; have hrA := Qah hr hgA; have c2A := Qa hmA 2; have c3A := Qa hmA 3; have k2A := Qf hmA 2; have k3A := Qf hmA 3)
  | (refine QcA (by rfl) (.tmp 7) (by rfl) (w.heap.size + 2) _ m.grants (by rfl) hgW hbase ?_; intro vB wB hownB hgB0; obtain ⟨pB, cB, rfl, _⟩ := QN hownB; have hgB : W.grownBy wB none := QaF hgB0; have hmB := Qah hm hgB; have hrB := Qah hr hgB; have c2B := Qa hmB 2; have c3B := Qa hmB 3; have k2B := Qf hmB 2; have k3B := Qf hmB 3)))
 all_goals
  have h1 : (wD.setCell ⟨w.heap.size, 2, none⟩ (.slice pA m.label.length cA)).heap[w.heap.size]? = some (.cells #[.int .i64 m.host, .int .i64 m.thread, .slice pA m.label.length cA, .slice pg m.grants.length cg, .string ⟨m.text.toArray⟩] 42 (0, 0)) := by rw [heap_setCell hmD _]; rfl
  have hmF : ((wD.setCell ⟨w.heap.size, 2, none⟩ (.slice pA m.label.length cA)).setCell ⟨w.heap.size, 3, none⟩ (.slice pD m.grants.length cD)).heap[w.heap.size]? = some (.cells #[.int .i64 m.host, .int .i64 m.thread, .slice pA m.label.length cA, .slice pD m.grants.length cD, .string ⟨m.text.toArray⟩] 42 (0, 0)) := by rw [heap_setCell h1 _]; rfl
  have hrF := Qr (Qr hrD (show w.heap.size + 1 ≠ w.heap.size by omega) 2 (.slice pA m.label.length cA)) (show w.heap.size + 1 ≠ w.heap.size by omega) 3 (.slice pD m.grants.length cD)
  have hLF := Qy (Qy hownA2 hmD hdec 2 (.slice pA m.label.length cA)) h1 hdec 3 (.slice pD m.grants.length cD)
  have hGF := Qy (Qy hownD hmD hdec2 2 (.slice pA m.label.length cA)) h1 hdec2 3 (.slice pD m.grants.length cD)
  have hbF := (hbD.setCell (p := ⟨w.heap.size, 2, none⟩) (Nat.le_refl _) (.slice pA m.label.length cA)).setCell (p := ⟨w.heap.size, 3, none⟩) (Nat.le_refl _) (.slice pD m.grants.length cD)
  clear h1 hmD hrD hownA2 hownD hbD c2D c3D k2D k3D hownA hgA hgA0 hmA hrA c2A c3A k2A k3A c2 c3 k2 k3 hgD hm hr hlW hgW
  generalize (wD.setCell ⟨w.heap.size, 2, none⟩ (.slice pA m.label.length cA)).setCell ⟨w.heap.size, 3, none⟩ (.slice pD m.grants.length cD) = wE at *
  have c0 := Qa hmF 0
  have c1 := Qa hmF 1
  have c2 := Qa hmF 2
  have c3 := Qa hmF 3
  have c4 := Qa hmF 4
  have d0 := Qa hrF 0
  have d1 := Qa hrF 1
  have d2 := Qa hrF 2
  have d3 := Qa hrF 3
  have d4 := Qa hrF 4
  have q0 := Qf hrF 0
  have q1 := Qf hrF 1
  have q2 := Qf hrF 2
  have q3 := Qf hrF 3
  have q4 := Qf hrF 4
  have HR := hid hrF
  clear hmF hrF
  go_wp2
  have hS := Qh (Qh (Qh (Qh (Qg wE (w.heap.size + 1) 0 (.int .i64 m.host)) (Qg _ (w.heap.size + 1) 1 (.int .i64 m.thread))) (Qg _ (w.heap.size + 1) 2 (.slice pA m.label.length cA))) (Qg _ (w.heap.size + 1) 3 (.slice pD m.grants.length cD))) (Qg _ (w.heap.size + 1) 4 (.string ⟨m.text.toArray⟩))
  have hW := heap_setCell (j := 4) (heap_setCell (j := 3) (heap_setCell (j := 2) (heap_setCell (j := 1) (heap_setCell (j := 0) HR.out (.int .i64 m.host)) (.int .i64 m.thread)) (.slice pA m.label.length cA)) (.slice pD m.grants.length cD)) (.string ⟨m.text.toArray⟩)
  have hL2 := Qaz hLF HR.out hdec hS
  have hG2 := Qaz hGF HR.out hdec2 hS
  have hb2 := hbF.grown hS (by have := hbF.size; omega) (fun k hk => by have := Option.some.inj hk; omega)
  refine bodyPost_ret (results_cell_row rfl _ _ (w.heap.size + 1) 42 _ (0, 0) _ rfl hW Try.underlying42 rfl (by kernel_rfl)) rfl ⟨pA, pD, cA, cD, rfl, Qs hL2 (by omega), Qs hG2 (by omega), hb2⟩
theorem Qas (v : Value) (m : Mal) (w : World) (hv : MalAt w v m) :
 Calls Try.prog 11 #[v] w fun e w' => ∃ v', e = .returned v' ∧ (∀ w'', Since w.heap.size w' w'' → MalAt w'' v' m) ∧ Below w.heap.size w w' := by
 have h1 : m.label.length ≤ 8796093022208 ∧ m.grants.length ≤ 17592186044416 := by
  obtain ⟨_, _, _, hl, hg⟩ := hv
  exact ⟨hl.len, hg.len⟩
 refine (Qbi v m w hv).mono ?_
 rintro e w' ⟨p, q, c, d, rfl, hl, hg, hb⟩
 exact ⟨_, rfl, fun w'' hs => ⟨_, _, rfl, QY (Qbe hl hs) h1.1, QX (Qbe hg hs) h1.2⟩, hb⟩
theorem Qbq {w w' : World} {b : Nat} {o : Obj} (h : w.heap[b]? = some o) (hb : Below w.heap.size w w') : w'.heap[b]? = some o := by rw [hb.block b (QJ h), h]
theorem Qe3 {l : List Int} (h1 : ∀ j (hj : j < l.length), catB l[j] = true) (h2 : ∀ j (hj : j + 1 < l.length), l[j] < l[j + 1]) : grantsB l = decide (l.length ≤ 8) := by
 by_cases h8 : l.length ≤ 8
 · rw [Qb5 h8 h1 h2]; simp [h8]
 · rw [QbD (by omega)]; simp [h8]
set_option maxHeartbeats 1600000 in
theorem Qad (v : Value) (m : Mal) (w : World) (hv : MalAt w v m) :
 Calls Try.prog 25 #[v] w fun e w' => e = .returned (.int .i64 (mailE m)) ∧ Below w.heap.size w w' := by
 obtain ⟨vl, vg, rfl, hl, hg⟩ := hv
 obtain ⟨pl, cl, rfl, _⟩ := id hl
 obtain ⟨pg, cg, rfl, _, _, hcells⟩ := id hg
 unfold malV
 have he : mailE m = if hostB m.host && hostB m.thread && goodB m.label && grantsB m.grants then (if m.text.length ≤ 64 then 0 else 9) else 2 := rfl
 have hbad : grantsB m.grants = false → Hid (mailE m = 2) := fun h => hid (by rw [h] at he; simpa using he)
 have HE := hid he
 clear he
 go_enter Try.func25, Try.ntmps25
 go_wp2
 go_loopw [3, 9] (fun s i wr => ∃ (k : Nat) (last : Int), k ≤ m.grants.length ∧ i = .int .i64 k ∧ s = .int .i64 last ∧ -1 ≤ last ∧ (k = 0 → last = -1) ∧ (∀ q (hq : q < m.grants.length), k = q + 1 → last = m.grants[q]) ∧
  (∀ j (hj : j < k) (hj' : j < m.grants.length), catB m.grants[j] = true) ∧ (∀ j (hj : j + 1 < k) (hj' : j + 1 < m.grants.length), m.grants[j] < m.grants[j + 1]) ∧ wr.heap[w.heap.size]? = some (.cells #[.int .i64 m.host, .int .i64 m.thread, .slice pl m.label.length cl, .slice pg m.grants.length cg, .string ⟨m.text.toArray⟩] 42 (0, 0)) ∧ Below w.heap.size w wr) (fun _ i _ => m.grants.length - (intOf i).toNat)
 case atStart => exact ⟨0, -1, Nat.zero_le _, rfl, rfl, by omega, fun _ => rfl, fun q hq h => by omega, fun j hj => absurd hj (Nat.not_lt_zero _), fun j hj => absurd hj (Nat.not_lt_zero _), heap_alloc_new w _, Qe _ _⟩
 case round =>
  obtain ⟨k, last, hk, rfl, rfl, hge, hz0, hm0, hlev0, hup0, hA, hb⟩ := hrel
  have HZ := hid hz0
  have HM := hid hm0
  have HL := hid hlev0
  have HU := hid hup0
  clear hlev0 hup0 hz0 hm0
  by_cases hlt : k < m.grants.length
  · obtain ⟨b, o, rfl, hc⟩ := hcells (by omega)
    have hc1 := (hc.below hb) k hlt
    have HA := hid hA
    clear hcells hc hA
    by_cases hle : m.grants[k] ≤ last
    · have HG := hbad (by
       cases k with
       | zero => exact Qa6 0 hlt (by have := HZ.out rfl; unfold catB; simp; omega)
       | succ q => exact QbC q hlt (by have := HM.out q (by omega) rfl; omega))
      clear hbad
      go_wp2
      go_ret
      exact ⟨QH HG.out.symm, hb⟩
    · by_cases h79 : m.grants[k] ≤ 79
      · have hcat : catB m.grants[k] = true := by unfold catB; simp; omega
        have HC := hid hcat
        have HN : Hid (∀ q, k = q + 1 → ∀ hq : q < m.grants.length, m.grants[q] < m.grants[k]) := hid (fun q hq hq' => by have := HM.out q hq' hq; omega)
        have h80 : ¬ (79 < m.grants[k]) := by omega
        have HQ : Hid (∀ q (hq : q < m.grants.length), k + 1 = q + 1 → m.grants[k] = m.grants[q]) := hid (fun q hq h => by
         have e : k = q := by omega
         subst e
         rfl)
        clear hbad hcat
        go_wp2
        go_roundw
        case rel => exact ⟨k + 1, m.grants[k], hlt, by go_num, rfl, by omega, fun h => by omega, HQ.out, fun j hj hj' => by
         by_cases e : j = k
         · subst e; exact HC.out
         · exact HL.out j (by omega) hj', fun j hj hj' => by
         by_cases e : j + 1 = k
         · subst e; exact HN.out j rfl (by omega)
         · exact HU.out j (by omega) hj', HA.out, hb⟩
        case measure => simp [intOf]; omega
      · have HG := hbad (Qa6 k hlt (by unfold catB; simp; omega))
        have h80 : 79 < m.grants[k] := by omega
        clear hbad
        go_wp2
        go_ret
        exact ⟨QH HG.out.symm, hb⟩
  · have hgr := Qe3 (l := m.grants) (fun j hj => HL.out j (by omega) hj) (fun j hj => HU.out j (by omega) hj)
    have HGR := hid hgr
    have hgood := Qbd _ m.label wr (hl.below hb)
    have c0 := Qa hA 0
    have c1 := Qa hA 1
    have c2 := Qa hA 2
    have c3 := Qa hA 3
    have c4 := Qa hA 4
    have HA := hid hA
    clear hcells hbad hgr hA
    cases h1 : hostB m.host with
    | false =>
     have H2 : Hid (mailE m = 2) := hid (by rw [HE.out, h1]; simp)
     go_wp2_with (go_at_call 23; refine (Qj _ _).mono ?_; rintro e w' ⟨rfl, rfl⟩)
     go_ret
     exact ⟨QH H2.out.symm, hb⟩
    | true =>
     cases h2 : hostB m.thread with
     | false =>
      have H2 : Hid (mailE m = 2) := hid (by rw [HE.out, h2]; simp)
      go_wp2_with (go_at_call 23; refine (Qj _ _).mono ?_; rintro e w' ⟨rfl, rfl⟩)
      go_ret
      exact ⟨QH H2.out.symm, hb⟩
     | true =>
      cases h3 : goodB m.label with
      | false =>
       have H2 : Hid (mailE m = 2) := hid (by rw [HE.out, h3]; simp)
       go_wp2_with (first | (go_at_call 23; refine (Qj _ _).mono ?_; rintro e w' ⟨rfl, rfl⟩) | (go_at_call 41; refine hgood.mono ?_; rintro e w1 ⟨rfl, hw1⟩))
       go_ret
       exact ⟨QH H2.out.symm, Qd hb hw1⟩
      | true =>
       by_cases h8 : m.grants.length ≤ 8
       · have h8' : ¬ (8 < m.grants.length) := by omega
         by_cases h64 : m.text.length ≤ 64
         · have H2 : Hid (mailE m = 0) := hid (by rw [HE.out, h1, h2, h3, HGR.out, if_pos h64]; simp [h8])
           go_wp2_with (first | (go_at_call 23; refine (Qj _ _).mono ?_; rintro e w' ⟨rfl, rfl⟩) | (go_at_call 41; refine hgood.mono ?_; rintro e w1 ⟨rfl, hw1⟩; have hA1 := Qbq HA.out hw1; have c3 := Qa hA1 3; have c4 := Qa hA1 4; clear hA1))
           go_ret
           exact ⟨QH H2.out.symm, Qd hb hw1⟩
         · have H2 : Hid (mailE m = 9) := hid (by rw [HE.out, h1, h2, h3, HGR.out, if_neg h64]; simp [h8])
           go_wp2_with (first | (go_at_call 23; refine (Qj _ _).mono ?_; rintro e w' ⟨rfl, rfl⟩) | (go_at_call 41; refine hgood.mono ?_; rintro e w1 ⟨rfl, hw1⟩; have hA1 := Qbq HA.out hw1; have c3 := Qa hA1 3; have c4 := Qa hA1 4; clear hA1))
           go_ret
           exact ⟨QH H2.out.symm, Qd hb hw1⟩
       · have H2 : Hid (mailE m = 2) := hid (by rw [HE.out, HGR.out]; simp [h8])
         go_wp2_with (first | (go_at_call 23; refine (Qj _ _).mono ?_; rintro e w' ⟨rfl, rfl⟩) | (go_at_call 41; refine hgood.mono ?_; rintro e w1 ⟨rfl, hw1⟩; have hA1 := Qbq HA.out hw1; have c3 := Qa hA1 3; have c4 := Qa hA1 4; clear hA1))
         go_ret
         exact ⟨QH H2.out.symm, Qd hb hw1⟩
set_option maxHeartbeats 800000 in
theorem Qa1 (va vb : Value) (l : List Int) (w : World) (ha : IntsAt w va l) (hb : IntsAt w vb l) :
 Calls Try.prog 29 #[va, vb] w fun e w' => e = .returned (.bool true) ∧ Below w.heap.size w w' := by
 obtain ⟨p, cap, rfl, _, _, hca⟩ := ha
 obtain ⟨q, cap', rfl, _, _, hcb⟩ := hb
 go_enter Try.func29, Try.ntmps29
 go_wp2
 go_loopw [13] (fun i wr => ∃ k n : Nat, k ≤ l.length ∧ i = .int .i64 k ∧ wr = w.drewN n) (fun i _ => l.length - (intOf i).toNat)
 case atStart => exact ⟨0, 0, Nat.zero_le _, rfl, rfl⟩
 case round =>
  obtain ⟨k, n, hk, rfl, rfl⟩ := hrel
  by_cases hlt : k < l.length
  · obtain ⟨ba, oa, rfl, hcA⟩ := hca (by omega)
    obtain ⟨bb, ob, rfl, hcB⟩ := hcb (by omega)
    have ga := hcA k hlt
    have gb := hcB k hlt
    have hI : (k : Int) < (l.length : Int) := by omega
    clear hca hcb hcA hcB
    go_wp2_with fail
    go_quiet (fail)
    go_wp2
    go_roundw
    case rel => exact ⟨k + 1, _, hlt, by go_num, by first | rfl | (rw [World.drewN_drewN])⟩
    case measure => simp [intOf]; omega
  · go_wp2
    go_ret
    exact ⟨rfl, Qq _ _⟩
theorem QbB (va vb : Value) (m : Mal) (w : World) (ha : MalAt w va m) (hb : MalAt w vb m) :
 Calls Try.prog 9 #[va, vb] w fun e w' => e = .returned (.bool true) ∧ Below w.heap.size w w' := by
 obtain ⟨vl, vg, rfl, hl, hg⟩ := ha
 obtain ⟨vl', vg', rfl, hl', hg'⟩ := hb
 obtain ⟨pl, cl, rfl, _⟩ := id hl
 obtain ⟨pg, cg, rfl, _⟩ := id hg
 obtain ⟨pl', cl', rfl, _⟩ := id hl'
 obtain ⟨pg', cg', rfl, _⟩ := id hg'
 unfold malV
 have hsame : sameB m.label m.label = true := (QbN _ _).2 rfl
 have hsl := fun wx (h : Below w.heap.size w wx) => QbO _ _ m.label m.label wx (hl.below h) (hl'.below h)
 rw [hsame] at hsl
 have hsn := fun wx (h : Below w.heap.size w wx) => Qa1 _ _ m.grants wx (hg.below h) (hg'.below h)
 go_enter Try.func9, Try.ntmps9
 go_wp2_with fail
 refine (hsl _ ((Qe w _).alloc (by simp) _)).mono ?_
 rintro e w1 ⟨rfl, hw1⟩
 have c3 : w1.cell? ⟨w.heap.size, 3, none⟩ = some (.slice pg m.grants.length cg) := by rw [hw1.cell (p := ⟨w.heap.size, 3, none⟩) (by simp; omega)]; simp
 have d3 : w1.cell? ⟨w.heap.size + 1, 3, none⟩ = some (.slice pg' m.grants.length cg') := by rw [hw1.cell (p := ⟨w.heap.size + 1, 3, none⟩) (by simp)]; simp
 have hb1 := Qd ((Qe w _).alloc (by simp) _) hw1
 clear hw1
 go_wp2_with fail
 refine (hsn _ hb1).mono ?_
 rintro e w2 ⟨rfl, hw2⟩
 go_wp2
 go_ret
 exact ⟨rfl, Qd hb1 hw2⟩
def partL (l : List Int) (m : Nat) (c : Int) (k : Nat) : List Int := if m < k then l.take m ++ c :: (l.take k).drop m else l.take k
theorem Qgn {l : List Int} {m k : Nat} {c : Int} (h : k < m) (hk : k < l.length) : partL l m c (k + 1) = partL l m c k ++ [l[k]] := by
 unfold partL
 rw [if_neg (by omega), if_neg (by omega), List.take_succ_eq_append_getElem hk]
theorem Qgp {l : List Int} {m : Nat} {c : Int} (hk : m < l.length) : partL l m c (m + 1) = partL l m c m ++ [c] ++ [l[m]] := by
 unfold partL
 rw [if_pos (by omega), if_neg (by omega), List.take_succ_eq_append_getElem hk, List.drop_append_of_le_length (by rw [List.length_take]; omega), List.drop_eq_nil_of_le (by rw [List.length_take]; omega)]
 simp
theorem Qgo {l : List Int} {m k : Nat} {c : Int} (h : m < k) (hk : k < l.length) : partL l m c (k + 1) = partL l m c k ++ [l[k]] := by
 unfold partL
 rw [if_pos (by omega), if_pos h, List.take_succ_eq_append_getElem hk, List.drop_append_of_le_length (by rw [List.length_take]; omega)]
 simp
theorem QfQ {l : List Int} {m k : Nat} {c : Int} (hl : l.length ≤ 8) : (partL l m c k).length ≤ 20 := by
 unfold partL
 split <;> simp <;> omega
theorem QaT (l : List Int) (x : Int) : flat1 (l ++ [x]) = flat1 l ++ [.int .i64 x] := by simp [flat1]
set_option maxRecDepth 100000 in
set_option maxHeartbeats 1600000 in
theorem QfJ (v : Value) (l : List Int) (c : Int) (w : World) (hv : IntsAt w v l) (hs : l.Pairwise (· < ·)) (hl : l.length ≤ 8) :
 Calls Try.prog 40 #[v, .int .i64 c] w fun e w' => ∃ v', e = .returned (.tuple #[v', .bool ((ownL l c).1 == 0)]) ∧ ((v' = v ∧ (ownL l c).2 = l) ∨ w'.ownsRow w.heap.size 3 1 v' (ownL l c).2.length (flat1 (ownL l c).2)) ∧ Below w.heap.size w w' := by
 obtain ⟨i0, hi, hz0, hz1, hz2⟩ := info_parts Qa3
 have hin := Qdn _ l c w hv
 obtain ⟨p, cap, rfl, hlc, hcap, hcells⟩ := id hv
 have HO : Hid (ownL l c = if l.contains c then (0, l) else if 8 ≤ l.length then (5, l) else (0, insL l c)) := hid rfl
 cases hcon : l.contains c with
 | true =>
  have HO2 : Hid (ownL l c = (0, l)) := hid (by rw [HO.out, hcon]; rfl)
  have e : hasB l c = true := hcon
  rw [e] at hin
  clear HO hcells e
  go_enter Try.func40, Try.ntmps40
  go_wp2_with (go_at_call 26; refine hin.mono ?_; rintro e w1 ⟨rfl, hw1⟩; have hw2 := hw1.symm; subst hw2)
  go_ret2
  rw [HO2.out]
  exact ⟨_, rfl, .inl ⟨rfl, rfl⟩, Below.refl _ _⟩
 | false =>
  have e : hasB l c = false := hcon
  rw [e] at hin
  clear e
  by_cases h8 : 8 ≤ l.length
  · have HO2 : Hid (ownL l c = (5, l)) := hid (by rw [HO.out, hcon, if_neg (by simp), if_pos h8])
    clear HO hcells
    have h8' : ((l.length : Int) == 8) = true := by simp; omega
    go_enter Try.func40, Try.ntmps40
    go_wp2_with (go_at_call 26; refine hin.mono ?_; rintro e w1 ⟨rfl, hw1⟩; have hw2 := hw1.symm; subst hw2)
    go_ret2
    rw [HO2.out]
    exact ⟨_, rfl, .inl ⟨rfl, rfl⟩, Below.refl _ _⟩
  · have HO2 : Hid (ownL l c = (0, insL l c)) := hid (by rw [HO.out, hcon, if_neg (by simp), if_neg h8])
    have h8' : ((l.length : Int) == 8) = false := by simp; omega
    have hsp := Qb9 hs c
    have hcnt : l.countP (· < c) ≤ l.length := List.countP_le_length
    have HI : Hid (insL l c = l.take (l.countP (· < c)) ++ c :: l.drop (l.countP (· < c))) := hid rfl
    generalize l.countP (· < c) = m at *
    have hlo : ∀ k (hk : k < l.length), k < m → l[k] < c := fun k hk hm => hsp.1 _ (List.mem_take_iff_getElem.2 ⟨k, by omega, rfl⟩)
    have hhi : ∀ k (hk : k < l.length), m ≤ k → c < l[k] := fun k hk hm => by
     have h1 := hsp.2 l[k] (List.mem_drop_iff_getElem.2 ⟨k - m, by omega, by congr 1; omega⟩)
     have h2 : c ≠ l[k] := fun e => by
      have : l.contains c = true := by rw [e]; simp
      rw [hcon] at this
      cases this
     omega
    have HLO := hid hlo
    have HHI := hid hhi
    have HC := hid hcells
    clear HO hsp hs hlo hhi hcells hcon
    go_enter Try.func40, Try.ntmps40
    go_wp2_with (go_at_call 26; refine hin.mono ?_; rintro e w1 ⟨rfl, hw1⟩; have hw2 := hw1.symm; subst hw2)
    go_loopw [6, 7, 20] (fun out dn i wr => ∃ (k : Nat) (d : Bool), k ≤ l.length ∧ i = .int .i64 k ∧ dn = .bool d ∧ d = decide (m < k) ∧ wr.ownsRow w.heap.size 3 1 out (partL l m c k).length (flat1 (partL l m c k)) ∧ Below w.heap.size w wr) (fun _ _ i _ => l.length - (intOf i).toNat)
    case atStart => exact ⟨0, false, Nat.zero_le _, rfl, rfl, by simp, World.ownsRow_nil _ _ _ _, Below.refl _ _⟩
    case round =>
     obtain ⟨k, d, hk, rfl, rfl, hd, hown, hb⟩ := hrel
     have hlp := QfQ (m := m) (k := k) (c := c) hl
     have hbs := hb.size
     have OWN := hid hown
     obtain ⟨po, co, rfl, _⟩ := QN hown
     by_cases hlt : k < l.length
     · obtain ⟨bb, oo, rfl, hc⟩ := HC.out (by omega)
       have hc1 := (hc.below hb) k hlt
       have hI : (k : Int) < (l.length : Int) := by omega
       clear hc hown
       rcases Nat.lt_trichotomy k m with h | h | h
       · have hx : ¬ (c < l[k]) := by have := HLO.out k hlt h; omega
         have HP := hid (Qgn (c := c) h hlt)
         have e : d = false := by rw [hd]; simp; omega
         subst e
         have HD : Hid (false = decide (m < k + 1)) := hid (by simp; omega)
         clear hd
         go_wp2_with (at_builtin; refine wpList_append_own _ rfl _ _ 31 rfl w.heap.size 3 i0 _ 1 8 Try.underlying31 hi hz0 hz1 hz2 rfl (by decide) _ (partL l m c k).length (flat1 (partL l m c k)) rfl (OWN.out.alloc _) ⟨wr.heap.size, 0, none⟩ 1 1 [.int .i64 l[k]] rfl rfl (laid1 wr _ _) (by intro u hu; simp at hu; subst hu; rfl) (by unfold maxLen; omega) (by omega) (by simp; omega) ?_; intro v6 w6 hown6 hgrow6 _)
         go_roundw
         case rel => exact ⟨k + 1, false, hlt, by go_num, rfl, HD.out, by rw [HP.out, QaT, List.length_append]; exact hown6, (hb.alloc hbs _).grown hgrow6 (by simp; omega) (fun j hj => QE OWN.out hj)⟩
         case measure => simp [intOf]; omega
       · subst h
         have hx : c < l[k] := HHI.out k hlt (Nat.le_refl _)
         have HP := hid (Qgp (c := c) hlt)
         have e : d = false := by rw [hd]; simp
         subst e
         have HD : Hid (true = decide (k < k + 1)) := hid (by simp)
         clear hd
         go_wp2_with (at_builtin; first
          | (refine wpList_append_own _ rfl _ _ 31 rfl w.heap.size 3 i0 _ 1 8 Try.underlying31 hi hz0 hz1 hz2 rfl (by decide) _ ((partL l k c k).length + 1) (flat1 (partL l k c k) ++ [.int .i64 c]) rfl (hown6.alloc _) ⟨w6.heap.size, 0, none⟩ 1 1 [.int .i64 l[k]] rfl rfl (laid1 w6 _ _) (by intro u hu; simp at hu; subst hu; rfl) (by unfold maxLen; omega) (by omega) (by have := hb6.size; simp; omega) ?_; intro v7 w7 hown7 hgrow7 _)
          | (refine wpList_append_own _ rfl _ _ 31 rfl w.heap.size 3 i0 _ 1 8 Try.underlying31 hi hz0 hz1 hz2 rfl (by decide) _ (partL l k c k).length (flat1 (partL l k c k)) rfl (OWN.out.alloc _) ⟨wr.heap.size, 0, none⟩ 1 1 [.int .i64 c] rfl rfl (laid1 wr _ _) (by intro u hu; simp at hu; subst hu; rfl) (by unfold maxLen; omega) (by omega) (by simp; omega) ?_; intro v6 w6 hown6 hgrow6 _; have hb6 := (hb.alloc hbs _).grown hgrow6 (by simp; omega) (fun j hj => QE OWN.out hj); obtain ⟨p6, c6, rfl, _⟩ := QN hown6))
         go_roundw
         case rel => exact ⟨k + 1, true, hlt, by go_num, rfl, HD.out, by rw [HP.out, QaT, QaT, List.length_append, List.length_append]; exact hown7, (hb6.alloc hb6.size _).grown hgrow7 (by have := hb6.size; simp; omega) (fun j hj => QE hown6 hj)⟩
         case measure => simp [intOf]; omega
       · have hx : c < l[k] := HHI.out k hlt (by omega)
         have HP := hid (Qgo (c := c) h hlt)
         have e : d = true := by rw [hd]; simp; omega
         subst e
         have HD : Hid (true = decide (m < k + 1)) := hid (by simp; omega)
         clear hd
         go_wp2_with (at_builtin; refine wpList_append_own _ rfl _ _ 31 rfl w.heap.size 3 i0 _ 1 8 Try.underlying31 hi hz0 hz1 hz2 rfl (by decide) _ (partL l m c k).length (flat1 (partL l m c k)) rfl (OWN.out.alloc _) ⟨wr.heap.size, 0, none⟩ 1 1 [.int .i64 l[k]] rfl rfl (laid1 wr _ _) (by intro u hu; simp at hu; subst hu; rfl) (by unfold maxLen; omega) (by omega) (by simp; omega) ?_; intro v6 w6 hown6 hgrow6 _)
         go_roundw
         case rel => exact ⟨k + 1, true, hlt, by go_num, rfl, HD.out, by rw [HP.out, QaT, List.length_append]; exact hown6, (hb.alloc hbs _).grown hgrow6 (by simp; omega) (fun j hj => QE OWN.out hj)⟩
         case measure => simp [intOf]; omega
     · have ek : k = l.length := by omega
       subst ek
       have hI : ¬ ((l.length : Int) < (l.length : Int)) := by omega
       by_cases hm : m < l.length
       · have e : d = true := by rw [hd]; simp; omega
         subst e
         have HP : Hid (insL l c = partL l m c l.length) := hid (by rw [HI.out]; unfold partL; rw [if_pos hm, List.take_length])
         clear hd hown
         go_wp2
         go_ret2
         rw [HO2.out]
         exact ⟨_, rfl, .inr (by rw [HP.out]; exact OWN.out), hb⟩
       · have e : d = false := by rw [hd]; simp; omega
         subst e
         have HP : Hid (insL l c = partL l m c l.length ++ [c]) := hid (by rw [HI.out]; unfold partL; rw [if_neg hm, List.take_length, List.take_of_length_le (by omega), List.drop_eq_nil_of_le (by omega)])
         clear hd hown
         go_wp2_with (at_builtin; refine wpList_append_own _ rfl _ _ 31 rfl w.heap.size 3 i0 _ 1 8 Try.underlying31 hi hz0 hz1 hz2 rfl (by decide) _ (partL l m c l.length).length (flat1 (partL l m c l.length)) rfl (OWN.out.alloc _) ⟨wr.heap.size, 0, none⟩ 1 1 [.int .i64 c] rfl rfl (laid1 wr _ _) (by intro u hu; simp at hu; subst hu; rfl) (by unfold maxLen; omega) (by omega) (by simp; omega) ?_; intro v6 w6 hown6 hgrow6 _)
         go_ret2
         rw [HO2.out]
         exact ⟨_, rfl, .inr (by rw [HP.out, QaT, List.length_append]; exact hown6), (hb.alloc hbs _).grown hgrow6 (by simp; omega) (fun j hj => QE OWN.out hj)⟩
set_option maxHeartbeats 400000 in
theorem QaQ (x : List UInt8) (w : World) (hx : x.length < 4611686018427387904) : Calls Try.prog 24 #[.string ⟨x.toArray⟩] w fun e w' => e = .returned (.string ⟨(lastL x).toArray⟩) ∧ w' = w := by
 by_cases h : 64 < x.length
 · obtain ⟨n, hn⟩ : ∃ n, n = x.length - 64 := ⟨_, rfl⟩
   have h1 : (64 : Int) < (x.length : Int) := by omega
   have h2 : (x.length : Int) - 64 = (n : Int) := by omega
   have h3 : n ≤ x.length := by omega
   have HL : Hid (lastL x = x.drop n) := hid (by rw [hn]; rfl)
   clear hn
   go_enter Try.func24, Try.ntmps24
   go_wp2
   go_ret
   have e2 : (⟨x.toArray⟩ : ByteArray).extract n x.length = ⟨(x.drop n).toArray⟩ := by
    rw [ByteArray.extract_mk, List.take_of_length_le (by simp)]
   refine ⟨?_, rfl⟩
   show Ending.returned (.string ((⟨x.toArray⟩ : ByteArray).extract n x.length)) = _
   rw [e2, HL.out]
 · have h1 : ¬ ((64 : Int) < (x.length : Int)) := by omega
   have HL : Hid (lastL x = x) := hid (Qav (by omega))
   clear h
   go_enter Try.func24, Try.ntmps24
   go_wp2
   go_ret
   rw [HL.out]
   exact ⟨rfl, rfl⟩
end Go.Proofs.Ytpdijobakfpnbaa
