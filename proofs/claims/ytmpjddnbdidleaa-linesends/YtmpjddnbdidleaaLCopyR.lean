/- The reference: CopyFrame answers the same frame, its lists in memory of their own. -/
import Derived.Test.YtmpjddnbdidleaaWCopyM
import Derived.Test.YtmpjddnbdidleaaLCopyF
import Derived.Test.YtmpjddnbdidleaaLSame
namespace Go.Proofs.Ytmpjddnbdidleaa
open Go.RowKit Go.Proofs.Parclose

theorem MalAt.parts {w : World} {m : Mal} {vl vg : Value} (h : MalAt w (malV m vl vg) m) : LabAt w vl m.label ∧ IntsAt w vg m.grants := by
  obtain ⟨vl', vg', e, h1, h2⟩ := h
  simp [malV] at e
  obtain ⟨rfl, rfl⟩ := e
  exact ⟨h1, h2⟩
theorem flat4_cells {w : World} {b o : Nat} {l : List Crt} (h : Cells4 w b o l) : ∀ j u, (flat4 l)[j]? = some u → w.cell? ((⟨b, o, none⟩ : Addr).add j) = some u := by
  intro j u hu
  have hj : j < l.length * 4 := by
    have := (List.getElem?_eq_some_iff.1 hu).1
    rwa [flat4_len] at this
  obtain ⟨h1, h2, h3, h4⟩ := h (j / 4) (by omega)
  obtain ⟨g1, g2, g3, g4⟩ := flat4_get l (j / 4) (by omega)
  rw [WideShapes.add_plain]
  have hc : j % 4 = 0 ∨ j % 4 = 1 ∨ j % 4 = 2 ∨ j % 4 = 3 := by omega
  rcases hc with hp | hp | hp | hp
  · have e : j = j / 4 * 4 := by omega
    rw [e] at hu ⊢
    rw [g1] at hu
    rw [h1, ← hu]
  · have e : j = j / 4 * 4 + 1 := by omega
    rw [e] at hu ⊢
    rw [g2] at hu
    rw [← Nat.add_assoc, h2, ← hu]
  · have e : j = j / 4 * 4 + 2 := by omega
    rw [e] at hu ⊢
    rw [g3] at hu
    rw [← Nat.add_assoc, h3, ← hu]
  · have e : j = j / 4 * 4 + 3 := by omega
    rw [e] at hu ⊢
    rw [g4] at hu
    rw [← Nat.add_assoc, h4, ← hu]

/-- append of certs to nil, as a step of a region that draws -/
theorem step_copy4 {w : World} {ops : Array Oper} {o : Oper} {a0 : Act} {K : Act → World → Prop} {Q : Exit → Act → World → Prop} {E : Prop} (hgd : o.guard = none) (x : Operand)
    (ho : o.op = .call { callee := .builtin .append, args := #[.const (.slice none 0 0), x], argTypes := #[31, 31] }) (base : Nat) (u : Value) (l : List Crt) (hx : a0.eval x = u) (hu : CrtsAt w u l) (hbase : base ≤ w.heap.size)
    (h : ∀ v' w', w'.ownsRow base 68 4 v' l.length (flat4 l) → w.grownBy w' none → K (a0.put o.dst v') w') :
    if Region.wanted o (yielded ops a0.tmps) = true then Oper.wp Try.prog o a0 w K Q else E := by
  have hw : Region.wanted o (yielded ops a0.tmps) = true := by simp [Region.wanted, hgd]
  rw [if_pos hw]
  obtain ⟨i0, hi, hz0, hz1, hz2⟩ := info_parts info_cert
  obtain ⟨p, cap, rfl, hlc, hcap, hcells⟩ := hu
  have hnil := World.ownsRow_nil w base 68 4
  cases p with
  | none =>
    have e : l = [] := by
      by_cases h0 : 0 < l.length
      · obtain ⟨b, o, e, _⟩ := hcells h0
        cases e
      · exact List.length_eq_zero_iff.1 (by omega)
    subst e
    have ec : cap = 0 := hlc.2 rfl
    subst ec
    have hrun := run_append_owned_none (P := Try.prog) (w := w) base 31 o.type 68 i0 4 Try.underlying31 hi (.slice none 0 0) 0 [] hnil
    unfold Oper.wp
    have hs : a0.eval (.const (.slice none 0 0)) = .slice none 0 0 := rfl
    simp [execOp, ho, resolve, invoke, builtin, hs, hx, hrun, Result.andThen]
    exact h _ w hnil ⟨rfl, rfl, rfl, Nat.le_refl _, fun _ _ _ => rfl⟩
  | some ad =>
    have hnews : ∀ j u, (flat4 l)[j]? = some u → w.cell? (ad.add j) = some u := by
      by_cases h0 : 0 < l.length
      · obtain ⟨b, o, e, hc⟩ := hcells h0
        cases e
        exact flat4_cells hc
      · have e : l = [] := List.length_eq_zero_iff.1 (by omega)
        subst e
        intro j u hu
        simp [flat4] at hu
    exact wp_append_own w _ x 31 ho base 68 i0 _ 4 32 Try.underlying31 hi hz0 hz1 hz2 rfl (by decide) (.slice none 0 0) 0 [] rfl hnil ad l.length cap (flat4 l) hx (flat4_len l) hnews (flat4_one l) (by unfold maxLen; omega) (by omega) hbase
      (fun v' w' h1 h2 _ => h v' w' (by simpa using h1) h2)

theorem enter_copyMail (args : Array Value) (w : World) : (callFunc 31 args).run Try.prog w = .ok (.enter 31 args) w := by kernel_rfl

/-- CopyMail, as a step of a region that draws -/
theorem step_copyMail {w : World} {ops : Array Oper} {o : Oper} {a0 : Act} {K : Act → World → Prop} {Q : Exit → Act → World → Prop} {E : Prop} (hgd : o.guard = none) (x : Operand) (ats : Array TypeId)
    (ho : o.op = .call { callee := .value (.func 31), args := #[x], argTypes := ats }) (v : Value) (m : Mal) (hx : a0.eval x = v) (hm : MalAt w v m)
    (h : ∀ pA cA pD cD w', (∀ w'', Since w.heap.size w' w'' → LabAt w'' (.slice pA m.label.length cA) m.label ∧ IntsAt w'' (.slice pD m.grants.length cD) m.grants) → Below w.heap.size w w' → K (a0.put o.dst (.agg #[.int .i64 m.host, .int .i64 m.thread, .slice pA m.label.length cA, .slice pD m.grants.length cD, .string ⟨m.text.toArray⟩])) w') :
    if Region.wanted o (yielded ops a0.tmps) = true then Oper.wp Try.prog o a0 w K Q else E := by
  have hw : Region.wanted o (yielded ops a0.tmps) = true := by simp [Region.wanted, hgd]
  rw [if_pos hw]
  unfold Oper.wp
  obtain ⟨dst, op, ty, pos, after, guard⟩ := o
  simp only at ho
  subst ho
  rw [execOp_call_go]
  have e : (#[] ++ #[x].map a0.eval ++ #[] : Array Value) = #[v] := by simp [hx]
  rw [e, enter_copyMail, Oper.upon_enter]
  refine (rcopyMail_any v m w hm).mono ?_
  rintro e w' ⟨v', rfl, h1, h2⟩
  have HM := h1
  obtain ⟨vl, vg, rfl, ⟨pA, cA, rfl, _⟩, ⟨pD, cD, rfl, _⟩⟩ := h1 w' (Since.refl _ _)
  exact h pA cA pD cD w' (fun w'' hs => (HM w'' hs).parts) h2

set_option maxRecDepth 100000 in
set_option maxHeartbeats 1600000 in
theorem rcopyFrame_since (v : Value) (f : Frm) (w : World) (hv : FrmAt w v f) :
    Calls Try.prog 11 #[v] w fun e w' => ∃ pA cA pD cD pC cC, e = .returned (.agg #[.int .i64 f.fr, .int .i64 f.to, .int .i64 f.seq, .bool f.ack, .int .i64 f.thread, .int .i64 f.mail.host, .int .i64 f.mail.thread, .slice pA f.mail.label.length cA, .slice pD f.mail.grants.length cD, .string ⟨f.mail.text.toArray⟩, .slice pC f.certs.length cC]) ∧ (∀ w'', Since w.heap.size w' w'' → LabAt w'' (.slice pA f.mail.label.length cA) f.mail.label ∧ IntsAt w'' (.slice pD f.mail.grants.length cD) f.mail.grants ∧ CrtsAt w'' (.slice pC f.certs.length cC) f.certs) ∧ Below w.heap.size w w' := by
  obtain ⟨vl, vg, vc, rfl, hl, hg, hc⟩ := hv
  have hml := mal_of_frm hl hg
  obtain ⟨pl, cl, rfl, _⟩ := id hl
  obtain ⟨pg, cg, rfl, _⟩ := id hg
  obtain ⟨pc, cc, rfl, _⟩ := id hc
  unfold frmV
  have hm := heap_alloc2_old w (.cells #[.int .i64 f.fr, .int .i64 f.to, .int .i64 f.seq, .bool f.ack, .int .i64 f.thread, .int .i64 f.mail.host, .int .i64 f.mail.thread, .slice pl f.mail.label.length cl, .slice pg f.mail.grants.length cg, .string ⟨f.mail.text.toArray⟩, .slice pc f.certs.length cc] 33) (.cells #[.int .i64 0, .int .i64 0, .int .i64 0, .bool false, .int .i64 0, .int .i64 0, .int .i64 0, .slice none 0 0, .slice none 0 0, .string ⟨#[]⟩, .slice none 0 0] 33)
  have hr := heap_alloc2_new w (.cells #[.int .i64 f.fr, .int .i64 f.to, .int .i64 f.seq, .bool f.ack, .int .i64 f.thread, .int .i64 f.mail.host, .int .i64 f.mail.thread, .slice pl f.mail.label.length cl, .slice pg f.mail.grants.length cg, .string ⟨f.mail.text.toArray⟩, .slice pc f.certs.length cc] 33) (.cells #[.int .i64 0, .int .i64 0, .int .i64 0, .bool false, .int .i64 0, .int .i64 0, .int .i64 0, .slice none 0 0, .slice none 0 0, .string ⟨#[]⟩, .slice none 0 0] 33)
  have hb0 : Below w.heap.size w ((w.alloc (.cells #[.int .i64 f.fr, .int .i64 f.to, .int .i64 f.seq, .bool f.ack, .int .i64 f.thread, .int .i64 f.mail.host, .int .i64 f.mail.thread, .slice pl f.mail.label.length cl, .slice pg f.mail.grants.length cg, .string ⟨f.mail.text.toArray⟩, .slice pc f.certs.length cc] 33)).alloc (.cells #[.int .i64 0, .int .i64 0, .int .i64 0, .bool false, .int .i64 0, .int .i64 0, .int .i64 0, .slice none 0 0, .slice none 0 0, .string ⟨#[]⟩, .slice none 0 0] 33)) := (below_box w _).alloc (by simp) _
  have hlt0 : (w.heap.size + 2 : Nat) = ((w.alloc (.cells #[.int .i64 f.fr, .int .i64 f.to, .int .i64 f.seq, .bool f.ack, .int .i64 f.thread, .int .i64 f.mail.host, .int .i64 f.mail.thread, .slice pl f.mail.label.length cl, .slice pg f.mail.grants.length cg, .string ⟨f.mail.text.toArray⟩, .slice pc f.certs.length cc] 33)).alloc (.cells #[.int .i64 0, .int .i64 0, .int .i64 0, .bool false, .int .i64 0, .int .i64 0, .int .i64 0, .slice none 0 0, .slice none 0 0, .string ⟨#[]⟩, .slice none 0 0] 33)).heap.size := by simp
  go_enter Try.func11, Try.ntmps11
  go_wp2
  generalize ((w.alloc (.cells #[.int .i64 f.fr, .int .i64 f.to, .int .i64 f.seq, .bool f.ack, .int .i64 f.thread, .int .i64 f.mail.host, .int .i64 f.mail.thread, .slice pl f.mail.label.length cl, .slice pg f.mail.grants.length cg, .string ⟨f.mail.text.toArray⟩, .slice pc f.certs.length cc] 33)).alloc (.cells #[.int .i64 0, .int .i64 0, .int .i64 0, .bool false, .int .i64 0, .int .i64 0, .int .i64 0, .slice none 0 0, .slice none 0 0, .string ⟨#[]⟩, .slice none 0 0] 33)) = W at *
  have c5 := heap_cell hm 5
  have c6 := heap_cell hm 6
  have c7 := heap_cell hm 7
  have c8 := heap_cell hm 8
  have c9 := heap_cell hm 9
  have c10 := heap_cell hm 10
  have hmW := hml.below hb0
  have hcW := hc.below hb0
  have hdec : (33 : Nat) ≠ 68 := by decide
  go_region_law ((first
    | (refine step_copy4 (by rfl) (.tmp 7) (by rfl) (w.heap.size + 2) _ f.certs (by rfl) (hcW.below hb1) (by have := hb1.size; omega) ?_; intro vC w2 hownC hgC; obtain ⟨pC, cC, rfl, _⟩ := owns_cells hownC; have hm2 := heap_none hm1 hgC; have hr2 := heap_none hr1 hgC; have hb2 := below_then hb0 (below_then hb1 (below_none hgC)); have d5 := heap_cell hm2 5; have d6 := heap_cell hm2 6; have d7 := heap_cell hm2 7; have d8 := heap_cell hm2 8; have d9 := heap_cell hm2 9; have d10 := heap_cell hm2 10; have k5 := heap_frozen hm2 5; have k6 := heap_frozen hm2 6; have k7 := heap_frozen hm2 7; have k8 := heap_frozen hm2 8; have k9 := heap_frozen hm2 9; have k10 := heap_frozen hm2 10)
    | (refine step_copyMail (by rfl) (.tmp 4) #[30] (by rfl) _ f.mail (by rfl) hmW ?_; intro pA cA pD cD w1 hmal hw1d; have hb1 : Below W.heap.size W w1 := ⟨hw1d.os, hw1d.tape, hw1d.output, hw1d.size, hw1d.block⟩; have hm1 : w1.heap[w.heap.size]? = _ := (hb1.block _ (heap_lt hm)).trans hm; have hr1 : w1.heap[w.heap.size + 1]? = _ := (hb1.block _ (heap_lt hr)).trans hr; have e5 := heap_cell hm1 5; have e6 := heap_cell hm1 6; have e7 := heap_cell hm1 7; have e8 := heap_cell hm1 8; have e9 := heap_cell hm1 9; have e10 := heap_cell hm1 10)))
  all_goals
    have h5 : (w2.setCell ⟨w.heap.size, 5, none⟩ (.int .i64 f.mail.host)).heap[w.heap.size]? = some (.cells #[.int .i64 f.fr, .int .i64 f.to, .int .i64 f.seq, .bool f.ack, .int .i64 f.thread, .int .i64 f.mail.host, .int .i64 f.mail.thread, .slice pl f.mail.label.length cl, .slice pg f.mail.grants.length cg, .string ⟨f.mail.text.toArray⟩, .slice pc f.certs.length cc] 33 (0, 0)) := by rw [heap_setCell hm2 _]; rfl
    have h6 : ((w2.setCell ⟨w.heap.size, 5, none⟩ (.int .i64 f.mail.host)).setCell ⟨w.heap.size, 6, none⟩ (.int .i64 f.mail.thread)).heap[w.heap.size]? = some (.cells #[.int .i64 f.fr, .int .i64 f.to, .int .i64 f.seq, .bool f.ack, .int .i64 f.thread, .int .i64 f.mail.host, .int .i64 f.mail.thread, .slice pl f.mail.label.length cl, .slice pg f.mail.grants.length cg, .string ⟨f.mail.text.toArray⟩, .slice pc f.certs.length cc] 33 (0, 0)) := by rw [heap_setCell h5 _]; rfl
    have h7 : (((w2.setCell ⟨w.heap.size, 5, none⟩ (.int .i64 f.mail.host)).setCell ⟨w.heap.size, 6, none⟩ (.int .i64 f.mail.thread)).setCell ⟨w.heap.size, 7, none⟩ (.slice pA f.mail.label.length cA)).heap[w.heap.size]? = some (.cells #[.int .i64 f.fr, .int .i64 f.to, .int .i64 f.seq, .bool f.ack, .int .i64 f.thread, .int .i64 f.mail.host, .int .i64 f.mail.thread, .slice pA f.mail.label.length cA, .slice pg f.mail.grants.length cg, .string ⟨f.mail.text.toArray⟩, .slice pc f.certs.length cc] 33 (0, 0)) := by rw [heap_setCell h6 _]; rfl
    have h8 : ((((w2.setCell ⟨w.heap.size, 5, none⟩ (.int .i64 f.mail.host)).setCell ⟨w.heap.size, 6, none⟩ (.int .i64 f.mail.thread)).setCell ⟨w.heap.size, 7, none⟩ (.slice pA f.mail.label.length cA)).setCell ⟨w.heap.size, 8, none⟩ (.slice pD f.mail.grants.length cD)).heap[w.heap.size]? = some (.cells #[.int .i64 f.fr, .int .i64 f.to, .int .i64 f.seq, .bool f.ack, .int .i64 f.thread, .int .i64 f.mail.host, .int .i64 f.mail.thread, .slice pA f.mail.label.length cA, .slice pD f.mail.grants.length cD, .string ⟨f.mail.text.toArray⟩, .slice pc f.certs.length cc] 33 (0, 0)) := by rw [heap_setCell h7 _]; rfl
    have h9 : (((((w2.setCell ⟨w.heap.size, 5, none⟩ (.int .i64 f.mail.host)).setCell ⟨w.heap.size, 6, none⟩ (.int .i64 f.mail.thread)).setCell ⟨w.heap.size, 7, none⟩ (.slice pA f.mail.label.length cA)).setCell ⟨w.heap.size, 8, none⟩ (.slice pD f.mail.grants.length cD)).setCell ⟨w.heap.size, 9, none⟩ (.string ⟨f.mail.text.toArray⟩)).heap[w.heap.size]? = some (.cells #[.int .i64 f.fr, .int .i64 f.to, .int .i64 f.seq, .bool f.ack, .int .i64 f.thread, .int .i64 f.mail.host, .int .i64 f.mail.thread, .slice pA f.mail.label.length cA, .slice pD f.mail.grants.length cD, .string ⟨f.mail.text.toArray⟩, .slice pc f.certs.length cc] 33 (0, 0)) := by rw [heap_setCell h8 _]; rfl
    have h10 : ((((((w2.setCell ⟨w.heap.size, 5, none⟩ (.int .i64 f.mail.host)).setCell ⟨w.heap.size, 6, none⟩ (.int .i64 f.mail.thread)).setCell ⟨w.heap.size, 7, none⟩ (.slice pA f.mail.label.length cA)).setCell ⟨w.heap.size, 8, none⟩ (.slice pD f.mail.grants.length cD)).setCell ⟨w.heap.size, 9, none⟩ (.string ⟨f.mail.text.toArray⟩)).setCell ⟨w.heap.size, 10, none⟩ (.slice pC f.certs.length cC)).heap[w.heap.size]? = some (.cells #[.int .i64 f.fr, .int .i64 f.to, .int .i64 f.seq, .bool f.ack, .int .i64 f.thread, .int .i64 f.mail.host, .int .i64 f.mail.thread, .slice pA f.mail.label.length cA, .slice pD f.mail.grants.length cD, .string ⟨f.mail.text.toArray⟩, .slice pC f.certs.length cC] 33 (0, 0)) := by rw [heap_setCell h9 _]; rfl
    have hrF := heap_store (heap_store (heap_store (heap_store (heap_store (heap_store (hr2) (show w.heap.size + 1 ≠ w.heap.size by omega) 5 (.int .i64 f.mail.host)) (show w.heap.size + 1 ≠ w.heap.size by omega) 6 (.int .i64 f.mail.thread)) (show w.heap.size + 1 ≠ w.heap.size by omega) 7 (.slice pA f.mail.label.length cA)) (show w.heap.size + 1 ≠ w.heap.size by omega) 8 (.slice pD f.mail.grants.length cD)) (show w.heap.size + 1 ≠ w.heap.size by omega) 9 (.string ⟨f.mail.text.toArray⟩)) (show w.heap.size + 1 ≠ w.heap.size by omega) 10 (.slice pC f.certs.length cC)
    have hS1 := grown_trans (grown_trans (grown_trans (grown_trans (grown_trans (grown_setCell w2 w.heap.size 5 (.int .i64 f.mail.host)) (grown_setCell _ w.heap.size 6 (.int .i64 f.mail.thread))) (grown_setCell _ w.heap.size 7 (.slice pA f.mail.label.length cA))) (grown_setCell _ w.heap.size 8 (.slice pD f.mail.grants.length cD))) (grown_setCell _ w.heap.size 9 (.string ⟨f.mail.text.toArray⟩))) (grown_setCell _ w.heap.size 10 (.slice pC f.certs.length cC))
    have hCF := own_block hownC hm2 hdec hS1
    have hbF := hb2.grown hS1 (by have := hb2.size; omega) (fun k hk => by have := Option.some.inj hk; omega)
    have hsi0 : Since (w.heap.size + 2) w1 w2 := fun k _ hk => hgC.block k hk (by simp)
    have hsi := hsi0.trans (since_grown hS1 (by omega)) hgC.size
    clear hsi0
    have HMAL : Hid (∀ w'', Since (w.heap.size + 2) w1 w'' → LabAt w'' (.slice pA f.mail.label.length cA) f.mail.label ∧ IntsAt w'' (.slice pD f.mail.grants.length cD) f.mail.grants) := hid (fun w'' h => hmal w'' (fun k hk => h k (by have : W.heap.size = w.heap.size + 2 := hlt0.symm; have hk2 : W.heap.size ≤ k := hk; omega)))
    have hsz2 := Nat.le_trans hgC.size hS1.size
    have hmF := h10
    clear hmal h5 h6 h7 h8 h9 h10 hm2 hr2 hownC hgC hS1 hm1 hr1 hb2 hm hr hmW hcW d5 k5 e5 c5 d6 k6 e6 c6 d7 k7 e7 c7 d8 k8 e8 c8 d9 k9 e9 c9 d10 k10 e10 c10
    generalize (((((w2.setCell ⟨w.heap.size, 5, none⟩ (.int .i64 f.mail.host)).setCell ⟨w.heap.size, 6, none⟩ (.int .i64 f.mail.thread)).setCell ⟨w.heap.size, 7, none⟩ (.slice pA f.mail.label.length cA)).setCell ⟨w.heap.size, 8, none⟩ (.slice pD f.mail.grants.length cD)).setCell ⟨w.heap.size, 9, none⟩ (.string ⟨f.mail.text.toArray⟩)).setCell ⟨w.heap.size, 10, none⟩ (.slice pC f.certs.length cC) = wE at *
    have c0 := heap_cell hmF 0
    have c1 := heap_cell hmF 1
    have c2 := heap_cell hmF 2
    have c3 := heap_cell hmF 3
    have c4 := heap_cell hmF 4
    have c5 := heap_cell hmF 5
    have c6 := heap_cell hmF 6
    have c7 := heap_cell hmF 7
    have c8 := heap_cell hmF 8
    have c9 := heap_cell hmF 9
    have c10 := heap_cell hmF 10
    have d0 := heap_cell hrF 0
    have d1 := heap_cell hrF 1
    have d2 := heap_cell hrF 2
    have d3 := heap_cell hrF 3
    have d4 := heap_cell hrF 4
    have d5 := heap_cell hrF 5
    have d6 := heap_cell hrF 6
    have d7 := heap_cell hrF 7
    have d8 := heap_cell hrF 8
    have d9 := heap_cell hrF 9
    have d10 := heap_cell hrF 10
    have q0 := heap_frozen hrF 0
    have q1 := heap_frozen hrF 1
    have q2 := heap_frozen hrF 2
    have q3 := heap_frozen hrF 3
    have q4 := heap_frozen hrF 4
    have q5 := heap_frozen hrF 5
    have q6 := heap_frozen hrF 6
    have q7 := heap_frozen hrF 7
    have q8 := heap_frozen hrF 8
    have q9 := heap_frozen hrF 9
    have q10 := heap_frozen hrF 10
    have HR := hid hrF
    clear hmF hrF
    go_wp2
    have hW := st11_heap (.int .i64 f.fr) (.int .i64 f.to) (.int .i64 f.seq) (.bool f.ack) (.int .i64 f.thread) (.int .i64 f.mail.host) (.int .i64 f.mail.thread) (.slice pA f.mail.label.length cA) (.slice pD f.mail.grants.length cD) (.string ⟨f.mail.text.toArray⟩) (.slice pC f.certs.length cC) HR.out
    have hS := st11_grown wE (w.heap.size + 1) (.int .i64 f.fr) (.int .i64 f.to) (.int .i64 f.seq) (.bool f.ack) (.int .i64 f.thread) (.int .i64 f.mail.host) (.int .i64 f.mail.thread) (.slice pA f.mail.label.length cA) (.slice pD f.mail.grants.length cD) (.string ⟨f.mail.text.toArray⟩) (.slice pC f.certs.length cC)
    have hC2 := own_block hCF HR.out hdec hS
    have hb3 := hbF.grown hS (by have := hbF.size; omega) (fun k hk => by have := Option.some.inj hk; omega)
    have hsF := fun w'' (ho : Since w.heap.size _ w'') => HMAL.out w'' ((hsi.trans (since_grown hS (by omega)) hsz2).trans (ho.mono (by omega)) (Nat.le_trans hsz2 hS.size))
    exact bodyPost_ret (results_cell_row rfl _ _ (w.heap.size + 1) 33 _ (0, 0) _ rfl hW Try.underlying33 rfl (by kernel_rfl)) rfl ⟨pA, cA, pD, cD, pC, cC, rfl, fun w'' ho => ⟨(hsF w'' ho).1, (hsF w'' ho).2, crts_of_own (own_since hC2 (fun k hk hks => ho k (by omega) hks)) hc.len⟩, hb3⟩
end Go.Proofs.Ytmpjddnbdidleaa
