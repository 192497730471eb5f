/- The reference's SendOn answers as sendLn says. -/
import Derived.Test.YtmpjddnbdidleaaLRefC
import Derived.Test.YtmpjddnbdidleaaLRefG
import Derived.Test.YtmpjddnbdidleaaLRaw
import Derived.Test.YtmpjddnbdidleaaLSend
import Derived.Test.YtmpjddnbdidleaaTakeD
import Derived.Deep.DeepCutAuto
namespace Go.Proofs.Ytmpjddnbdidleaa
open Go.RowKit Go.Proofs.Parclose

theorem heap_drew {w : World} {b : Nat} {o : Obj} (h : w.heap[b]? = some o) : w.drew.heap[b]? = some o := h
theorem enter_rcopyFrame (args : Array Value) (w : World) : (callFunc 11 args).run Try.prog w = .ok (.enter 11 args) w := by kernel_rfl
/-- CopyFrame, as a step of a region that draws -/
theorem step_rcopyFrame {w : World} {ops : Array Oper} {o : Oper} {a0 : Act} {K : Act → World → Prop} {Q : Exit → Act → World → Prop} {E : Prop} (hgd : o.guard = none) (x : Operand) (ats : Array TypeId)
    (ho : o.op = .call { callee := .value (.func 11), args := #[x], argTypes := ats }) (v : Value) (f : Frm) (hx : a0.eval x = v) (hf : FrmAt w v f)
    (h : ∀ p1 c1 p2 c2 p3 c3 w', (∀ w'', Since w.heap.size w' w'' → LabAt w'' (.slice p1 f.mail.label.length c1) f.mail.label ∧ IntsAt w'' (.slice p2 f.mail.grants.length c2) f.mail.grants ∧ CrtsAt w'' (.slice p3 f.certs.length c3) f.certs) → Below w.heap.size w w' → K (a0.put o.dst (.agg #[.int .i64 f.fr, .int .i64 f.to, .int .i64 f.seq, .bool f.ack, .int .i64 f.thread, .int .i64 f.mail.host, .int .i64 f.mail.thread, .slice p1 f.mail.label.length c1, .slice p2 f.mail.grants.length c2, .string ⟨f.mail.text.toArray⟩, .slice p3 f.certs.length c3])) w') :
    if Region.wanted o (yielded ops a0.tmps) = true then Oper.wp Try.prog o a0 w K Q else E := by
  have hw : Region.wanted o (yielded ops a0.tmps) = true := by simp [Region.wanted, hgd]
  rw [if_pos hw]
  unfold Oper.wp
  obtain ⟨dst, op, ty, pos, after, guard⟩ := o
  simp only at ho
  subst ho
  rw [execOp_call_go]
  have e : (#[] ++ #[x].map a0.eval ++ #[] : Array Value) = #[v] := by simp [hx]
  rw [e, enter_rcopyFrame, Oper.upon_enter]
  refine (rcopyFrame_since v f w hf).mono ?_
  rintro e w' ⟨p1, c1, p2, c2, p3, c3, rfl, h1, h2⟩
  exact h p1 c1 p2 c2 p3 c3 w' h1 h2

theorem sendOn_tail (w w3 w4 w5 wA w7 : World) (o : Obj) (v4 v9 : Value) (q4 : List SntV) (Y : SntV) (hsz3 : w.heap.size + 4 ≤ w3.heap.size) (hsz34 : w3.heap.size ≤ w4.heap.size) (hX5l : w4.heap.size < w5.heap.size) (HO4 : OwnRow w3.heap.size w4 v4 q4)
    (H45 : ∀ k, w3.heap.size ≤ k → k < w4.heap.size → w5.heap[k]? = w4.heap[k]?) (hwA : Below w5.heap.size w5 wA) (HY : ∀ w'', Since w5.heap.size wA w'' → Y.Ok w'') (hown7 : w7.ownsRow w3.heap.size 56 13 v9 (q4 ++ [Y]).length (flatS (q4 ++ [Y]))) (hg7 : (wA.alloc o).grownBy w7 v4.ownBlock)
    (hwh7 : ∀ k, v9.ownBlock = some k → v4.ownBlock = some k ∨ (wA.alloc o).heap.size ≤ k) (hb5 : Below w.heap.size w w5) (hlen : q4.length < 879609302220) :
    (∀ w'', Since (w.heap.size + 4) (w7.setCell ⟨w4.heap.size, 1, none⟩ v9) w'' → SntsAt w'' v9 ((q4 ++ [Y]).map (·.s))) ∧ Below w.heap.size w (w7.setCell ⟨w4.heap.size, 1, none⟩ v9) := by
  have gS := grown_setCell w7 w4.heap.size 1 v9
  have hbA := below_then hwA (below_box wA o)
  have hlt4 : ∀ k, v4.ownBlock = some k → k < w4.heap.size := fun k e => HO4.low_lt e
  have hsA := hwA.size
  have hsB : (wA.alloc o).heap.size = wA.heap.size + 1 := size_box wA o
  have hne : v9.ownBlock ≠ some w4.heap.size := fun e => (hwh7 _ e).elim (fun h => by have := hlt4 _ h; omega) (fun h => by omega)
  have own8 := hown7.kept gS (Or.inr hne)
  have hb7 := (below_then hb5 hbA).grown hg7 (below_then hb5 hbA).size (fun k hk => by have := own_base HO4.own hk; omega)
  refine ⟨fun w'' ho => ?_, hb7.grown gS hb7.size (fun k hk => by have := Option.some.inj hk; have := hb5.size; omega)⟩
  have hk7 : ∀ k, w3.heap.size ≤ k → k < wA.heap.size → k ≠ w4.heap.size → v4.ownBlock ≠ some k → w''.heap[k]? = wA.heap[k]? := fun k h1 h2 h3 h4 => by
    have h5 : k < (wA.alloc o).heap.size := by omega
    rw [ho k (by omega) (Nat.lt_of_lt_of_le h5 (Nat.le_trans hg7.size gS.size)), gS.block k (Nat.lt_of_lt_of_le h5 hg7.size) (fun e => h3 (Option.some.inj e)), hg7.block k h5 (Ne.symm h4)]
    exact (below_box wA o).block k h2
  refine snts_raw (q := q4 ++ [Y]) (own_since (own_base_le own8 hsz3) ho) (by rw [List.length_append, List.length_singleton]; omega) rfl (fun x hx => ?_)
  rcases List.mem_append.1 hx with hx | hx
  · refine HO4.ok x hx w'' (fun k h1 h2 h3 => ?_)
    rw [hk7 k h1 (by omega) (by omega) h3, hwA.block k (by omega), H45 k h1 h2]
  · rw [List.mem_singleton] at hx
    subst hx
    exact HY w'' (fun k h1 h2 => hk7 k (by omega) h2 (by omega) (fun e => by have := hlt4 _ e; omega))

set_option linter.unusedSimpArgs false in
set_option maxRecDepth 100000 in
set_option maxHeartbeats 6400000 in
theorem rsendOn_any (v vf : Value) (L : Lne) (f : Frm) (now : Int) (w : World) (hv : LneAt w v L) (hf : FrmAt w vf f) :
    Calls Try.prog 12 #[v, vf, .int .i64 now] w fun e w' => ∃ v' vf', e = .returned (.tuple #[v', vf', .int .i64 (sendLn L f now).2.2]) ∧ LneAt w' v' (sendLn L f now).1 ∧ FrmAt w' vf' (sendLn L f now).2.1 ∧ Below w.heap.size w w' := by
  obtain ⟨nx, st, hi, b0, b1, b2, b3, b4, b5, b6, b7, p, cap, rfl, rfl, hs⟩ := hv.spell
  have hlen := hs.len
  have HV := hid hv
  have HS := hid hs
  obtain ⟨vl, vg, vc, rfl, hl, hg, hc⟩ := hf
  obtain ⟨pl, cl, rfl, _⟩ := id hl
  obtain ⟨pg, cg, rfl, _⟩ := id hg
  obtain ⟨pc, cc, rfl, _⟩ := id hc
  have HL := hid hl
  have HG := hid hg
  have HC := hid hc
  unfold frmV
  clear hv hs hl hg hc
  have hb0 : Below w.heap.size w ((((w.alloc (.cells #[.int .i64 nx, .slice p st.length cap, .int .i64 hi, .bool b0, .bool b1, .bool b2, .bool b3, .bool b4, .bool b5, .bool b6, .bool b7] 25)).alloc (.cells #[.int .i64 f.fr, .int .i64 f.to, .int .i64 f.seq, .bool f.ack, .int .i64 f.thread, .int .i64 f.mail.host, .int .i64 f.mail.thread, .slice pl f.mail.label.length cl, .slice pg f.mail.grants.length cg, .string ⟨f.mail.text.toArray⟩, .slice pc f.certs.length cc] 33)).alloc (.cells #[.int .i64 0, .slice none 0 0, .int .i64 0, .bool false, .bool false, .bool false, .bool false, .bool false, .bool false, .bool false, .bool false] 25)).alloc (.cells #[.int .i64 0, .int .i64 0, .int .i64 0, .bool false, .int .i64 0, .int .i64 0, .int .i64 0, .slice none 0 0, .slice none 0 0, .string ⟨#[]⟩, .slice none 0 0] 33)) := (((below_box w _).alloc (by simp) _).alloc (by simp; omega) _).alloc (by simp; omega) _
  have h40 : ((((w.alloc (.cells #[.int .i64 nx, .slice p st.length cap, .int .i64 hi, .bool b0, .bool b1, .bool b2, .bool b3, .bool b4, .bool b5, .bool b6, .bool b7] 25)).alloc (.cells #[.int .i64 f.fr, .int .i64 f.to, .int .i64 f.seq, .bool f.ack, .int .i64 f.thread, .int .i64 f.mail.host, .int .i64 f.mail.thread, .slice pl f.mail.label.length cl, .slice pg f.mail.grants.length cg, .string ⟨f.mail.text.toArray⟩, .slice pc f.certs.length cc] 33)).alloc (.cells #[.int .i64 0, .slice none 0 0, .int .i64 0, .bool false, .bool false, .bool false, .bool false, .bool false, .bool false, .bool false, .bool false] 25)).alloc (.cells #[.int .i64 0, .int .i64 0, .int .i64 0, .bool false, .int .i64 0, .int .i64 0, .int .i64 0, .slice none 0 0, .slice none 0 0, .string ⟨#[]⟩, .slice none 0 0] 33)).heap[w.heap.size]? = some (.cells #[.int .i64 nx, .slice p st.length cap, .int .i64 hi, .bool b0, .bool b1, .bool b2, .bool b3, .bool b4, .bool b5, .bool b6, .bool b7] 25 (0, 0)) := (heap_alloc4 w _ _ _ _).1.trans (heap_alloc_new w _)
  have h41 : ((((w.alloc (.cells #[.int .i64 nx, .slice p st.length cap, .int .i64 hi, .bool b0, .bool b1, .bool b2, .bool b3, .bool b4, .bool b5, .bool b6, .bool b7] 25)).alloc (.cells #[.int .i64 f.fr, .int .i64 f.to, .int .i64 f.seq, .bool f.ack, .int .i64 f.thread, .int .i64 f.mail.host, .int .i64 f.mail.thread, .slice pl f.mail.label.length cl, .slice pg f.mail.grants.length cg, .string ⟨f.mail.text.toArray⟩, .slice pc f.certs.length cc] 33)).alloc (.cells #[.int .i64 0, .slice none 0 0, .int .i64 0, .bool false, .bool false, .bool false, .bool false, .bool false, .bool false, .bool false, .bool false] 25)).alloc (.cells #[.int .i64 0, .int .i64 0, .int .i64 0, .bool false, .int .i64 0, .int .i64 0, .int .i64 0, .slice none 0 0, .slice none 0 0, .string ⟨#[]⟩, .slice none 0 0] 33)).heap[w.heap.size + 1]? = some (.cells #[.int .i64 f.fr, .int .i64 f.to, .int .i64 f.seq, .bool f.ack, .int .i64 f.thread, .int .i64 f.mail.host, .int .i64 f.mail.thread, .slice pl f.mail.label.length cl, .slice pg f.mail.grants.length cg, .string ⟨f.mail.text.toArray⟩, .slice pc f.certs.length cc] 33 (0, 0)) := (heap_alloc4 w _ _ _ _).2.1.trans (heap_alloc2_new w _ _)
  have h42 : ((((w.alloc (.cells #[.int .i64 nx, .slice p st.length cap, .int .i64 hi, .bool b0, .bool b1, .bool b2, .bool b3, .bool b4, .bool b5, .bool b6, .bool b7] 25)).alloc (.cells #[.int .i64 f.fr, .int .i64 f.to, .int .i64 f.seq, .bool f.ack, .int .i64 f.thread, .int .i64 f.mail.host, .int .i64 f.mail.thread, .slice pl f.mail.label.length cl, .slice pg f.mail.grants.length cg, .string ⟨f.mail.text.toArray⟩, .slice pc f.certs.length cc] 33)).alloc (.cells #[.int .i64 0, .slice none 0 0, .int .i64 0, .bool false, .bool false, .bool false, .bool false, .bool false, .bool false, .bool false, .bool false] 25)).alloc (.cells #[.int .i64 0, .int .i64 0, .int .i64 0, .bool false, .int .i64 0, .int .i64 0, .int .i64 0, .slice none 0 0, .slice none 0 0, .string ⟨#[]⟩, .slice none 0 0] 33)).heap[w.heap.size + 1 + 1]? = some (.cells #[.int .i64 0, .slice none 0 0, .int .i64 0, .bool false, .bool false, .bool false, .bool false, .bool false, .bool false, .bool false, .bool false] 25 (0, 0)) := (heap_alloc4 w _ _ _ _).2.2.trans (by
    have := heap_alloc_new ((w.alloc (.cells #[.int .i64 nx, .slice p st.length cap, .int .i64 hi, .bool b0, .bool b1, .bool b2, .bool b3, .bool b4, .bool b5, .bool b6, .bool b7] 25)).alloc (.cells #[.int .i64 f.fr, .int .i64 f.to, .int .i64 f.seq, .bool f.ack, .int .i64 f.thread, .int .i64 f.mail.host, .int .i64 f.mail.thread, .slice pl f.mail.label.length cl, .slice pg f.mail.grants.length cg, .string ⟨f.mail.text.toArray⟩, .slice pc f.certs.length cc] 33)) (.cells #[.int .i64 0, .slice none 0 0, .int .i64 0, .bool false, .bool false, .bool false, .bool false, .bool false, .bool false, .bool false, .bool false] 25)
    simpa using this)
  have h43 : ((((w.alloc (.cells #[.int .i64 nx, .slice p st.length cap, .int .i64 hi, .bool b0, .bool b1, .bool b2, .bool b3, .bool b4, .bool b5, .bool b6, .bool b7] 25)).alloc (.cells #[.int .i64 f.fr, .int .i64 f.to, .int .i64 f.seq, .bool f.ack, .int .i64 f.thread, .int .i64 f.mail.host, .int .i64 f.mail.thread, .slice pl f.mail.label.length cl, .slice pg f.mail.grants.length cg, .string ⟨f.mail.text.toArray⟩, .slice pc f.certs.length cc] 33)).alloc (.cells #[.int .i64 0, .slice none 0 0, .int .i64 0, .bool false, .bool false, .bool false, .bool false, .bool false, .bool false, .bool false, .bool false] 25)).alloc (.cells #[.int .i64 0, .int .i64 0, .int .i64 0, .bool false, .int .i64 0, .int .i64 0, .int .i64 0, .slice none 0 0, .slice none 0 0, .string ⟨#[]⟩, .slice none 0 0] 33)).heap[w.heap.size + 1 + 1 + 1]? = some (.cells #[.int .i64 0, .int .i64 0, .int .i64 0, .bool false, .int .i64 0, .int .i64 0, .int .i64 0, .slice none 0 0, .slice none 0 0, .string ⟨#[]⟩, .slice none 0 0] 33 (0, 0)) := by
    have := heap_alloc_new (((w.alloc (.cells #[.int .i64 nx, .slice p st.length cap, .int .i64 hi, .bool b0, .bool b1, .bool b2, .bool b3, .bool b4, .bool b5, .bool b6, .bool b7] 25)).alloc (.cells #[.int .i64 f.fr, .int .i64 f.to, .int .i64 f.seq, .bool f.ack, .int .i64 f.thread, .int .i64 f.mail.host, .int .i64 f.mail.thread, .slice pl f.mail.label.length cl, .slice pg f.mail.grants.length cg, .string ⟨f.mail.text.toArray⟩, .slice pc f.certs.length cc] 33)).alloc (.cells #[.int .i64 0, .slice none 0 0, .int .i64 0, .bool false, .bool false, .bool false, .bool false, .bool false, .bool false, .bool false, .bool false] 25)) (.cells #[.int .i64 0, .int .i64 0, .int .i64 0, .bool false, .int .i64 0, .int .i64 0, .int .i64 0, .slice none 0 0, .slice none 0 0, .string ⟨#[]⟩, .slice none 0 0] 33)
    simpa using this
  go_enter Try.func12, Try.ntmps12
  go_wp2_with fail
  refine (rgoodLine_any _ _ _ (HV.out.below hb0)).mono ?_
  rintro e w3 ⟨rfl, hw3⟩
  have HX := hid (heap_keep h40 hw3)
  have HF := hid (heap_keep h41 hw3)
  have HR := hid (heap_keep h42 hw3)
  have HQ := hid (heap_keep h43 hw3)
  have hbw3 := below_then hb0 hw3
  clear h40 h41 h42 h43 hb0 hw3
  have x0 := heap_cell HX.out 0
  have x1 := heap_cell HX.out 1
  have x2 := heap_cell HX.out 2
  have x3 := heap_cell HX.out 3
  have x4 := heap_cell HX.out 4
  have x5 := heap_cell HX.out 5
  have x6 := heap_cell HX.out 6
  have x7 := heap_cell HX.out 7
  have x8 := heap_cell HX.out 8
  have x9 := heap_cell HX.out 9
  have x10 := heap_cell HX.out 10
  have d0 := heap_cell HR.out 0
  have df0 := heap_frozen HR.out 0
  have d1 := heap_cell HR.out 1
  have df1 := heap_frozen HR.out 1
  have d2 := heap_cell HR.out 2
  have df2 := heap_frozen HR.out 2
  have d3 := heap_cell HR.out 3
  have df3 := heap_frozen HR.out 3
  have d4 := heap_cell HR.out 4
  have df4 := heap_frozen HR.out 4
  have d5 := heap_cell HR.out 5
  have df5 := heap_frozen HR.out 5
  have d6 := heap_cell HR.out 6
  have df6 := heap_frozen HR.out 6
  have d7 := heap_cell HR.out 7
  have df7 := heap_frozen HR.out 7
  have d8 := heap_cell HR.out 8
  have df8 := heap_frozen HR.out 8
  have d9 := heap_cell HR.out 9
  have df9 := heap_frozen HR.out 9
  have d10 := heap_cell HR.out 10
  have df10 := heap_frozen HR.out 10
  have g0 := heap_cell HQ.out 0
  have gf0 := heap_frozen HQ.out 0
  have g1 := heap_cell HQ.out 1
  have gf1 := heap_frozen HQ.out 1
  have g2 := heap_cell HQ.out 2
  have gf2 := heap_frozen HQ.out 2
  have g3 := heap_cell HQ.out 3
  have gf3 := heap_frozen HQ.out 3
  have g4 := heap_cell HQ.out 4
  have gf4 := heap_frozen HQ.out 4
  have g5 := heap_cell HQ.out 5
  have gf5 := heap_frozen HQ.out 5
  have g6 := heap_cell HQ.out 6
  have gf6 := heap_frozen HQ.out 6
  have g7 := heap_cell HQ.out 7
  have gf7 := heap_frozen HQ.out 7
  have g8 := heap_cell HQ.out 8
  have gf8 := heap_frozen HQ.out 8
  have g9 := heap_cell HQ.out 9
  have gf9 := heap_frozen HQ.out 9
  have g10 := heap_cell HQ.out 10
  have gf10 := heap_frozen HQ.out 10
  have n01 : w.heap.size ≠ w.heap.size + 1 := by omega
  have n02 : w.heap.size ≠ w.heap.size + 1 + 1 := by omega
  have n03 : w.heap.size ≠ w.heap.size + 1 + 1 + 1 := by omega
  have n12 : w.heap.size + 1 ≠ w.heap.size + 1 + 1 := by omega
  have n13 : w.heap.size + 1 ≠ w.heap.size + 1 + 1 + 1 := by omega
  have n23 : w.heap.size + 1 + 1 ≠ w.heap.size + 1 + 1 + 1 := by omega
  have n32 : w.heap.size + 1 + 1 + 1 ≠ w.heap.size + 1 + 1 := by omega
  have n10 : w.heap.size + 1 ≠ w.heap.size := by omega
  by_cases hgq : (goodLn ⟨nx, st, hi, [b0, b1, b2, b3, b4, b5, b6, b7]⟩ && timeB now) = true
  · have hgq2 := hgq
    rw [Bool.and_eq_true] at hgq2
    obtain ⟨hg, htm⟩ := hgq2
    have hh := goodLn_head hg
    rw [headLn_iff] at hh
    obtain ⟨h1, h2, _, _, h5⟩ := hh
    simp only at h1 h2 h5
    rw [hg]
    have htm2 := htm
    simp only [timeB, decide_eq_true_eq] at htm2
    obtain ⟨t1, t2⟩ := htm2
    by_cases hfull : st.length = 8 ∨ nx = 1099511627775
    · have HTK : Hid (sendLn ⟨nx, st, hi, [b0, b1, b2, b3, b4, b5, b6, b7]⟩ f now = (⟨nx, st, hi, [b0, b1, b2, b3, b4, b5, b6, b7]⟩, zeroFrm, 5)) := hid (by unfold sendLn; rw [if_pos hgq, if_pos hfull])
      clear hgq htm
      by_cases h8 : st.length = 8
      · have h8i : (((st.length : Nat) : Int) == 8) = true := beq_iff_eq.2 (by omega)
        clear h8 hfull
        go_wp2
        have hS := st11_grown w3 (w.heap.size + 1 + 1) (.int .i64 nx) (.slice p st.length cap) (.int .i64 hi) (.bool b0) (.bool b1) (.bool b2) (.bool b3) (.bool b4) (.bool b5) (.bool b6) (.bool b7)
        have hS2 := st11_grown (st11 w3 (w.heap.size + 1 + 1) (.int .i64 nx) (.slice p st.length cap) (.int .i64 hi) (.bool b0) (.bool b1) (.bool b2) (.bool b3) (.bool b4) (.bool b5) (.bool b6) (.bool b7)) (w.heap.size + 1 + 1 + 1) (.int .i64 0) (.int .i64 0) (.int .i64 0) (.bool false) (.int .i64 0) (.int .i64 0) (.int .i64 0) (.slice none 0 0) (.slice none 0 0) (.string ⟨#[]⟩) (.slice none 0 0)
        have hW := heap_tk (st11_heap (.int .i64 nx) (.slice p st.length cap) (.int .i64 hi) (.bool b0) (.bool b1) (.bool b2) (.bool b3) (.bool b4) (.bool b5) (.bool b6) (.bool b7) HR.out) n23 hS2
        have hW2 := st11_heap (.int .i64 0) (.int .i64 0) (.int .i64 0) (.bool false) (.int .i64 0) (.int .i64 0) (.int .i64 0) (.slice none 0 0) (.slice none 0 0) (.string ⟨#[]⟩) (.slice none 0 0) (heap_tk HQ.out n32 hS)
        have hb := (hbw3.grown hS hbw3.size (fun k hk => by have := Option.some.inj hk; omega)).grown hS2 (Nat.le_trans hbw3.size hS.size) (fun k hk => by have := Option.some.inj hk; omega)
        exact bodyPost_ret (lresults_cct rfl _ _ (w.heap.size + 1 + 1) (w.heap.size + 1 + 1 + 1) _ _ rfl (load_line rfl hW) rfl (load_frm rfl hW2)) rfl ⟨_, _, by rw [HTK.out]; rfl, by rw [HTK.out]; exact lne_of (HS.out.below hb) nx hi b0 b1 b2 b3 b4 b5 b6 b7, by rw [HTK.out]; exact zero_frm _, hb⟩
      · have h8i : (((st.length : Nat) : Int) == 8) = false := beq_eq_false_iff_ne.2 (by omega)
        have hnx : (nx == 1099511627775) = true := beq_iff_eq.2 (by omega)
        clear h8 hfull
        go_wp2
        have hS := st11_grown w3 (w.heap.size + 1 + 1) (.int .i64 nx) (.slice p st.length cap) (.int .i64 hi) (.bool b0) (.bool b1) (.bool b2) (.bool b3) (.bool b4) (.bool b5) (.bool b6) (.bool b7)
        have hS2 := st11_grown (st11 w3 (w.heap.size + 1 + 1) (.int .i64 nx) (.slice p st.length cap) (.int .i64 hi) (.bool b0) (.bool b1) (.bool b2) (.bool b3) (.bool b4) (.bool b5) (.bool b6) (.bool b7)) (w.heap.size + 1 + 1 + 1) (.int .i64 0) (.int .i64 0) (.int .i64 0) (.bool false) (.int .i64 0) (.int .i64 0) (.int .i64 0) (.slice none 0 0) (.slice none 0 0) (.string ⟨#[]⟩) (.slice none 0 0)
        have hW := heap_tk (st11_heap (.int .i64 nx) (.slice p st.length cap) (.int .i64 hi) (.bool b0) (.bool b1) (.bool b2) (.bool b3) (.bool b4) (.bool b5) (.bool b6) (.bool b7) HR.out) n23 hS2
        have hW2 := st11_heap (.int .i64 0) (.int .i64 0) (.int .i64 0) (.bool false) (.int .i64 0) (.int .i64 0) (.int .i64 0) (.slice none 0 0) (.slice none 0 0) (.string ⟨#[]⟩) (.slice none 0 0) (heap_tk HQ.out n32 hS)
        have hb := (hbw3.grown hS hbw3.size (fun k hk => by have := Option.some.inj hk; omega)).grown hS2 (Nat.le_trans hbw3.size hS.size) (fun k hk => by have := Option.some.inj hk; omega)
        exact bodyPost_ret (lresults_cct rfl _ _ (w.heap.size + 1 + 1) (w.heap.size + 1 + 1 + 1) _ _ rfl (load_line rfl hW) rfl (load_frm rfl hW2)) rfl ⟨_, _, by rw [HTK.out]; rfl, by rw [HTK.out]; exact lne_of (HS.out.below hb) nx hi b0 b1 b2 b3 b4 b5 b6 b7, by rw [HTK.out]; exact zero_frm _, hb⟩
    · have HTK : Hid (sendLn ⟨nx, st, hi, [b0, b1, b2, b3, b4, b5, b6, b7]⟩ f now = (⟨nx + 1, st ++ [⟨{ f with seq := nx + 1 }, 1, now + 2⟩], hi, [b0, b1, b2, b3, b4, b5, b6, b7]⟩, { f with seq := nx + 1 }, 0)) := hid (by unfold sendLn; rw [if_pos hgq, if_neg hfull])
      have h8i : (((st.length : Nat) : Int) == 8) = false := beq_eq_false_iff_ne.2 (by omega)
      have hnx : (nx == 1099511627775) = false := beq_eq_false_iff_ne.2 (by omega)
      clear hgq htm
      go_wp2_with fail
      refine (rcopyLine_any _ _ _ (HV.out.below hbw3)).mono ?_
      rintro e w4 ⟨v4, rfl, hnew4, hw4⟩
      obtain ⟨nx', st', hi', b0', b1', b2', b3', b4', b5', b6', b7', p4, c4, q4, e4, rfl, hm4, hl4, ho4⟩ := hnew4.spell
      cases e4
      have hbw4 := below_then hbw3 hw4
      have HX4 := hid (heap_keep HX.out hw4)
      have HF4 := hid (heap_keep HF.out hw4)
      have HR4 := hid (heap_keep HR.out hw4)
      have HQ4 := hid (heap_keep HQ.out hw4)
      have hsz3 : w.heap.size + 4 ≤ w3.heap.size := by have := heap_lt HQ.out; omega
      have hsz34 := hw4.size
      have hql : q4.length = st.length := by rw [← hm4, List.length_map]
      have m1 : w.heap.size + 1 ≠ w4.heap.size := by omega
      have m2 : w4.heap.size ≠ w.heap.size + 1 := by omega
      have m3 : w.heap.size + 1 + 1 ≠ w4.heap.size := by omega
      have m4 : w4.heap.size ≠ w.heap.size + 1 + 1 := by omega
      have m5 : w.heap.size + 1 + 1 + 1 ≠ w4.heap.size := by omega
      have m6 : w4.heap.size ≠ w.heap.size + 1 + 1 + 1 := by omega
      have HO4 := hid ho4
      clear hw4 hnew4 ho4 HX HF HR HQ HV x0 d0 df0 g0 gf0 x1 d1 df1 g1 gf1 x2 d2 df2 g2 gf2 x3 d3 df3 g3 gf3 x4 d4 df4 g4 gf4 x5 d5 df5 g5 gf5 x6 d6 df6 g6 gf6 x7 d7 df7 g7 gf7 x8 d8 df8 g8 gf8 x9 d9 df9 g9 gf9 x10 d10 df10 g10 gf10
      have k2 := heap_cell (heap_new HF4.out (.cells #[.int .i64 (nx + 1), .slice p4 st.length c4, .int .i64 hi, .bool b0, .bool b1, .bool b2, .bool b3, .bool b4, .bool b5, .bool b6, .bool b7] 25)) 2
      have kf2 := heap_frozen (heap_new HF4.out (.cells #[.int .i64 (nx + 1), .slice p4 st.length c4, .int .i64 hi, .bool b0, .bool b1, .bool b2, .bool b3, .bool b4, .bool b5, .bool b6, .bool b7] 25)) 2
      go_upto_region 8 with fail
      have gS := grown_setCell (w4.alloc (.cells #[.int .i64 (nx + 1), .slice p4 st.length c4, .int .i64 hi, .bool b0, .bool b1, .bool b2, .bool b3, .bool b4, .bool b5, .bool b6, .bool b7] 25)) (w.heap.size + 1) 2 (.int .i64 (nx + 1))
      have hX5 : ((w4.alloc (.cells #[.int .i64 (nx + 1), .slice p4 st.length c4, .int .i64 hi, .bool b0, .bool b1, .bool b2, .bool b3, .bool b4, .bool b5, .bool b6, .bool b7] 25)).setCell ⟨w.heap.size + 1, 2, none⟩ (.int .i64 (nx + 1))).heap[w4.heap.size]? = some (.cells #[.int .i64 (nx + 1), .slice p4 st.length c4, .int .i64 hi, .bool b0, .bool b1, .bool b2, .bool b3, .bool b4, .bool b5, .bool b6, .bool b7] 25 (0, 0)) := heap_tk (heap_alloc_new w4 _) m2 gS
      have hF5 : ((w4.alloc (.cells #[.int .i64 (nx + 1), .slice p4 st.length c4, .int .i64 hi, .bool b0, .bool b1, .bool b2, .bool b3, .bool b4, .bool b5, .bool b6, .bool b7] 25)).setCell ⟨w.heap.size + 1, 2, none⟩ (.int .i64 (nx + 1))).heap[w.heap.size + 1]? = some (.cells #[.int .i64 f.fr, .int .i64 f.to, .int .i64 (nx + 1), .bool f.ack, .int .i64 f.thread, .int .i64 f.mail.host, .int .i64 f.mail.thread, .slice pl f.mail.label.length cl, .slice pg f.mail.grants.length cg, .string ⟨f.mail.text.toArray⟩, .slice pc f.certs.length cc] 33 (0, 0)) := heap_setCell (j := 2) (heap_new HF4.out _) (.int .i64 (nx + 1))
      have hR5 := heap_tk (heap_new HR4.out _) (show w.heap.size + 1 + 1 ≠ w.heap.size + 1 by omega) gS
      have hQ5 := heap_tk (heap_new HQ4.out _) (show w.heap.size + 1 + 1 + 1 ≠ w.heap.size + 1 by omega) gS
      have hown5 := (own_later HO4.out.own (below_box w4 (.cells #[.int .i64 (nx + 1), .slice p4 st.length c4, .int .i64 hi, .bool b0, .bool b1, .bool b2, .bool b3, .bool b4, .bool b5, .bool b6, .bool b7] 25))).kept gS (Or.inr fun e => by have := own_base HO4.out.own e; omega)
      have h45 : ∀ k, w3.heap.size ≤ k → k < w4.heap.size → ((w4.alloc (.cells #[.int .i64 (nx + 1), .slice p4 st.length c4, .int .i64 hi, .bool b0, .bool b1, .bool b2, .bool b3, .bool b4, .bool b5, .bool b6, .bool b7] 25)).setCell ⟨w.heap.size + 1, 2, none⟩ (.int .i64 (nx + 1))).heap[k]? = w4.heap[k]? := fun k h1 h2 => by
        rw [gS.block k (Nat.lt_of_lt_of_le h2 (below_box w4 _).size) (fun e => by have := Option.some.inj e; omega), (below_box w4 _).block k h2]
      have hb5 := (below_then hbw4 (below_box w4 (.cells #[.int .i64 (nx + 1), .slice p4 st.length c4, .int .i64 hi, .bool b0, .bool b1, .bool b2, .bool b3, .bool b4, .bool b5, .bool b6, .bool b7] 25))).grown gS (below_then hbw4 (below_box w4 _)).size (fun k hk => by have := Option.some.inj hk; omega)
      have HX5 := hid hX5
      have HF5 := hid hF5
      have HR5 := hid hR5
      have HQ5 := hid hQ5
      have HOWN5 := hid hown5
      have H45 := hid h45
      clear gS hX5 hF5 hR5 hQ5 hown5 h45 k2 kf2 HX4 HF4 HR4 HQ4 hbw3 hbw4
      generalize (w4.alloc (.cells #[.int .i64 (nx + 1), .slice p4 st.length c4, .int .i64 hi, .bool b0, .bool b1, .bool b2, .bool b3, .bool b4, .bool b5, .bool b6, .bool b7] 25)).setCell ⟨w.heap.size + 1, 2, none⟩ (.int .i64 (nx + 1)) = w5 at *
      have hX5l := heap_lt HX5.out
      have x1 : w5.cell? ⟨w4.heap.size, 1, none⟩ = some (.slice p4 st.length c4) := heap_cell HX5.out 1
      have k0 := heap_cell HF5.out 0
      have k1 := heap_cell HF5.out 1
      have k2 := heap_cell HF5.out 2
      have k3 := heap_cell HF5.out 3
      have k4 := heap_cell HF5.out 4
      have k5 := heap_cell HF5.out 5
      have k6 := heap_cell HF5.out 6
      have k7 := heap_cell HF5.out 7
      have k8 := heap_cell HF5.out 8
      have k9 := heap_cell HF5.out 9
      have k10 := heap_cell HF5.out 10
      have HFRM : Hid (FrmAt w5 (.agg #[.int .i64 f.fr, .int .i64 f.to, .int .i64 (nx + 1), .bool f.ack, .int .i64 f.thread, .int .i64 f.mail.host, .int .i64 f.mail.thread, .slice pl f.mail.label.length cl, .slice pg f.mail.grants.length cg, .string ⟨f.mail.text.toArray⟩, .slice pc f.certs.length cc]) { f with seq := nx + 1 }) := hid ⟨_, _, _, rfl, HL.out.below hb5, HG.out.below hb5, HC.out.below hb5⟩
      have hwr : IntKind.i64.wrap (now + 2) = now + 2 := wrap_small _ (by omega) (by omega)
      go_cut [] (fun w8 => ∃ p9 c9, w8.heap[w4.heap.size]? = some (.cells #[.int .i64 (nx + 1), .slice p9 (st.length + 1) c9, .int .i64 hi, .bool b0, .bool b1, .bool b2, .bool b3, .bool b4, .bool b5, .bool b6, .bool b7] 25 (0, 0)) ∧ w8.heap[w.heap.size + 1]? = some (.cells #[.int .i64 f.fr, .int .i64 f.to, .int .i64 (nx + 1), .bool f.ack, .int .i64 f.thread, .int .i64 f.mail.host, .int .i64 f.mail.thread, .slice pl f.mail.label.length cl, .slice pg f.mail.grants.length cg, .string ⟨f.mail.text.toArray⟩, .slice pc f.certs.length cc] 33 (0, 0)) ∧ w8.heap[w.heap.size + 1 + 1]? = some (.cells #[.int .i64 0, .slice none 0 0, .int .i64 0, .bool false, .bool false, .bool false, .bool false, .bool false, .bool false, .bool false, .bool false] 25 (0, 0)) ∧ w8.heap[w.heap.size + 1 + 1 + 1]? = some (.cells #[.int .i64 0, .int .i64 0, .int .i64 0, .bool false, .int .i64 0, .int .i64 0, .int .i64 0, .slice none 0 0, .slice none 0 0, .string ⟨#[]⟩, .slice none 0 0] 33 (0, 0)) ∧ (∀ w'', Since (w.heap.size + 4) w8 w'' → SntsAt w'' (.slice p9 (st.length + 1) c9) (st ++ [⟨{ f with seq := nx + 1 }, 1, now + 2⟩])) ∧ Below w.heap.size w w8)
      case first =>
        go_region_law ((first
          | (refine step_sentR (by rfl) (.tmp 44) (.tmp 50) (by rfl) w3.heap.size _ q4 ⟨⟨{ f with seq := nx + 1 }, 1, now + 2⟩, .slice p6 f.mail.label.length c6, .slice p7 f.mail.grants.length c7, .slice p8 f.certs.length c8⟩ (by rfl) (own_later (own_later HOWN5.out hwA) (below_box wA _)) wA.heap.size 1 (by rfl) (HY.out _ (since_below (below_box wA _))) (fun j u hu => cells_new wA _ j u hu) (by rw [size_box]; have := hwA.size; omega) (by omega) ?_; intro v7 w7 hown7 hg7 hwh7; have hlow : ∀ b o, (Value.slice p4 st.length c4).ownBlock ≠ some b → w5.heap[b]? = some o → w7.heap[b]? = some o := (fun b o h1 h2 => (by have h2A := heap_keep h2 hwA; have h2B := heap_new h2A (.cells (SntV.cells ⟨⟨{ f with seq := nx + 1 }, 1, now + 2⟩, .slice p6 f.mail.label.length c6, .slice p7 f.mail.grants.length c7, .slice p8 f.certs.length c8⟩).toArray 56); rw [hg7.block b (heap_lt h2B) (fun e => h1 e.symm)]; exact h2B)); have HX7 := hid (hlow _ _ (fun e => by have := HO4.out.low_lt e; omega) HX5.out); have HF7 := hid (hlow _ _ (fun e => by have := own_base HO4.out.own e; omega) HF5.out); have HR7 := hid (hlow _ _ (fun e => by have := own_base HO4.out.own e; omega) HR5.out); have HQ7 := hid (hlow _ _ (fun e => by have := own_base HO4.out.own e; omega) HQ5.out); have u1 := heap_cell HX7.out 1; have uf1 := heap_frozen HX7.out 1; obtain ⟨p9, c9, hv9⟩ := own_slice hown7; rw [List.length_append, List.length_singleton, hql] at hv9; subst hv9; have HOWN7 := hid hown7; have HG7 := hid hg7; have HWH7 := hid hwh7; clear hown7 hg7 hwh7 hlow)
          | (refine step_rcopyFrame (by rfl) (.tmp 45) #[33] (by rfl) _ { f with seq := nx + 1 } (by rfl) HFRM.out ?_; intro p6 c6 p7 c7 p8 c8 wA hcopy hwAd; have hwA : Below w5.heap.size w5 wA := ⟨hwAd.os, hwAd.tape, hwAd.output, hwAd.size, hwAd.block⟩; have z1 := hwA.cell (cell_block x1); rw [x1] at z1; have zA : ∀ o, (wA.alloc o).cell? ⟨w4.heap.size, 1, none⟩ = some (.slice p4 st.length c4) := (fun o => by rw [(below_box wA o).cell (cell_block z1), z1]); have hneA : w4.heap.size ≠ wA.heap.size := (by have := hwA.size; omega); have hneA2 : wA.heap.size ≠ w4.heap.size := (by have := hwA.size; omega); have HY : Hid (∀ w'', Since w5.heap.size wA w'' → SntV.Ok w'' ⟨⟨{ f with seq := nx + 1 }, 1, now + 2⟩, .slice p6 f.mail.label.length c6, .slice p7 f.mail.grants.length c7, .slice p8 f.certs.length c8⟩) := hid (fun w'' ho => by obtain ⟨q1, q2, q3⟩ := hcopy w'' ho; exact ⟨q1, q2, q3⟩); clear hcopy hwAd)
          | fail))
        all_goals
          go_wp2_with fail
          go_meet
          obtain ⟨hsn, hb9⟩ := sendOn_tail w w3 w4 w5 wA w7 _ _ _ q4 ⟨⟨{ f with seq := nx + 1 }, 1, now + 2⟩, .slice p6 f.mail.label.length c6, .slice p7 f.mail.grants.length c7, .slice p8 f.certs.length c8⟩ hsz3 hsz34 hX5l HO4.out H45.out hwA HY.out HOWN7.out HG7.out HWH7.out hb5 (by omega)
          rw [List.map_append, hm4] at hsn
          exact ⟨p9, c9, heap_setCell (j := 1) HX7.out _, heap_store HF7.out m1 1 _, heap_store HR7.out m3 1 _, heap_store HQ7.out m5 1 _, hsn, hb9⟩
      case rest =>
        obtain ⟨p9, c9, hX8, hF8, hR8, hQ8, hS8, hb8⟩ := hcut
        have HX8 := hid hX8
        have HF8 := hid hF8
        have HR8 := hid hR8
        have HQ8 := hid hQ8
        have HS8 := hid hS8
        have x0 := heap_cell hX8 0
        have x1 := heap_cell hX8 1
        have x2 := heap_cell hX8 2
        have x3 := heap_cell hX8 3
        have x4 := heap_cell hX8 4
        have x5 := heap_cell hX8 5
        have x6 := heap_cell hX8 6
        have x7 := heap_cell hX8 7
        have x8 := heap_cell hX8 8
        have x9 := heap_cell hX8 9
        have x10 := heap_cell hX8 10
        have e0 := heap_cell hF8 0
        have e1 := heap_cell hF8 1
        have e2 := heap_cell hF8 2
        have e3 := heap_cell hF8 3
        have e4 := heap_cell hF8 4
        have e5 := heap_cell hF8 5
        have e6 := heap_cell hF8 6
        have e7 := heap_cell hF8 7
        have e8 := heap_cell hF8 8
        have e9 := heap_cell hF8 9
        have e10 := heap_cell hF8 10
        have d0 := heap_cell hR8 0
        have df0 := heap_frozen hR8 0
        have d1 := heap_cell hR8 1
        have df1 := heap_frozen hR8 1
        have d2 := heap_cell hR8 2
        have df2 := heap_frozen hR8 2
        have d3 := heap_cell hR8 3
        have df3 := heap_frozen hR8 3
        have d4 := heap_cell hR8 4
        have df4 := heap_frozen hR8 4
        have d5 := heap_cell hR8 5
        have df5 := heap_frozen hR8 5
        have d6 := heap_cell hR8 6
        have df6 := heap_frozen hR8 6
        have d7 := heap_cell hR8 7
        have df7 := heap_frozen hR8 7
        have d8 := heap_cell hR8 8
        have df8 := heap_frozen hR8 8
        have d9 := heap_cell hR8 9
        have df9 := heap_frozen hR8 9
        have d10 := heap_cell hR8 10
        have df10 := heap_frozen hR8 10
        have g0 := heap_cell hQ8 0
        have gf0 := heap_frozen hQ8 0
        have g1 := heap_cell hQ8 1
        have gf1 := heap_frozen hQ8 1
        have g2 := heap_cell hQ8 2
        have gf2 := heap_frozen hQ8 2
        have g3 := heap_cell hQ8 3
        have gf3 := heap_frozen hQ8 3
        have g4 := heap_cell hQ8 4
        have gf4 := heap_frozen hQ8 4
        have g5 := heap_cell hQ8 5
        have gf5 := heap_frozen hQ8 5
        have g6 := heap_cell hQ8 6
        have gf6 := heap_frozen hQ8 6
        have g7 := heap_cell hQ8 7
        have gf7 := heap_frozen hQ8 7
        have g8 := heap_cell hQ8 8
        have gf8 := heap_frozen hQ8 8
        have g9 := heap_cell hQ8 9
        have gf9 := heap_frozen hQ8 9
        have g10 := heap_cell hQ8 10
        have gf10 := heap_frozen hQ8 10
        clear hX8 hF8 hR8 hQ8 hS8 HX5 HF5 HR5 HQ5 HOWN5 H45 HFRM HO4 hb5 hX5l k0 k1 k2 k3 k4 k5 k6 k7 k8 k9 k10
        go_wp2
        go_region
        all_goals
          clear x0 e0 d0 df0 g0 gf0 x1 e1 d1 df1 g1 gf1 x2 e2 d2 df2 g2 gf2 x3 e3 d3 df3 g3 gf3 x4 e4 d4 df4 g4 gf4 x5 e5 d5 df5 g5 gf5 x6 e6 d6 df6 g6 gf6 x7 e7 d7 df7 g7 gf7 x8 e8 d8 df8 g8 gf8 x9 e9 d9 df9 g9 gf9 x10 e10 d10 df10 g10 gf10
          go_wp2
          have hS := st11_grown wc (w.heap.size + 1 + 1) (.int .i64 (nx + 1)) (.slice p9 (st.length + 1) c9) (.int .i64 hi) (.bool b0) (.bool b1) (.bool b2) (.bool b3) (.bool b4) (.bool b5) (.bool b6) (.bool b7)
          have hS2 := st11_grown (st11 wc (w.heap.size + 1 + 1) (.int .i64 (nx + 1)) (.slice p9 (st.length + 1) c9) (.int .i64 hi) (.bool b0) (.bool b1) (.bool b2) (.bool b3) (.bool b4) (.bool b5) (.bool b6) (.bool b7)) (w.heap.size + 1 + 1 + 1) (.int .i64 f.fr) (.int .i64 f.to) (.int .i64 (nx + 1)) (.bool f.ack) (.int .i64 f.thread) (.int .i64 f.mail.host) (.int .i64 f.mail.thread) (.slice pl f.mail.label.length cl) (.slice pg f.mail.grants.length cg) (.string ⟨f.mail.text.toArray⟩) (.slice pc f.certs.length cc)
          have hW := heap_drew (heap_tk (st11_heap (.int .i64 (nx + 1)) (.slice p9 (st.length + 1) c9) (.int .i64 hi) (.bool b0) (.bool b1) (.bool b2) (.bool b3) (.bool b4) (.bool b5) (.bool b6) (.bool b7) HR8.out) n23 hS2)
          have hW2 := heap_drew (st11_heap (.int .i64 f.fr) (.int .i64 f.to) (.int .i64 (nx + 1)) (.bool f.ack) (.int .i64 f.thread) (.int .i64 f.mail.host) (.int .i64 f.mail.thread) (.slice pl f.mail.label.length cl) (.slice pg f.mail.grants.length cg) (.string ⟨f.mail.text.toArray⟩) (.slice pc f.certs.length cc) (heap_tk HQ8.out n32 hS))
          have hb := ((hb8.grown hS hb8.size (fun k hk => by have := Option.some.inj hk; omega)).grown hS2 (Nat.le_trans hb8.size hS.size) (fun k hk => by have := Option.some.inj hk; omega)).drew
          have hsE := HS8.out _ (((since_grown (base := w.heap.size + 4) hS (by omega)).trans (since_grown hS2 (by omega)) hS.size).trans (since_below (Below.refl _ _).drew) (Nat.le_trans hS.size hS2.size))
          exact bodyPost_ret (lresults_cct rfl _ _ (w.heap.size + 1 + 1) (w.heap.size + 1 + 1 + 1) _ _ rfl (load_line rfl hW) rfl (load_frm rfl hW2)) rfl ⟨_, _, by rw [HTK.out]; rfl, by rw [HTK.out]; exact lne_of hsE (nx + 1) hi b0 b1 b2 b3 b4 b5 b6 b7, by rw [HTK.out]; exact ⟨_, _, _, rfl, HL.out.below hb, HG.out.below hb, HC.out.below hb⟩, hb⟩
  · have HTK : Hid (sendLn ⟨nx, st, hi, [b0, b1, b2, b3, b4, b5, b6, b7]⟩ f now = (⟨nx, st, hi, [b0, b1, b2, b3, b4, b5, b6, b7]⟩, zeroFrm, 2)) := hid (by unfold sendLn; rw [if_neg hgq])
    cases hg : goodLn ⟨nx, st, hi, [b0, b1, b2, b3, b4, b5, b6, b7]⟩ with
    | false =>
      clear hgq
      go_wp2
      have hS := st11_grown w3 (w.heap.size + 1 + 1) (.int .i64 nx) (.slice p st.length cap) (.int .i64 hi) (.bool b0) (.bool b1) (.bool b2) (.bool b3) (.bool b4) (.bool b5) (.bool b6) (.bool b7)
      have hS2 := st11_grown (st11 w3 (w.heap.size + 1 + 1) (.int .i64 nx) (.slice p st.length cap) (.int .i64 hi) (.bool b0) (.bool b1) (.bool b2) (.bool b3) (.bool b4) (.bool b5) (.bool b6) (.bool b7)) (w.heap.size + 1 + 1 + 1) (.int .i64 0) (.int .i64 0) (.int .i64 0) (.bool false) (.int .i64 0) (.int .i64 0) (.int .i64 0) (.slice none 0 0) (.slice none 0 0) (.string ⟨#[]⟩) (.slice none 0 0)
      have hW := heap_tk (st11_heap (.int .i64 nx) (.slice p st.length cap) (.int .i64 hi) (.bool b0) (.bool b1) (.bool b2) (.bool b3) (.bool b4) (.bool b5) (.bool b6) (.bool b7) HR.out) n23 hS2
      have hW2 := st11_heap (.int .i64 0) (.int .i64 0) (.int .i64 0) (.bool false) (.int .i64 0) (.int .i64 0) (.int .i64 0) (.slice none 0 0) (.slice none 0 0) (.string ⟨#[]⟩) (.slice none 0 0) (heap_tk HQ.out n32 hS)
      have hb := (hbw3.grown hS hbw3.size (fun k hk => by have := Option.some.inj hk; omega)).grown hS2 (Nat.le_trans hbw3.size hS.size) (fun k hk => by have := Option.some.inj hk; omega)
      exact bodyPost_ret (lresults_cct rfl _ _ (w.heap.size + 1 + 1) (w.heap.size + 1 + 1 + 1) _ _ rfl (load_line rfl hW) rfl (load_frm rfl hW2)) rfl ⟨_, _, by rw [HTK.out]; rfl, by rw [HTK.out]; exact lne_of (HS.out.below hb) nx hi b0 b1 b2 b3 b4 b5 b6 b7, by rw [HTK.out]; exact zero_frm _, hb⟩
    | true =>
      have htm : timeB now = false := by
        rw [hg, Bool.true_and] at hgq
        cases e : timeB now with
        | true => exact absurd e hgq
        | false => rfl
      simp only [timeB, decide_eq_false_iff_not] at htm
      clear hgq
      by_cases h0 : now < 0
      · go_wp2
        have hS := st11_grown w3 (w.heap.size + 1 + 1) (.int .i64 nx) (.slice p st.length cap) (.int .i64 hi) (.bool b0) (.bool b1) (.bool b2) (.bool b3) (.bool b4) (.bool b5) (.bool b6) (.bool b7)
        have hS2 := st11_grown (st11 w3 (w.heap.size + 1 + 1) (.int .i64 nx) (.slice p st.length cap) (.int .i64 hi) (.bool b0) (.bool b1) (.bool b2) (.bool b3) (.bool b4) (.bool b5) (.bool b6) (.bool b7)) (w.heap.size + 1 + 1 + 1) (.int .i64 0) (.int .i64 0) (.int .i64 0) (.bool false) (.int .i64 0) (.int .i64 0) (.int .i64 0) (.slice none 0 0) (.slice none 0 0) (.string ⟨#[]⟩) (.slice none 0 0)
        have hW := heap_tk (st11_heap (.int .i64 nx) (.slice p st.length cap) (.int .i64 hi) (.bool b0) (.bool b1) (.bool b2) (.bool b3) (.bool b4) (.bool b5) (.bool b6) (.bool b7) HR.out) n23 hS2
        have hW2 := st11_heap (.int .i64 0) (.int .i64 0) (.int .i64 0) (.bool false) (.int .i64 0) (.int .i64 0) (.int .i64 0) (.slice none 0 0) (.slice none 0 0) (.string ⟨#[]⟩) (.slice none 0 0) (heap_tk HQ.out n32 hS)
        have hb := (hbw3.grown hS hbw3.size (fun k hk => by have := Option.some.inj hk; omega)).grown hS2 (Nat.le_trans hbw3.size hS.size) (fun k hk => by have := Option.some.inj hk; omega)
        exact bodyPost_ret (lresults_cct rfl _ _ (w.heap.size + 1 + 1) (w.heap.size + 1 + 1 + 1) _ _ rfl (load_line rfl hW) rfl (load_frm rfl hW2)) rfl ⟨_, _, by rw [HTK.out]; rfl, by rw [HTK.out]; exact lne_of (HS.out.below hb) nx hi b0 b1 b2 b3 b4 b5 b6 b7, by rw [HTK.out]; exact zero_frm _, hb⟩
      · have h1 : 1099511627776 < now := by omega
        clear htm
        go_wp2
        have hS := st11_grown w3 (w.heap.size + 1 + 1) (.int .i64 nx) (.slice p st.length cap) (.int .i64 hi) (.bool b0) (.bool b1) (.bool b2) (.bool b3) (.bool b4) (.bool b5) (.bool b6) (.bool b7)
        have hS2 := st11_grown (st11 w3 (w.heap.size + 1 + 1) (.int .i64 nx) (.slice p st.length cap) (.int .i64 hi) (.bool b0) (.bool b1) (.bool b2) (.bool b3) (.bool b4) (.bool b5) (.bool b6) (.bool b7)) (w.heap.size + 1 + 1 + 1) (.int .i64 0) (.int .i64 0) (.int .i64 0) (.bool false) (.int .i64 0) (.int .i64 0) (.int .i64 0) (.slice none 0 0) (.slice none 0 0) (.string ⟨#[]⟩) (.slice none 0 0)
        have hW := heap_tk (st11_heap (.int .i64 nx) (.slice p st.length cap) (.int .i64 hi) (.bool b0) (.bool b1) (.bool b2) (.bool b3) (.bool b4) (.bool b5) (.bool b6) (.bool b7) HR.out) n23 hS2
        have hW2 := st11_heap (.int .i64 0) (.int .i64 0) (.int .i64 0) (.bool false) (.int .i64 0) (.int .i64 0) (.int .i64 0) (.slice none 0 0) (.slice none 0 0) (.string ⟨#[]⟩) (.slice none 0 0) (heap_tk HQ.out n32 hS)
        have hb := (hbw3.grown hS hbw3.size (fun k hk => by have := Option.some.inj hk; omega)).grown hS2 (Nat.le_trans hbw3.size hS.size) (fun k hk => by have := Option.some.inj hk; omega)
        exact bodyPost_ret (lresults_cct rfl _ _ (w.heap.size + 1 + 1) (w.heap.size + 1 + 1 + 1) _ _ rfl (load_line rfl hW) rfl (load_frm rfl hW2)) rfl ⟨_, _, by rw [HTK.out]; rfl, by rw [HTK.out]; exact lne_of (HS.out.below hb) nx hi b0 b1 b2 b3 b4 b5 b6 b7, by rw [HTK.out]; exact zero_frm _, hb⟩
end Go.Proofs.Ytmpjddnbdidleaa
