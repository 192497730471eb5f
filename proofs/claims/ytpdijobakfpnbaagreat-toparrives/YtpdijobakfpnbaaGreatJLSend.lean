/- line.Send answers the line with a frame that was sent, and the frame with its number. -/
import Derived.Test.YtpdijobakfpnbaaGreatJLTake
import Derived.Test.YtpdijobakfpnbaaGreatJLAppend
import Derived.Deep.DeepCutAuto
namespace Go.Proofs.YtpdijobakfpnbaaGreat
open Go.RowKit Go.Proofs.Parclose
theorem Qaz {fn : Func} {p r u : Tmp} {ty ty' : TypeId} (h : fn.results = #[.cell p ty, .cell r ty', .tmp u]) (tmps : Array Value) (w : World) (g g' : Nat) (cs cs' : Array Value)
 (hp : tmps.getD p undef = .pointer (some ⟨g, 0, none⟩)) (hl : (loadVar ty ⟨g, 0, none⟩).run Tryz.prog w = .ok (.agg cs) w)
 (hr : tmps.getD r undef = .pointer (some ⟨g', 0, none⟩)) (hl' : (loadVar ty' ⟨g', 0, none⟩).run Tryz.prog w = .ok (.agg cs') w) :
 (results fn tmps).run Tryz.prog w = .ok (.tuple #[.agg cs, .agg cs', tmps.getD u undef]) w := by
 simp only [Array.getD_eq_getD_getElem?] at hp hr ⊢
 unfold results
 rw [h]
 simp [hp, hr, asAddr, hl, hl']
theorem QbK {w : World} {g : Nat} {cs : Array Value} (hc : cs.size = 11) (hg : w.heap[g]? = some (.cells cs 111 (0, 0))) : (loadVar 111 ⟨g, 0, none⟩).run Tryz.prog w = .ok (.agg cs) w :=
 run_loadVar_row w g 111 111 cs (0, 0) _ hg Tryz.underlying111 rfl (by rw [hc]; kernel_rfl)
theorem Qbg (w : World) : FrmAt w (.agg #[.int .i64 0, .int .i64 0, .int .i64 0, .bool false, .int .i64 0, .int .i64 0, .int .i64 0, .slice none 0 0, .slice none 0 0, .string ⟨#[]⟩, .slice none 0 0]) zeroFrm :=
 ⟨.slice none 0 0, .slice none 0 0, .slice none 0 0, rfl, LabAt.nil _ _ _ (fun _ => rfl), IntsAt.nil _ _ _ (fun _ => rfl), CrtsAt.nil _ _ _ (fun _ => rfl)⟩
theorem QbR (w : World) (a b c d : Obj) : ((((w.alloc a).alloc b).alloc c).alloc d).heap[w.heap.size]? = (w.alloc a).heap[w.heap.size]? ∧ ((((w.alloc a).alloc b).alloc c).alloc d).heap[w.heap.size + 1]? = ((w.alloc a).alloc b).heap[w.heap.size + 1]? ∧ ((((w.alloc a).alloc b).alloc c).alloc d).heap[w.heap.size + 1 + 1]? = (((w.alloc a).alloc b).alloc c).heap[w.heap.size + 1 + 1]? := by
 refine ⟨?_, ?_, ?_⟩
 · rw [Below.heap_alloc _ d _ (by simp; omega), Below.heap_alloc _ c _ (by simp; omega), Below.heap_alloc _ b _ (by simp)]
 · rw [Below.heap_alloc _ d _ (by simp), Below.heap_alloc _ c _ (by simp)]
 · rw [Below.heap_alloc _ d _ (by simp)]
theorem Qiv (args : Array Value) (w : World) : (callFunc 150 args).run Tryz.prog w = .ok (.enter 150 args) w := by kernel_rfl
theorem Qjq {w : World} {ops : Array Oper} {o : Oper} {a0 : Act} {K : Act → World → Prop} {Q : Exit → Act → World → Prop} {E : Prop} (hgd : o.guard = none) (x y : Operand) (ats : Array TypeId)
 (ho : o.op = .call { callee := .value (.func 150), args := #[x, y], argTypes := ats }) (t now : Int) (hx : a0.eval x = .int .i64 t) (hy : a0.eval y = .int .i64 now) (h1 : 1 ≤ t) (h2 : t ≤ 5) (h3 : 0 ≤ now) (h4 : now ≤ 1099511627776)
 (h : K (a0.put o.dst (.int .i64 (now + 2 ^ t.toNat))) w) :
 if Region.wanted o (yielded ops a0.tmps) = true then Oper.wp Tryz.prog o a0 w K Q else E := by
 have hw : Region.wanted o (yielded ops a0.tmps) = true := by simp [Region.wanted, hgd]
 rw [if_pos hw]
 unfold Oper.wp
 obtain ⟨dst, op, ty, pos, after, guard⟩ := o
 simp only at ho
 subst ho
 rw [execOp_call_go]
 have e : (#[] ++ #[x, y].map a0.eval ++ #[] : Array Value) = #[.int .i64 t, .int .i64 now] := by simp [hx, hy]
 rw [e, Qiv, Oper.upon_enter]
 refine (Qf9 t now h1 h2 h3 h4 w).mono ?_
 rintro e w' ⟨rfl, rfl⟩
 exact h
theorem Qkx (w : World) (x : SntV) (j : Nat) (u : Value) (hu : x.cells[j]? = some u) : (w.alloc (.cells x.cells.toArray 146)).cell? ⟨w.heap.size, j, none⟩ = some u := by
 rw [Qa (heap_alloc_new w _) j]
 simpa using hu
theorem OwnRow.lt {B : Nat} {w : World} {v : Value} {q : List SntV} (h : OwnRow B w v q) {k : Nat} (hk : v.ownBlock = some k) : k < w.heap.size := by
 rcases h.own.2 with ⟨rfl, _⟩ | ⟨g, cap, cur, rfl, _, hg, _⟩
 · cases hk
 · cases hk
   exact Qw hg
theorem OwnRow.heap {B b : Nat} {w w' : World} {v : Value} {q : List SntV} {o : Obj} (h : OwnRow B w v q) (hg : w.grownBy w' v.ownBlock) (hb : b < B) (ho : w.heap[b]? = some o) : w'.heap[b]? = some o := by
 rw [hg.block b (Qw ho) (fun e => by have := Qs h.own e.symm; omega), ho]
set_option maxRecDepth 100000 in
set_option maxHeartbeats 6400000 in
theorem QjS (v vf : Value) (L : Lne) (f : Frm) (now : Int) (w : World) (hv : LneAt w v L) (hf : FrmAt w vf f) :
 Calls Tryz.prog 130 #[v, vf, .int .i64 now] w fun e w' => ∃ v' vf', e = .returned (.tuple #[v', vf', .int .i64 (sendLn L f now).2.2]) ∧ LneNew w.heap.size w' v' (sendLn L f now).1 ∧ (∀ w'', Since w.heap.size w' w'' → FrmAt w'' vf' (sendLn L f now).2.1) ∧ Below w.heap.size w w' := by
 obtain ⟨nx, st, hi, b0, b1, b2, b3, b4, b5, b6, b7, p, cap, rfl, rfl, hs⟩ := hv.spell
 have hlen := hs.len
 have HV := hid hv
 obtain ⟨vl, vg, vc, rfl, hl, hg, hc⟩ := hf
 obtain ⟨pl, cl, rfl, _⟩ := id hl
 obtain ⟨pg, cg, rfl, _⟩ := id hg
 obtain ⟨pc, cc, rfl, _⟩ := id hc
 have HL := hid hl
 have HG := hid hg
 have HC := hid hc
 unfold frmV
 clear hv hs hl hg hc
 have hb0 : Below w.heap.size w ((((w.alloc (.cells #[.int .i64 nx, .slice p st.length cap, .int .i64 hi, .bool b0, .bool b1, .bool b2, .bool b3, .bool b4, .bool b5, .bool b6, .bool b7] 71)).alloc (.cells #[.int .i64 f.fr, .int .i64 f.to, .int .i64 f.seq, .bool f.ack, .int .i64 f.thread, .int .i64 f.mail.host, .int .i64 f.mail.thread, .slice pl f.mail.label.length cl, .slice pg f.mail.grants.length cg, .string ⟨f.mail.text.toArray⟩, .slice pc f.certs.length cc] 111)).alloc (.cells #[.int .i64 0, .slice none 0 0, .int .i64 0, .bool false, .bool false, .bool false, .bool false, .bool false, .bool false, .bool false, .bool false] 71)).alloc (.cells #[.int .i64 0, .int .i64 0, .int .i64 0, .bool false, .int .i64 0, .int .i64 0, .int .i64 0, .slice none 0 0, .slice none 0 0, .string ⟨#[]⟩, .slice none 0 0] 111)) := (((Qd w _).alloc (by simp) _).alloc (by simp; omega) _).alloc (by simp; omega) _
 have hB : ((((w.alloc (.cells #[.int .i64 nx, .slice p st.length cap, .int .i64 hi, .bool b0, .bool b1, .bool b2, .bool b3, .bool b4, .bool b5, .bool b6, .bool b7] 71)).alloc (.cells #[.int .i64 f.fr, .int .i64 f.to, .int .i64 f.seq, .bool f.ack, .int .i64 f.thread, .int .i64 f.mail.host, .int .i64 f.mail.thread, .slice pl f.mail.label.length cl, .slice pg f.mail.grants.length cg, .string ⟨f.mail.text.toArray⟩, .slice pc f.certs.length cc] 111)).alloc (.cells #[.int .i64 0, .slice none 0 0, .int .i64 0, .bool false, .bool false, .bool false, .bool false, .bool false, .bool false, .bool false, .bool false] 71)).alloc (.cells #[.int .i64 0, .int .i64 0, .int .i64 0, .bool false, .int .i64 0, .int .i64 0, .int .i64 0, .slice none 0 0, .slice none 0 0, .string ⟨#[]⟩, .slice none 0 0] 111)).heap.size = w.heap.size + 4 := by simp
 have h40 : ((((w.alloc (.cells #[.int .i64 nx, .slice p st.length cap, .int .i64 hi, .bool b0, .bool b1, .bool b2, .bool b3, .bool b4, .bool b5, .bool b6, .bool b7] 71)).alloc (.cells #[.int .i64 f.fr, .int .i64 f.to, .int .i64 f.seq, .bool f.ack, .int .i64 f.thread, .int .i64 f.mail.host, .int .i64 f.mail.thread, .slice pl f.mail.label.length cl, .slice pg f.mail.grants.length cg, .string ⟨f.mail.text.toArray⟩, .slice pc f.certs.length cc] 111)).alloc (.cells #[.int .i64 0, .slice none 0 0, .int .i64 0, .bool false, .bool false, .bool false, .bool false, .bool false, .bool false, .bool false, .bool false] 71)).alloc (.cells #[.int .i64 0, .int .i64 0, .int .i64 0, .bool false, .int .i64 0, .int .i64 0, .int .i64 0, .slice none 0 0, .slice none 0 0, .string ⟨#[]⟩, .slice none 0 0] 111)).heap[w.heap.size]? = some (.cells #[.int .i64 nx, .slice p st.length cap, .int .i64 hi, .bool b0, .bool b1, .bool b2, .bool b3, .bool b4, .bool b5, .bool b6, .bool b7] 71 (0, 0)) := (QbR w _ _ _ _).1.trans (heap_alloc_new w _)
 have h41 : ((((w.alloc (.cells #[.int .i64 nx, .slice p st.length cap, .int .i64 hi, .bool b0, .bool b1, .bool b2, .bool b3, .bool b4, .bool b5, .bool b6, .bool b7] 71)).alloc (.cells #[.int .i64 f.fr, .int .i64 f.to, .int .i64 f.seq, .bool f.ack, .int .i64 f.thread, .int .i64 f.mail.host, .int .i64 f.mail.thread, .slice pl f.mail.label.length cl, .slice pg f.mail.grants.length cg, .string ⟨f.mail.text.toArray⟩, .slice pc f.certs.length cc] 111)).alloc (.cells #[.int .i64 0, .slice none 0 0, .int .i64 0, .bool false, .bool false, .bool false, .bool false, .bool false, .bool false, .bool false, .bool false] 71)).alloc (.cells #[.int .i64 0, .int .i64 0, .int .i64 0, .bool false, .int .i64 0, .int .i64 0, .int .i64 0, .slice none 0 0, .slice none 0 0, .string ⟨#[]⟩, .slice none 0 0] 111)).heap[w.heap.size + 1]? = some (.cells #[.int .i64 f.fr, .int .i64 f.to, .int .i64 f.seq, .bool f.ack, .int .i64 f.thread, .int .i64 f.mail.host, .int .i64 f.mail.thread, .slice pl f.mail.label.length cl, .slice pg f.mail.grants.length cg, .string ⟨f.mail.text.toArray⟩, .slice pc f.certs.length cc] 111 (0, 0)) := (QbR w _ _ _ _).2.1.trans (heap_alloc2_new w _ _)
 have h42 : ((((w.alloc (.cells #[.int .i64 nx, .slice p st.length cap, .int .i64 hi, .bool b0, .bool b1, .bool b2, .bool b3, .bool b4, .bool b5, .bool b6, .bool b7] 71)).alloc (.cells #[.int .i64 f.fr, .int .i64 f.to, .int .i64 f.seq, .bool f.ack, .int .i64 f.thread, .int .i64 f.mail.host, .int .i64 f.mail.thread, .slice pl f.mail.label.length cl, .slice pg f.mail.grants.length cg, .string ⟨f.mail.text.toArray⟩, .slice pc f.certs.length cc] 111)).alloc (.cells #[.int .i64 0, .slice none 0 0, .int .i64 0, .bool false, .bool false, .bool false, .bool false, .bool false, .bool false, .bool false, .bool false] 71)).alloc (.cells #[.int .i64 0, .int .i64 0, .int .i64 0, .bool false, .int .i64 0, .int .i64 0, .int .i64 0, .slice none 0 0, .slice none 0 0, .string ⟨#[]⟩, .slice none 0 0] 111)).heap[w.heap.size + 1 + 1]? = some (.cells #[.int .i64 0, .slice none 0 0, .int .i64 0, .bool false, .bool false, .bool false, .bool false, .bool false, .bool false, .bool false, .bool false] 71 (0, 0)) := (QbR w _ _ _ _).2.2.trans (by
  have := heap_alloc_new ((w.alloc (.cells #[.int .i64 nx, .slice p st.length cap, .int .i64 hi, .bool b0, .bool b1, .bool b2, .bool b3, .bool b4, .bool b5, .bool b6, .bool b7] 71)).alloc (.cells #[.int .i64 f.fr, .int .i64 f.to, .int .i64 f.seq, .bool f.ack, .int .i64 f.thread, .int .i64 f.mail.host, .int .i64 f.mail.thread, .slice pl f.mail.label.length cl, .slice pg f.mail.grants.length cg, .string ⟨f.mail.text.toArray⟩, .slice pc f.certs.length cc] 111)) (.cells #[.int .i64 0, .slice none 0 0, .int .i64 0, .bool false, .bool false, .bool false, .bool false, .bool false, .bool false, .bool false, .bool false] 71)
  simpa using this)
 have h43 : ((((w.alloc (.cells #[.int .i64 nx, .slice p st.length cap, .int .i64 hi, .bool b0, .bool b1, .bool b2, .bool b3, .bool b4, .bool b5, .bool b6, .bool b7] 71)).alloc (.cells #[.int .i64 f.fr, .int .i64 f.to, .int .i64 f.seq, .bool f.ack, .int .i64 f.thread, .int .i64 f.mail.host, .int .i64 f.mail.thread, .slice pl f.mail.label.length cl, .slice pg f.mail.grants.length cg, .string ⟨f.mail.text.toArray⟩, .slice pc f.certs.length cc] 111)).alloc (.cells #[.int .i64 0, .slice none 0 0, .int .i64 0, .bool false, .bool false, .bool false, .bool false, .bool false, .bool false, .bool false, .bool false] 71)).alloc (.cells #[.int .i64 0, .int .i64 0, .int .i64 0, .bool false, .int .i64 0, .int .i64 0, .int .i64 0, .slice none 0 0, .slice none 0 0, .string ⟨#[]⟩, .slice none 0 0] 111)).heap[w.heap.size + 1 + 1 + 1]? = some (.cells #[.int .i64 0, .int .i64 0, .int .i64 0, .bool false, .int .i64 0, .int .i64 0, .int .i64 0, .slice none 0 0, .slice none 0 0, .string ⟨#[]⟩, .slice none 0 0] 111 (0, 0)) := by
  have := heap_alloc_new (((w.alloc (.cells #[.int .i64 nx, .slice p st.length cap, .int .i64 hi, .bool b0, .bool b1, .bool b2, .bool b3, .bool b4, .bool b5, .bool b6, .bool b7] 71)).alloc (.cells #[.int .i64 f.fr, .int .i64 f.to, .int .i64 f.seq, .bool f.ack, .int .i64 f.thread, .int .i64 f.mail.host, .int .i64 f.mail.thread, .slice pl f.mail.label.length cl, .slice pg f.mail.grants.length cg, .string ⟨f.mail.text.toArray⟩, .slice pc f.certs.length cc] 111)).alloc (.cells #[.int .i64 0, .slice none 0 0, .int .i64 0, .bool false, .bool false, .bool false, .bool false, .bool false, .bool false, .bool false, .bool false] 71)) (.cells #[.int .i64 0, .int .i64 0, .int .i64 0, .bool false, .int .i64 0, .int .i64 0, .int .i64 0, .slice none 0 0, .slice none 0 0, .string ⟨#[]⟩, .slice none 0 0] 111)
  simpa using this
 go_enter Tryz.func130, Tryz.ntmps130
 go_wp2_with fail
 refine (QaJ _ _ _ (HV.out.below hb0)).mono ?_
 rintro e w1 ⟨vs, sq, rfl, hmap, hown, hw1⟩
 have hql : sq.length = st.length := by
  have := congrArg List.length hmap
  simpa using this
 obtain ⟨p1, c1, hvs⟩ := Qo hown.own
 rw [hql] at hvs
 subst hvs
 unfold lneV
 have hbx1 := Qe h40 hw1
 have hfb1 := Qe h41 hw1
 have hrl1 := Qe h42 hw1
 have hrf1 := Qe h43 hw1
 have hbw1 := Qc hb0 hw1
 rw [hB] at hown
 have x0 := Qa hbx1 0
 have y0 := Qb hbx1 0
 have x1 := Qa hbx1 1
 have y1 := Qb hbx1 1
 have x2 := Qa hbx1 2
 have y2 := Qb hbx1 2
 have x3 := Qa hbx1 3
 have y3 := Qb hbx1 3
 have x4 := Qa hbx1 4
 have y4 := Qb hbx1 4
 have x5 := Qa hbx1 5
 have y5 := Qb hbx1 5
 have x6 := Qa hbx1 6
 have y6 := Qb hbx1 6
 have x7 := Qa hbx1 7
 have y7 := Qb hbx1 7
 have x8 := Qa hbx1 8
 have y8 := Qb hbx1 8
 have x9 := Qa hbx1 9
 have y9 := Qb hbx1 9
 have x10 := Qa hbx1 10
 have y10 := Qb hbx1 10
 clear hw1 hb0 HV h40 h41 h42 h43 hB
 go_wp2_with fail
 have hbx2 : (((((((((((w1.setCell ⟨w.heap.size, 0, none⟩ (.int .i64 nx)).setCell ⟨w.heap.size, 1, none⟩ (.slice p1 st.length c1)).setCell ⟨w.heap.size, 2, none⟩ (.int .i64 hi)).setCell ⟨w.heap.size, 3, none⟩ (.bool b0)).setCell ⟨w.heap.size, 4, none⟩ (.bool b1)).setCell ⟨w.heap.size, 5, none⟩ (.bool b2)).setCell ⟨w.heap.size, 6, none⟩ (.bool b3)).setCell ⟨w.heap.size, 7, none⟩ (.bool b4)).setCell ⟨w.heap.size, 8, none⟩ (.bool b5)).setCell ⟨w.heap.size, 9, none⟩ (.bool b6)).setCell ⟨w.heap.size, 10, none⟩ (.bool b7)).heap[w.heap.size]? = some (.cells #[.int .i64 nx, .slice p1 st.length c1, .int .i64 hi, .bool b0, .bool b1, .bool b2, .bool b3, .bool b4, .bool b5, .bool b6, .bool b7] 71 (0, 0)) := Ql (.int .i64 nx) (.slice p1 st.length c1) (.int .i64 hi) (.bool b0) (.bool b1) (.bool b2) (.bool b3) (.bool b4) (.bool b5) (.bool b6) (.bool b7) hbx1
 have hS1 : w1.grownBy (((((((((((w1.setCell ⟨w.heap.size, 0, none⟩ (.int .i64 nx)).setCell ⟨w.heap.size, 1, none⟩ (.slice p1 st.length c1)).setCell ⟨w.heap.size, 2, none⟩ (.int .i64 hi)).setCell ⟨w.heap.size, 3, none⟩ (.bool b0)).setCell ⟨w.heap.size, 4, none⟩ (.bool b1)).setCell ⟨w.heap.size, 5, none⟩ (.bool b2)).setCell ⟨w.heap.size, 6, none⟩ (.bool b3)).setCell ⟨w.heap.size, 7, none⟩ (.bool b4)).setCell ⟨w.heap.size, 8, none⟩ (.bool b5)).setCell ⟨w.heap.size, 9, none⟩ (.bool b6)).setCell ⟨w.heap.size, 10, none⟩ (.bool b7)) (some w.heap.size) := Qj w1 w.heap.size (.int .i64 nx) (.slice p1 st.length c1) (.int .i64 hi) (.bool b0) (.bool b1) (.bool b2) (.bool b3) (.bool b4) (.bool b5) (.bool b6) (.bool b7)
 have hfb2 := Qn hfb1 (show w.heap.size + 1 ≠ w.heap.size by omega) hS1
 have hrl2 := Qn hrl1 (show w.heap.size + 1 + 1 ≠ w.heap.size by omega) hS1
 have hrf2 := Qn hrf1 (show w.heap.size + 1 + 1 + 1 ≠ w.heap.size by omega) hS1
 have hown2 := hown.box hS1 (by omega)
 have hbw2 := hbw1.grown hS1 hbw1.size (fun k hk => by have := Option.some.inj hk; omega)
 clear hbx1 hfb1 hrl1 hrf1 hown hbw1 hS1 x0 y0 x1 y1 x2 y2 x3 y3 x4 y4 x5 y5 x6 y6 x7 y7 x8 y8 x9 y9 x10 y10
 generalize (((((((((((w1.setCell ⟨w.heap.size, 0, none⟩ (.int .i64 nx)).setCell ⟨w.heap.size, 1, none⟩ (.slice p1 st.length c1)).setCell ⟨w.heap.size, 2, none⟩ (.int .i64 hi)).setCell ⟨w.heap.size, 3, none⟩ (.bool b0)).setCell ⟨w.heap.size, 4, none⟩ (.bool b1)).setCell ⟨w.heap.size, 5, none⟩ (.bool b2)).setCell ⟨w.heap.size, 6, none⟩ (.bool b3)).setCell ⟨w.heap.size, 7, none⟩ (.bool b4)).setCell ⟨w.heap.size, 8, none⟩ (.bool b5)).setCell ⟨w.heap.size, 9, none⟩ (.bool b6)).setCell ⟨w.heap.size, 10, none⟩ (.bool b7)) = w2 at *
 have hl2 : LneAt w2 (.agg #[.int .i64 nx, .slice p1 st.length c1, .int .i64 hi, .bool b0, .bool b1, .bool b2, .bool b3, .bool b4, .bool b5, .bool b6, .bool b7]) ⟨nx, st, hi, [b0, b1, b2, b3, b4, b5, b6, b7]⟩ := Qfp (by have := hown2.snts (by omega); rwa [hmap] at this) nx hi b0 b1 b2 b3 b4 b5 b6 b7
 refine (Qcb _ _ _ hl2).mono ?_
 rintro e w3 ⟨rfl, hw3⟩
 have HX := hid (Qe hbx2 hw3)
 have HF := hid (Qe hfb2 hw3)
 have HR := hid (Qe hrl2 hw3)
 have HQ := hid (Qe hrf2 hw3)
 have HO := hid (hown2.below hw3)
 have hbw3 := Qc hbw2 hw3
 clear hbx2 hfb2 hrl2 hrf2 hown2 hbw2 hl2 hw3
 have x0 := Qa HX.out 0
 have x1 := Qa HX.out 1
 have x2 := Qa HX.out 2
 have x3 := Qa HX.out 3
 have x4 := Qa HX.out 4
 have x5 := Qa HX.out 5
 have x6 := Qa HX.out 6
 have x7 := Qa HX.out 7
 have x8 := Qa HX.out 8
 have x9 := Qa HX.out 9
 have x10 := Qa HX.out 10
 have d0 := Qa HR.out 0
 have df0 := Qb HR.out 0
 have d1 := Qa HR.out 1
 have df1 := Qb HR.out 1
 have d2 := Qa HR.out 2
 have df2 := Qb HR.out 2
 have d3 := Qa HR.out 3
 have df3 := Qb HR.out 3
 have d4 := Qa HR.out 4
 have df4 := Qb HR.out 4
 have d5 := Qa HR.out 5
 have df5 := Qb HR.out 5
 have d6 := Qa HR.out 6
 have df6 := Qb HR.out 6
 have d7 := Qa HR.out 7
 have df7 := Qb HR.out 7
 have d8 := Qa HR.out 8
 have df8 := Qb HR.out 8
 have d9 := Qa HR.out 9
 have df9 := Qb HR.out 9
 have d10 := Qa HR.out 10
 have df10 := Qb HR.out 10
 have g0 := Qa HQ.out 0
 have gf0 := Qb HQ.out 0
 have g1 := Qa HQ.out 1
 have gf1 := Qb HQ.out 1
 have g2 := Qa HQ.out 2
 have gf2 := Qb HQ.out 2
 have g3 := Qa HQ.out 3
 have gf3 := Qb HQ.out 3
 have g4 := Qa HQ.out 4
 have gf4 := Qb HQ.out 4
 have g5 := Qa HQ.out 5
 have gf5 := Qb HQ.out 5
 have g6 := Qa HQ.out 6
 have gf6 := Qb HQ.out 6
 have g7 := Qa HQ.out 7
 have gf7 := Qb HQ.out 7
 have g8 := Qa HQ.out 8
 have gf8 := Qb HQ.out 8
 have g9 := Qa HQ.out 9
 have gf9 := Qb HQ.out 9
 have g10 := Qa HQ.out 10
 have gf10 := Qb HQ.out 10
 have n01 : w.heap.size ≠ w.heap.size + 1 := by omega
 have n02 : w.heap.size ≠ w.heap.size + 1 + 1 := by omega
 have n03 : w.heap.size ≠ w.heap.size + 1 + 1 + 1 := by omega
 have n12 : w.heap.size + 1 ≠ w.heap.size + 1 + 1 := by omega
 have n13 : w.heap.size + 1 ≠ w.heap.size + 1 + 1 + 1 := by omega
 have n23 : w.heap.size + 1 + 1 ≠ w.heap.size + 1 + 1 + 1 := by omega
 have n32 : w.heap.size + 1 + 1 + 1 ≠ w.heap.size + 1 + 1 := by omega
 have n10 : w.heap.size + 1 ≠ w.heap.size := by omega
 have ht := fun wx => Qca now wx
 by_cases hgq : (goodLn ⟨nx, st, hi, [b0, b1, b2, b3, b4, b5, b6, b7]⟩ && timeB now) = true
 · have hgq2 := hgq
   rw [Bool.and_eq_true] at hgq2
   obtain ⟨hg, htm⟩ := hgq2
   have hh := Qaa hg
   rw [QQ] at hh
   obtain ⟨h1, h2, _, _, h5⟩ := hh
   simp only at h1 h2 h5
   rw [hg]
   rw [htm] at ht
   have htm2 := htm
   simp only [timeB, decide_eq_true_eq] at htm2
   obtain ⟨t1, t2⟩ := htm2
   by_cases hfull : st.length = 8 ∨ nx = 1099511627775
   · have HTK : Hid (sendLn ⟨nx, st, hi, [b0, b1, b2, b3, b4, b5, b6, b7]⟩ f now = (⟨nx, st, hi, [b0, b1, b2, b3, b4, b5, b6, b7]⟩, zeroFrm, 5)) := hid (by unfold sendLn; rw [if_pos hgq, if_pos hfull])
     clear hgq
     by_cases h8 : st.length = 8
     · have h8i : (((st.length : Nat) : Int) == 8) = true := beq_iff_eq.2 (by omega)
       clear h8 hfull
       go_wp2_with (go_at_call 149; refine (ht _).mono ?_; rintro e w4 ⟨rfl, hw4⟩; rw [hw4]; clear hw4 w4)
       have hS := Qj w3 (w.heap.size + 1 + 1) (.int .i64 nx) (.slice p1 st.length c1) (.int .i64 hi) (.bool b0) (.bool b1) (.bool b2) (.bool b3) (.bool b4) (.bool b5) (.bool b6) (.bool b7)
       have hS2 := Qj (st11 w3 (w.heap.size + 1 + 1) (.int .i64 nx) (.slice p1 st.length c1) (.int .i64 hi) (.bool b0) (.bool b1) (.bool b2) (.bool b3) (.bool b4) (.bool b5) (.bool b6) (.bool b7)) (w.heap.size + 1 + 1 + 1) (.int .i64 0) (.int .i64 0) (.int .i64 0) (.bool false) (.int .i64 0) (.int .i64 0) (.int .i64 0) (.slice none 0 0) (.slice none 0 0) (.string ⟨#[]⟩) (.slice none 0 0)
       have hW := Qn (Ql (.int .i64 nx) (.slice p1 st.length c1) (.int .i64 hi) (.bool b0) (.bool b1) (.bool b2) (.bool b3) (.bool b4) (.bool b5) (.bool b6) (.bool b7) HR.out) n23 hS2
       have hW2 := Ql (.int .i64 0) (.int .i64 0) (.int .i64 0) (.bool false) (.int .i64 0) (.int .i64 0) (.int .i64 0) (.slice none 0 0) (.slice none 0 0) (.string ⟨#[]⟩) (.slice none 0 0) (Qn HQ.out n32 hS)
       have hO := (HO.out.box hS (by omega)).box hS2 (by omega)
       have hb := (hbw3.grown hS hbw3.size (fun k hk => by have := Option.some.inj hk; omega)).grown hS2 (Nat.le_trans hbw3.size hS.size) (fun k hk => by have := Option.some.inj hk; omega)
       exact bodyPost_ret (Qaz rfl _ _ (w.heap.size + 1 + 1) (w.heap.size + 1 + 1 + 1) _ _ rfl (Qu rfl hW) rfl (QbK rfl hW2)) rfl ⟨_, _, by rw [HTK.out]; rfl, by rw [HTK.out]; exact QC (hO.low (by omega)) hmap (by omega) nx hi b0 b1 b2 b3 b4 b5 b6 b7, fun w'' _ => by rw [HTK.out]; exact Qbg _, hb⟩
     · have h8i : (((st.length : Nat) : Int) == 8) = false := beq_eq_false_iff_ne.2 (by omega)
       have hnx : (nx == 1099511627775) = true := beq_iff_eq.2 (by omega)
       clear h8 hfull
       go_wp2_with (go_at_call 149; refine (ht _).mono ?_; rintro e w4 ⟨rfl, hw4⟩; rw [hw4]; clear hw4 w4)
       have hS := Qj w3 (w.heap.size + 1 + 1) (.int .i64 nx) (.slice p1 st.length c1) (.int .i64 hi) (.bool b0) (.bool b1) (.bool b2) (.bool b3) (.bool b4) (.bool b5) (.bool b6) (.bool b7)
       have hS2 := Qj (st11 w3 (w.heap.size + 1 + 1) (.int .i64 nx) (.slice p1 st.length c1) (.int .i64 hi) (.bool b0) (.bool b1) (.bool b2) (.bool b3) (.bool b4) (.bool b5) (.bool b6) (.bool b7)) (w.heap.size + 1 + 1 + 1) (.int .i64 0) (.int .i64 0) (.int .i64 0) (.bool false) (.int .i64 0) (.int .i64 0) (.int .i64 0) (.slice none 0 0) (.slice none 0 0) (.string ⟨#[]⟩) (.slice none 0 0)
       have hW := Qn (Ql (.int .i64 nx) (.slice p1 st.length c1) (.int .i64 hi) (.bool b0) (.bool b1) (.bool b2) (.bool b3) (.bool b4) (.bool b5) (.bool b6) (.bool b7) HR.out) n23 hS2
       have hW2 := Ql (.int .i64 0) (.int .i64 0) (.int .i64 0) (.bool false) (.int .i64 0) (.int .i64 0) (.int .i64 0) (.slice none 0 0) (.slice none 0 0) (.string ⟨#[]⟩) (.slice none 0 0) (Qn HQ.out n32 hS)
       have hO := (HO.out.box hS (by omega)).box hS2 (by omega)
       have hb := (hbw3.grown hS hbw3.size (fun k hk => by have := Option.some.inj hk; omega)).grown hS2 (Nat.le_trans hbw3.size hS.size) (fun k hk => by have := Option.some.inj hk; omega)
       exact bodyPost_ret (Qaz rfl _ _ (w.heap.size + 1 + 1) (w.heap.size + 1 + 1 + 1) _ _ rfl (Qu rfl hW) rfl (QbK rfl hW2)) rfl ⟨_, _, by rw [HTK.out]; rfl, by rw [HTK.out]; exact QC (hO.low (by omega)) hmap (by omega) nx hi b0 b1 b2 b3 b4 b5 b6 b7, fun w'' _ => by rw [HTK.out]; exact Qbg _, hb⟩
   · have HTK : Hid (sendLn ⟨nx, st, hi, [b0, b1, b2, b3, b4, b5, b6, b7]⟩ f now = (⟨nx + 1, st ++ [⟨{ f with seq := nx + 1 }, 1, now + 2⟩], hi, [b0, b1, b2, b3, b4, b5, b6, b7]⟩, { f with seq := nx + 1 }, 0)) := hid (by unfold sendLn; rw [if_pos hgq, if_neg hfull])
     have h8i : (((st.length : Nat) : Int) == 8) = false := beq_eq_false_iff_ne.2 (by omega)
     have hnx : (nx == 1099511627775) = false := beq_eq_false_iff_ne.2 (by omega)
     have xf0 := Qb HX.out 0
     have k2 := Qa HF.out 2
     have kf2 := Qb HF.out 2
     clear hgq
     go_upto_region 8 with (go_at_call 149; refine (ht _).mono ?_; rintro e w4 ⟨rfl, hw4⟩; rw [hw4]; clear hw4 w4)
     have gr1 := Qg w3 w.heap.size 0 (.int .i64 (nx + 1))
     have gr2 := Qg (w3.setCell ⟨w.heap.size, 0, none⟩ (.int .i64 (nx + 1))) (w.heap.size + 1) 2 (.int .i64 (nx + 1))
     have hX5 : ((w3.setCell ⟨w.heap.size, 0, none⟩ (.int .i64 (nx + 1))).setCell ⟨w.heap.size + 1, 2, none⟩ (.int .i64 (nx + 1))).heap[w.heap.size]? = some (.cells #[.int .i64 (nx + 1), .slice p1 st.length c1, .int .i64 hi, .bool b0, .bool b1, .bool b2, .bool b3, .bool b4, .bool b5, .bool b6, .bool b7] 71 (0, 0)) := Qn (heap_setCell (j := 0) HX.out (.int .i64 (nx + 1))) n01 gr2
     have hF5 : ((w3.setCell ⟨w.heap.size, 0, none⟩ (.int .i64 (nx + 1))).setCell ⟨w.heap.size + 1, 2, none⟩ (.int .i64 (nx + 1))).heap[w.heap.size + 1]? = some (.cells #[.int .i64 f.fr, .int .i64 f.to, .int .i64 (nx + 1), .bool f.ack, .int .i64 f.thread, .int .i64 f.mail.host, .int .i64 f.mail.thread, .slice pl f.mail.label.length cl, .slice pg f.mail.grants.length cg, .string ⟨f.mail.text.toArray⟩, .slice pc f.certs.length cc] 111 (0, 0)) := heap_setCell (j := 2) (Qn HF.out n10 gr1) (.int .i64 (nx + 1))
     have hR5 := Qn (Qn HR.out (show w.heap.size + 1 + 1 ≠ w.heap.size by omega) gr1) (show w.heap.size + 1 + 1 ≠ w.heap.size + 1 by omega) gr2
     have hQ5 := Qn (Qn HQ.out (show w.heap.size + 1 + 1 + 1 ≠ w.heap.size by omega) gr1) (show w.heap.size + 1 + 1 + 1 ≠ w.heap.size + 1 by omega) gr2
     have hO5 := (HO.out.box gr1 (by omega)).box gr2 (by omega)
     have hb5 := (hbw3.grown gr1 hbw3.size (fun k hk => by have := Option.some.inj hk; omega)).grown gr2 (Nat.le_trans hbw3.size gr1.size) (fun k hk => by have := Option.some.inj hk; omega)
     clear gr1 gr2 HX HF HR HQ HO hbw3 k2 kf2 xf0 ht x0 d0 df0 g0 gf0 x1 d1 df1 g1 gf1 x2 d2 df2 g2 gf2 x3 d3 df3 g3 gf3 x4 d4 df4 g4 gf4 x5 d5 df5 g5 gf5 x6 d6 df6 g6 gf6 x7 d7 df7 g7 gf7 x8 d8 df8 g8 gf8 x9 d9 df9 g9 gf9 x10 d10 df10 g10 gf10
     generalize (w3.setCell ⟨w.heap.size, 0, none⟩ (.int .i64 (nx + 1))).setCell ⟨w.heap.size + 1, 2, none⟩ (.int .i64 (nx + 1)) = w5 at *
     have x1 : w5.cell? ⟨w.heap.size, 1, none⟩ = some (.slice p1 st.length c1) := Qa hX5 1
     have k0 := Qa hF5 0
     have k1 := Qa hF5 1
     have k2 := Qa hF5 2
     have k3 := Qa hF5 3
     have k4 := Qa hF5 4
     have k5 := Qa hF5 5
     have k6 := Qa hF5 6
     have k7 := Qa hF5 7
     have k8 := Qa hF5 8
     have k9 := Qa hF5 9
     have k10 := Qa hF5 10
     have HFRM : Hid (FrmAt w5 (.agg #[.int .i64 f.fr, .int .i64 f.to, .int .i64 (nx + 1), .bool f.ack, .int .i64 f.thread, .int .i64 f.mail.host, .int .i64 f.mail.thread, .slice pl f.mail.label.length cl, .slice pg f.mail.grants.length cg, .string ⟨f.mail.text.toArray⟩, .slice pc f.certs.length cc]) { f with seq := nx + 1 }) := hid ⟨_, _, _, rfl, HL.out.below hb5, HG.out.below hb5, HC.out.below hb5⟩
     have hsz5 : w.heap.size + 4 ≤ w5.heap.size := by have := Qw hQ5; omega
     have HX5 := hid hX5
     have HF5 := hid hF5
     have HR5 := hid hR5
     have HQ5 := hid hQ5
     have HO5 := hid hO5
     clear hX5 hF5 hR5 hQ5 hO5
     go_cut [] (fun w8 => ∃ p9 c9 p6 c6 p7 c7 p8 c8, w8.heap[w.heap.size]? = some (.cells #[.int .i64 (nx + 1), .slice p9 (st.length + 1) c9, .int .i64 hi, .bool b0, .bool b1, .bool b2, .bool b3, .bool b4, .bool b5, .bool b6, .bool b7] 71 (0, 0)) ∧ w8.heap[w.heap.size + 1]? = some (.cells #[.int .i64 f.fr, .int .i64 f.to, .int .i64 (nx + 1), .bool f.ack, .int .i64 f.thread, .int .i64 f.mail.host, .int .i64 f.mail.thread, .slice pl f.mail.label.length cl, .slice pg f.mail.grants.length cg, .string ⟨f.mail.text.toArray⟩, .slice pc f.certs.length cc] 111 (0, 0)) ∧ w8.heap[w.heap.size + 1 + 1]? = some (.cells #[.int .i64 0, .slice none 0 0, .int .i64 0, .bool false, .bool false, .bool false, .bool false, .bool false, .bool false, .bool false, .bool false] 71 (0, 0)) ∧ w8.heap[w.heap.size + 1 + 1 + 1]? = some (.cells #[.int .i64 0, .int .i64 0, .int .i64 0, .bool false, .int .i64 0, .int .i64 0, .int .i64 0, .slice none 0 0, .slice none 0 0, .string ⟨#[]⟩, .slice none 0 0] 111 (0, 0)) ∧ OwnRow (w.heap.size + 4) w8 (.slice p9 (st.length + 1) c9) (sq ++ [⟨⟨{ f with seq := nx + 1 }, 1, now + 2⟩, .slice p6 f.mail.label.length c6, .slice p7 f.mail.grants.length c7, .slice p8 f.certs.length c8⟩]) ∧ Below w.heap.size w w8)
     case first =>
      go_region_law ((first
       | (refine Qjo (by rfl) (.tmp 40) (.tmp 46) (by rfl) (w.heap.size + 4) _ sq ⟨⟨{ f with seq := nx + 1 }, 1, now + 2⟩, .slice p6 f.mail.label.length c6, .slice p7 f.mail.grants.length c7, .slice p8 f.certs.length c8⟩ (by rfl) (HOA.out.below (Qd wA _)) wA.heap.size 1 (by rfl) (fun w'' ho => HY.out w'' (Qbq (Qd wA _) ho)) (fun j u hu => Qkx wA _ j u hu) (by rw [QM]; have := hwA.size; omega) (by omega) ?_; intro v7 w7 hown7 hg7; have HOW7 := hid hown7; have HX7 := hid ((HOA.out.below (Qd wA _)).heap hg7 (by omega) (Qz (Qe HX5.out hwA) _)); have HF7 := hid ((HOA.out.below (Qd wA _)).heap hg7 (by omega) (Qz (Qe HF5.out hwA) _)); have HR7 := hid ((HOA.out.below (Qd wA _)).heap hg7 (by omega) (Qz (Qe HR5.out hwA) _)); have HQ7 := hid ((HOA.out.below (Qd wA _)).heap hg7 (by omega) (Qz (Qe HQ5.out hwA) _)); have u1 := Qa HX7.out 1; have uf1 := Qb HX7.out 1; have hb7 := (Qc (Qc hb5 hwA) (Qd wA _)).grown hg7 (Nat.le_trans (Qc hb5 hwA).size (Qd wA _).size) (fun k hk => by have := Qs HOA.out.own hk; omega); obtain ⟨p9, c9, hv9⟩ := Qo hown7.own; rw [List.length_append, List.length_singleton, hql] at hv9; subst hv9; clear hown7 hg7)
       | (refine QaP (by rfl) (.tmp 41) #[111] (by rfl) _ { f with seq := nx + 1 } (by rfl) HFRM.out ?_; intro p6 c6 p7 c7 p8 c8 wA hcopy hwAd; have hwA : Below w5.heap.size w5 wA := ⟨hwAd.os, hwAd.tape, hwAd.output, hwAd.size, hwAd.block⟩; have z1 := hwA.cell (Qf x1); rw [x1] at z1; have hneA : w.heap.size ≠ wA.heap.size := (by have := hwA.size; omega); have hneA2 : wA.heap.size ≠ w.heap.size := (by have := hwA.size; omega); have zA : ∀ o, (wA.alloc o).cell? ⟨w.heap.size, 1, none⟩ = some (.slice p1 st.length c1) := (fun o => by rw [(Qd wA o).cell (Qf z1), z1]); have HOA := hid (HO5.out.below hwA); have HY : Hid (∀ w'', Off (w.heap.size + 4) (Value.slice p1 st.length c1).ownBlock wA w'' → SntV.Ok w'' ⟨⟨{ f with seq := nx + 1 }, 1, now + 2⟩, .slice p6 f.mail.label.length c6, .slice p7 f.mail.grants.length c7, .slice p8 f.certs.length c8⟩) := hid (fun w'' ho => by obtain ⟨q1, q2, q3⟩ := hcopy w'' (fun j hj hjs => ho j (by have hj2 : w5.heap.size ≤ j := hj; omega) hjs (fun e => by have hj2 : w5.heap.size ≤ j := hj; have := HO5.out.lt e; omega)); exact ⟨q1, q2, q3⟩); clear hcopy hwAd)
       | (refine Qjq (by rfl) (.const (.int .i64 1)) (.tmp 43) #[3, 3] (by rfl) 1 now (by rfl) (by rfl) (by omega) (by omega) t1 t2 ?_)))
      all_goals
       go_wp2_with fail
       go_meet
       exact ⟨p9, c9, p6, c6, p7, c7, p8, c8, heap_setCell (j := 1) HX7.out _, Qr HF7.out n10 1 _, Qr HR7.out (show w.heap.size + 1 + 1 ≠ w.heap.size by omega) 1 _, Qr HQ7.out (show w.heap.size + 1 + 1 + 1 ≠ w.heap.size by omega) 1 _, HOW7.out.box (Qg _ w.heap.size 1 _) (by omega), hb7.grown (Qg _ w.heap.size 1 _) hb7.size (fun k hk => by have := Option.some.inj hk; omega)⟩
     case rest =>
      clear HX5 HF5 HR5 HQ5 HO5 hsz5 HFRM x1 k0 k1 k2 k3 k4 k5 k6 k7 k8 k9 k10 hb5 w5
      obtain ⟨p9, c9, p6, c6, p7, c7, p8, c8, hX8, hF8, hR8, hQ8, hO8, hb8⟩ := hcut
      have hV9 := hO8.snts (by simp [hql]; omega)
      have HFRM : Hid (FrmAt wc (.agg #[.int .i64 f.fr, .int .i64 f.to, .int .i64 (nx + 1), .bool f.ack, .int .i64 f.thread, .int .i64 f.mail.host, .int .i64 f.mail.thread, .slice pl f.mail.label.length cl, .slice pg f.mail.grants.length cg, .string ⟨f.mail.text.toArray⟩, .slice pc f.certs.length cc]) { f with seq := nx + 1 }) := hid ⟨_, _, _, rfl, HL.out.below hb8, HG.out.below hb8, HC.out.below hb8⟩
      have HX8 := hid hX8
      have HF8 := hid hF8
      have HR8 := hid hR8
      have HQ8 := hid hQ8
      have HO8 := hid hO8
      have x0 := Qa hX8 0
      have x1 := Qa hX8 1
      have x2 := Qa hX8 2
      have x3 := Qa hX8 3
      have x4 := Qa hX8 4
      have x5 := Qa hX8 5
      have x6 := Qa hX8 6
      have x7 := Qa hX8 7
      have x8 := Qa hX8 8
      have x9 := Qa hX8 9
      have x10 := Qa hX8 10
      have k0 := Qa hF8 0
      have k1 := Qa hF8 1
      have k2 := Qa hF8 2
      have k3 := Qa hF8 3
      have k4 := Qa hF8 4
      have k5 := Qa hF8 5
      have k6 := Qa hF8 6
      have k7 := Qa hF8 7
      have k8 := Qa hF8 8
      have k9 := Qa hF8 9
      have k10 := Qa hF8 10
      have d0 := Qa hR8 0
      have df0 := Qb hR8 0
      have d1 := Qa hR8 1
      have df1 := Qb hR8 1
      have d2 := Qa hR8 2
      have df2 := Qb hR8 2
      have d3 := Qa hR8 3
      have df3 := Qb hR8 3
      have d4 := Qa hR8 4
      have df4 := Qb hR8 4
      have d5 := Qa hR8 5
      have df5 := Qb hR8 5
      have d6 := Qa hR8 6
      have df6 := Qb hR8 6
      have d7 := Qa hR8 7
      have df7 := Qb hR8 7
      have d8 := Qa hR8 8
      have df8 := Qb hR8 8
      have d9 := Qa hR8 9
      have df9 := Qb hR8 9
      have d10 := Qa hR8 10
      have df10 := Qb hR8 10
      have g0 := Qa hQ8 0
      have gf0 := Qb hQ8 0
      have g1 := Qa hQ8 1
      have gf1 := Qb hQ8 1
      have g2 := Qa hQ8 2
      have gf2 := Qb hQ8 2
      have g3 := Qa hQ8 3
      have gf3 := Qb hQ8 3
      have g4 := Qa hQ8 4
      have gf4 := Qb hQ8 4
      have g5 := Qa hQ8 5
      have gf5 := Qb hQ8 5
      have g6 := Qa hQ8 6
      have gf6 := Qb hQ8 6
      have g7 := Qa hQ8 7
      have gf7 := Qb hQ8 7
      have g8 := Qa hQ8 8
      have gf8 := Qb hQ8 8
      have g9 := Qa hQ8 9
      have gf9 := Qb hQ8 9
      have g10 := Qa hQ8 10
      have gf10 := Qb hQ8 10
      clear hX8 hF8 hR8 hQ8 hO8 hV9
      go_wp2
      go_region_law ((first
       | (refine QaP (by rfl) (.tmp 50) #[111] (by rfl) _ { f with seq := nx + 1 } (by rfl) HFRM.out ?_; intro pa ca pb cb pd cd wA hcopy hwAd; have hwA : Below wc.heap.size wc wA := ⟨hwAd.os, hwAd.tape, hwAd.output, hwAd.size, hwAd.block⟩; have X0 := Qa (Qe HX8.out hwA) 0; have D0 := Qa (Qe HR8.out hwA) 0; have Df0 := Qb (Qe HR8.out hwA) 0; have G0 := Qa (Qe HQ8.out hwA) 0; have Gf0 := Qb (Qe HQ8.out hwA) 0; have X1 := Qa (Qe HX8.out hwA) 1; have D1 := Qa (Qe HR8.out hwA) 1; have Df1 := Qb (Qe HR8.out hwA) 1; have G1 := Qa (Qe HQ8.out hwA) 1; have Gf1 := Qb (Qe HQ8.out hwA) 1; have X2 := Qa (Qe HX8.out hwA) 2; have D2 := Qa (Qe HR8.out hwA) 2; have Df2 := Qb (Qe HR8.out hwA) 2; have G2 := Qa (Qe HQ8.out hwA) 2; have Gf2 := Qb (Qe HQ8.out hwA) 2; have X3 := Qa (Qe HX8.out hwA) 3; have D3 := Qa (Qe HR8.out hwA) 3; have Df3 := Qb (Qe HR8.out hwA) 3; have G3 := Qa (Qe HQ8.out hwA) 3; have Gf3 := Qb (Qe HQ8.out hwA) 3; have X4 := Qa (Qe HX8.out hwA) 4; have D4 := Qa (Qe HR8.out hwA) 4; have Df4 := Qb (Qe HR8.out hwA) 4; have G4 := Qa (Qe HQ8.out hwA) 4; have Gf4 := Qb (Qe HQ8.out hwA) 4; have X5 := Qa (Qe HX8.out hwA) 5; have D5 := Qa (Qe HR8.out hwA) 5; have Df5 := Qb (Qe HR8.out hwA) 5; have G5 := Qa (Qe HQ8.out hwA) 5; have Gf5 := Qb (Qe HQ8.out hwA) 5; have X6 := Qa (Qe HX8.out hwA) 6; have D6 := Qa (Qe HR8.out hwA) 6; have Df6 := Qb (Qe HR8.out hwA) 6; have G6 := Qa (Qe HQ8.out hwA) 6; have Gf6 := Qb (Qe HQ8.out hwA) 6; have X7 := Qa (Qe HX8.out hwA) 7; have D7 := Qa (Qe HR8.out hwA) 7; have Df7 := Qb (Qe HR8.out hwA) 7; have G7 := Qa (Qe HQ8.out hwA) 7; have Gf7 := Qb (Qe HQ8.out hwA) 7; have X8 := Qa (Qe HX8.out hwA) 8; have D8 := Qa (Qe HR8.out hwA) 8; have Df8 := Qb (Qe HR8.out hwA) 8; have G8 := Qa (Qe HQ8.out hwA) 8; have Gf8 := Qb (Qe HQ8.out hwA) 8; have X9 := Qa (Qe HX8.out hwA) 9; have D9 := Qa (Qe HR8.out hwA) 9; have Df9 := Qb (Qe HR8.out hwA) 9; have G9 := Qa (Qe HQ8.out hwA) 9; have Gf9 := Qb (Qe HQ8.out hwA) 9; have X10 := Qa (Qe HX8.out hwA) 10; have D10 := Qa (Qe HR8.out hwA) 10; have Df10 := Qb (Qe HR8.out hwA) 10; have G10 := Qa (Qe HQ8.out hwA) 10; have Gf10 := Qb (Qe HQ8.out hwA) 10; have HCOPY := hid hcopy; clear hcopy hwAd)
       | fail))
      all_goals
       clear x0 k0 d0 df0 g0 gf0 X0 D0 Df0 G0 Gf0 x1 k1 d1 df1 g1 gf1 X1 D1 Df1 G1 Gf1 x2 k2 d2 df2 g2 gf2 X2 D2 Df2 G2 Gf2 x3 k3 d3 df3 g3 gf3 X3 D3 Df3 G3 Gf3 x4 k4 d4 df4 g4 gf4 X4 D4 Df4 G4 Gf4 x5 k5 d5 df5 g5 gf5 X5 D5 Df5 G5 Gf5 x6 k6 d6 df6 g6 gf6 X6 D6 Df6 G6 Gf6 x7 k7 d7 df7 g7 gf7 X7 D7 Df7 G7 Gf7 x8 k8 d8 df8 g8 gf8 X8 D8 Df8 G8 Gf8 x9 k9 d9 df9 g9 gf9 X9 D9 Df9 G9 Gf9 x10 k10 d10 df10 g10 gf10 X10 D10 Df10 G10 Gf10
       go_wp2
       have hS := Qj wA (w.heap.size + 1 + 1) (.int .i64 (nx + 1)) (.slice p9 (st.length + 1) c9) (.int .i64 hi) (.bool b0) (.bool b1) (.bool b2) (.bool b3) (.bool b4) (.bool b5) (.bool b6) (.bool b7)
       have hS2 := Qj (st11 wA (w.heap.size + 1 + 1) (.int .i64 (nx + 1)) (.slice p9 (st.length + 1) c9) (.int .i64 hi) (.bool b0) (.bool b1) (.bool b2) (.bool b3) (.bool b4) (.bool b5) (.bool b6) (.bool b7)) (w.heap.size + 1 + 1 + 1) (.int .i64 f.fr) (.int .i64 f.to) (.int .i64 (nx + 1)) (.bool f.ack) (.int .i64 f.thread) (.int .i64 f.mail.host) (.int .i64 f.mail.thread) (.slice pa f.mail.label.length ca) (.slice pb f.mail.grants.length cb) (.string ⟨f.mail.text.toArray⟩) (.slice pd f.certs.length cd)
       have hW := Qn (Ql (.int .i64 (nx + 1)) (.slice p9 (st.length + 1) c9) (.int .i64 hi) (.bool b0) (.bool b1) (.bool b2) (.bool b3) (.bool b4) (.bool b5) (.bool b6) (.bool b7) (Qe HR8.out hwA)) n23 hS2
       have hW2 := Ql (.int .i64 f.fr) (.int .i64 f.to) (.int .i64 (nx + 1)) (.bool f.ack) (.int .i64 f.thread) (.int .i64 f.mail.host) (.int .i64 f.mail.thread) (.slice pa f.mail.label.length ca) (.slice pb f.mail.grants.length cb) (.string ⟨f.mail.text.toArray⟩) (.slice pd f.certs.length cd) (Qn (Qe HQ8.out hwA) n32 hS)
       have hO := ((HO8.out.below hwA).box hS (by omega)).box hS2 (by omega)
       have hbA := Qc hb8 hwA
       have hb := (hbA.grown hS hbA.size (fun k hk => by have := Option.some.inj hk; omega)).grown hS2 (Nat.le_trans hbA.size hS.size) (fun k hk => by have := Option.some.inj hk; omega)
       have h48 := Qw HQ8.out
       have hcp := fun w'' (ho : Since w.heap.size _ w'') => HCOPY.out w'' (((Q0 (base := wc.heap.size) hS (by omega)).trans (Q0 hS2 (by omega)) hS.size).trans (ho.mono hb8.size) (Nat.le_trans hS.size hS2.size))
       exact bodyPost_ret (Qaz rfl _ _ (w.heap.size + 1 + 1) (w.heap.size + 1 + 1 + 1) _ _ rfl (Qu rfl hW) rfl (QbK rfl hW2)) rfl ⟨_, _, by rw [HTK.out]; rfl, by rw [HTK.out]; exact QC (hO.low (by omega)) (by rw [List.map_append, hmap]; rfl) (by simp [hql]; omega) (nx + 1) hi b0 b1 b2 b3 b4 b5 b6 b7, fun w'' ho => by rw [HTK.out]; exact ⟨_, _, _, rfl, (hcp w'' ho).1, (hcp w'' ho).2.1, (hcp w'' ho).2.2⟩, hb⟩
 · have HTK : Hid (sendLn ⟨nx, st, hi, [b0, b1, b2, b3, b4, b5, b6, b7]⟩ f now = (⟨nx, st, hi, [b0, b1, b2, b3, b4, b5, b6, b7]⟩, zeroFrm, 2)) := hid (by unfold sendLn; rw [if_neg hgq])
   cases hg : goodLn ⟨nx, st, hi, [b0, b1, b2, b3, b4, b5, b6, b7]⟩ with
   | false =>
    clear hgq
    go_wp2
    have hS := Qj w3 (w.heap.size + 1 + 1) (.int .i64 nx) (.slice p1 st.length c1) (.int .i64 hi) (.bool b0) (.bool b1) (.bool b2) (.bool b3) (.bool b4) (.bool b5) (.bool b6) (.bool b7)
    have hS2 := Qj (st11 w3 (w.heap.size + 1 + 1) (.int .i64 nx) (.slice p1 st.length c1) (.int .i64 hi) (.bool b0) (.bool b1) (.bool b2) (.bool b3) (.bool b4) (.bool b5) (.bool b6) (.bool b7)) (w.heap.size + 1 + 1 + 1) (.int .i64 0) (.int .i64 0) (.int .i64 0) (.bool false) (.int .i64 0) (.int .i64 0) (.int .i64 0) (.slice none 0 0) (.slice none 0 0) (.string ⟨#[]⟩) (.slice none 0 0)
    have hW := Qn (Ql (.int .i64 nx) (.slice p1 st.length c1) (.int .i64 hi) (.bool b0) (.bool b1) (.bool b2) (.bool b3) (.bool b4) (.bool b5) (.bool b6) (.bool b7) HR.out) n23 hS2
    have hW2 := Ql (.int .i64 0) (.int .i64 0) (.int .i64 0) (.bool false) (.int .i64 0) (.int .i64 0) (.int .i64 0) (.slice none 0 0) (.slice none 0 0) (.string ⟨#[]⟩) (.slice none 0 0) (Qn HQ.out n32 hS)
    have hO := (HO.out.box hS (by omega)).box hS2 (by omega)
    have hb := (hbw3.grown hS hbw3.size (fun k hk => by have := Option.some.inj hk; omega)).grown hS2 (Nat.le_trans hbw3.size hS.size) (fun k hk => by have := Option.some.inj hk; omega)
    exact bodyPost_ret (Qaz rfl _ _ (w.heap.size + 1 + 1) (w.heap.size + 1 + 1 + 1) _ _ rfl (Qu rfl hW) rfl (QbK rfl hW2)) rfl ⟨_, _, by rw [HTK.out]; rfl, by rw [HTK.out]; exact QC (hO.low (by omega)) hmap (by omega) nx hi b0 b1 b2 b3 b4 b5 b6 b7, fun w'' _ => by rw [HTK.out]; exact Qbg _, hb⟩
   | true =>
    have htm : timeB now = false := by
     rw [hg, Bool.true_and] at hgq
     cases e : timeB now with
     | true => exact absurd e hgq
     | false => rfl
    rw [htm] at ht
    clear hgq
    go_wp2_with (go_at_call 149; refine (ht _).mono ?_; rintro e w4 ⟨rfl, hw4⟩; rw [hw4]; clear hw4 w4)
    have hS := Qj w3 (w.heap.size + 1 + 1) (.int .i64 nx) (.slice p1 st.length c1) (.int .i64 hi) (.bool b0) (.bool b1) (.bool b2) (.bool b3) (.bool b4) (.bool b5) (.bool b6) (.bool b7)
    have hS2 := Qj (st11 w3 (w.heap.size + 1 + 1) (.int .i64 nx) (.slice p1 st.length c1) (.int .i64 hi) (.bool b0) (.bool b1) (.bool b2) (.bool b3) (.bool b4) (.bool b5) (.bool b6) (.bool b7)) (w.heap.size + 1 + 1 + 1) (.int .i64 0) (.int .i64 0) (.int .i64 0) (.bool false) (.int .i64 0) (.int .i64 0) (.int .i64 0) (.slice none 0 0) (.slice none 0 0) (.string ⟨#[]⟩) (.slice none 0 0)
    have hW := Qn (Ql (.int .i64 nx) (.slice p1 st.length c1) (.int .i64 hi) (.bool b0) (.bool b1) (.bool b2) (.bool b3) (.bool b4) (.bool b5) (.bool b6) (.bool b7) HR.out) n23 hS2
    have hW2 := Ql (.int .i64 0) (.int .i64 0) (.int .i64 0) (.bool false) (.int .i64 0) (.int .i64 0) (.int .i64 0) (.slice none 0 0) (.slice none 0 0) (.string ⟨#[]⟩) (.slice none 0 0) (Qn HQ.out n32 hS)
    have hO := (HO.out.box hS (by omega)).box hS2 (by omega)
    have hb := (hbw3.grown hS hbw3.size (fun k hk => by have := Option.some.inj hk; omega)).grown hS2 (Nat.le_trans hbw3.size hS.size) (fun k hk => by have := Option.some.inj hk; omega)
    exact bodyPost_ret (Qaz rfl _ _ (w.heap.size + 1 + 1) (w.heap.size + 1 + 1 + 1) _ _ rfl (Qu rfl hW) rfl (QbK rfl hW2)) rfl ⟨_, _, by rw [HTK.out]; rfl, by rw [HTK.out]; exact QC (hO.low (by omega)) hmap (by omega) nx hi b0 b1 b2 b3 b4 b5 b6 b7, fun w'' _ => by rw [HTK.out]; exact Qbg _, hb⟩
end Go.Proofs.YtpdijobakfpnbaaGreat
