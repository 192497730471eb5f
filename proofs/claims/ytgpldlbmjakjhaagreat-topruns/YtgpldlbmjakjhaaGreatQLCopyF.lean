/- line.copyFrame answers the same frame, its lists in memory of their own. -/
import Derived.Test.YtgpldlbmjakjhaaGreatQKMail
import Derived.Test.YtgpldlbmjakjhaaGreatQKMem
import Derived.Test.YtgpldlbmjakjhaaGreatQKDelivE
import Derived.Test.YtgpldlbmjakjhaaGreatQKKer
import Derived.Laws.AppendOwnNone
import Derived.Deep.RegionLaw
import Derived.Test.YtgpldlbmjakjhaaGreatQTTrusted
namespace Go.Proofs.YtgpldlbmjakjhaaGreat
open Go.RowKit Go.Proofs.Parclose

abbrev st11 (w : World) (b : Nat) (x0 x1 x2 x3 x4 x5 x6 x7 x8 x9 x10 : Value) : World := ((((((((((w.setCell ⟨b, 0, none⟩ x0).setCell ⟨b, 1, none⟩ x1).setCell ⟨b, 2, none⟩ x2).setCell ⟨b, 3, none⟩ x3).setCell ⟨b, 4, none⟩ x4).setCell ⟨b, 5, none⟩ x5).setCell ⟨b, 6, none⟩ x6).setCell ⟨b, 7, none⟩ x7).setCell ⟨b, 8, none⟩ x8).setCell ⟨b, 9, none⟩ x9).setCell ⟨b, 10, none⟩ x10
theorem st11_heap {w : World} {b : Nat} {t : TypeId} {y0 y1 y2 y3 y4 y5 y6 y7 y8 y9 y10 : Value} (x0 x1 x2 x3 x4 x5 x6 x7 x8 x9 x10 : Value) (h : w.heap[b]? = some (.cells #[y0, y1, y2, y3, y4, y5, y6, y7, y8, y9, y10] t (0, 0))) : (st11 w b x0 x1 x2 x3 x4 x5 x6 x7 x8 x9 x10).heap[b]? = some (.cells #[x0, x1, x2, x3, x4, x5, x6, x7, x8, x9, x10] t (0, 0)) := by
  have h0 : (w.setCell ⟨b, 0, none⟩ x0).heap[b]? = some (.cells #[x0, y1, y2, y3, y4, y5, y6, y7, y8, y9, y10] t (0, 0)) := by rw [heap_setCell h x0]; rfl
  have h1 : ((w.setCell ⟨b, 0, none⟩ x0).setCell ⟨b, 1, none⟩ x1).heap[b]? = some (.cells #[x0, x1, y2, y3, y4, y5, y6, y7, y8, y9, y10] t (0, 0)) := by rw [heap_setCell h0 x1]; rfl
  have h2 : (((w.setCell ⟨b, 0, none⟩ x0).setCell ⟨b, 1, none⟩ x1).setCell ⟨b, 2, none⟩ x2).heap[b]? = some (.cells #[x0, x1, x2, y3, y4, y5, y6, y7, y8, y9, y10] t (0, 0)) := by rw [heap_setCell h1 x2]; rfl
  have h3 : ((((w.setCell ⟨b, 0, none⟩ x0).setCell ⟨b, 1, none⟩ x1).setCell ⟨b, 2, none⟩ x2).setCell ⟨b, 3, none⟩ x3).heap[b]? = some (.cells #[x0, x1, x2, x3, y4, y5, y6, y7, y8, y9, y10] t (0, 0)) := by rw [heap_setCell h2 x3]; rfl
  have h4 : (((((w.setCell ⟨b, 0, none⟩ x0).setCell ⟨b, 1, none⟩ x1).setCell ⟨b, 2, none⟩ x2).setCell ⟨b, 3, none⟩ x3).setCell ⟨b, 4, none⟩ x4).heap[b]? = some (.cells #[x0, x1, x2, x3, x4, y5, y6, y7, y8, y9, y10] t (0, 0)) := by rw [heap_setCell h3 x4]; rfl
  have h5 : ((((((w.setCell ⟨b, 0, none⟩ x0).setCell ⟨b, 1, none⟩ x1).setCell ⟨b, 2, none⟩ x2).setCell ⟨b, 3, none⟩ x3).setCell ⟨b, 4, none⟩ x4).setCell ⟨b, 5, none⟩ x5).heap[b]? = some (.cells #[x0, x1, x2, x3, x4, x5, y6, y7, y8, y9, y10] t (0, 0)) := by rw [heap_setCell h4 x5]; rfl
  have h6 : (((((((w.setCell ⟨b, 0, none⟩ x0).setCell ⟨b, 1, none⟩ x1).setCell ⟨b, 2, none⟩ x2).setCell ⟨b, 3, none⟩ x3).setCell ⟨b, 4, none⟩ x4).setCell ⟨b, 5, none⟩ x5).setCell ⟨b, 6, none⟩ x6).heap[b]? = some (.cells #[x0, x1, x2, x3, x4, x5, x6, y7, y8, y9, y10] t (0, 0)) := by rw [heap_setCell h5 x6]; rfl
  have h7 : ((((((((w.setCell ⟨b, 0, none⟩ x0).setCell ⟨b, 1, none⟩ x1).setCell ⟨b, 2, none⟩ x2).setCell ⟨b, 3, none⟩ x3).setCell ⟨b, 4, none⟩ x4).setCell ⟨b, 5, none⟩ x5).setCell ⟨b, 6, none⟩ x6).setCell ⟨b, 7, none⟩ x7).heap[b]? = some (.cells #[x0, x1, x2, x3, x4, x5, x6, x7, y8, y9, y10] t (0, 0)) := by rw [heap_setCell h6 x7]; rfl
  have h8 : (((((((((w.setCell ⟨b, 0, none⟩ x0).setCell ⟨b, 1, none⟩ x1).setCell ⟨b, 2, none⟩ x2).setCell ⟨b, 3, none⟩ x3).setCell ⟨b, 4, none⟩ x4).setCell ⟨b, 5, none⟩ x5).setCell ⟨b, 6, none⟩ x6).setCell ⟨b, 7, none⟩ x7).setCell ⟨b, 8, none⟩ x8).heap[b]? = some (.cells #[x0, x1, x2, x3, x4, x5, x6, x7, x8, y9, y10] t (0, 0)) := by rw [heap_setCell h7 x8]; rfl
  have h9 : ((((((((((w.setCell ⟨b, 0, none⟩ x0).setCell ⟨b, 1, none⟩ x1).setCell ⟨b, 2, none⟩ x2).setCell ⟨b, 3, none⟩ x3).setCell ⟨b, 4, none⟩ x4).setCell ⟨b, 5, none⟩ x5).setCell ⟨b, 6, none⟩ x6).setCell ⟨b, 7, none⟩ x7).setCell ⟨b, 8, none⟩ x8).setCell ⟨b, 9, none⟩ x9).heap[b]? = some (.cells #[x0, x1, x2, x3, x4, x5, x6, x7, x8, x9, y10] t (0, 0)) := by rw [heap_setCell h8 x9]; rfl
  have h10 : (((((((((((w.setCell ⟨b, 0, none⟩ x0).setCell ⟨b, 1, none⟩ x1).setCell ⟨b, 2, none⟩ x2).setCell ⟨b, 3, none⟩ x3).setCell ⟨b, 4, none⟩ x4).setCell ⟨b, 5, none⟩ x5).setCell ⟨b, 6, none⟩ x6).setCell ⟨b, 7, none⟩ x7).setCell ⟨b, 8, none⟩ x8).setCell ⟨b, 9, none⟩ x9).setCell ⟨b, 10, none⟩ x10).heap[b]? = some (.cells #[x0, x1, x2, x3, x4, x5, x6, x7, x8, x9, x10] t (0, 0)) := by rw [heap_setCell h9 x10]; rfl
  exact h10
theorem st11_grown (w : World) (b : Nat) (x0 x1 x2 x3 x4 x5 x6 x7 x8 x9 x10 : Value) : w.grownBy (st11 w b x0 x1 x2 x3 x4 x5 x6 x7 x8 x9 x10) (some b) := grown_trans (grown_trans (grown_trans (grown_trans (grown_trans (grown_trans (grown_trans (grown_trans (grown_trans (grown_trans (grown_setCell w b 0 x0) (grown_setCell _ b 1 x1)) (grown_setCell _ b 2 x2)) (grown_setCell _ b 3 x3)) (grown_setCell _ b 4 x4)) (grown_setCell _ b 5 x5)) (grown_setCell _ b 6 x6)) (grown_setCell _ b 7 x7)) (grown_setCell _ b 8 x8)) (grown_setCell _ b 9 x9)) (grown_setCell _ b 10 x10)

set_option maxRecDepth 100000 in
set_option maxHeartbeats 1600000 in
theorem lcopyFrame_any (v : Value) (f : Frm) (w : World) (hv : FrmAt w v f) :
    Calls Tryz.prog 122 #[v] w fun e w' => ∃ pl cl pg cg pc cc, e = .returned (.agg #[.int .i64 f.fr, .int .i64 f.to, .int .i64 f.seq, .bool f.ack, .int .i64 f.thread, .int .i64 f.mail.host, .int .i64 f.mail.thread, .slice pl f.mail.label.length cl, .slice pg f.mail.grants.length cg, .string ⟨f.mail.text.toArray⟩, .slice pc f.certs.length cc]) ∧ (∀ w'', Since w.heap.size w' w'' → LabAt w'' (.slice pl f.mail.label.length cl) f.mail.label ∧ IntsAt w'' (.slice pg f.mail.grants.length cg) f.mail.grants ∧ CrtsAt w'' (.slice pc f.certs.length cc) f.certs) ∧ Below w.heap.size w w' := by
  obtain ⟨vl, vg, vc, rfl, hl, hg, hc⟩ := hv
  have HL := hid hl
  have HG := hid hg
  have HC := hid hc
  obtain ⟨pl, cl, rfl, _⟩ := id hl
  obtain ⟨pg, cg, rfl, _⟩ := id hg
  obtain ⟨pc, cc, rfl, _⟩ := id hc
  have hll := hl.len
  have hgl := hg.len
  have hcl := hc.len
  unfold frmV
  clear hl hg hc
  have hb0 : Below w.heap.size w ((w.alloc (.cells #[.int .i64 f.fr, .int .i64 f.to, .int .i64 f.seq, .bool f.ack, .int .i64 f.thread, .int .i64 f.mail.host, .int .i64 f.mail.thread, .slice pl f.mail.label.length cl, .slice pg f.mail.grants.length cg, .string ⟨f.mail.text.toArray⟩, .slice pc f.certs.length cc] 51)).alloc (.cells #[.int .i64 0, .int .i64 0, .int .i64 0, .bool false, .int .i64 0, .int .i64 0, .int .i64 0, .slice none 0 0, .slice none 0 0, .string ⟨#[]⟩, .slice none 0 0] 51)) := (below_box w _).alloc (by simp) _
  go_enter Tryz.func122, Tryz.ntmps122
  go_wp2_with fail
  refine (cloneL_any _ f.mail.label _ (HL.out.below hb0)).mono ?_
  rintro e w1 ⟨v1, rfl, hown1, hw1⟩
  have hbx1 := heap_keep (heap_alloc2_old w _ _) hw1
  have hrs1 := heap_keep (heap_alloc2_new w _ _) hw1
  have hbw1 := below_then hb0 hw1
  obtain ⟨p1, q1, rfl⟩ := own_slice hown1
  have hown1 := own_base_le (base' := w.heap.size) hown1 hb0.size
  have c7 := heap_cell hbx1 7
  have k7 := heap_frozen hbx1 7
  have c8 := heap_cell hbx1 8
  go_wp2_with fail
  have hbx1' := heap_setCell (j := 7) hbx1 (.slice p1 f.mail.label.length q1)
  have hrs1' := heap_store hrs1 (show w.heap.size + 1 ≠ w.heap.size by omega) 7 (.slice p1 f.mail.label.length q1)
  have hown1 := own_store hown1 hbx1 (by decide) 7 (.slice p1 f.mail.label.length q1)
  have hbw1' := hbw1.grown (grown_setCell w1 w.heap.size 7 (.slice p1 f.mail.label.length q1)) hbw1.size (fun k hk => by cases hk; exact Nat.le_refl _)
  clear hbx1 hrs1 hbw1 c7 k7 c8 hw1
  generalize w1.setCell ⟨w.heap.size, 7, none⟩ (.slice p1 f.mail.label.length q1) = w1' at *
  refine (cloneI_any _ f.mail.grants _ (HG.out.below hbw1')).mono ?_
  rintro e w2 ⟨v2, rfl, hown2, hw2⟩
  have hbx2 := heap_keep hbx1' hw2
  have hrs2 := heap_keep hrs1' hw2
  have hbw2 := below_then hbw1' hw2
  obtain ⟨p2, q2, rfl⟩ := own_slice hown2
  have hown2 := own_base_le (base' := w.heap.size) hown2 hbw1'.size
  have hown1 := own_later hown1 hw2
  have c8 := heap_cell hbx2 8
  have k8 := heap_frozen hbx2 8
  have c10 := heap_cell hbx2 10
  go_wp2_with fail
  have hbx2' := heap_setCell (j := 8) hbx2 (.slice p2 f.mail.grants.length q2)
  have hrs2' := heap_store hrs2 (show w.heap.size + 1 ≠ w.heap.size by omega) 8 (.slice p2 f.mail.grants.length q2)
  have hown1 := own_store hown1 hbx2 (by decide) 8 (.slice p2 f.mail.grants.length q2)
  have hown2 := own_store hown2 hbx2 (by decide) 8 (.slice p2 f.mail.grants.length q2)
  have hbw2' := hbw2.grown (grown_setCell w2 w.heap.size 8 (.slice p2 f.mail.grants.length q2)) hbw2.size (fun k hk => by cases hk; exact Nat.le_refl _)
  clear hbx2 hrs2 hbw2 c8 k8 c10 hw2
  generalize w2.setCell ⟨w.heap.size, 8, none⟩ (.slice p2 f.mail.grants.length q2) = w2' at *
  refine (cloneK_any _ f.certs _ (HC.out.below hbw2')).mono ?_
  rintro e w3 ⟨v3, rfl, hown3, hw3⟩
  have hbx3 := heap_keep hbx2' hw3
  have hrs3 := heap_keep hrs2' hw3
  have hbw3 := below_then hbw2' hw3
  obtain ⟨p3, q3, rfl⟩ := own_slice hown3
  have hown3 := own_base_le (base' := w.heap.size) hown3 hbw2'.size
  have hown1 := own_later hown1 hw3
  have hown2 := own_later hown2 hw3
  have c10 := heap_cell hbx3 10
  have k10 := heap_frozen hbx3 10
  have c0 := heap_cell hbx3 0
  have c1 := heap_cell hbx3 1
  have c2 := heap_cell hbx3 2
  have c3 := heap_cell hbx3 3
  have c4 := heap_cell hbx3 4
  have c5 := heap_cell hbx3 5
  have c6 := heap_cell hbx3 6
  have c7 := heap_cell hbx3 7
  have c8 := heap_cell hbx3 8
  have c9 := heap_cell hbx3 9
  have d0 := heap_cell hrs3 0
  have e0 := heap_frozen hrs3 0
  have d1 := heap_cell hrs3 1
  have e1 := heap_frozen hrs3 1
  have d2 := heap_cell hrs3 2
  have e2 := heap_frozen hrs3 2
  have d3 := heap_cell hrs3 3
  have e3 := heap_frozen hrs3 3
  have d4 := heap_cell hrs3 4
  have e4 := heap_frozen hrs3 4
  have d5 := heap_cell hrs3 5
  have e5 := heap_frozen hrs3 5
  have d6 := heap_cell hrs3 6
  have e6 := heap_frozen hrs3 6
  have d7 := heap_cell hrs3 7
  have e7 := heap_frozen hrs3 7
  have d8 := heap_cell hrs3 8
  have e8 := heap_frozen hrs3 8
  have d9 := heap_cell hrs3 9
  have e9 := heap_frozen hrs3 9
  have d10 := heap_cell hrs3 10
  have e10 := heap_frozen hrs3 10
  have hne : w.heap.size ≠ w.heap.size + 1 := by omega
  have hne2 : w.heap.size + 1 ≠ w.heap.size := by omega
  have HB := hid hbx3
  have HR := hid hrs3
  clear hbx3 hrs3 hw3
  go_wp2
  have A0 := heap_store HR.out hne2 10 (.slice p3 f.certs.length q3)
  have hown1 := own_store hown1 HB.out (by decide) 10 (.slice p3 f.certs.length q3)
  have hown2 := own_store hown2 HB.out (by decide) 10 (.slice p3 f.certs.length q3)
  have hown3 := own_store hown3 HB.out (by decide) 10 (.slice p3 f.certs.length q3)
  have hb6 := hbw3.grown (grown_setCell w3 w.heap.size 10 (.slice p3 f.certs.length q3)) hbw3.size (fun k hk => by cases hk; exact Nat.le_refl _)
  clear c0 c1 c2 c3 c4 c5 c6 c7 c8 c9 c10 k10 d0 e0 d1 e1 d2 e2 d3 e3 d4 e4 d5 e5 d6 e6 d7 e7 d8 e8 d9 e9 d10 e10
  generalize w3.setCell ⟨w.heap.size, 10, none⟩ (.slice p3 f.certs.length q3) = w6 at *
  have hW := st11_heap (.int .i64 f.fr) (.int .i64 f.to) (.int .i64 f.seq) (.bool f.ack) (.int .i64 f.thread) (.int .i64 f.mail.host) (.int .i64 f.mail.thread) (.slice p1 f.mail.label.length q1) (.slice p2 f.mail.grants.length q2) (.string ⟨f.mail.text.toArray⟩) (.slice p3 f.certs.length q3) A0
  have hS := st11_grown w6 (w.heap.size + 1) (.int .i64 f.fr) (.int .i64 f.to) (.int .i64 f.seq) (.bool f.ack) (.int .i64 f.thread) (.int .i64 f.mail.host) (.int .i64 f.mail.thread) (.slice p1 f.mail.label.length q1) (.slice p2 f.mail.grants.length q2) (.string ⟨f.mail.text.toArray⟩) (.slice p3 f.certs.length q3)
  have hown1 := own_block hown1 A0 (by decide) hS
  have hown2 := own_block hown2 A0 (by decide) hS
  have hown3 := own_block hown3 A0 (by decide) hS
  have hb7 := hb6.grown hS hb6.size (fun k hk => by cases hk; omega)
  refine bodyPost_ret (results_cell_row rfl _ _ (w.heap.size + 1) 51 _ (0, 0) _ rfl hW Tryz.underlying51 rfl (by kernel_rfl)) rfl ⟨p1, q1, p2, q2, p3, q3, rfl, fun w'' hs => ?_, hb7⟩
  exact ⟨labs_of_own (own_since hown1 hs) hll, nums_of_own (own_since hown2 hs) hgl, crts_of_own (own_since hown3 hs) hcl⟩
end Go.Proofs.YtgpldlbmjakjhaaGreat

namespace Go.Proofs.YtgpldlbmjakjhaaGreat
open Go.RowKit Go.Proofs.Parclose

theorem set_row (a x b : List Value) (i : Nat) (v : Value) (hi : i < x.length) : (a ++ x ++ b).set (a.length + i) v = a ++ x.set i v ++ b := by
  rw [List.append_assoc, List.set_append_right _ _ (by omega), List.append_assoc, Nat.add_sub_cancel_left, List.set_append_left _ _ hi]
theorem flatS_split (q : List SntV) (k : Nat) (hk : k < q.length) : flatS q = flatS (q.take k) ++ (q[k]).cells ++ flatS (q.drop (k + 1)) := by
  conv => lhs; rw [← List.take_append_drop k q, List.drop_eq_getElem_cons hk]
  rw [flatS_app, flatS_cons, List.append_assoc]
theorem flatS_set (q : List SntV) (k : Nat) (hk : k < q.length) (x : SntV) : flatS (q.set k x) = flatS (q.take k) ++ x.cells ++ flatS (q.drop (k + 1)) := by
  rw [List.set_eq_take_append_cons_drop, if_pos hk, flatS_app, flatS_cons, List.append_assoc]
theorem flatS_setv (q : List SntV) (k : Nat) (hk : k < q.length) (u1 u2 u3 : Value) (s : Snt) (hs : (q[k]).s = s) :
    (((((((((((flatS q).set (k * 13) (.int .i64 s.f.fr)).set (k * 13 + 1) (.int .i64 s.f.to)).set (k * 13 + 2) (.int .i64 s.f.seq)).set (k * 13 + 3) (.bool s.f.ack)).set (k * 13 + 4) (.int .i64 s.f.thread)).set (k * 13 + 5) (.int .i64 s.f.mail.host)).set (k * 13 + 6) (.int .i64 s.f.mail.thread)).set (k * 13 + 7) (u1)).set (k * 13 + 8) (u2)).set (k * 13 + 9) (.string ⟨s.f.mail.text.toArray⟩)).set (k * 13 + 10) (u3) = flatS (q.set k ⟨s, u1, u2, u3⟩) := by
  rw [flatS_set q k hk, flatS_split q k hk]
  have ha : (flatS (q.take k)).length = k * 13 := by rw [flatS_len, List.length_take]; omega
  generalize flatS (q.take k) = a at *
  generalize flatS (q.drop (k + 1)) = b
  generalize q[k] = x at *
  subst hs
  rw [← ha]
  have h0 : a.length = a.length + 0 := rfl
  have e0 : ∀ v, (a ++ x.cells ++ b).set a.length v = a ++ x.cells.set 0 v ++ b := fun v => set_row a x.cells b 0 v (show 0 < 13 by omega)
  rw [e0]
  rw [set_row a _ b 1 _ (by simp [SntV.cells])]
  rw [set_row a _ b 2 _ (by simp [SntV.cells])]
  rw [set_row a _ b 3 _ (by simp [SntV.cells])]
  rw [set_row a _ b 4 _ (by simp [SntV.cells])]
  rw [set_row a _ b 5 _ (by simp [SntV.cells])]
  rw [set_row a _ b 6 _ (by simp [SntV.cells])]
  rw [set_row a _ b 7 _ (by simp [SntV.cells])]
  rw [set_row a _ b 8 _ (by simp [SntV.cells])]
  rw [set_row a _ b 9 _ (by simp [SntV.cells])]
  rw [set_row a _ b 10 _ (by simp [SntV.cells])]
  rfl

/-- all blocks from B on, but one, are as they were -/
def Off (B : Nat) (r : Option Nat) (w w' : World) : Prop := ∀ k, B ≤ k → k < w.heap.size → r ≠ some k → w'.heap[k]? = w.heap[k]?
theorem cell_agree {w w' : World} {a : Addr} {v : Value} (h : ∀ k, k < w.heap.size → w'.heap[k]? = w.heap[k]?) (hc : w.cell? a = some v) : w'.cell? a = some v := by
  have hb := cell_block hc
  simp only [World.cell?] at hc ⊢
  rw [h _ hb]
  exact hc
theorem LabAt.agree {w w' : World} {v : Value} {l : List (Int × Int)} (h : LabAt w v l) (ha : ∀ k, k < w.heap.size → w'.heap[k]? = w.heap[k]?) : LabAt w' v l := by
  obtain ⟨p, cap, h1, h2, h3, h4⟩ := h
  refine ⟨p, cap, h1, h2, h3, fun g => ?_⟩
  obtain ⟨b, o, h5, h6⟩ := h4 g
  exact ⟨b, o, h5, fun j hj => ⟨cell_agree ha (h6 j hj).1, cell_agree ha (h6 j hj).2⟩⟩
theorem IntsAt.agree {w w' : World} {v : Value} {l : List Int} (h : IntsAt w v l) (ha : ∀ k, k < w.heap.size → w'.heap[k]? = w.heap[k]?) : IntsAt w' v l := by
  obtain ⟨p, cap, h1, h2, h3, h4⟩ := h
  refine ⟨p, cap, h1, h2, h3, fun g => ?_⟩
  obtain ⟨b, o, h5, h6⟩ := h4 g
  exact ⟨b, o, h5, fun j hj => cell_agree ha (h6 j hj)⟩
theorem CrtsAt.agree {w w' : World} {v : Value} {l : List Crt} (h : CrtsAt w v l) (ha : ∀ k, k < w.heap.size → w'.heap[k]? = w.heap[k]?) : CrtsAt w' v l := by
  obtain ⟨p, cap, h1, h2, h3, h4⟩ := h
  refine ⟨p, cap, h1, h2, h3, fun g => ?_⟩
  obtain ⟨b, o, h5, h6⟩ := h4 g
  exact ⟨b, o, h5, fun j hj => ⟨cell_agree ha (h6 j hj).1, cell_agree ha (h6 j hj).2.1, cell_agree ha (h6 j hj).2.2.1, cell_agree ha (h6 j hj).2.2.2⟩⟩
theorem SntV.Ok.agree {w w' : World} {x : SntV} (h : x.Ok w) (ha : ∀ k, k < w.heap.size → w'.heap[k]? = w.heap[k]?) : x.Ok w' := ⟨h.lab.agree ha, h.nums.agree ha, h.crts.agree ha⟩

/-- a row of what was sent, in memory from B on: its lists do not lie in its block -/
structure OwnRow (B : Nat) (w : World) (v : Value) (q : List SntV) : Prop where
  own : w.ownsRow B 176 13 v q.length (flatS q)
  ok : ∀ x ∈ q, ∀ w', Off B v.ownBlock w w' → x.Ok w'
theorem Off.refl (B : Nat) (r : Option Nat) (w : World) : Off B r w w := fun _ _ _ _ => rfl
theorem off_below {B : Nat} {r : Option Nat} {w w1 w2 : World} (hb : Below w.heap.size w w1) (h : Off B r w1 w2) : Off B r w w2 := fun k hB hk hr => by rw [h k hB (Nat.lt_of_lt_of_le hk hb.size) hr, hb.block k hk]
theorem off_grown {B : Nat} {r : Option Nat} {w w1 w2 : World} (hg : w.grownBy w1 r) (h : Off B r w1 w2) : Off B r w w2 := fun k hB hk hr => by rw [h k hB (Nat.lt_of_lt_of_le hk hg.size) hr, hg.block k hk (Ne.symm hr)]
theorem off_box {B b : Nat} {r : Option Nat} {w w1 w2 : World} (hg : w.grownBy w1 (some b)) (hb : b < B) (h : Off B r w1 w2) : Off B r w w2 := fun k hB hk hr => by rw [h k hB (Nat.lt_of_lt_of_le hk hg.size) hr, hg.block k hk (fun e => by have := Option.some.inj e; omega)]
theorem OwnRow.below {B : Nat} {w w1 : World} {v : Value} {q : List SntV} (h : OwnRow B w v q) (hb : Below w.heap.size w w1) : OwnRow B w1 v q :=
  ⟨own_later h.own hb, fun x hx w' ho => h.ok x hx w' (off_below hb ho)⟩
/-- a store to a block below leaves it -/
theorem OwnRow.box {B b : Nat} {w w1 : World} {v : Value} {q : List SntV} (h : OwnRow B w v q) (hg : w.grownBy w1 (some b)) (hb : b < B) : OwnRow B w1 v q :=
  ⟨h.own.kept hg (Or.inr fun e => by have := own_base h.own e; omega), fun x hx w' ho => h.ok x hx w' (off_box hg hb ho)⟩
theorem OwnRow.low {B B' : Nat} {w : World} {v : Value} {q : List SntV} (h : OwnRow B w v q) (hB : B' ≤ B) : OwnRow B' w v q :=
  ⟨own_base_le h.own hB, fun x hx w' ho => h.ok x hx w' fun k hk => ho k (by omega)⟩
theorem OwnRow.snts {B : Nat} {w : World} {v : Value} {q : List SntV} (h : OwnRow B w v q) (hl : q.length ≤ 879609302220) : SntsAt w v (q.map (·.s)) := by
  refine ⟨q, rfl, fun x hx => h.ok x hx w (Off.refl _ _ _), ?_⟩
  have hx := h.own.1
  rcases h.own.2 with ⟨hn, h0⟩ | ⟨g, cap, cur, rfl, hbg, hgg, h1, h2, h3, h4⟩
  · rw [hn]
    refine ⟨none, 0, by rw [h0], ⟨by omega, fun _ => rfl⟩, hl, fun h => by omega⟩
  · refine ⟨some ⟨g, 0, none⟩, cap, rfl, ⟨h1, fun e => by cases e⟩, hl, fun _ => ⟨g, 0, rfl, fun j u hu => ?_⟩⟩
    have := World.ownsRow.cells h.own (g := g) rfl _ _ hu
    rwa [WideShapes.add_plain] at this
end Go.Proofs.YtgpldlbmjakjhaaGreat

namespace Go.Proofs.YtgpldlbmjakjhaaGreat
open Go.RowKit Go.Proofs.Parclose

/-- all blocks but a row and two boxes are as they were -/
def Off3 (B : Nat) (r : Option Nat) (w w' : World) : Prop := ∀ k, k < w.heap.size → r ≠ some k → k ≠ B → k ≠ B + 1 → w'.heap[k]? = w.heap[k]?
theorem off3_below {B : Nat} {r : Option Nat} {w w1 w2 : World} (hb : Below w.heap.size w w1) (h : Off3 B r w1 w2) : Off3 B r w w2 := fun k hk hr h1 h2 => by rw [h k (Nat.lt_of_lt_of_le hk hb.size) hr h1 h2, hb.block k hk]
theorem off3_grown {B : Nat} {r : Option Nat} {w w1 w2 : World} (hg : w.grownBy w1 r) (h : Off3 B r w1 w2) : Off3 B r w w2 := fun k hk hr h1 h2 => by rw [h k (Nat.lt_of_lt_of_le hk hg.size) hr h1 h2, hg.block k hk (Ne.symm hr)]
abbrev zeroL : Array Value := #[.int .i64 0, .slice none 0 0, .int .i64 0, .bool false, .bool false, .bool false, .bool false, .bool false, .bool false, .bool false, .bool false]

structure CpL (w : World) (C : Array Value) (v : Value) (st : List Snt) (k : Nat) (wr : World) : Prop where
  box : wr.heap[w.heap.size]? = some (.cells C 89 (0, 0))
  res : wr.heap[w.heap.size + 1]? = some (.cells zeroL 89 (0, 0))
  below : Below w.heap.size w wr
  row : ∃ q : List SntV, q.map (·.s) = st ∧ wr.ownsRow w.heap.size 176 13 v q.length (flatS q) ∧ (∀ x ∈ q, ∀ w', Off3 w.heap.size v.ownBlock wr w' → x.Ok w') ∧ ∀ j (hj : j < q.length), j < k → ∀ w', Off (w.heap.size + 2) v.ownBlock wr w' → (q[j]).Ok w'

theorem CpL.below' {w wr w1 : World} {C : Array Value} {v : Value} {st : List Snt} {k : Nat} (h : CpL w C v st k wr) (hb : Below wr.heap.size wr w1) : CpL w C v st k w1 := by
  obtain ⟨q, r1, r2, r3, r4⟩ := h.row
  exact ⟨heap_keep h.box hb, heap_keep h.res hb, below_then h.below hb, q, r1, own_later r2 hb, fun x hx w' ho => r3 x hx w' (off3_below hb ho), fun j hj hk w' ho => r4 j hj hk w' (off_below hb ho)⟩

theorem CpL.step {w w1 : World} {C : Array Value} {g n cap : Nat} {st : List Snt} {u1 u2 u3 : Value} {k : Nat} {s : Snt} (h : CpL w C (.slice (some ⟨g, 0, none⟩) n cap) st k w1) (hn : n = st.length) (hk : k < st.length) (hs : st[k] = s)
    (hu : ∀ w', Off (w.heap.size + 2) (some g) w1 w' → LabAt w' u1 s.f.mail.label ∧ IntsAt w' u2 s.f.mail.grants ∧ CrtsAt w' u3 s.f.certs) :
    CpL w C (.slice (some ⟨g, 0, none⟩) n cap) st (k + 1) (((((((((((w1.setCell ⟨g, k * 13, none⟩ (.int .i64 s.f.fr)).setCell ⟨g, k * 13 + 1, none⟩ (.int .i64 s.f.to)).setCell ⟨g, k * 13 + 2, none⟩ (.int .i64 s.f.seq)).setCell ⟨g, k * 13 + 3, none⟩ (.bool s.f.ack)).setCell ⟨g, k * 13 + 4, none⟩ (.int .i64 s.f.thread)).setCell ⟨g, k * 13 + 5, none⟩ (.int .i64 s.f.mail.host)).setCell ⟨g, k * 13 + 6, none⟩ (.int .i64 s.f.mail.thread)).setCell ⟨g, k * 13 + 7, none⟩ (u1)).setCell ⟨g, k * 13 + 8, none⟩ (u2)).setCell ⟨g, k * 13 + 9, none⟩ (.string ⟨s.f.mail.text.toArray⟩)).setCell ⟨g, k * 13 + 10, none⟩ (u3)) := by
  obtain ⟨q, r1, r2, r3, r4⟩ := h.row
  have hq : q.length = st.length := by rw [← r1, List.length_map]
  have hkq : k < q.length := by omega
  have hsq : (q[k]).s = s := by rw [← hs]; simp only [← r1, List.getElem_map]
  rw [show n = q.length by omega] at r2 r3 r4 h ⊢
  have hg11 := grown_trans (grown_trans (grown_trans (grown_trans (grown_trans (grown_trans (grown_trans (grown_trans (grown_trans (grown_trans (grown_setCell w1 g (k * 13) (.int .i64 s.f.fr)) (grown_setCell _ g (k * 13 + 1) (.int .i64 s.f.to))) (grown_setCell _ g (k * 13 + 2) (.int .i64 s.f.seq))) (grown_setCell _ g (k * 13 + 3) (.bool s.f.ack))) (grown_setCell _ g (k * 13 + 4) (.int .i64 s.f.thread))) (grown_setCell _ g (k * 13 + 5) (.int .i64 s.f.mail.host))) (grown_setCell _ g (k * 13 + 6) (.int .i64 s.f.mail.thread))) (grown_setCell _ g (k * 13 + 7) (u1))) (grown_setCell _ g (k * 13 + 8) (u2))) (grown_setCell _ g (k * 13 + 9) (.string ⟨s.f.mail.text.toArray⟩))) (grown_setCell _ g (k * 13 + 10) (u3))
  have hrow := own_setB (j := k * 13 + 10) (own_setB (j := k * 13 + 9) (own_setB (j := k * 13 + 8) (own_setB (j := k * 13 + 7) (own_setB (j := k * 13 + 6) (own_setB (j := k * 13 + 5) (own_setB (j := k * 13 + 4) (own_setB (j := k * 13 + 3) (own_setB (j := k * 13 + 2) (own_setB (j := k * 13 + 1) (own_setB (j := k * 13) (r2) (by omega) (.int .i64 s.f.fr)) (by omega) (.int .i64 s.f.to)) (by omega) (.int .i64 s.f.seq)) (by omega) (.bool s.f.ack)) (by omega) (.int .i64 s.f.thread)) (by omega) (.int .i64 s.f.mail.host)) (by omega) (.int .i64 s.f.mail.thread)) (by omega) (u1)) (by omega) (u2)) (by omega) (.string ⟨s.f.mail.text.toArray⟩)) (by omega) (u3)
  rw [flatS_setv q k hkq u1 u2 u3 s hsq] at hrow
  generalize ((((((((((w1.setCell ⟨g, k * 13, none⟩ (.int .i64 s.f.fr)).setCell ⟨g, k * 13 + 1, none⟩ (.int .i64 s.f.to)).setCell ⟨g, k * 13 + 2, none⟩ (.int .i64 s.f.seq)).setCell ⟨g, k * 13 + 3, none⟩ (.bool s.f.ack)).setCell ⟨g, k * 13 + 4, none⟩ (.int .i64 s.f.thread)).setCell ⟨g, k * 13 + 5, none⟩ (.int .i64 s.f.mail.host)).setCell ⟨g, k * 13 + 6, none⟩ (.int .i64 s.f.mail.thread)).setCell ⟨g, k * 13 + 7, none⟩ (u1)).setCell ⟨g, k * 13 + 8, none⟩ (u2)).setCell ⟨g, k * 13 + 9, none⟩ (.string ⟨s.f.mail.text.toArray⟩)).setCell ⟨g, k * 13 + 10, none⟩ (u3) = w2 at *
  have hgB := own_base r2 (k := g) rfl
  refine ⟨heap_own h.box r2 (by decide) hg11, heap_own h.res r2 (by decide) hg11, h.below.grown hg11 h.below.size (fun i hi => by have := Option.some.inj hi; omega), q.set k ⟨s, u1, u2, u3⟩, ?_, by rw [List.length_set]; exact hrow, ?_, ?_⟩
  · rw [List.map_set, r1]
    show st.set k s = st
    rw [← hs]
    exact List.set_getElem_self hk
  · intro x hx w' ho
    rw [List.mem_iff_getElem] at hx
    obtain ⟨j, hj, rfl⟩ := hx
    rw [List.length_set] at hj
    have ho1 : Off3 w.heap.size (some g) w1 w' := off3_grown hg11 ho
    by_cases e : k = j
    · subst e
      rw [List.getElem_set_self]
      obtain ⟨a1, a2, a3⟩ := hu w' (fun i hi his hir => ho1 i his hir (by omega) (by omega))
      exact ⟨a1, a2, a3⟩
    · rw [List.getElem_set_ne e]
      exact r3 _ (List.getElem_mem hj) w' ho1
  · intro j hj hjk w' ho
    rw [List.length_set] at hj
    have ho1 : Off (w.heap.size + 2) (some g) w1 w' := off_grown hg11 ho
    by_cases e : k = j
    · subst e
      rw [List.getElem_set_self]
      obtain ⟨a1, a2, a3⟩ := hu w' ho1
      exact ⟨a1, a2, a3⟩
    · rw [List.getElem_set_ne e]
      exact r4 j hj (by omega) w' ho1
end Go.Proofs.YtgpldlbmjakjhaaGreat

namespace Go.Proofs.YtgpldlbmjakjhaaGreat
open Go.RowKit Go.Proofs.Parclose

theorem OwnRow.snoc {B : Nat} {w w' : World} {v v' : Value} {q : List SntV} {x : SntV} (h : OwnRow B w v q) (hx : ∀ w'', Off B v.ownBlock w w'' → x.Ok w'') (hg : w.grownBy w' v.ownBlock) (hown : w'.ownsRow 0 176 13 v' (q.length + 1) (flatS q ++ x.cells)) (hB : B ≤ w.heap.size)
    (hw : ∀ k, v'.ownBlock = some k → v.ownBlock = some k ∨ w.heap.size ≤ k) : OwnRow B w' v' (q ++ [x]) := by
  have ho : ∀ w'', Off B v'.ownBlock w' w'' → Off B v.ownBlock w w'' := fun w'' ho k hk hks hr => by
    rw [ho k hk (Nat.lt_of_lt_of_le hks hg.size) (fun e => (hw k e).elim (fun h1 => hr h1) (fun h1 => by omega)), hg.block k hks (Ne.symm hr)]
  refine ⟨?_, fun y hy w'' hoff => ?_⟩
  · rw [flatS_app, List.length_append]
    refine own_rebase (by simpa [flatS] using hown) fun k hk => ?_
    rcases hw k hk with h1 | h1
    · exact own_base h.own h1
    · omega
  · rcases List.mem_append.1 hy with hy | hy
    · exact h.ok y hy w'' (ho w'' hoff)
    · rw [List.mem_singleton] at hy
      subst hy
      exact hx w'' (ho w'' hoff)

theorem sent_run {w : World} {ty : TypeId} {B : Nat} {v : Value} {q : List SntV} {x : SntV} {g c : Nat} (h : OwnRow B w v q) (hx : ∀ w'', Off B v.ownBlock w w'' → x.Ok w'') (hc : ∀ j u, x.cells[j]? = some u → w.cell? ⟨g, j, none⟩ = some u) (hB : B ≤ w.heap.size) (hn : q.length < 879609302220) :
    ∃ v' w', (Builtin.append_ #[86, 86] ty #[v, .slice (some ⟨g, 0, none⟩) 1 c]).run Tryz.prog w = .ok v' w' ∧ OwnRow B w' v' (q ++ [x]) ∧ w.grownBy w' v.ownBlock := by
  obtain ⟨i0, hi, hz0, hz1, hz2⟩ := info_parts info_sent
  have h1 : ∀ u ∈ x.cells, u.oneCell' = true := fun u hu => flatS_one (q := [x]) (fun y hy => by rw [List.mem_singleton] at hy; subst hy; exact hx w (Off.refl _ _ _)) u (by simpa [flatS] using hu)
  obtain ⟨v', w', hr, k1, k2, k3⟩ := append_where (ty := ty) (c := c) Tryz.underlying86 hi hz0 hz1 hz2 rfl (by decide) (own_base_le h.own (Nat.zero_le _)) (m := 1) (news := x.cells) (a := ⟨g, 0, none⟩) rfl (fun j u hu => by rw [WideShapes.add_plain, Nat.zero_add]; exact hc j u hu) h1 (by unfold maxLen; omega) (by omega)
  exact ⟨v', w', hr, h.snoc hx k2 k1 hB k3, k2⟩

/-- append of one that was sent, as a step of a region that draws -/
theorem step_sent {w : World} {ops : Array Oper} {o : Oper} {a0 : Act} {K : Act → World → Prop} {Q : Exit → Act → World → Prop} {E : Prop} (hgd : o.guard = none) (s x : Operand)
    (ho : o.op = .call { callee := .builtin .append, args := #[s, x], argTypes := #[86, 86] }) (B : Nat) (v : Value) (q : List SntV) (y : SntV) (hs : a0.eval s = v) (hown : OwnRow B w v q)
    (g c : Nat) (hx : a0.eval x = .slice (some ⟨g, 0, none⟩) 1 c) (hy : ∀ w'', Off B v.ownBlock w w'' → y.Ok w'') (hc : ∀ j u, y.cells[j]? = some u → w.cell? ⟨g, j, none⟩ = some u) (hB : B ≤ w.heap.size) (hn : q.length < 879609302220)
    (h : ∀ v' w', OwnRow B w' v' (q ++ [y]) → w.grownBy w' v.ownBlock → K (a0.put o.dst v') w') :
    if Region.wanted o (yielded ops a0.tmps) = true then Oper.wp Tryz.prog o a0 w K Q else E := by
  have hw : Region.wanted o (yielded ops a0.tmps) = true := by simp [Region.wanted, hgd]
  rw [if_pos hw]
  obtain ⟨v', w', hr, k1, k2⟩ := sent_run (ty := o.type) (c := c) hown hy hc hB hn
  unfold Oper.wp execOp
  simp only [ho, resolve, invoke, builtin, Sem.run_bind, Sem.run_pure, Result.andThen_ok, List.map_toArray, List.map_cons, List.map_nil, hs, hx, hr]
  exact h v' w' k1 k2
end Go.Proofs.YtgpldlbmjakjhaaGreat

namespace Go.Proofs.YtgpldlbmjakjhaaGreat
open Go.RowKit Go.Proofs.Parclose

theorem row_own {B : Nat} {w : World} {v : Value} {q : List SntV} (h : w.ownsRow B 176 13 v q.length (flatS q)) (hl : q.length ≤ 879609302220) : RowAt w v q := by
  rcases h.2 with ⟨hn, h0⟩ | ⟨g, cap, cur, rfl, hbg, hgg, h1, h2, h3, h4⟩
  · rw [hn]
    refine ⟨none, 0, by rw [h0], ⟨by omega, fun _ => rfl⟩, hl, fun h => by omega⟩
  · refine ⟨some ⟨g, 0, none⟩, cap, rfl, ⟨h1, fun e => by cases e⟩, hl, fun _ => ⟨g, 0, rfl, fun j u hu => ?_⟩⟩
    have := World.ownsRow.cells h (g := g) rfl _ _ hu
    rwa [WideShapes.add_plain] at this
theorem RowAt.take {w : World} {p : Option Addr} {cap : Nat} {q : List SntV} (h : RowAt w (.slice p q.length cap) q) (k : Nat) (hk : k ≤ q.length) : RowAt w (.slice p k cap) (q.take k) := by
  obtain ⟨p', cap', e, h2, h3, h4⟩ := h
  cases e
  have hl : (q.take k).length = k := by simp; omega
  refine ⟨p, cap, by rw [hl], ⟨by omega, h2.2⟩, by omega, fun h0 => ?_⟩
  obtain ⟨b, o, e, hc⟩ := h4 (by omega)
  refine ⟨b, o, e, fun j u hu => hc j u ?_⟩
  rw [← List.take_append_drop k q, flatS_app]
  rw [List.getElem?_append_left (List.getElem?_eq_some_iff.1 hu).1]
  exact hu
theorem RowAt.drop {w : World} {b o cap : Nat} {q : List SntV} (h : RowAt w (.slice (some ⟨b, o, none⟩) q.length cap) q) (k : Nat) (hk : k ≤ q.length) : RowAt w (.slice (if cap = k then some ⟨b, o, none⟩ else some ⟨b, o + k * 13, none⟩) (q.length - k) (cap - k)) (q.drop k) := by
  obtain ⟨p', cap', e, h2, h3, h4⟩ := h
  cases e
  have hl : (q.drop k).length = q.length - k := by simp
  by_cases hc0 : cap = k
  · rw [if_pos hc0]
    refine ⟨_, _, by rw [hl], ⟨by omega, fun e => by cases e⟩, by omega, fun h0 => by omega⟩
  · rw [if_neg hc0]
    refine ⟨_, _, by rw [hl], ⟨by omega, fun e => by cases e⟩, by omega, fun h0 => ?_⟩
    obtain ⟨b', o', e, hc⟩ := h4 (by omega)
    cases e
    refine ⟨b, o + k * 13, rfl, fun j u hu => ?_⟩
    have ha : (flatS (q.take k)).length = k * 13 := by rw [flatS_len, List.length_take]; omega
    rw [show o + k * 13 + j = o + (k * 13 + j) by omega]
    refine hc _ u ?_
    rw [← List.take_append_drop k q, flatS_app, List.getElem?_append_right (by omega), ha, Nat.add_sub_cancel_left]
    exact hu

theorem sent_raw {w : World} {ty : TypeId} {B : Nat} {v : Value} {q : List SntV} {x : SntV} {g c : Nat} (h : w.ownsRow B 176 13 v q.length (flatS q)) (hx : x.Ok w) (hc : ∀ j u, x.cells[j]? = some u → w.cell? ⟨g, j, none⟩ = some u) (hB : B ≤ w.heap.size) (hn : q.length < 879609302220) :
    ∃ v' w', (Builtin.append_ #[86, 86] ty #[v, .slice (some ⟨g, 0, none⟩) 1 c]).run Tryz.prog w = .ok v' w' ∧ w'.ownsRow B 176 13 v' (q ++ [x]).length (flatS (q ++ [x])) ∧ w.grownBy w' v.ownBlock ∧ ∀ k, v'.ownBlock = some k → v.ownBlock = some k ∨ w.heap.size ≤ k := by
  obtain ⟨i0, hi, hz0, hz1, hz2⟩ := info_parts info_sent
  have h1 : ∀ u ∈ x.cells, u.oneCell' = true := fun u hu => flatS_one (q := [x]) (fun y hy => by rw [List.mem_singleton] at hy; subst hy; exact hx) u (by simpa [flatS] using hu)
  obtain ⟨v', w', hr, k1, k2, k3⟩ := append_where (ty := ty) (c := c) Tryz.underlying86 hi hz0 hz1 hz2 rfl (by decide) (own_base_le h (Nat.zero_le _)) (m := 1) (news := x.cells) (a := ⟨g, 0, none⟩) rfl (fun j u hu => by rw [WideShapes.add_plain, Nat.zero_add]; exact hc j u hu) h1 (by unfold maxLen; omega) (by omega)
  refine ⟨v', w', hr, ?_, k2, k3⟩
  rw [flatS_app, List.length_append]
  refine own_rebase (by simpa [flatS] using k1) fun k hk => ?_
  rcases k3 k hk with h1 | h1
  · exact own_base h h1
  · omega
theorem wpList_sentR {w : World} {ops : Array Oper} {rest : List Oper} {o : Oper} {a : Act} {Q : Exit → Act → World → Prop} (hgd : o.guard = none) (s x : Operand)
    (ho : o.op = .call { callee := .builtin .append, args := #[s, x], argTypes := #[86, 86] }) (B : Nat) (v : Value) (q : List SntV) (y : SntV) (hs : a.eval s = v) (hown : w.ownsRow B 176 13 v q.length (flatS q))
    (g c : Nat) (hx : a.eval x = .slice (some ⟨g, 0, none⟩) 1 c) (hy : y.Ok w) (hc : ∀ j u, y.cells[j]? = some u → w.cell? ⟨g, j, none⟩ = some u) (hB : B ≤ w.heap.size) (hn : q.length < 879609302220)
    (h : ∀ v' w', w'.ownsRow B 176 13 v' (q ++ [y]).length (flatS (q ++ [y])) → w.grownBy w' v.ownBlock → (∀ k, v'.ownBlock = some k → v.ownBlock = some k ∨ w.heap.size ≤ k) → wpList Tryz.prog ops Q rest (a.put o.dst v') w') : wpList Tryz.prog ops Q (o :: rest) a w := by
  refine wpList_plain hgd fun K hK => ?_
  obtain ⟨v', w', hr, k1, k2, k3⟩ := sent_raw (ty := o.type) (c := c) hown hy hc hB hn
  unfold Oper.wp execOp
  simp only [ho, resolve, invoke, builtin, Sem.run_bind, Sem.run_pure, Result.andThen_ok, List.map_toArray, List.map_cons, List.map_nil, hs, hx, hr]
  exact hK _ _ (h v' w' k1 k2 k3)
/-- a frame, and the values of its lists -/
structure FrmV where
  f : Frm
  vl : Value
  vg : Value
  vc : Value
def FrmV.cells (x : FrmV) : List Value := [.int .i64 x.f.fr, .int .i64 x.f.to, .int .i64 x.f.seq, .bool x.f.ack, .int .i64 x.f.thread, .int .i64 x.f.mail.host, .int .i64 x.f.mail.thread, x.vl, x.vg, .string ⟨x.f.mail.text.toArray⟩, x.vc]
structure FrmV.Ok (w : World) (x : FrmV) : Prop where
  lab : LabAt w x.vl x.f.mail.label
  nums : IntsAt w x.vg x.f.mail.grants
  crts : CrtsAt w x.vc x.f.certs
theorem FrmV.Ok.below {w wr : World} {x : FrmV} (h : x.Ok w) (hb : Below w.heap.size w wr) : x.Ok wr := ⟨h.lab.below hb, h.nums.below hb, h.crts.below hb⟩
def flatF (q : List FrmV) : List Value := q.flatMap FrmV.cells
theorem flatF_cons (x : FrmV) (q : List FrmV) : flatF (x :: q) = x.cells ++ flatF q := rfl
theorem flatF_app (a b : List FrmV) : flatF (a ++ b) = flatF a ++ flatF b := by simp [flatF]
theorem flatF_get : ∀ (q : List FrmV) (j : Nat) (hj : j < q.length) (i : Nat) (_ : i < 11), (flatF q)[j * 11 + i]? = (q[j]).cells[i]?
  | x :: r, 0, _, i, hi => by
    rw [flatF_cons, List.getElem?_append_left (by show _ < 11; omega)]
    simp
  | x :: r, j + 1, hj, i, hi => by
    rw [flatF_cons, List.getElem?_append_right (by show 11 ≤ _; omega), show (j + 1) * 11 + i - x.cells.length = j * 11 + i by show (j + 1) * 11 + i - 11 = _; omega, flatF_get r j (by simpa using hj) i hi]
    simp
theorem FrmV.Ok.one {w : World} {x : FrmV} (h : x.Ok w) : ∀ u ∈ x.cells, u.oneCell' = true := by
  intro u hu
  obtain ⟨⟨pl, cl, el, _⟩, ⟨pg, cg, eg, _⟩, ⟨pc, cc, ec, _⟩⟩ := h
  unfold FrmV.cells at hu
  rw [el, eg, ec] at hu
  simp only [List.mem_cons, List.not_mem_nil, or_false] at hu
  rcases hu with h | h | h | h | h | h | h | h | h | h | h <;> rw [h] <;> rfl
theorem info_frm : (Tryz.prog.info? 51).map (fun i => (i.zero, i.size, i.bytes)) = some (some (.agg #[.int .i64 0, .int .i64 0, .int .i64 0, .bool false, .int .i64 0, .int .i64 0, .int .i64 0, .slice none 0 0, .slice none 0 0, .string ⟨#[]⟩, .slice none 0 0]), 11, 144) := by kernel_rfl

theorem frm_raw {w : World} {ty : TypeId} {B : Nat} {v : Value} {q : List FrmV} {x : FrmV} {g c : Nat} (h : w.ownsRow B 51 11 v q.length (flatF q)) (hx : x.Ok w) (hc : ∀ j u, x.cells[j]? = some u → w.cell? ⟨g, j, none⟩ = some u) (hB : B ≤ w.heap.size) (hn : q.length < 879609302220) :
    ∃ v' w', (Builtin.append_ #[153, 153] ty #[v, .slice (some ⟨g, 0, none⟩) 1 c]).run Tryz.prog w = .ok v' w' ∧ w'.ownsRow B 51 11 v' (q ++ [x]).length (flatF (q ++ [x])) ∧ w.grownBy w' v.ownBlock ∧ ∀ k, v'.ownBlock = some k → v.ownBlock = some k ∨ w.heap.size ≤ k := by
  obtain ⟨i0, hi, hz0, hz1, hz2⟩ := info_parts info_frm
  obtain ⟨v', w', hr, k1, k2, k3⟩ := append_where (ty := ty) (c := c) Tryz.underlying153 hi hz0 hz1 hz2 rfl (by decide) (own_base_le h (Nat.zero_le _)) (m := 1) (news := x.cells) (a := ⟨g, 0, none⟩) rfl (fun j u hu => by rw [WideShapes.add_plain, Nat.zero_add]; exact hc j u hu) hx.one (by unfold maxLen; omega) (by omega)
  refine ⟨v', w', hr, ?_, k2, k3⟩
  rw [flatF_app, List.length_append]
  refine own_rebase (by simpa [flatF] using k1) fun k hk => ?_
  rcases k3 k hk with h1 | h1
  · exact own_base h h1
  · omega
theorem wpList_frmR {w : World} {ops : Array Oper} {rest : List Oper} {o : Oper} {a : Act} {Q : Exit → Act → World → Prop} (hgd : o.guard = none) (s x : Operand)
    (ho : o.op = .call { callee := .builtin .append, args := #[s, x], argTypes := #[153, 153] }) (B : Nat) (v : Value) (q : List FrmV) (y : FrmV) (hs : a.eval s = v) (hown : w.ownsRow B 51 11 v q.length (flatF q))
    (g c : Nat) (hx : a.eval x = .slice (some ⟨g, 0, none⟩) 1 c) (hy : y.Ok w) (hc : ∀ j u, y.cells[j]? = some u → w.cell? ⟨g, j, none⟩ = some u) (hB : B ≤ w.heap.size) (hn : q.length < 879609302220)
    (h : ∀ v' w', w'.ownsRow B 51 11 v' (q ++ [y]).length (flatF (q ++ [y])) → w.grownBy w' v.ownBlock → (∀ k, v'.ownBlock = some k → v.ownBlock = some k ∨ w.heap.size ≤ k) → wpList Tryz.prog ops Q rest (a.put o.dst v') w') : wpList Tryz.prog ops Q (o :: rest) a w := by
  refine wpList_plain hgd fun K hK => ?_
  obtain ⟨v', w', hr, k1, k2, k3⟩ := frm_raw (ty := o.type) (c := c) hown hy hc hB hn
  unfold Oper.wp execOp
  simp only [ho, resolve, invoke, builtin, Sem.run_bind, Sem.run_pure, Result.andThen_ok, List.map_toArray, List.map_cons, List.map_nil, hs, hx, hr]
  exact hK _ _ (h v' w' k1 k2 k3)

/-- v is a slice whose elements are the frames l -/
def FrmsAt (w : World) (v : Value) (l : List Frm) : Prop := ∃ q : List FrmV, q.map (·.f) = l ∧ (∀ x ∈ q, x.Ok w) ∧ ∃ p cap, v = .slice p q.length cap ∧ q.length ≤ 879609302220 ∧ (0 < q.length → ∃ b, p = some ⟨b, 0, none⟩ ∧ ∀ j u, (flatF q)[j]? = some u → w.cell? ⟨b, j, none⟩ = some u)
theorem frms_raw {B : Nat} {w : World} {v : Value} {q : List FrmV} {l : List Frm} (h : w.ownsRow B 51 11 v q.length (flatF q)) (hl : q.length ≤ 879609302220) (hm : q.map (·.f) = l) (hok : ∀ x ∈ q, x.Ok w) : FrmsAt w v l := by
  refine ⟨q, hm, hok, ?_⟩
  rcases h.2 with ⟨hn, h0⟩ | ⟨g, cap, cur, rfl, hbg, hgg, h1, h2, h3, h4⟩
  · rw [hn]
    exact ⟨none, 0, by rw [h0], hl, fun h => by omega⟩
  · refine ⟨some ⟨g, 0, none⟩, cap, rfl, hl, fun _ => ⟨g, rfl, fun j u hu => ?_⟩⟩
    have := World.ownsRow.cells h (g := g) rfl _ _ hu
    rwa [WideShapes.add_plain, Nat.zero_add] at this
theorem FrmsAt.below {w wr : World} {v : Value} {l : List Frm} (h : FrmsAt w v l) (hb : Below w.heap.size w wr) : FrmsAt wr v l := by
  obtain ⟨q, h1, h2, p, cap, h3, h4, h5⟩ := h
  refine ⟨q, h1, fun x hx => (h2 x hx).below hb, p, cap, h3, h4, fun h0 => ?_⟩
  obtain ⟨b, h6, h7⟩ := h5 h0
  exact ⟨b, h6, fun j u hu => by rw [hb.cell (cell_block (h7 j u hu)), h7 j u hu]⟩
end Go.Proofs.YtgpldlbmjakjhaaGreat

namespace Go.Proofs.YtgpldlbmjakjhaaGreat
open Go.RowKit Go.Proofs.Parclose

/-- v is a slice whose elements are the lists ls of certs -/
def RowsAt (w : World) (v : Value) (ls : List (List SntV)) : Prop :=
  ∃ b o cap, v = .slice (some ⟨b, o, none⟩) ls.length cap ∧ ∀ j (_ : j < ls.length), ∃ u, w.cell? ⟨b, o + j, none⟩ = some u ∧ RowAt w u ls[j]

/-- append of a label, nil or not, to a list of its own -/
theorem wpList_append_row {w : World} {ops : Array Oper} {rest : List Oper} {o : Oper} {a : Act} {Q : Exit → Act → World → Prop} (hgd : o.guard = none) (s x : Operand)
    (ho : o.op = .call { callee := .builtin .append, args := #[s, x], argTypes := #[86, 86] }) (base : Nat) (v : Value) (n : Nat) (xs : List Value) (hs : a.eval s = v) (hown : w.ownsRow base 176 13 v n xs)
    (u : Value) (l : List SntV) (hx : a.eval x = u) (hu : RowAt w u l) (hone : ∀ u ∈ flatS l, u.oneCell' = true) (hn : n + l.length ≤ 879609302220) (hbase : base ≤ w.heap.size)
    (h : ∀ v' w', w'.ownsRow base 176 13 v' (n + l.length) (xs ++ flatS l) → w.grownBy w' v.ownBlock → wpList Tryz.prog ops Q rest (a.put o.dst v') w') : wpList Tryz.prog ops Q (o :: rest) a w := by
  obtain ⟨i0, hi, hz0, hz1, hz2⟩ := info_parts info_sent
  obtain ⟨p, cap, rfl, hlc, hcap, hcells⟩ := hu
  cases p with
  | none =>
    have e : l = [] := by
      by_cases h0 : 0 < l.length
      · obtain ⟨b, o, e, _⟩ := hcells h0
        cases e
      · exact List.length_eq_zero_iff.1 (by omega)
    subst e
    have ec : cap = 0 := hlc.2 rfl
    subst ec
    exact wpList_append_own_none hgd s x 86 ho base 176 i0 13 Tryz.underlying86 hi v n xs hs hown hx (h v w (by simpa [flatS] using hown) ⟨rfl, rfl, rfl, Nat.le_refl _, fun _ _ _ => rfl⟩)
  | some ad =>
    have hnews : ∀ j u, (flatS l)[j]? = some u → w.cell? (ad.add j) = some u := by
      by_cases h0 : 0 < l.length
      · obtain ⟨b, o, e, hc⟩ := hcells h0
        cases e
        intro j u hu
        rw [WideShapes.add_plain]
        exact hc j u hu
      · have e : l = [] := List.length_eq_zero_iff.1 (by omega)
        subst e
        intro j u hu
        simp [flatS] at hu
    exact wpList_append_own w hgd s x 86 ho base 176 i0 _ 13 160 Tryz.underlying86 hi hz0 hz1 hz2 rfl (by decide) v n xs hs hown ad l.length cap (flatS l) hx (flatS_len l) hnews hone (by unfold maxLen; omega) (by omega) hbase
      (fun v' w' h1 h2 _ => h v' w' h1 h2)

theorem zeroCellsS_size (z : Array Value) (n : Nat) : (Builtin.zeroCells z n).size = n * z.size := by
  unfold Builtin.zeroCells
  simp

theorem growS_any (n : Nat) (w : World) (hn : n ≤ 1000) :
    Calls Tryz.prog 143 #[.slice none 0 0, .int .i64 n] w fun e w' => ∃ v, e = .returned v ∧ w'.ownsRow w.heap.size 176 13 v 0 [] ∧ Below w.heap.size w w' := by
  obtain ⟨i0, hi, hz0, hz1, hz2⟩ := info_parts info_sent
  by_cases h0 : n = 0
  · subst h0
    refine (Any8.slices_Grow_room Tryz.layGrowS none 0 0 0 w (Nat.le_refl _) (by omega) (by omega) (by omega)).mono ?_
    rintro e w' ⟨rfl, rfl⟩
    exact ⟨_, rfl, World.ownsRow_nil _ _ _ _, Below.refl _ _⟩
  · refine (Any8.slices_Grow_grow Tryz.layGrowS i0 _ hi hz0 (by omega) none 0 0 n [] w (Nat.le_refl _) (by omega) (by rw [hz2]; omega) (by omega) (by simp) (fun _ => rfl) (fun a h => by cases h)).mono ?_
    rintro e w' ⟨rfl, rfl⟩
    have hG := grownCap_ge w (0 + n) 0 176
    have hM := grownCap_le_maxLen w (0 + n) 0 176 (by unfold maxLen; omega)
    have hzc : (Value.agg #[.int .i64 0, .int .i64 0, .int .i64 0, .bool false, .int .i64 0, .int .i64 0, .int .i64 0, .slice none 0 0, .slice none 0 0, .string ⟨#[]⟩, .slice none 0 0, .int .i64 0, .int .i64 0]).cells.size = 13 := rfl
    refine ⟨_, rfl, ⟨rfl, Or.inr ⟨w.heap.size, grownCap w (0 + n) 0 176, _, rfl, Nat.le_refl _, heap_alloc_new w.drew _, Nat.zero_le _, hM, ?_, by simp⟩⟩, (Below.refl _ w).drew.alloc (Nat.le_refl _) _⟩
    show ([].toArray ++ Builtin.zeroCells (Value.agg #[.int .i64 0, .int .i64 0, .int .i64 0, .bool false, .int .i64 0, .int .i64 0, .int .i64 0, .slice none 0 0, .slice none 0 0, .string ⟨#[]⟩, .slice none 0 0, .int .i64 0, .int .i64 0]).cells (0 + n - 0) ++ Builtin.zeroCells (Value.agg #[.int .i64 0, .int .i64 0, .int .i64 0, .bool false, .int .i64 0, .int .i64 0, .int .i64 0, .slice none 0 0, .slice none 0 0, .string ⟨#[]⟩, .slice none 0 0, .int .i64 0, .int .i64 0]).cells (grownCap w (0 + n) 0 176 - (0 + n))).size = _
    generalize grownCap w (0 + n) 0 176 = G at *
    simp only [Array.size_append, zeroCellsS_size, hzc]
    simp
    omega

theorem rows_elem {w : World} {b o : Nat} {ls : List (List SntV)} (h : ∀ j (_ : j < ls.length), ∃ u, w.cell? ⟨b, o + j, none⟩ = some u ∧ RowAt w u ls[j]) (j : Nat) (hj : j < ls.length) {wr : World} (hb : Below w.heap.size w wr) :
    ∃ p cap, wr.cell? ⟨b, o + j, none⟩ = some (.slice p ls[j].length cap) ∧ RowAt wr (.slice p ls[j].length cap) ls[j] := by
  obtain ⟨u, h1, h2⟩ := h j hj
  have h3 := h2.below hb
  obtain ⟨p, cap, rfl, _⟩ := id h3
  exact ⟨p, cap, by rw [hb.cell (cell_block h1), h1], h3⟩

/-- how many levels the labels have in all -/
def flenS (ls : List (List SntV)) : Nat := ls.flatten.length

theorem flattenS_take (ls : List (List SntV)) (k : Nat) (hk : k < ls.length) : (ls.take (k + 1)).flatten = (ls.take k).flatten ++ ls[k] := by
  rw [List.take_succ_eq_append_getElem hk, List.flatten_append]; simp

theorem lenS_flatten_take {ls : List (List SntV)} (h : ∀ l ∈ ls, l.length ≤ 24) (k : Nat) : (ls.take k).flatten.length ≤ k * 24 := by
  induction k with
  | zero => simp
  | succ k ih =>
    by_cases hk : k < ls.length
    · rw [flattenS_take ls k hk, List.length_append]
      have := h ls[k] (List.getElem_mem hk)
      omega
    · rw [List.take_of_length_le (by omega)]
      rw [List.take_of_length_le (by omega)] at ih
      omega

set_option maxHeartbeats 1000000 in
theorem concatS_new (v : Value) (ls : List (List SntV)) (w : World) (hv : RowsAt w v ls) (hls : ls.length ≤ 4) (h9 : ∀ l ∈ ls, l.length ≤ 24) (h1 : ∀ l ∈ ls, ∀ u ∈ flatS l, u.oneCell' = true) :
    Calls Tryz.prog 117 #[v] w fun e w' => ∃ v', e = .returned v' ∧ w'.ownsRow w.heap.size 176 13 v' ls.flatten.length (flatS ls.flatten) ∧ Below w.heap.size w w' := by
  obtain ⟨b, o, cap, rfl, hcells⟩ := hv
  have HT : Hid (∀ k (hk : k < ls.length), (ls.take (k + 1)).flatten = (ls.take k).flatten ++ ls[k]) := flattenS_take ls
  have HN : Hid (∀ k, (ls.take k).flatten.length ≤ k * 24) := lenS_flatten_take h9
  have H9 : Hid (∀ l ∈ ls, l.length ≤ 24) := h9
  clear h9
  have H1 : Hid (∀ l ∈ ls, ∀ u ∈ flatS l, u.oneCell' = true) := h1
  clear h1
  go_enter Tryz.func117, Tryz.ntmps117
  go_wp2
  go_loopw [3, 11] (fun s i wr => ∃ k : Nat, k ≤ ls.length ∧ i = .int .i64 k ∧ s = .int .i64 (flenS (ls.take k) : Nat) ∧ w = wr) (fun _ i _ => ls.length - (intOf i).toNat)
  case atStart => exact ⟨0, Nat.zero_le _, rfl, rfl, rfl⟩
  case round =>
    obtain ⟨k, hk, rfl, rfl, rfl⟩ := hrel
    have hnk : flenS (ls.take k) ≤ k * 24 := HN.out k
    by_cases hlt : k < ls.length
    · obtain ⟨p, cp, hc1, hl1⟩ := rows_elem hcells k hlt (Below.refl _ _)
      have h9k := H9.out ls[k] (List.getElem_mem hlt)
      have HS : Hid (flenS (ls.take (k + 1)) = flenS (ls.take k) + ls[k].length) := by
        show (ls.take (k + 1)).flatten.length = (ls.take k).flatten.length + ls[k].length
        rw [HT.out k hlt, List.length_append]
      clear hcells hl1
      generalize flenS (ls.take k) = n at *
      generalize ls[k].length = m at *
      go_wp2
      all_goals go_roundw
      case rel => exact ⟨k + 1, hlt, by go_num, by rw [HS.out]; go_num, by first | rfl | trivial⟩
      case measure => simp [intOf]; omega
    · have hkl : k = ls.length := by omega
      subst hkl
      rw [List.take_length]
      rw [List.take_length] at hnk
      have hgrow := growS_any (flenS ls) w (by omega)
      go_wp2_with fail
      refine hgrow.mono ?_
      rintro e w1 ⟨v1, rfl, hown1, hw1⟩
      clear hgrow
      go_wp2
      go_loopw [6, 27] (fun v i wr => ∃ k : Nat, k ≤ ls.length ∧ i = .int .i64 k ∧ wr.ownsRow w.heap.size 176 13 v (ls.take k).flatten.length (flatS (ls.take k).flatten) ∧ Below w.heap.size w wr) (fun _ i _ => ls.length - (intOf i).toNat)
      case atStart => exact ⟨0, Nat.zero_le _, rfl, hown1, hw1⟩
      case round =>
        clear hown1 hw1 hnk
        obtain ⟨k, hk, rfl, hown, hb⟩ := hrel
        have hnk := HN.out k
        have hsz := hb.size
        by_cases hlt2 : k < ls.length
        · obtain ⟨p, cp, hc1, hl1⟩ := rows_elem hcells k hlt2 hb
          have h9k := H9.out ls[k] (List.getElem_mem hlt2)
          have h1k := H1.out ls[k] (List.getElem_mem hlt2)
          have HS := HT.out k hlt2
          have HS2 : Hid ((ls.take (k + 1)).flatten = (ls.take k).flatten ++ ls[k]) := HS
          clear HS hcells
          generalize (ls.take k).flatten = out at *
          generalize ls[k] = l at *
          go_wp2_with (at_builtin; refine wpList_append_row rfl _ _ rfl w.heap.size _ _ _ rfl hown _ l rfl hl1 h1k (by omega) hsz ?_; intro v2 w2 hown2 hgrow2)
          go_roundw
          case rel => exact ⟨k + 1, hlt2, by go_num, by rw [HS2.out, flatS_app, List.length_append]; exact hown2, hb.grown hgrow2 hsz (fun j hj => own_base hown hj)⟩
          case measure => simp [intOf]; omega
        · have hkl : k = ls.length := by omega
          subst hkl
          rw [List.take_length] at hown hnk
          go_wp2
          go_ret
          exact ⟨_, rfl, hown, hb⟩
end Go.Proofs.YtgpldlbmjakjhaaGreat

namespace Go.Proofs.YtgpldlbmjakjhaaGreat
open Go.RowKit Go.Proofs.Parclose

theorem FrmsAt.slice {w : World} {v : Value} {l : List Frm} (h : FrmsAt w v l) : ∃ p cap, v = .slice p l.length cap := by
  obtain ⟨q, rfl, _, p, cap, rfl, _⟩ := h
  exact ⟨p, cap, by simp⟩
theorem FrmsAt.len {w : World} {v : Value} {l : List Frm} (h : FrmsAt w v l) : l.length ≤ 879609302220 := by
  obtain ⟨q, rfl, _, p, cap, _, h3, _⟩ := h
  simpa using h3
theorem FrmsAt.get {w : World} {p : Option Addr} {n cap : Nat} {l : List Frm} (h : FrmsAt w (.slice p n cap) l) (j : Nat) (hj : j < l.length) :
    ∃ b pl cl pg cg pc cc, p = some ⟨b, 0, none⟩ ∧ FrmAt w (.agg #[.int .i64 (l[j]).fr, .int .i64 (l[j]).to, .int .i64 (l[j]).seq, .bool (l[j]).ack, .int .i64 (l[j]).thread, .int .i64 (l[j]).mail.host, .int .i64 (l[j]).mail.thread, .slice pl (l[j]).mail.label.length cl, .slice pg (l[j]).mail.grants.length cg, .string ⟨(l[j]).mail.text.toArray⟩, .slice pc (l[j]).certs.length cc]) l[j] ∧
      w.cell? ⟨b, j * 11, none⟩ = some (.int .i64 (l[j]).fr) ∧ w.cell? ⟨b, j * 11 + 1, none⟩ = some (.int .i64 (l[j]).to) ∧ w.cell? ⟨b, j * 11 + 2, none⟩ = some (.int .i64 (l[j]).seq) ∧ w.cell? ⟨b, j * 11 + 3, none⟩ = some (.bool (l[j]).ack) ∧ w.cell? ⟨b, j * 11 + 4, none⟩ = some (.int .i64 (l[j]).thread) ∧ w.cell? ⟨b, j * 11 + 5, none⟩ = some (.int .i64 (l[j]).mail.host) ∧ w.cell? ⟨b, j * 11 + 6, none⟩ = some (.int .i64 (l[j]).mail.thread) ∧ w.cell? ⟨b, j * 11 + 7, none⟩ = some (.slice pl (l[j]).mail.label.length cl) ∧ w.cell? ⟨b, j * 11 + 8, none⟩ = some (.slice pg (l[j]).mail.grants.length cg) ∧ w.cell? ⟨b, j * 11 + 9, none⟩ = some (.string ⟨(l[j]).mail.text.toArray⟩) ∧ w.cell? ⟨b, j * 11 + 10, none⟩ = some (.slice pc (l[j]).certs.length cc) := by
  obtain ⟨q, rfl, hok, p', cap', e, _, h4⟩ := h
  cases e
  have hjq : j < q.length := by simpa using hj
  obtain ⟨b, rfl, hc⟩ := h4 (by omega)
  have ho := hok _ (List.getElem_mem hjq)
  have g : ∀ i, i < 11 → ∀ u, (q[j]).cells[i]? = some u → w.cell? ⟨b, j * 11 + i, none⟩ = some u := fun i hi u hu => hc _ _ (by rw [flatF_get q j hjq i hi, hu])
  have e : (q.map (·.f))[j] = (q[j]).f := by simp
  rw [e]
  generalize q[j] = x at *
  obtain ⟨f, vl, vg, vc⟩ := x
  obtain ⟨h1, h2, h3⟩ := ho
  simp only at h1 h2 h3 ⊢
  obtain ⟨pl, cl, rfl, _⟩ := id h1
  obtain ⟨pg, cg, rfl, _⟩ := id h2
  obtain ⟨pc, cc, rfl, _⟩ := id h3
  exact ⟨b, pl, cl, pg, cg, pc, cc, rfl, ⟨_, _, _, rfl, h1, h2, h3⟩, g 0 (by omega) _ rfl, g 1 (by omega) _ rfl, g 2 (by omega) _ rfl, g 3 (by omega) _ rfl, g 4 (by omega) _ rfl, g 5 (by omega) _ rfl, g 6 (by omega) _ rfl, g 7 (by omega) _ rfl, g 8 (by omega) _ rfl, g 9 (by omega) _ rfl, g 10 (by omega) _ rfl⟩
end Go.Proofs.YtgpldlbmjakjhaaGreat
