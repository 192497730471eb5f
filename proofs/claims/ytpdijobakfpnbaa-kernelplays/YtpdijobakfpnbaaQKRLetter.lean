/- The reference's Kernel: Letter (written by genrlet.py). -/
import Derived.Test.YtpdijobakfpnbaaQKRef0
import Derived.Test.YtpdijobakfpnbaaQKLetter
import Derived.Test.YtpdijobakfpnbaaQRefNames
namespace Go.Proofs.Ytpdijobakfpnbaa
open Go.RowKit Go.Proofs.Parclose
theorem QaA {w1 wx : World} {base base' : Nat} {v : Value} {m : Mal} (h : ∀ w'', Since base w1 w'' → MalAt w'' v m) (hs : Since base w1 wx) (hb : base' ≤ base) (hsz : w1.heap.size ≤ wx.heap.size) : ∀ w'', Since base' wx w'' → MalAt w'' v m := fun w'' s => h w'' (hs.trans (s.mono hb) hsz)
theorem QO {l : List (Int × Int)} (h : goodB l = true) : WfL l := by
 intro x hx
 have h3 := ((Qx l).1 h).2.1 x hx
 constructor <;> (simp [Lit.wf, IntKind.min, IntKind.max, IntKind.bits, IntKind.signed]; omega)
theorem Qbt {m : Mal} (h : mailE m = 0) : WfL m.label := by
 refine QO ?_
 have he : mailE m = if hostB m.host && hostB m.thread && goodB m.label && grantsB m.grants then (if m.text.length ≤ 64 then 0 else 9) else 2 := rfl
 cases hg : goodB m.label with
 | true => rfl
 | false =>
  rw [he, hg] at h
  simp at h
set_option linter.unusedSimpArgs false in
set_option maxRecDepth 100000 in
set_option maxHeartbeats 6400000 in
theorem QeJ (rb t : Nat) (F : List Nat) (V : List ThrV) (K : Ker) (v : Value) (c : Cal) (w : World) (h : RKerAt w rb F V K) (h1 : t < V.length) (h2 : t < K.ths.length) (hwf : WfL K.ths[t].label) (hx : K.ths[t].text.length + c.text.length < 4611686018427387904) (hv : CalAt w v c) :
 Calls Try.prog 8 #[.pointer (some ⟨rb, 0, none⟩), .int .i64 t, v] w fun e w' => ∃ v', e = .returned (.tuple #[v', .int .i64 (letterL K t c).2]) ∧ (∀ w'', Since w.heap.size w' w'' → MalAt w'' v' (letterL K t c).1) ∧ Below w.heap.size w w' := by
 have ht4 : t < 4 := by have := h.len; omega
 have hget : getT K (t : Int) = some K.ths[t] := by
  unfold getT
  rw [if_pos (by omega)]
  simp
 have HLT : Hid (letterL K t c = if mayL K.ths[t] (letterM K t c K.ths[t]) = 0 then (letterM K t c K.ths[t], 0) else (zeroMal, mayL K.ths[t] (letterM K t c K.ths[t]))) := hid (by unfold letterL; rw [hget])
 have hthr := h.thr t h1 h2
 obtain ⟨C, hC, _, hC0, _, hcc⟩ := h.box
 obtain ⟨d0, d1, d2, d3, d4⟩ := hcc t h1 h2
 have k0 : w.cell? ⟨rb, 0, none⟩ = some (.int .i64 K.host) := by rw [Qa hC, hC0]
 have x0 : w.cell? ⟨rb, 1 + t * 5, none⟩ = some V[t].vl := by rw [Qa hC, d0]
 have x1 : w.cell? ⟨rb, 1 + t * 5 + 1, none⟩ = some V[t].vo := by rw [Qa hC, d1]
 have x2 : w.cell? ⟨rb, 1 + t * 5 + 2, none⟩ = some (.string ⟨K.ths[t].text.toArray⟩) := by rw [Qa hC, d2]
 have x3 : w.cell? ⟨rb, 1 + t * 5 + 3, none⟩ = some V[t].vj := by rw [Qa hC, d3]
 have x4 : w.cell? ⟨rb, 1 + t * 5 + 4, none⟩ = some V[t].vm := by rw [Qa hC, d4]
 have hrlt : rb < w.heap.size := h.fin rb h.kbF
 clear hC hC0 h hget hcc d0 d1 d2 d3 d4
 generalize K.ths[t] = th at *
 generalize V[t] = tv at *
 obtain ⟨hrl, hro, ⟨_, _, hrj, _⟩, ⟨_, _, hrm, _⟩⟩ := hthr
 obtain ⟨p0, c0, e0, _⟩ := id hrl.1
 obtain ⟨p1, c1, e1, _⟩ := id hro.1
 obtain ⟨p3, c3, e3⟩ := Qi hrj
 obtain ⟨p4, c4, e4, _⟩ := Q6 hrm
 have HRL : Hid (LabAt w (.slice p0 th.label.length c0) th.label) := hid (by rw [← e0]; exact hrl.1)
 have HRO : Hid (IntsAt w (.slice p1 th.own.length c1) th.own) := hid (by rw [← e1]; exact hro.1)
 rw [e0] at x0
 rw [e1] at x1
 rw [e3] at x3
 rw [e4] at x4
 clear hrl hro hrj hrm e0 e1 e3 e4
 obtain ⟨vl, vg, rfl, hvl, hvg⟩ := hv
 obtain ⟨pl, cl, rfl, _⟩ := id hvl
 obtain ⟨pg, cg, rfl, _⟩ := id hvg
 have HVL := hid hvl
 have HVG := hid hvg
 unfold calV at *
 clear hvl hvg
 have hf : hostB t = true := by unfold hostB; simp; omega
 have hfour := Qj t
 rw [hf] at hfour
 have hti : (t : Int) < 4 := by omega
 go_enter Try.func8, Try.ntmps8
 go_upto_region 4 with (go_at_call 23; refine (hfour _).mono ?_; rintro e w1 ⟨rfl, hw1⟩; rw [hw1]; clear hw1 w1)
 have hb0 : Below w.heap.size w (((w.alloc (.cells #[.int .i64 c.kind, .int .i64 c.h, .int .i64 c.t, .int .i64 c.n, .int .i64 c.c, .slice pl c.label.length cl, .slice pg c.grants.length cg, .string ⟨c.text.toArray⟩] 40)).alloc (.cells #[.int .i64 0, .int .i64 0, .slice none 0 0, .slice none 0 0, .string ⟨#[]⟩] 42)).alloc (.cells #[.int .i64 0, .int .i64 0, .slice none 0 0, .slice none 0 0, .string ⟨#[]⟩] 42)) := ((Qe w _).alloc (by simp) _).alloc (by simp; omega) _
 have HB0 : Hid ((((w.alloc (.cells #[.int .i64 c.kind, .int .i64 c.h, .int .i64 c.t, .int .i64 c.n, .int .i64 c.c, .slice pl c.label.length cl, .slice pg c.grants.length cg, .string ⟨c.text.toArray⟩] 40)).alloc (.cells #[.int .i64 0, .int .i64 0, .slice none 0 0, .slice none 0 0, .string ⟨#[]⟩] 42)).alloc (.cells #[.int .i64 0, .int .i64 0, .slice none 0 0, .slice none 0 0, .string ⟨#[]⟩] 42)).heap[w.heap.size]? = some (.cells #[.int .i64 c.kind, .int .i64 c.h, .int .i64 c.t, .int .i64 c.n, .int .i64 c.c, .slice pl c.label.length cl, .slice pg c.grants.length cg, .string ⟨c.text.toArray⟩] 40 (0, 0))) := hid (QI (QI (heap_alloc_new w _) _) _)
 have HR0 : Hid ((((w.alloc (.cells #[.int .i64 c.kind, .int .i64 c.h, .int .i64 c.t, .int .i64 c.n, .int .i64 c.c, .slice pl c.label.length cl, .slice pg c.grants.length cg, .string ⟨c.text.toArray⟩] 40)).alloc (.cells #[.int .i64 0, .int .i64 0, .slice none 0 0, .slice none 0 0, .string ⟨#[]⟩] 42)).alloc (.cells #[.int .i64 0, .int .i64 0, .slice none 0 0, .slice none 0 0, .string ⟨#[]⟩] 42)).heap[w.heap.size + 1]? = some (.cells #[.int .i64 0, .int .i64 0, .slice none 0 0, .slice none 0 0, .string ⟨#[]⟩] 42 (0, 0))) := hid (QI (by have := heap_alloc_new (w.alloc (.cells #[.int .i64 c.kind, .int .i64 c.h, .int .i64 c.t, .int .i64 c.n, .int .i64 c.c, .slice pl c.label.length cl, .slice pg c.grants.length cg, .string ⟨c.text.toArray⟩] 40)) (.cells #[.int .i64 0, .int .i64 0, .slice none 0 0, .slice none 0 0, .string ⟨#[]⟩] 42); simpa using this) _)
 have HN0 : Hid ((((w.alloc (.cells #[.int .i64 c.kind, .int .i64 c.h, .int .i64 c.t, .int .i64 c.n, .int .i64 c.c, .slice pl c.label.length cl, .slice pg c.grants.length cg, .string ⟨c.text.toArray⟩] 40)).alloc (.cells #[.int .i64 0, .int .i64 0, .slice none 0 0, .slice none 0 0, .string ⟨#[]⟩] 42)).alloc (.cells #[.int .i64 0, .int .i64 0, .slice none 0 0, .slice none 0 0, .string ⟨#[]⟩] 42)).heap[w.heap.size + 2]? = some (.cells #[.int .i64 0, .int .i64 0, .slice none 0 0, .slice none 0 0, .string ⟨#[]⟩] 42 (0, 0))) := hid (by have := heap_alloc_new ((w.alloc (.cells #[.int .i64 c.kind, .int .i64 c.h, .int .i64 c.t, .int .i64 c.n, .int .i64 c.c, .slice pl c.label.length cl, .slice pg c.grants.length cg, .string ⟨c.text.toArray⟩] 40)).alloc (.cells #[.int .i64 0, .int .i64 0, .slice none 0 0, .slice none 0 0, .string ⟨#[]⟩] 42)) (.cells #[.int .i64 0, .int .i64 0, .slice none 0 0, .slice none 0 0, .string ⟨#[]⟩] 42); simpa using this)
 have hsz3 : (((w.alloc (.cells #[.int .i64 c.kind, .int .i64 c.h, .int .i64 c.t, .int .i64 c.n, .int .i64 c.c, .slice pl c.label.length cl, .slice pg c.grants.length cg, .string ⟨c.text.toArray⟩] 40)).alloc (.cells #[.int .i64 0, .int .i64 0, .slice none 0 0, .slice none 0 0, .string ⟨#[]⟩] 42)).alloc (.cells #[.int .i64 0, .int .i64 0, .slice none 0 0, .slice none 0 0, .string ⟨#[]⟩] 42)).heap.size = w.heap.size + 3 := by simp
 generalize (((w.alloc (.cells #[.int .i64 c.kind, .int .i64 c.h, .int .i64 c.t, .int .i64 c.n, .int .i64 c.c, .slice pl c.label.length cl, .slice pg c.grants.length cg, .string ⟨c.text.toArray⟩] 40)).alloc (.cells #[.int .i64 0, .int .i64 0, .slice none 0 0, .slice none 0 0, .string ⟨#[]⟩] 42)).alloc (.cells #[.int .i64 0, .int .i64 0, .slice none 0 0, .slice none 0 0, .string ⟨#[]⟩] 42)) = w3 at *
 have K0 : Hid (w3.cell? ⟨rb, 0, none⟩ = some (.int .i64 K.host)) := hid (by rw [hb0.cell (p := ⟨rb, 0, none⟩) hrlt, k0])
 rw [← hb0.cell (p := ⟨rb, 1 + t * 5, none⟩) hrlt] at x0
 rw [← hb0.cell (p := ⟨rb, 1 + t * 5 + 1, none⟩) hrlt] at x1
 rw [← hb0.cell (p := ⟨rb, 1 + t * 5 + 2, none⟩) hrlt] at x2
 rw [← hb0.cell (p := ⟨rb, 1 + t * 5 + 3, none⟩) hrlt] at x3
 rw [← hb0.cell (p := ⟨rb, 1 + t * 5 + 4, none⟩) hrlt] at x4
 clear k0
 go_upto_region 5 with fail
 have hb4 : Below w3.heap.size w3 (w3.alloc (.cells #[.slice p0 th.label.length c0, .slice p1 th.own.length c1, .string ⟨th.text.toArray⟩, .slice p3 th.objs.length c3, .slice p4 th.mails.length c4] 35)) := Qe w3 _
 have HX0 : Hid ((w3.alloc (.cells #[.slice p0 th.label.length c0, .slice p1 th.own.length c1, .string ⟨th.text.toArray⟩, .slice p3 th.objs.length c3, .slice p4 th.mails.length c4] 35)).heap[w.heap.size + 3]? = some (.cells #[.slice p0 th.label.length c0, .slice p1 th.own.length c1, .string ⟨th.text.toArray⟩, .slice p3 th.objs.length c3, .slice p4 th.mails.length c4] 35 (0, 0))) := hid (by rw [← hsz3]; exact heap_alloc_new w3 _)
 have hsz4 : (w3.alloc (.cells #[.slice p0 th.label.length c0, .slice p1 th.own.length c1, .string ⟨th.text.toArray⟩, .slice p3 th.objs.length c3, .slice p4 th.mails.length c4] 35)).heap.size = w.heap.size + 4 := by simp [hsz3]
 generalize w3.alloc (.cells #[.slice p0 th.label.length c0, .slice p1 th.own.length c1, .string ⟨th.text.toArray⟩, .slice p3 th.objs.length c3, .slice p4 th.mails.length c4] 35) = w0 at *
 have hbw := Qd hb0 hb4
 have HB1 := hid (Qc HB0.out hb4)
 have HR1 := hid (Qc HR0.out hb4)
 have HN1 := hid (Qc HN0.out hb4)
 have K1 : Hid (w0.cell? ⟨rb, 0, none⟩ = some (.int .i64 K.host)) := hid (by rw [hb4.cell (p := ⟨rb, 0, none⟩) (by show rb < _; omega), K0.out])
 have HS : Hid (∀ w', Below w0.heap.size w0 w' → w'.cell? ⟨rb, 0, none⟩ = some (.int .i64 K.host) ∧ w'.cell? ⟨w.heap.size, 5, none⟩ = some (.slice pl c.label.length cl) ∧ w'.cell? ⟨w.heap.size, 6, none⟩ = some (.slice pg c.grants.length cg) ∧ w'.cell? ⟨w.heap.size, 7, none⟩ = some (.string ⟨c.text.toArray⟩) ∧ w'.cell? ⟨w.heap.size + 3, 2, none⟩ = some (.string ⟨th.text.toArray⟩)) := hid (fun w' hb => ⟨by rw [hb.cell (p := ⟨rb, 0, none⟩) (by show rb < _; omega), K1.out], by rw [Qa (Qc HB1.out hb)]; rfl, by rw [Qa (Qc HB1.out hb)]; rfl, by rw [Qa (Qc HB1.out hb)]; rfl, by rw [Qa (Qc HX0.out hb)]; rfl⟩)
 have hstr : ∀ a b : List UInt8, (⟨a.toArray⟩ : ByteArray) ++ ⟨b.toArray⟩ = ⟨(a ++ b).toArray⟩ := fun a b => ByteArray.mk_append_mk a b
 have hnl : ¬ 9223372036854775807 < th.text.length + c.text.length := by omega
 have hsw := hbw.size
 have HS4 := hid hsz4
 clear x0 x1 x2 x3 x4 hb0 HB0 HR0 HN0 K0 hb4 hsz3 hsz4
 go_cut [10] (fun v10 wx => ∃ (M : Nat) (p q : Option Addr) (cl' cg' : Nat), v10 = .pointer (some ⟨M, 0, none⟩) ∧ wx.heap[M]? = some (.cells #[.int .i64 K.host, .int .i64 t, .slice p c.label.length cl', .slice q c.grants.length cg', .string ⟨(lastL (th.text ++ c.text)).toArray⟩] 42 (0, 0)) ∧ (∀ w'', Since w0.heap.size wx w'' → MalAt w'' (.agg #[.int .i64 K.host, .int .i64 t, .slice p c.label.length cl', .slice q c.grants.length cg', .string ⟨(lastL (th.text ++ c.text)).toArray⟩]) (letterM K t c th)) ∧ Below w0.heap.size w0 wx)
 case first =>
  refine wp_region_held_drew (S := (fun w' => w'.cell? ⟨rb, 0, none⟩ = some (.int .i64 K.host) ∧ w'.cell? ⟨w.heap.size, 5, none⟩ = some (.slice pl c.label.length cl) ∧ w'.cell? ⟨w.heap.size, 6, none⟩ = some (.slice pg c.grants.length cg) ∧ w'.cell? ⟨w.heap.size, 7, none⟩ = some (.string ⟨c.text.toArray⟩) ∧ w'.cell? ⟨w.heap.size + 3, 2, none⟩ = some (.string ⟨th.text.toArray⟩))) (by as_aux_lemma => kernel_rfl) (HS.out _ (Below.refl _ _).drew) (fun _ => ?_)
  refine takeF 0 25 ?v1 rfl (Or.inl ⟨by rfl, ?hy1⟩) ?rest1
  case hy1 => intro wz hSw; (try dsimp only at hSw); go_simp; try with_reducible rfl
  simp only [Act.put, List.setIfInBounds_toArray, List.set_cons_zero, List.set_cons_succ]
  refine takeF 1 26 ?v2 rfl (Or.inl ⟨by rfl, ?hy2⟩) ?rest2
  case hy2 => intro wz hSw; (try dsimp only at hSw); go_simp; try with_reducible rfl
  simp only [Act.put, List.setIfInBounds_toArray, List.set_cons_zero, List.set_cons_succ]
  refine takeF 2 27 ?v3 rfl (Or.inl ⟨by rfl, ?hy3⟩) ?rest3
  case hy3 => intro wz hSw; (try dsimp only at hSw); go_simp; try with_reducible rfl
  simp only [Act.put, List.setIfInBounds_toArray, List.set_cons_zero, List.set_cons_succ]
  refine takeF 3 28 ?v4 rfl (Or.inl ⟨by rfl, ?hy4⟩) ?rest4
  case hy4 => intro wz hSw; (try dsimp only at hSw); go_simp; try with_reducible rfl
  simp only [Act.put, List.setIfInBounds_toArray, List.set_cons_zero, List.set_cons_succ]
  refine takeF 4 29 ?v5 rfl (Or.inl ⟨by rfl, ?hy5⟩) ?rest5
  case hy5 => intro wz hSw; (try dsimp only at hSw); go_simp; try with_reducible rfl
  simp only [Act.put, List.setIfInBounds_toArray, List.set_cons_zero, List.set_cons_succ]
  refine takeF 5 30 ?v6 rfl (Or.inl ⟨by rfl, ?hy6⟩) ?rest6
  case hy6 => intro wz hSw; (try dsimp only at hSw); go_simp; try with_reducible rfl
  simp only [Act.put, List.setIfInBounds_toArray, List.set_cons_zero, List.set_cons_succ]
  refine takeF 6 31 ?v7 rfl (Or.inl ⟨by rfl, ?hy7⟩) ?rest7
  case hy7 => intro wz hSw; (try dsimp only at hSw); go_simp; try with_reducible rfl
  simp only [Act.put, List.setIfInBounds_toArray, List.set_cons_zero, List.set_cons_succ]
  refine takeF 7 32 ?v8 rfl (Or.inl ⟨by rfl, ?hy8⟩) ?rest8
  case hy8 => intro wz hSw; (try dsimp only at hSw); go_simp; try with_reducible rfl
  simp only [Act.put, List.setIfInBounds_toArray, List.set_cons_zero, List.set_cons_succ]
  refine takeF 8 33 ?v9 rfl (Or.inl ⟨by rfl, ?hy9⟩) ?rest9
  case hy9 => intro wz hSw; (try dsimp only at hSw); go_simp; try with_reducible rfl
  simp only [Act.put, List.setIfInBounds_toArray, List.set_cons_zero, List.set_cons_succ]
  refine takeF 9 34 ?v10 rfl (Or.inl ⟨by rfl, ?hy10⟩) ?rest10
  case hy10 => intro wz hSw; (try dsimp only at hSw); go_simp; try with_reducible rfl
  simp only [Act.put, List.setIfInBounds_toArray, List.set_cons_zero, List.set_cons_succ]
  refine takeF 10 35 ?v11 rfl (Or.inl ⟨by rfl, ?hy11⟩) ?rest11
  case hy11 => intro wz hSw; (try dsimp only at hSw); go_simp; try with_reducible rfl
  simp only [Act.put, List.setIfInBounds_toArray, List.set_cons_zero, List.set_cons_succ]
  refine takeF 11 36 ?v12 rfl (Or.inl ⟨by rfl, ?hy12⟩) ?rest12
  case hy12 => intro wz hSw; (try dsimp only at hSw); go_simp; try with_reducible rfl
  simp only [Act.put, List.setIfInBounds_toArray, List.set_cons_zero, List.set_cons_succ]
  refine takeF 12 37 ?v13 rfl (Or.inl ⟨by rfl, ?hy13⟩) ?rest13
  case hy13 => intro wz hSw; (try dsimp only at hSw); go_simp; try with_reducible rfl
  simp only [Act.put, List.setIfInBounds_toArray, List.set_cons_zero, List.set_cons_succ]
  refine takeF 13 38 ?v14 rfl (Or.inl ⟨by rfl, ?hy14⟩) ?rest14
  case hy14 => intro wz hSw; (try dsimp only at hSw); go_simp; try with_reducible rfl
  simp only [Act.put, List.setIfInBounds_toArray, List.set_cons_zero, List.set_cons_succ]
  refine wpAnyH_ready (rs := [14, 17]) (by as_aux_lemma => kernel_rfl) (by simp) ?_
  refine (AllReadyH.cons rfl (fun K' hK => ?_) (AllReadyH.cons rfl (fun K' hK => ?_) AllReadyH.nil))
  · skip
    go_simp
    go_wp2_with (go_at_call 24; refine (QaQ (th.text ++ c.text) _ (by rw [List.length_append]; omega)).mono ?_; rintro e w1 ⟨rfl, hwl⟩; have hb1 : Below w0.heap.size w0 w1 := (by rw [hwl]; first | exact (Below.refl _ _) | exact ((Below.refl _ _)).drew); clear hwl)
    refine hK.out _ _ (HS.out _ hb1) (fun _ => ?_)
    clear hK K'
    refine takeF 15 40 ?v15 rfl (Or.inl ⟨by rfl, ?hy15⟩) ?rest15
    case hy15 => intro wz hSw; (try dsimp only at hSw); go_simp; try with_reducible rfl
    simp only [Act.put, List.setIfInBounds_toArray, List.set_cons_zero, List.set_cons_succ]
    refine wpAnyH_ready (rs := [16, 17]) (by as_aux_lemma => kernel_rfl) (by simp) ?_
    refine (AllReadyH.cons rfl (fun K' hK => ?_) (AllReadyH.cons rfl (fun K' hK => ?_) AllReadyH.nil))
    · skip
      go_simp
      have hM1 : ∀ wz, Below w0.heap.size w0 wz → MalAt wz (.agg #[.int .i64 K.host, .int .i64 t, .slice pl c.label.length cl, .slice pg c.grants.length cg, .string ⟨(lastL (th.text ++ c.text)).toArray⟩]) (letterM K t c th) := fun wz hz => ⟨_, _, rfl, HVL.out.below (Qd hbw hz), HVG.out.below (Qd hbw hz)⟩
      go_wp2_with (go_at_call 11; refine (Qas _ (letterM K t c th) _ (hM1 _ (by first | exact hb1 | exact (hb1).drew))).mono ?_; rintro e w2 ⟨vm2, rfl, hM2, hw2⟩; have hv2 : ∃ p2 q2 cl2 cg2, vm2 = .agg #[.int .i64 K.host, .int .i64 t, .slice p2 c.label.length cl2, .slice q2 c.grants.length cg2, .string ⟨(lastL (th.text ++ c.text)).toArray⟩] := (by obtain ⟨vl2, vg2, rfl, hl2, hg2⟩ := hM2 w2 (Since.refl _ _); obtain ⟨p2, cl2, rfl, _⟩ := id hl2; obtain ⟨q2, cg2, rfl, _⟩ := id hg2; exact ⟨p2, q2, cl2, cg2, rfl⟩); obtain ⟨p2, q2, cl2, cg2, hv3⟩ := hv2; subst hv3)
      have hbB : Below w0.heap.size w0 w2 := Qd (by first | exact hb1 | exact (hb1).drew) hw2
      refine hK.out _ _ (HS.out _ hbB) (fun _ => ?_)
      clear hK K'
      refine wpAnyH_ready (rs := [17]) (by as_aux_lemma => kernel_rfl) (by simp) ?_
      refine (AllReadyH.cons rfl (fun K' hK => ?_) AllReadyH.nil)
      go_simp
      refine hK.out _ _ (HS.out _ (Qd hbB (Qe w2 _))) (fun _ => ?_)
      clear hK K'
      refine wpAnyH_ready (rs := [18]) (by as_aux_lemma => kernel_rfl) (by simp) ?_
      refine (AllReadyH.cons rfl (fun K' hK => ?_) AllReadyH.nil)
      go_simp
      refine hK.out _ _ (HS.out _ (Qd hbB (Qe w2 _))) (fun _ => ?_)
      clear hK K'
      refine wpAnyH_done (by as_aux_lemma => kernel_rfl) ?_ _
      go_wp2_with fail
      go_meet
      exact ⟨w2.heap.size, p2, q2, cl2, cg2, rfl, heap_alloc_new w2 _, QaA hM2 (Q8 (Qe w2 _)) (by have := hb1.size; omega) (by simp), Qd hbB (Qe w2 _)⟩
    · skip
      go_simp
      refine hK.out _ _ (HS.out _ (by first | exact (Qd hb1 (Qe w1 _)) | exact ((Qd hb1 (Qe w1 _))).drew)) (fun _ => ?_)
      clear hK K'
      refine wpAnyH_ready (rs := [16]) (by as_aux_lemma => kernel_rfl) (by simp) ?_
      refine (AllReadyH.cons rfl (fun K' hK => ?_) AllReadyH.nil)
      go_simp
      have hM1 : ∀ wz, Below w0.heap.size w0 wz → MalAt wz (.agg #[.int .i64 K.host, .int .i64 t, .slice pl c.label.length cl, .slice pg c.grants.length cg, .string ⟨(lastL (th.text ++ c.text)).toArray⟩]) (letterM K t c th) := fun wz hz => ⟨_, _, rfl, HVL.out.below (Qd hbw hz), HVG.out.below (Qd hbw hz)⟩
      go_wp2_with (go_at_call 11; refine (Qas _ (letterM K t c th) _ (hM1 _ (by first | exact (Qd hb1 (Qe w1 _)) | exact ((Qd hb1 (Qe w1 _))).drew))).mono ?_; rintro e w2 ⟨vm2, rfl, hM2, hw2⟩; have hv2 : ∃ p2 q2 cl2 cg2, vm2 = .agg #[.int .i64 K.host, .int .i64 t, .slice p2 c.label.length cl2, .slice q2 c.grants.length cg2, .string ⟨(lastL (th.text ++ c.text)).toArray⟩] := (by obtain ⟨vl2, vg2, rfl, hl2, hg2⟩ := hM2 w2 (Since.refl _ _); obtain ⟨p2, cl2, rfl, _⟩ := id hl2; obtain ⟨q2, cg2, rfl, _⟩ := id hg2; exact ⟨p2, q2, cl2, cg2, rfl⟩); obtain ⟨p2, q2, cl2, cg2, hv3⟩ := hv2; subst hv3)
      have hbB : Below w0.heap.size w0 w2 := Qd (by first | exact (Qd hb1 (Qe w1 _)) | exact ((Qd hb1 (Qe w1 _))).drew) hw2
      refine hK.out _ _ (HS.out _ hbB) (fun _ => ?_)
      clear hK K'
      have hs1 := hb1.size
      have HM := hid (Qc (heap_alloc_new w1 _) hw2)
      have m0 := Qa HM.out 0
      have mf0 := Qf HM.out 0
      have m1 := Qa HM.out 1
      have mf1 := Qf HM.out 1
      have m2 := Qa HM.out 2
      have mf2 := Qf HM.out 2
      have m3 := Qa HM.out 3
      have mf3 := Qf HM.out 3
      have m4 := Qa HM.out 4
      have mf4 := Qf HM.out 4
      refine wpAnyH_ready (rs := [18]) (by as_aux_lemma => kernel_rfl) (by simp) ?_
      refine (AllReadyH.cons rfl (fun K' hK => ?_) AllReadyH.nil)
      go_simp
      have hgS := (Qh (Qh (Qh (Qh (Qg w2 w1.heap.size 0 (.int .i64 K.host)) (Qg _ w1.heap.size 1 (.int .i64 t))) (Qg _ w1.heap.size 2 (.slice p2 c.label.length cl2))) (Qg _ w1.heap.size 3 (.slice q2 c.grants.length cg2))) (Qg _ w1.heap.size 4 (.string ⟨(lastL (th.text ++ c.text)).toArray⟩)))
      have hbS := hbB.grown hgS hbB.size (fun k e => by have := Option.some.inj e; omega)
      refine hK.out _ _ (HS.out _ hbS) (fun _ => ?_)
      clear hK K'
      refine wpAnyH_done (by as_aux_lemma => kernel_rfl) ?_ _
      go_wp2_with fail
      go_meet
      exact ⟨w1.heap.size, p2, q2, cl2, cg2, rfl, (heap_setCell (j := 4) (heap_setCell (j := 3) (heap_setCell (j := 2) (heap_setCell (j := 1) (heap_setCell (j := 0) HM.out (.int .i64 K.host)) (.int .i64 t)) (.slice p2 c.label.length cl2)) (.slice q2 c.grants.length cg2)) (.string ⟨(lastL (th.text ++ c.text)).toArray⟩)), QaA hM2 (Qaj hgS (by simp)) (by have := hbB.size; simp; omega) hgS.size, hbS⟩
  · skip
    go_simp
    refine hK.out _ _ (HS.out _ (by first | exact (Qe w0 _) | exact ((Qe w0 _)).drew)) (fun _ => ?_)
    clear hK K'
    refine wpAnyH_ready (rs := [14]) (by as_aux_lemma => kernel_rfl) (by simp) ?_
    refine (AllReadyH.cons rfl (fun K' hK => ?_) AllReadyH.nil)
    go_simp
    go_wp2_with (go_at_call 24; refine (QaQ (th.text ++ c.text) _ (by rw [List.length_append]; omega)).mono ?_; rintro e w1 ⟨rfl, hwl⟩; have hb1 : Below w0.heap.size w0 w1 := (by rw [hwl]; first | exact (Qe w0 _) | exact ((Qe w0 _)).drew); have HBX : w1.heap[w0.heap.size]? = some (.cells #[.int .i64 0, .int .i64 0, .slice none 0 0, .slice none 0 0, .string ⟨#[]⟩] 42 (0, 0)) := (by rw [hwl]; exact heap_alloc_new w0 _); clear hwl)
    refine hK.out _ _ (HS.out _ hb1) (fun _ => ?_)
    clear hK K'
    refine takeF 15 40 ?v16 rfl (Or.inl ⟨by rfl, ?hy16⟩) ?rest16
    case hy16 => intro wz hSw; (try dsimp only at hSw); go_simp; try with_reducible rfl
    simp only [Act.put, List.setIfInBounds_toArray, List.set_cons_zero, List.set_cons_succ]
    refine wpAnyH_ready (rs := [16]) (by as_aux_lemma => kernel_rfl) (by simp) ?_
    refine (AllReadyH.cons rfl (fun K' hK => ?_) AllReadyH.nil)
    go_simp
    have hM1 : ∀ wz, Below w0.heap.size w0 wz → MalAt wz (.agg #[.int .i64 K.host, .int .i64 t, .slice pl c.label.length cl, .slice pg c.grants.length cg, .string ⟨(lastL (th.text ++ c.text)).toArray⟩]) (letterM K t c th) := fun wz hz => ⟨_, _, rfl, HVL.out.below (Qd hbw hz), HVG.out.below (Qd hbw hz)⟩
    go_wp2_with (go_at_call 11; refine (Qas _ (letterM K t c th) _ (hM1 _ (by first | exact hb1 | exact (hb1).drew))).mono ?_; rintro e w2 ⟨vm2, rfl, hM2, hw2⟩; have hv2 : ∃ p2 q2 cl2 cg2, vm2 = .agg #[.int .i64 K.host, .int .i64 t, .slice p2 c.label.length cl2, .slice q2 c.grants.length cg2, .string ⟨(lastL (th.text ++ c.text)).toArray⟩] := (by obtain ⟨vl2, vg2, rfl, hl2, hg2⟩ := hM2 w2 (Since.refl _ _); obtain ⟨p2, cl2, rfl, _⟩ := id hl2; obtain ⟨q2, cg2, rfl, _⟩ := id hg2; exact ⟨p2, q2, cl2, cg2, rfl⟩); obtain ⟨p2, q2, cl2, cg2, hv3⟩ := hv2; subst hv3)
    have hbB : Below w0.heap.size w0 w2 := Qd (by first | exact hb1 | exact (hb1).drew) hw2
    refine hK.out _ _ (HS.out _ hbB) (fun _ => ?_)
    clear hK K'
    have HM := hid (Qc HBX hw2)
    have m0 := Qa HM.out 0
    have mf0 := Qf HM.out 0
    have m1 := Qa HM.out 1
    have mf1 := Qf HM.out 1
    have m2 := Qa HM.out 2
    have mf2 := Qf HM.out 2
    have m3 := Qa HM.out 3
    have mf3 := Qf HM.out 3
    have m4 := Qa HM.out 4
    have mf4 := Qf HM.out 4
    refine wpAnyH_ready (rs := [18]) (by as_aux_lemma => kernel_rfl) (by simp) ?_
    refine (AllReadyH.cons rfl (fun K' hK => ?_) AllReadyH.nil)
    go_simp
    have hgS := (Qh (Qh (Qh (Qh (Qg w2 w0.heap.size 0 (.int .i64 K.host)) (Qg _ w0.heap.size 1 (.int .i64 t))) (Qg _ w0.heap.size 2 (.slice p2 c.label.length cl2))) (Qg _ w0.heap.size 3 (.slice q2 c.grants.length cg2))) (Qg _ w0.heap.size 4 (.string ⟨(lastL (th.text ++ c.text)).toArray⟩)))
    have hbS := hbB.grown hgS hbB.size (fun k e => by have := Option.some.inj e; omega)
    refine hK.out _ _ (HS.out _ hbS) (fun _ => ?_)
    clear hK K'
    refine wpAnyH_done (by as_aux_lemma => kernel_rfl) ?_ _
    go_wp2_with fail
    go_meet
    exact ⟨w0.heap.size, p2, q2, cl2, cg2, rfl, (heap_setCell (j := 4) (heap_setCell (j := 3) (heap_setCell (j := 2) (heap_setCell (j := 1) (heap_setCell (j := 0) HM.out (.int .i64 K.host)) (.int .i64 t)) (.slice p2 c.label.length cl2)) (.slice q2 c.grants.length cg2)) (.string ⟨(lastL (th.text ++ c.text)).toArray⟩)), QaA hM2 (Qaj hgS (QJ HBX)) hb1.size hgS.size, hbS⟩
 case rest =>
  obtain ⟨M, p2, q2, cl2, cg2, rfl, hM, hMA, hb1⟩ := hcut
  have hbc := Qd hbw hb1
  have HRC := hid (Qc HR1.out hb1)
  have HNC := hid (Qc HN1.out hb1)
  have HXC := hid (Qc HX0.out hb1)
  have HMC := hid hM
  have HMA := hid (hMA wc (Since.refl _ _))
  have HMS := hid hMA
  clear hM hMA hstr hnl
  have hlg : LabAt wc (.slice p2 c.label.length cl2) c.label ∧ IntsAt wc (.slice q2 c.grants.length cg2) c.grants := by
   obtain ⟨vl3, vg3, e, hl, hg⟩ := HMA.out
   cases e
   exact ⟨hl, hg⟩
  obtain ⟨⟨m0, m1, m2, m3, m4⟩, _⟩ := cells5 HMC.out
  have hmay : mayL th (letterM K t c th) = if mailE (letterM K t c th) = 0 then (if c.grants.all (th.own.contains ·) then (if flowsL th.label c.label th.own then 0 else 6) else 7) else mailE (letterM K t c th) := rfl
  have HMY := hid hmay
  clear hmay
  go_wp2_with fail
  refine (Qad _ (letterM K t c th) _ HMA.out).mono ?_
  rintro e w2 ⟨rfl, hw2⟩
  have HR2 := hid (Qc HRC.out hw2)
  have HN2 := hid (Qc HNC.out hw2)
  have HX2 := hid (Qc HXC.out hw2)
  have HM2 := hid (Qc HMC.out hw2)
  have hb2 := Qd hbc hw2
  have hlt1 := QJ HR2.out
  clear m0 m1 m2 m3 m4
  by_cases hE : mailE (letterM K t c th) = 0
  · have hgd : WfL c.label := Qbt hE
    have HE := hid hE
    rw [hE]
    obtain ⟨⟨m0, m1, m2, m3, m4⟩, _⟩ := cells5 HM2.out
    obtain ⟨HL2, HG2⟩ := hlg
    have hG2 := HG2.below hw2
    have hL2 := HL2.below hw2
    obtain ⟨_, _, eg, _, _, hgc⟩ := id hG2
    cases eg
    have HGC := hid hgc
    clear hgc hE
    go_wp2
    go_loopw [51] (fun i wr => ∃ k : Nat, k ≤ c.grants.length ∧ i = .int .i64 k ∧ (∀ j (_ : j < k) (hj' : j < c.grants.length), th.own.contains c.grants[j] = true) ∧ Below w2.heap.size w2 wr) (fun i _ => c.grants.length - (intOf i).toNat)
    case atStart => exact ⟨0, Nat.zero_le _, rfl, fun j hj => absurd hj (Nat.not_lt_zero _), Below.refl _ _⟩
    case round =>
     obtain ⟨k, hk, rfl, hall, hbr⟩ := hrel
     have HALL := hid hall
     clear hall
     have HR3 := hid (Qc HR2.out hbr)
     have HN3 := hid (Qc HN2.out hbr)
     have HX3 := hid (Qc HX2.out hbr)
     have HM3 := hid (Qc HM2.out hbr)
     have hb3 := Qd hb2 hbr
     obtain ⟨⟨x0, x1, x2, x3, x4⟩, _⟩ := cells5 HX3.out
     clear m0 m1 m2 m3 m4
     have hrin := fun g => Qdn (.slice p1 th.own.length c1) th.own g wr (HRO.out.below hb3)
     by_cases hlt : k < c.grants.length
     · obtain ⟨bb, oo, rfl, hc⟩ := HGC.out (by omega)
       have hc1 := (hc.below hbr) k hlt
       have hI : (k : Int) < (c.grants.length : Int) := by omega
       clear hc
       have hrk := hrin c.grants[k]
       cases hin : hasB th.own c.grants[k] with
       | true =>
        rw [hin] at hrk
        have HIN : Hid (th.own.contains c.grants[k] = true) := hid hin
        clear hrin hin
        go_wp2_with (go_at_call 26; refine hrk.mono ?_; rintro e w4 ⟨rfl, hw4⟩; have hw5 := hw4.symm; subst hw5)
        go_roundw
        case rel => exact ⟨k + 1, hlt, by go_num, fun j hj hj' => by
         by_cases e : j = k
         · subst e; exact HIN.out
         · exact HALL.out j (by omega) hj', hbr⟩
        case measure => simp [intOf]; omega
       | false =>
        rw [hin] at hrk
        have HT : Hid (letterL K t c = (zeroMal, 7)) := hid (by
         have e7 : mayL th (letterM K t c th) = 7 := by
          rw [HMY.out, if_pos HE.out, if_neg]
          intro hal
          have := List.all_eq_true.1 hal _ (List.getElem_mem hlt)
          rw [show th.own.contains c.grants[k] = false from hin] at this
          cases this
         rw [HLT.out, e7]; rfl)
        clear hrin hin
        obtain ⟨⟨n0, n1, n2, n3, n4⟩, _⟩ := cells5 HN3.out
        obtain ⟨⟨d0, d1, d2, d3, d4⟩, f0, f1, f2, f3, f4⟩ := cells5 HR3.out
        go_wp2_with (go_at_call 26; refine hrk.mono ?_; rintro e w4 ⟨rfl, hw4⟩; have hw5 := hw4.symm; subst hw5)
        have hW := (heap_setCell (j := 4) (heap_setCell (j := 3) (heap_setCell (j := 2) (heap_setCell (j := 1) (heap_setCell (j := 0) HR3.out (.int .i64 0)) (.int .i64 0)) (.slice none 0 0)) (.slice none 0 0)) (.string ⟨#[]⟩))
        have hgS := (Qh (Qh (Qh (Qh (Qg wr (w.heap.size + 1) 0 (.int .i64 0)) (Qg _ (w.heap.size + 1) 1 (.int .i64 0))) (Qg _ (w.heap.size + 1) 2 (.slice none 0 0))) (Qg _ (w.heap.size + 1) 3 (.slice none 0 0))) (Qg _ (w.heap.size + 1) 4 (.string ⟨#[]⟩)))
        have hbE := hb3.grown hgS hb3.size (fun k e => by have := Option.some.inj e; omega)
        refine bodyPost_ret (QT rfl _ _ (w.heap.size + 1) _ rfl rfl hW) rfl ⟨_, by rw [HT.out]; rfl, ?_, hbE⟩
        exact fun w'' _ => by rw [HT.out]; exact ⟨_, _, rfl, LabAt.nil _ _ _ (fun _ => rfl), IntsAt.nil _ _ _ (fun _ => rfl)⟩
     · have hI : ¬ ((k : Int) < (c.grants.length : Int)) := by omega
       have hal : c.grants.all (th.own.contains ·) = true := List.all_eq_true.2 (fun x hx => by obtain ⟨j, hj, rfl⟩ := List.mem_iff_getElem.1 hx; exact HALL.out j (by omega) hj)
       have hfl := QF (.slice p0 th.label.length c0) (.slice p2 c.label.length cl2) (.slice p1 th.own.length c1) th.label c.label th.own wr (HRL.out.below hb3) (hL2.below hbr) (HRO.out.below hb3) hwf hgd
       obtain ⟨⟨m0, m1, m2, m3, m4⟩, _⟩ := cells5 HM3.out
       cases hF : flowsL th.label c.label th.own with
       | true =>
        rw [hF] at hfl
        have HT : Hid (letterL K t c = (letterM K t c th, 0)) := hid (by
         have e0 : mayL th (letterM K t c th) = 0 := by rw [HMY.out, if_pos HE.out, if_pos hal, if_pos hF]
         rw [HLT.out, if_pos e0])
        clear hrin hF hal hI
        go_wp2_with (go_at_call 27; refine hfl.mono ?_; rintro e w4 ⟨rfl, hw4⟩; have HR4 := hid (Qc HR3.out hw4); have HM4 := hid (Qc HM3.out hw4); have hb4 := Qd hb3 hw4; clear m0 m1 m2 m3 m4; obtain ⟨⟨m0, m1, m2, m3, m4⟩, _⟩ := cells5 HM4.out; obtain ⟨⟨d0, d1, d2, d3, d4⟩, f0, f1, f2, f3, f4⟩ := cells5 HR4.out)
        have hW := (heap_setCell (j := 4) (heap_setCell (j := 3) (heap_setCell (j := 2) (heap_setCell (j := 1) (heap_setCell (j := 0) HR4.out (.int .i64 K.host)) (.int .i64 t)) (.slice p2 c.label.length cl2)) (.slice q2 c.grants.length cg2)) (.string ⟨(lastL (th.text ++ c.text)).toArray⟩))
        have hgS := (Qh (Qh (Qh (Qh (Qg w4 (w.heap.size + 1) 0 (.int .i64 K.host)) (Qg _ (w.heap.size + 1) 1 (.int .i64 t))) (Qg _ (w.heap.size + 1) 2 (.slice p2 c.label.length cl2))) (Qg _ (w.heap.size + 1) 3 (.slice q2 c.grants.length cg2))) (Qg _ (w.heap.size + 1) 4 (.string ⟨(lastL (th.text ++ c.text)).toArray⟩)))
        have hbE := hb4.grown hgS hb4.size (fun k e => by have := Option.some.inj e; omega)
        refine bodyPost_ret (QT rfl _ _ (w.heap.size + 1) _ rfl rfl hW) rfl ⟨_, by rw [HT.out]; rfl, ?_, hbE⟩
        intro w'' ho
        rw [HT.out]
        have hsx := hb1.size
        have hsy := hw2.size
        have hsz := hbr.size
        have hs4 := HS4.out
        exact HMS.out w'' (((Q8 hw2).trans ((Q8 hbr).trans ((Q8 hw4).trans (Qaj hgS (by omega)) hw4.size) hbr.size) hw2.size).trans (ho.mono (by omega)) (by have := hgS.size; have := hw4.size; omega))
       | false =>
        rw [hF] at hfl
        have HT : Hid (letterL K t c = (zeroMal, 6)) := hid (by
         have e6 : mayL th (letterM K t c th) = 6 := by rw [HMY.out, if_pos HE.out, if_pos hal, if_neg (by rw [hF]; simp)]
         rw [HLT.out, e6]; rfl)
        clear hrin hF hal hI
        go_wp2_with (go_at_call 27; refine hfl.mono ?_; rintro e w4 ⟨rfl, hw4⟩; have HR4 := hid (Qc HR3.out hw4); have HN4 := hid (Qc HN3.out hw4); have hb4 := Qd hb3 hw4; obtain ⟨⟨n0, n1, n2, n3, n4⟩, _⟩ := cells5 HN4.out; obtain ⟨⟨d0, d1, d2, d3, d4⟩, f0, f1, f2, f3, f4⟩ := cells5 HR4.out)
        have hW := (heap_setCell (j := 4) (heap_setCell (j := 3) (heap_setCell (j := 2) (heap_setCell (j := 1) (heap_setCell (j := 0) HR4.out (.int .i64 0)) (.int .i64 0)) (.slice none 0 0)) (.slice none 0 0)) (.string ⟨#[]⟩))
        have hgS := (Qh (Qh (Qh (Qh (Qg w4 (w.heap.size + 1) 0 (.int .i64 0)) (Qg _ (w.heap.size + 1) 1 (.int .i64 0))) (Qg _ (w.heap.size + 1) 2 (.slice none 0 0))) (Qg _ (w.heap.size + 1) 3 (.slice none 0 0))) (Qg _ (w.heap.size + 1) 4 (.string ⟨#[]⟩)))
        have hbE := hb4.grown hgS hb4.size (fun k e => by have := Option.some.inj e; omega)
        refine bodyPost_ret (QT rfl _ _ (w.heap.size + 1) _ rfl rfl hW) rfl ⟨_, by rw [HT.out]; rfl, ?_, hbE⟩
        exact fun w'' _ => by rw [HT.out]; exact ⟨_, _, rfl, LabAt.nil _ _ _ (fun _ => rfl), IntsAt.nil _ _ _ (fun _ => rfl)⟩
  · have HT : Hid (letterL K t c = (zeroMal, mailE (letterM K t c th))) := hid (by
     have e : mayL th (letterM K t c th) = mailE (letterM K t c th) := by rw [HMY.out, if_neg hE]
     rw [HLT.out, e, if_neg hE])
    have hEb : (mailE (letterM K t c th) == 0) = false := beq_eq_false_iff_ne.2 hE
    clear hE hlg
    obtain ⟨⟨n0, n1, n2, n3, n4⟩, _⟩ := cells5 HN2.out
    obtain ⟨⟨d0, d1, d2, d3, d4⟩, f0, f1, f2, f3, f4⟩ := cells5 HR2.out
    generalize mailE (letterM K t c th) = cE at *
    go_wp2
    have hW := (heap_setCell (j := 4) (heap_setCell (j := 3) (heap_setCell (j := 2) (heap_setCell (j := 1) (heap_setCell (j := 0) HR2.out (.int .i64 0)) (.int .i64 0)) (.slice none 0 0)) (.slice none 0 0)) (.string ⟨#[]⟩))
    have hgS := (Qh (Qh (Qh (Qh (Qg w2 (w.heap.size + 1) 0 (.int .i64 0)) (Qg _ (w.heap.size + 1) 1 (.int .i64 0))) (Qg _ (w.heap.size + 1) 2 (.slice none 0 0))) (Qg _ (w.heap.size + 1) 3 (.slice none 0 0))) (Qg _ (w.heap.size + 1) 4 (.string ⟨#[]⟩)))
    have hbE := hb2.grown hgS hb2.size (fun k e => by have := Option.some.inj e; omega)
    refine bodyPost_ret (QT rfl _ _ (w.heap.size + 1) _ rfl rfl hW) rfl ⟨_, by rw [HT.out]; rfl, ?_, hbE⟩
    exact fun w'' _ => by rw [HT.out]; exact ⟨_, _, rfl, LabAt.nil _ _ _ (fun _ => rfl), IntsAt.nil _ _ _ (fun _ => rfl)⟩
end Go.Proofs.Ytpdijobakfpnbaa
