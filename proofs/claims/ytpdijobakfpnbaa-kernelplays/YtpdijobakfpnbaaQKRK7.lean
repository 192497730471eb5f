/- The reference's Call: KRK7 (written by genrcall.py). -/
import Derived.Test.YtpdijobakfpnbaaQKRCallL
namespace Go.Proofs.Ytpdijobakfpnbaa
open Go.RowKit Go.Proofs.Parclose
theorem Qeg (args : Array Value) (w : World) : (callFunc 24 args).run Try.prog w = .ok (.enter 24 args) w := by kernel_rfl
theorem QeE {w : World} {ops : Array Oper} {o : Oper} {a0 : Act} {K : Act → World → Prop} {Q : Exit → Act → World → Prop} {E : Prop} (hgd : o.guard = none) (x : Operand) (ats : Array TypeId)
 (ho : o.op = .call { callee := .value (.func 24), args := #[x], argTypes := ats }) (s : List UInt8) (hx : a0.eval x = .string ⟨s.toArray⟩) (hs : s.length < 4611686018427387904)
 (h : K (a0.put o.dst (.string ⟨(lastL s).toArray⟩)) w) :
 if Region.wanted o (yielded ops a0.tmps) = true then Oper.wp Try.prog o a0 w K Q else E := by
 have hw : Region.wanted o (yielded ops a0.tmps) = true := by simp [Region.wanted, hgd]
 rw [if_pos hw]
 unfold Oper.wp
 obtain ⟨dst, op, ty, pos, after, guard⟩ := o
 simp only at ho
 subst ho
 rw [execOp_call_go]
 have e : (#[] ++ #[x].map a0.eval ++ #[] : Array Value) = #[.string ⟨s.toArray⟩] := by simp [hx]
 rw [e, Qeg, Oper.upon_enter]
 refine (QaQ s w hs).mono ?_
 rintro e w' ⟨rfl, rfl⟩
 exact h
theorem RoLab.put {w : World} {F : List Nat} {v : Value} {l : List (Int × Int)} (h : RoLab w F v l) {b : Nat} (hb : b ∈ F) (j : Nat) (u : Value) : RoLab (w.setCell ⟨b, j, none⟩ u) F v l :=
 h.keep ((QK w b j u (by simp : b ∈ [b])).sub fun k e => .inl (by rw [List.mem_singleton] at e; subst e; exact hb)) (More.refl _ _)
theorem RoInts.put {w : World} {F : List Nat} {v : Value} {l : List Int} (h : RoInts w F v l) {b : Nat} (hb : b ∈ F) (j : Nat) (u : Value) : RoInts (w.setCell ⟨b, j, none⟩ u) F v l :=
 h.keep ((QK w b j u (by simp : b ∈ [b])).sub fun k e => .inl (by rw [List.mem_singleton] at e; subst e; exact hb)) (More.refl _ _)
set_option linter.unusedSimpArgs false in
set_option maxRecDepth 100000 in
set_option maxHeartbeats 6400000 in
theorem QgO (rb t : Nat) (F : List Nat) (V : List ThrV) (K : Ker) (v : Value) (c : Cal) (w : World) (h : RKerAt w rb F V K) (h1 : t < V.length) (h2 : t < K.ths.length) (hv : CalAt w v c) (hx : c.text.length ≤ 64) (hk : c.kind = 7) (hg : GoodK K) :
 Calls Try.prog 14 #[.pointer (some ⟨rb, 0, none⟩), .int .i64 t, v] w fun e w' => e = .returned (repV (callT K t K.ths[t] c).2) ∧ ∃ G V', RKerAt w' rb G V' (callT K t K.ths[t] c).1 ∧ RStep rb w F V w' G V' := by
 have ht : t < 4 := by have := h.len; omega
 have hf : hostB t = true := by unfold hostB; simp; omega
 have hfour := Qj t
 rw [hf] at hfour
 have hx1 : ¬ ((64 : Int) < (c.text.length : Int)) := by omega
 have hti : (t : Int) < 4 := by omega
 obtain ⟨vl, vg, rfl, hvl, hvg⟩ := hv
 obtain ⟨pl, cl, rfl, _⟩ := id hvl
 obtain ⟨pg, cg, rfl, _⟩ := id hvg
 have HVL := hid hvl
 have HVG := hid hvg
 unfold calV
 clear hvl hvg
 rw [hk]
 go_enter Try.func14, Try.ntmps14
 go_upto_region 2 with fail
 have hb0 : Below w.heap.size w ((w.alloc (.cells #[.int .i64 7, .int .i64 c.h, .int .i64 c.t, .int .i64 c.n, .int .i64 c.c, .slice pl c.label.length cl, .slice pg c.grants.length cg, .string ⟨c.text.toArray⟩] 40)).alloc (.cells #[.int .i64 0, .int .i64 0, .string ⟨#[]⟩] 52)) := (Qe w _).alloc (by simp) _
 have HB0 : Hid (((w.alloc (.cells #[.int .i64 7, .int .i64 c.h, .int .i64 c.t, .int .i64 c.n, .int .i64 c.c, .slice pl c.label.length cl, .slice pg c.grants.length cg, .string ⟨c.text.toArray⟩] 40)).alloc (.cells #[.int .i64 0, .int .i64 0, .string ⟨#[]⟩] 52)).heap[w.heap.size]? = some (.cells #[.int .i64 7, .int .i64 c.h, .int .i64 c.t, .int .i64 c.n, .int .i64 c.c, .slice pl c.label.length cl, .slice pg c.grants.length cg, .string ⟨c.text.toArray⟩] 40 (0, 0))) := hid (QI (heap_alloc_new w _) _)
 have HR0 : Hid (((w.alloc (.cells #[.int .i64 7, .int .i64 c.h, .int .i64 c.t, .int .i64 c.n, .int .i64 c.c, .slice pl c.label.length cl, .slice pg c.grants.length cg, .string ⟨c.text.toArray⟩] 40)).alloc (.cells #[.int .i64 0, .int .i64 0, .string ⟨#[]⟩] 52)).heap[w.heap.size + 1]? = some (.cells #[.int .i64 0, .int .i64 0, .string ⟨#[]⟩] 52 (0, 0))) := hid (by have := heap_alloc_new (w.alloc (.cells #[.int .i64 7, .int .i64 c.h, .int .i64 c.t, .int .i64 c.n, .int .i64 c.c, .slice pl c.label.length cl, .slice pg c.grants.length cg, .string ⟨c.text.toArray⟩] 40)) (.cells #[.int .i64 0, .int .i64 0, .string ⟨#[]⟩] 52); simpa using this)
 have RK0 : Hid (RKerAt ((w.alloc (.cells #[.int .i64 7, .int .i64 c.h, .int .i64 c.t, .int .i64 c.n, .int .i64 c.c, .slice pl c.label.length cl, .slice pg c.grants.length cg, .string ⟨c.text.toArray⟩] 40)).alloc (.cells #[.int .i64 0, .int .i64 0, .string ⟨#[]⟩] 52)) rb (F ++ [w.heap.size + 1]) V K) := hid (by have := (h.below (Qe w (.cells #[.int .i64 7, .int .i64 c.h, .int .i64 c.t, .int .i64 c.n, .int .i64 c.c, .slice pl c.label.length cl, .slice pg c.grants.length cg, .string ⟨c.text.toArray⟩] 40))).reserve (.cells #[.int .i64 0, .int .i64 0, .string ⟨#[]⟩] 52); simpa using this)
 have RS0 : Hid (RStep rb w F V ((w.alloc (.cells #[.int .i64 7, .int .i64 c.h, .int .i64 c.t, .int .i64 c.n, .int .i64 c.c, .slice pl c.label.length cl, .slice pg c.grants.length cg, .string ⟨c.text.toArray⟩] 40)).alloc (.cells #[.int .i64 0, .int .i64 0, .string ⟨#[]⟩] 52)) (F ++ [w.heap.size + 1]) V) := hid (by have := (RStep.below (rb := rb) (F := F) (V := V) (Qe w (.cells #[.int .i64 7, .int .i64 c.h, .int .i64 c.t, .int .i64 c.n, .int .i64 c.c, .slice pl c.label.length cl, .slice pg c.grants.length cg, .string ⟨c.text.toArray⟩] 40))).trans (RStep.reserve rb (w.alloc (.cells #[.int .i64 7, .int .i64 c.h, .int .i64 c.t, .int .i64 c.n, .int .i64 c.c, .slice pl c.label.length cl, .slice pg c.grants.length cg, .string ⟨c.text.toArray⟩] 40)) F V (.cells #[.int .i64 0, .int .i64 0, .string ⟨#[]⟩] 52)); simpa using this)
 generalize ((w.alloc (.cells #[.int .i64 7, .int .i64 c.h, .int .i64 c.t, .int .i64 c.n, .int .i64 c.c, .slice pl c.label.length cl, .slice pg c.grants.length cg, .string ⟨c.text.toArray⟩] 40)).alloc (.cells #[.int .i64 0, .int .i64 0, .string ⟨#[]⟩] 52)) = w0 at *
 have b7 : w0.cell? ⟨w.heap.size, 7, none⟩ = some (.string ⟨c.text.toArray⟩) := by rw [Qa HB0.out]; rfl
 go_upto_region 7 with (go_at_call 23; refine (hfour _).mono ?_; rintro e w1 ⟨rfl, hw1⟩; rw [hw1]; clear hw1 w1)
 go_cut [9] (fun v9 wx => v9 = .bool (objAt K c.t c.n).isSome ∧ Below w0.heap.size w0 wx)
 case first =>
  as_aux_lemma =>
   cases hct : hostB c.t with
   | false =>
    have hob := hid (QP (n := c.n) h.lenK hct)
    have hfc := Qj c.t
    rw [hct] at hfc
    have HS : Hid (∀ w', Below w0.heap.size w0 w' → w'.cell? ⟨w.heap.size, 2, none⟩ = some (.int .i64 c.t) ∧ w'.cell? ⟨w.heap.size, 3, none⟩ = some (.int .i64 c.n)) := hid (fun w' hb => ⟨by rw [Qa (Qc HB0.out hb)]; rfl, by rw [Qa (Qc HB0.out hb)]; rfl⟩)
    refine wp_region_held_drew (S := (fun w' => w'.cell? ⟨w.heap.size, 2, none⟩ = some (.int .i64 c.t) ∧ w'.cell? ⟨w.heap.size, 3, none⟩ = some (.int .i64 c.n))) (by as_aux_lemma => kernel_rfl) (HS.out _ (Below.refl _ _).drew) (fun _ => ?_)
    refine takeF 0 37 ?v371 rfl (Or.inl ⟨by rfl, ?hy371⟩) ?rest371
    case hy371 => intro wz hSw; (try dsimp only at hSw); go_simp; try with_reducible rfl
    simp only [Act.put, List.setIfInBounds_toArray, List.set_cons_zero, List.set_cons_succ]
    refine takeF 1 38 ?v372 rfl (Or.inl ⟨by rfl, ?hy372⟩) ?rest372
    case hy372 => intro wz hSw; (try dsimp only at hSw); go_simp; try with_reducible rfl
    simp only [Act.put, List.setIfInBounds_toArray, List.set_cons_zero, List.set_cons_succ]
    refine wpAnyH_ready (rs := [2]) (by as_aux_lemma => kernel_rfl) (by simp) ?_
    refine (AllReadyH.cons rfl (fun K' hK => ?_) AllReadyH.nil)
    go_simp
    go_wp2_with (go_at_call 23; refine (hfc _).mono ?_; rintro e w1 ⟨rfl, hwl⟩; have hb1 : Below w0.heap.size w0 w1 := (by rw [hwl]; first | exact Below.refl _ _ | exact (Below.refl _ _).drew); clear hwl)
    refine hK.out _ _ (HS.out _ hb1) (fun _ => ?_)
    clear hK K'
    refine takeF 3 40 ?v373 rfl (Or.inl ⟨by rfl, ?hy373⟩) ?rest373
    case hy373 => intro wz hSw; (try dsimp only at hSw); go_simp; try with_reducible rfl
    simp only [Act.put, List.setIfInBounds_toArray, List.set_cons_zero, List.set_cons_succ]
    refine skipF 4 41 rfl ?_
    simp only [Act.put, List.setIfInBounds_toArray, List.set_cons_zero, List.set_cons_succ]
    refine skipF 5 42 rfl ?_
    simp only [Act.put, List.setIfInBounds_toArray, List.set_cons_zero, List.set_cons_succ]
    refine skipF 6 43 rfl ?_
    simp only [Act.put, List.setIfInBounds_toArray, List.set_cons_zero, List.set_cons_succ]
    refine takeF 7 44 ?v374 rfl (Or.inl ⟨by rfl, ?hy374⟩) ?rest374
    case hy374 => intro wz hSw; (try dsimp only at hSw); go_simp; try with_reducible rfl
    simp only [Act.put, List.setIfInBounds_toArray, List.set_cons_zero, List.set_cons_succ]
    refine takeF 8 45 ?v375 rfl (Or.inl ⟨by rfl, ?hy375⟩) ?rest375
    case hy375 => intro wz hSw; (try dsimp only at hSw); go_simp; try with_reducible rfl
    simp only [Act.put, List.setIfInBounds_toArray, List.set_cons_zero, List.set_cons_succ]
    refine skipF 9 46 rfl ?_
    simp only [Act.put, List.setIfInBounds_toArray, List.set_cons_zero, List.set_cons_succ]
    refine skipF 10 47 rfl ?_
    simp only [Act.put, List.setIfInBounds_toArray, List.set_cons_zero, List.set_cons_succ]
    refine skipF 11 48 rfl ?_
    simp only [Act.put, List.setIfInBounds_toArray, List.set_cons_zero, List.set_cons_succ]
    refine skipF 12 49 rfl ?_
    simp only [Act.put, List.setIfInBounds_toArray, List.set_cons_zero, List.set_cons_succ]
    refine skipF 13 50 rfl ?_
    simp only [Act.put, List.setIfInBounds_toArray, List.set_cons_zero, List.set_cons_succ]
    refine skipF 14 51 rfl ?_
    simp only [Act.put, List.setIfInBounds_toArray, List.set_cons_zero, List.set_cons_succ]
    refine skipF 15 52 rfl ?_
    simp only [Act.put, List.setIfInBounds_toArray, List.set_cons_zero, List.set_cons_succ]
    refine skipF 16 53 rfl ?_
    simp only [Act.put, List.setIfInBounds_toArray, List.set_cons_zero, List.set_cons_succ]
    refine skipF 17 54 rfl ?_
    simp only [Act.put, List.setIfInBounds_toArray, List.set_cons_zero, List.set_cons_succ]
    refine skipF 18 55 rfl ?_
    simp only [Act.put, List.setIfInBounds_toArray, List.set_cons_zero, List.set_cons_succ]
    refine skipF 19 56 rfl ?_
    simp only [Act.put, List.setIfInBounds_toArray, List.set_cons_zero, List.set_cons_succ]
    refine skipF 20 57 rfl ?_
    simp only [Act.put, List.setIfInBounds_toArray, List.set_cons_zero, List.set_cons_succ]
    refine skipF 21 58 rfl ?_
    simp only [Act.put, List.setIfInBounds_toArray, List.set_cons_zero, List.set_cons_succ]
    refine takeF 22 59 ?v376 rfl (Or.inl ⟨by rfl, ?hy376⟩) ?rest376
    case hy376 => intro wz hSw; (try dsimp only at hSw); go_simp; try with_reducible rfl
    simp only [Act.put, List.setIfInBounds_toArray, List.set_cons_zero, List.set_cons_succ]
    refine takeF 23 9 ?v377 rfl (Or.inl ⟨by rfl, ?hy377⟩) ?rest377
    case hy377 => intro wz hSw; (try dsimp only at hSw); go_simp; try with_reducible rfl
    simp only [Act.put, List.setIfInBounds_toArray, List.set_cons_zero, List.set_cons_succ]
    refine wpAnyH_done (by as_aux_lemma => kernel_rfl) ?_ _
    go_wp2_with fail
    go_meet
    exact ⟨by rw [hob.out]; rfl, hb1⟩
   | true =>
    have hfc := Qj c.t
    rw [hct] at hfc
    by_cases hn : 0 ≤ c.n
    · skip
      obtain ⟨u, hu⟩ : ∃ u : Nat, c.t = u := ⟨c.t.toNat, by unfold hostB at hct; simp at hct; omega⟩
      have hu4 : u < 4 := by unfold hostB at hct; simp at hct; omega
      have huV : u < V.length := by rw [h.len]; exact hu4
      have huK : u < K.ths.length := by rw [h.lenK]; exact hu4
      have hob : (objAt K c.t c.n).isSome = decide (c.n < (K.ths[u].objs.length : Int)) := Q2 huK hu hn
      have HOB := hid hob
      rw [hu] at hfc
      clear hob
      obtain ⟨C, hC, _, _, _, hcc⟩ := RK0.out.box
      obtain ⟨_, _, _, q3, _⟩ := hcc u huV huK
      obtain ⟨_, _, ⟨_, _, hoj, _⟩, _⟩ := RK0.out.thr u huV huK
      obtain ⟨pu, cu, eu⟩ := Qi hoj
      have hu3 : w0.cell? ⟨rb, 1 + u * 5 + 3, none⟩ = some (.slice pu K.ths[u].objs.length cu) := by rw [Qa hC, q3, eu]
      have hand : bits .and .i64 (u : Int) 3 = (u : Int) := and3 hu4
      have hui : (u : Int) < 4 := by omega
      have hu0 : ¬ ((u : Int) < 0) := by omega
      have HS : Hid (∀ w', Below w0.heap.size w0 w' → w'.cell? ⟨w.heap.size, 2, none⟩ = some (.int .i64 u) ∧ w'.cell? ⟨w.heap.size, 3, none⟩ = some (.int .i64 c.n) ∧ w'.cell? ⟨rb, 1 + u * 5 + 3, none⟩ = some (.slice pu K.ths[u].objs.length cu)) := hid (fun w' hb => ⟨by rw [Qa (Qc HB0.out hb)]; show some (Value.int .i64 c.t) = _; rw [hu], by rw [Qa (Qc HB0.out hb)]; rfl, by rw [hb.cell (Qb hu3), hu3]⟩)
      clear hC hcc q3 hoj eu hu
      refine wp_region_held_drew (S := (fun w' => w'.cell? ⟨w.heap.size, 2, none⟩ = some (.int .i64 u) ∧ w'.cell? ⟨w.heap.size, 3, none⟩ = some (.int .i64 c.n) ∧ w'.cell? ⟨rb, 1 + u * 5 + 3, none⟩ = some (.slice pu K.ths[u].objs.length cu))) (by as_aux_lemma => kernel_rfl) (HS.out _ (Below.refl _ _).drew) (fun _ => ?_)
      refine takeF 0 37 ?v378 rfl (Or.inl ⟨by rfl, ?hy378⟩) ?rest378
      case hy378 => intro wz hSw; (try dsimp only at hSw); go_simp; try with_reducible rfl
      simp only [Act.put, List.setIfInBounds_toArray, List.set_cons_zero, List.set_cons_succ]
      refine takeF 1 38 ?v379 rfl (Or.inl ⟨by rfl, ?hy379⟩) ?rest379
      case hy379 => intro wz hSw; (try dsimp only at hSw); go_simp; try with_reducible rfl
      simp only [Act.put, List.setIfInBounds_toArray, List.set_cons_zero, List.set_cons_succ]
      refine wpAnyH_ready (rs := [2]) (by as_aux_lemma => kernel_rfl) (by simp) ?_
      refine (AllReadyH.cons rfl (fun K' hK => ?_) AllReadyH.nil)
      go_simp
      go_wp2_with (go_at_call 23; refine (hfc _).mono ?_; rintro e w1 ⟨rfl, hwl⟩; have hb1 : Below w0.heap.size w0 w1 := (by rw [hwl]; first | exact Below.refl _ _ | exact (Below.refl _ _).drew); clear hwl)
      refine hK.out _ _ (HS.out _ hb1) (fun _ => ?_)
      clear hK K'
      refine takeF 3 40 ?v380 rfl (Or.inl ⟨by rfl, ?hy380⟩) ?rest380
      case hy380 => intro wz hSw; (try dsimp only at hSw); go_simp; try with_reducible rfl
      simp only [Act.put, List.setIfInBounds_toArray, List.set_cons_zero, List.set_cons_succ]
      refine takeF 4 41 ?v381 rfl (Or.inl ⟨by rfl, ?hy381⟩) ?rest381
      case hy381 => intro wz hSw; (try dsimp only at hSw); go_simp; try with_reducible rfl
      simp only [Act.put, List.setIfInBounds_toArray, List.set_cons_zero, List.set_cons_succ]
      refine takeF 5 42 ?v382 rfl (Or.inl ⟨by rfl, ?hy382⟩) ?rest382
      case hy382 => intro wz hSw; (try dsimp only at hSw); go_simp; try with_reducible rfl
      simp only [Act.put, List.setIfInBounds_toArray, List.set_cons_zero, List.set_cons_succ]
      refine takeF 6 43 (.bool true) rfl (Or.inl ⟨by rfl, ?hy383⟩) ?rest383
      case hy383 => intro wz hSw; (try dsimp only at hSw); go_simp; try simp [hn]
      simp only [Act.put, List.setIfInBounds_toArray, List.set_cons_zero, List.set_cons_succ]
      refine takeF 7 44 ?v384 rfl (Or.inl ⟨by rfl, ?hy384⟩) ?rest384
      case hy384 => intro wz hSw; (try dsimp only at hSw); go_simp; try with_reducible rfl
      simp only [Act.put, List.setIfInBounds_toArray, List.set_cons_zero, List.set_cons_succ]
      refine takeF 8 45 ?v385 rfl (Or.inl ⟨by rfl, ?hy385⟩) ?rest385
      case hy385 => intro wz hSw; (try dsimp only at hSw); go_simp; try with_reducible rfl
      simp only [Act.put, List.setIfInBounds_toArray, List.set_cons_zero, List.set_cons_succ]
      refine takeF 9 46 ?v386 rfl (Or.inl ⟨by rfl, ?hy386⟩) ?rest386
      case hy386 => intro wz hSw; (try dsimp only at hSw); go_simp; try with_reducible rfl
      simp only [Act.put, List.setIfInBounds_toArray, List.set_cons_zero, List.set_cons_succ]
      refine takeF 10 47 ?v387 rfl (Or.inl ⟨by rfl, ?hy387⟩) ?rest387
      case hy387 => intro wz hSw; (try dsimp only at hSw); go_simp; try with_reducible rfl
      simp only [Act.put, List.setIfInBounds_toArray, List.set_cons_zero, List.set_cons_succ]
      refine takeF 11 48 ?v388 rfl (Or.inl ⟨by rfl, ?hy388⟩) ?rest388
      case hy388 => intro wz hSw; (try dsimp only at hSw); go_simp; try with_reducible rfl
      simp only [Act.put, List.setIfInBounds_toArray, List.set_cons_zero, List.set_cons_succ]
      refine takeF 12 49 ?v389 rfl (Or.inl ⟨by rfl, ?hy389⟩) ?rest389
      case hy389 => intro wz hSw; (try dsimp only at hSw); go_simp; try with_reducible rfl
      simp only [Act.put, List.setIfInBounds_toArray, List.set_cons_zero, List.set_cons_succ]
      refine takeF 13 50 ?v390 rfl (Or.inl ⟨by rfl, ?hy390⟩) ?rest390
      case hy390 => intro wz hSw; (try dsimp only at hSw); go_simp; try with_reducible rfl
      simp only [Act.put, List.setIfInBounds_toArray, List.set_cons_zero, List.set_cons_succ]
      refine takeF 14 51 (.int .i64 u) rfl (Or.inl ⟨by rfl, ?hy391⟩) ?rest391
      case hy391 => intro wz hSw; (try dsimp only at hSw); go_simp; try simp [hand]
      simp only [Act.put, List.setIfInBounds_toArray, List.set_cons_zero, List.set_cons_succ]
      refine takeF 15 52 ?v392 rfl (Or.inl ⟨by rfl, ?hy392⟩) ?rest392
      case hy392 => intro wz hSw; (try dsimp only at hSw); go_simp; try with_reducible rfl
      simp only [Act.put, List.setIfInBounds_toArray, List.set_cons_zero, List.set_cons_succ]
      refine takeF 16 53 ?v393 rfl (Or.inl ⟨by rfl, ?hy393⟩) ?rest393
      case hy393 => intro wz hSw; (try dsimp only at hSw); go_simp; try with_reducible rfl
      simp only [Act.put, List.setIfInBounds_toArray, List.set_cons_zero, List.set_cons_succ]
      refine takeF 17 54 (.pointer (some ⟨rb, 1 + u * 5, none⟩)) rfl (Or.inl ⟨by rfl, ?hy394⟩) ?rest394
      case hy394 => intro wz hSw; (try dsimp only at hSw); go_simp; try simp [hui, hu0, hu4]
      simp only [Act.put, List.setIfInBounds_toArray, List.set_cons_zero, List.set_cons_succ]
      refine takeF 18 55 ?v395 rfl (Or.inl ⟨by rfl, ?hy395⟩) ?rest395
      case hy395 => intro wz hSw; (try dsimp only at hSw); go_simp; try with_reducible rfl
      simp only [Act.put, List.setIfInBounds_toArray, List.set_cons_zero, List.set_cons_succ]
      refine takeF 19 56 ?v396 rfl (Or.inl ⟨by rfl, ?hy396⟩) ?rest396
      case hy396 => intro wz hSw; (try dsimp only at hSw); go_simp; try with_reducible rfl
      simp only [Act.put, List.setIfInBounds_toArray, List.set_cons_zero, List.set_cons_succ]
      refine takeF 20 57 ?v397 rfl (Or.inl ⟨by rfl, ?hy397⟩) ?rest397
      case hy397 => intro wz hSw; (try dsimp only at hSw); go_simp; try with_reducible rfl
      simp only [Act.put, List.setIfInBounds_toArray, List.set_cons_zero, List.set_cons_succ]
      refine takeF 21 58 ?v398 rfl (Or.inl ⟨by rfl, ?hy398⟩) ?rest398
      case hy398 => intro wz hSw; (try dsimp only at hSw); go_simp; try with_reducible rfl
      simp only [Act.put, List.setIfInBounds_toArray, List.set_cons_zero, List.set_cons_succ]
      refine takeF 22 59 ?v399 rfl (Or.inl ⟨by rfl, ?hy399⟩) ?rest399
      case hy399 => intro wz hSw; (try dsimp only at hSw); go_simp; try with_reducible rfl
      simp only [Act.put, List.setIfInBounds_toArray, List.set_cons_zero, List.set_cons_succ]
      refine takeF 23 9 ?v400 rfl (Or.inl ⟨by rfl, ?hy400⟩) ?rest400
      case hy400 => intro wz hSw; (try dsimp only at hSw); go_simp; try with_reducible rfl
      simp only [Act.put, List.setIfInBounds_toArray, List.set_cons_zero, List.set_cons_succ]
      refine wpAnyH_done (by as_aux_lemma => kernel_rfl) ?_ _
      go_wp2_with fail
      go_meet
      exact ⟨by rw [HOB.out], hb1⟩
    · skip
      have hob := hid (QQ (K := K) (t := c.t) hn)
      have HS : Hid (∀ w', Below w0.heap.size w0 w' → w'.cell? ⟨w.heap.size, 2, none⟩ = some (.int .i64 c.t) ∧ w'.cell? ⟨w.heap.size, 3, none⟩ = some (.int .i64 c.n)) := hid (fun w' hb => ⟨by rw [Qa (Qc HB0.out hb)]; rfl, by rw [Qa (Qc HB0.out hb)]; rfl⟩)
      refine wp_region_held_drew (S := (fun w' => w'.cell? ⟨w.heap.size, 2, none⟩ = some (.int .i64 c.t) ∧ w'.cell? ⟨w.heap.size, 3, none⟩ = some (.int .i64 c.n))) (by as_aux_lemma => kernel_rfl) (HS.out _ (Below.refl _ _).drew) (fun _ => ?_)
      refine takeF 0 37 ?v401 rfl (Or.inl ⟨by rfl, ?hy401⟩) ?rest401
      case hy401 => intro wz hSw; (try dsimp only at hSw); go_simp; try with_reducible rfl
      simp only [Act.put, List.setIfInBounds_toArray, List.set_cons_zero, List.set_cons_succ]
      refine takeF 1 38 ?v402 rfl (Or.inl ⟨by rfl, ?hy402⟩) ?rest402
      case hy402 => intro wz hSw; (try dsimp only at hSw); go_simp; try with_reducible rfl
      simp only [Act.put, List.setIfInBounds_toArray, List.set_cons_zero, List.set_cons_succ]
      refine wpAnyH_ready (rs := [2]) (by as_aux_lemma => kernel_rfl) (by simp) ?_
      refine (AllReadyH.cons rfl (fun K' hK => ?_) AllReadyH.nil)
      go_simp
      go_wp2_with (go_at_call 23; refine (hfc _).mono ?_; rintro e w1 ⟨rfl, hwl⟩; have hb1 : Below w0.heap.size w0 w1 := (by rw [hwl]; first | exact Below.refl _ _ | exact (Below.refl _ _).drew); clear hwl)
      refine hK.out _ _ (HS.out _ hb1) (fun _ => ?_)
      clear hK K'
      refine takeF 3 40 ?v403 rfl (Or.inl ⟨by rfl, ?hy403⟩) ?rest403
      case hy403 => intro wz hSw; (try dsimp only at hSw); go_simp; try with_reducible rfl
      simp only [Act.put, List.setIfInBounds_toArray, List.set_cons_zero, List.set_cons_succ]
      refine takeF 4 41 ?v404 rfl (Or.inl ⟨by rfl, ?hy404⟩) ?rest404
      case hy404 => intro wz hSw; (try dsimp only at hSw); go_simp; try with_reducible rfl
      simp only [Act.put, List.setIfInBounds_toArray, List.set_cons_zero, List.set_cons_succ]
      refine takeF 5 42 ?v405 rfl (Or.inl ⟨by rfl, ?hy405⟩) ?rest405
      case hy405 => intro wz hSw; (try dsimp only at hSw); go_simp; try with_reducible rfl
      simp only [Act.put, List.setIfInBounds_toArray, List.set_cons_zero, List.set_cons_succ]
      refine takeF 6 43 (.bool false) rfl (Or.inl ⟨by rfl, ?hy406⟩) ?rest406
      case hy406 => intro wz hSw; (try dsimp only at hSw); go_simp; try simp [hn]; try omega
      simp only [Act.put, List.setIfInBounds_toArray, List.set_cons_zero, List.set_cons_succ]
      refine takeF 7 44 ?v407 rfl (Or.inl ⟨by rfl, ?hy407⟩) ?rest407
      case hy407 => intro wz hSw; (try dsimp only at hSw); go_simp; try with_reducible rfl
      simp only [Act.put, List.setIfInBounds_toArray, List.set_cons_zero, List.set_cons_succ]
      refine takeF 8 45 ?v408 rfl (Or.inl ⟨by rfl, ?hy408⟩) ?rest408
      case hy408 => intro wz hSw; (try dsimp only at hSw); go_simp; try with_reducible rfl
      simp only [Act.put, List.setIfInBounds_toArray, List.set_cons_zero, List.set_cons_succ]
      refine skipF 9 46 rfl ?_
      simp only [Act.put, List.setIfInBounds_toArray, List.set_cons_zero, List.set_cons_succ]
      refine skipF 10 47 rfl ?_
      simp only [Act.put, List.setIfInBounds_toArray, List.set_cons_zero, List.set_cons_succ]
      refine skipF 11 48 rfl ?_
      simp only [Act.put, List.setIfInBounds_toArray, List.set_cons_zero, List.set_cons_succ]
      refine skipF 12 49 rfl ?_
      simp only [Act.put, List.setIfInBounds_toArray, List.set_cons_zero, List.set_cons_succ]
      refine skipF 13 50 rfl ?_
      simp only [Act.put, List.setIfInBounds_toArray, List.set_cons_zero, List.set_cons_succ]
      refine skipF 14 51 rfl ?_
      simp only [Act.put, List.setIfInBounds_toArray, List.set_cons_zero, List.set_cons_succ]
      refine skipF 15 52 rfl ?_
      simp only [Act.put, List.setIfInBounds_toArray, List.set_cons_zero, List.set_cons_succ]
      refine skipF 16 53 rfl ?_
      simp only [Act.put, List.setIfInBounds_toArray, List.set_cons_zero, List.set_cons_succ]
      refine skipF 17 54 rfl ?_
      simp only [Act.put, List.setIfInBounds_toArray, List.set_cons_zero, List.set_cons_succ]
      refine skipF 18 55 rfl ?_
      simp only [Act.put, List.setIfInBounds_toArray, List.set_cons_zero, List.set_cons_succ]
      refine skipF 19 56 rfl ?_
      simp only [Act.put, List.setIfInBounds_toArray, List.set_cons_zero, List.set_cons_succ]
      refine skipF 20 57 rfl ?_
      simp only [Act.put, List.setIfInBounds_toArray, List.set_cons_zero, List.set_cons_succ]
      refine skipF 21 58 rfl ?_
      simp only [Act.put, List.setIfInBounds_toArray, List.set_cons_zero, List.set_cons_succ]
      refine takeF 22 59 ?v409 rfl (Or.inl ⟨by rfl, ?hy409⟩) ?rest409
      case hy409 => intro wz hSw; (try dsimp only at hSw); go_simp; try with_reducible rfl
      simp only [Act.put, List.setIfInBounds_toArray, List.set_cons_zero, List.set_cons_succ]
      refine takeF 23 9 ?v410 rfl (Or.inl ⟨by rfl, ?hy410⟩) ?rest410
      case hy410 => intro wz hSw; (try dsimp only at hSw); go_simp; try with_reducible rfl
      simp only [Act.put, List.setIfInBounds_toArray, List.set_cons_zero, List.set_cons_succ]
      refine wpAnyH_done (by as_aux_lemma => kernel_rfl) ?_ _
      go_wp2_with fail
      go_meet
      exact ⟨by rw [hob.out]; rfl, hb1⟩
 case rest =>
  obtain ⟨rfl, hbc⟩ := hcut
  have HBC := hid (Qc HB0.out hbc)
  have HRC := hid (Qc HR0.out hbc)
  have RKC := hid (RK0.out.below hbc)
  have RSC := hid (RS0.out.trans (RStep.below hbc))
  have hbw := Qd hb0 hbc
  have a0 : wc.cell? ⟨w.heap.size, 0, none⟩ = some (.int .i64 7) := by rw [Qa HBC.out]; rfl
  have a7 : wc.cell? ⟨w.heap.size, 7, none⟩ = some (.string ⟨c.text.toArray⟩) := by rw [Qa HBC.out]; rfl
  obtain ⟨C, hC, _, hc0, hc21, hcc⟩ := RKC.out.box
  obtain ⟨d0, d1, d2, d3, d4⟩ := hcc t h1 h2
  have x2 : wc.cell? ⟨rb, 1 + t * 5 + 2, none⟩ = some (.string ⟨K.ths[t].text.toArray⟩) := by rw [Qa hC, d2]
  have xf2 := Qf hC (1 + t * 5 + 2)
  have HRB := hid hC
  clear hfour b7
  have hRK : RKerAt wc rb (F ++ [w.heap.size + 1]) V (inK K t K.ths[t]) := by rw [Qgy h2]; exact RKC.out
  have hTG := hg.ths _ (List.getElem_mem h2)
  obtain ⟨th, hth⟩ : ∃ th, K.ths[t] = th := ⟨_, rfl⟩
  have HT : Hid (callT K t K.ths[t] c = (inK K t (takeL th th.mails).1, (takeL th th.mails).2)) := hid (by rw [hth]; unfold callT inK; rw [if_neg (by omega), hk]; simp [QC])
  rw [hth] at hRK hTG
  have RK7 := hid hRK
  have hsO := hTG.sorted
  have hlO := hTG.own
  have hxl := hTG.text
  have hwf : WfL th.label := QO ((Qx _).2 hTG.label)
  have HMG := hid hTG.mail
  have HKB := hid RKC.out.kbF
  have NE := hid (Qcq HRB.out HRC.out (by decide))
  clear hC hc0 hc21 hcc d0 d1 d2 d3 d4 x2 xf2 hTG hg hth hRK
  have HHD : Hid (w.heap.size + 1 ∈ (F ++ [w.heap.size + 1])) := hid (by simp)
  go_wp2
  go_loopg [16] th.mails.length (fun n _ wr => ∃ (V1 : List ThrV) (ms : List Mal), ms.length ≤ n ∧ takeL th th.mails = takeL th ms ∧ (∀ m ∈ ms, mailE m = 0) ∧ wr.heap[w.heap.size + 1]? = some (.cells #[.int .i64 0, .int .i64 0, .string ⟨#[]⟩] 52 (0, 0)) ∧ RKerAt wr rb (F ++ [w.heap.size + 1]) V1 (inK K t { th with mails := ms }) ∧ RStep rb w F V wr (F ++ [w.heap.size + 1]) V1)
  case atStart => exact ⟨V, th.mails, Nat.le_refl _, rfl, HMG.out, HRC.out, RK7.out, RSC.out⟩
  case round =>
   clear HMG RK7 HRC RSC HRB HBC RKC a0 a7
   obtain ⟨V1, ms, hn, heq, hmg, hbx, hK, hS⟩ := hrel
   have HEQ := hid heq
   have HBX := hid hbx
   have HK := hid hK
   have HS := hid hS
   obtain ⟨h11, p0, p1, p4, c0, c1, c4, ev, ⟨z0, z1, z2, z4⟩, hLA, hOA, hRO, hRM, hfz⟩ := hK.cellsS h2
   dsimp only at z0 z1 z2 z4 ev hLA hOA hRO hRM
   have zf4 := hfz (1 + t * 5 + 4)
   have EV := hid ev
   clear heq hbx hS ev
   cases ms with
   | nil =>
    as_aux_lemma =>
     clear hK hRM hRO hLA hOA
     go_wp2_with (go_at_call 39; refine (Qw _ _).mono ?_; rintro e w9 ⟨rfl, hwd⟩; have hw9 : Below wr.heap.size wr w9 := (by first | exact hwd | exact kundrew hwd); have HR9 := hid (Qc HBX.out hw9); have HW9 := hid hw9; clear hw9 hwd; have g0 := Qa HR9.out 0; have g1 := Qa HR9.out 1; have g2 := Qa HR9.out 2; have gf0 := Qf HR9.out 0; have gf1 := Qf HR9.out 1; have gf2 := Qf HR9.out 2)
     have hend := Qt (w := w) (B := w.heap.size + 1) 4 0 [] HR9.out (by omega) HHD.out (HK.out.below HW9.out) (HS.out.trans (RStep.below HW9.out))
     rw [HT.out, HEQ.out]
     exact bodyPost_ret (results_cell_row rfl _ _ (w.heap.size + 1) 52 _ (0, 0) _ rfl hend.1 Try.underlying52 rfl (by kernel_rfl)) rfl ⟨rfl, _, _, hend.2.1, hend.2.2⟩
   | cons m r =>
    obtain ⟨g, a, cap, ul, ug, hv4, hcap, hrl, hrg, ⟨d0, d1, d2, d3, d4⟩, hrest⟩ := hRM.first
    obtain ⟨ep, ec⟩ : p4 = some ⟨g, a, none⟩ ∧ c4 = cap := by cases hv4; exact ⟨rfl, rfl⟩
    subst ep ec
    obtain ⟨pul, cul, rfl, _⟩ := id hrl.1
    obtain ⟨pug, cug, rfl, _⟩ := id hrg.1
    have hme := hmg m (by simp)
    have HMR : Hid (∀ x ∈ r, mailE x = 0) := hid (fun x hx => hmg x (List.mem_cons_of_mem _ hx))
    obtain ⟨⟨mh1, mh2⟩, ⟨mt1, mt2⟩, mx⟩ := Qdm hme
    have hwm : WfL m.label := Qbt hme
    have hrlt : rb < wr.heap.size := Qb z4
    have hglt : g < wr.heap.size := Qb d0
    have HC3 : Hid (∃ V2, RKerAt ((wr.setCell ⟨rb, 1 + t * 5 + 4, none⟩ (.slice (if c4 = 1 then some ⟨g, a, none⟩ else some ⟨g, a + 5, none⟩) r.length (c4 - 1))).alloc (.cells #[.int .i64 m.host, .int .i64 m.thread, .slice pul m.label.length cul, .slice pug m.grants.length cug, .string ⟨m.text.toArray⟩] 42)) rb (F ++ [w.heap.size + 1]) V2 (inK K t { th with mails := r }) ∧ RStep rb wr (F ++ [w.heap.size + 1]) V1 ((wr.setCell ⟨rb, 1 + t * 5 + 4, none⟩ (.slice (if c4 = 1 then some ⟨g, a, none⟩ else some ⟨g, a + 5, none⟩) r.length (c4 - 1))).alloc (.cells #[.int .i64 m.host, .int .i64 m.thread, .slice pul m.label.length cul, .slice pug m.grants.length cug, .string ⟨m.text.toArray⟩] 42)) (F ++ [w.heap.size + 1]) V2) := hid (by
     obtain ⟨V2, q1, q2⟩ := HK.out.cutS (v' := (.slice (if c4 = 1 then some ⟨g, a, none⟩ else some ⟨g, a + 5, none⟩) r.length (c4 - 1))) (ms := r) h11 h2 hrest (by rw [EV.out]; split <;> rfl)
     exact ⟨V2, q1.below (Qe _ _), q2.trans (RStep.below (Qe _ _))⟩)
    have HRL := hid ((RoLab.put hrl HKB.out (1 + t * 5 + 4) (.slice (if c4 = 1 then some ⟨g, a, none⟩ else some ⟨g, a + 5, none⟩) r.length (c4 - 1))).keep (Qk _ (Qe _ (.cells #[.int .i64 m.host, .int .i64 m.thread, .slice pul m.label.length cul, .slice pug m.grants.length cug, .string ⟨m.text.toArray⟩] 42))) (More.refl _ _))
    have HRG := hid ((RoInts.put hrg HKB.out (1 + t * 5 + 4) (.slice (if c4 = 1 then some ⟨g, a, none⟩ else some ⟨g, a + 5, none⟩) r.length (c4 - 1))).keep (Qk _ (Qe _ (.cells #[.int .i64 m.host, .int .i64 m.thread, .slice pul m.label.length cul, .slice pug m.grants.length cug, .string ⟨m.text.toArray⟩] 42))) (More.refl _ _))
    have HB3 : Hid (((wr.setCell ⟨rb, 1 + t * 5 + 4, none⟩ (.slice (if c4 = 1 then some ⟨g, a, none⟩ else some ⟨g, a + 5, none⟩) r.length (c4 - 1))).alloc (.cells #[.int .i64 m.host, .int .i64 m.thread, .slice pul m.label.length cul, .slice pug m.grants.length cug, .string ⟨m.text.toArray⟩] 42)).heap[wr.heap.size]? = some (.cells #[.int .i64 m.host, .int .i64 m.thread, .slice pul m.label.length cul, .slice pug m.grants.length cug, .string ⟨m.text.toArray⟩] 42 (0, 0))) := hid (by have := heap_alloc_new (wr.setCell ⟨rb, 1 + t * 5 + 4, none⟩ (.slice (if c4 = 1 then some ⟨g, a, none⟩ else some ⟨g, a + 5, none⟩) r.length (c4 - 1))) (.cells #[.int .i64 m.host, .int .i64 m.thread, .slice pul m.label.length cul, .slice pug m.grants.length cug, .string ⟨m.text.toArray⟩] 42); simpa using this)
    have HX3 : Hid (((wr.setCell ⟨rb, 1 + t * 5 + 4, none⟩ (.slice (if c4 = 1 then some ⟨g, a, none⟩ else some ⟨g, a + 5, none⟩) r.length (c4 - 1))).alloc (.cells #[.int .i64 m.host, .int .i64 m.thread, .slice pul m.label.length cul, .slice pug m.grants.length cug, .string ⟨m.text.toArray⟩] 42)).heap[w.heap.size + 1]? = some (.cells #[.int .i64 0, .int .i64 0, .string ⟨#[]⟩] 52 (0, 0))) := hid (Qc (Qr HBX.out NE.out (1 + t * 5 + 4) (.slice (if c4 = 1 then some ⟨g, a, none⟩ else some ⟨g, a + 5, none⟩) r.length (c4 - 1))) (Qe _ _))
    have hwne : wr.heap.size ≠ rb := by omega
    clear hK hRM hRO hLA hOA hmg hrl hrg hrest hv4 hfz z0 z1 z2
    go_upto_region 48 with fail
    generalize ((wr.setCell ⟨rb, 1 + t * 5 + 4, none⟩ (.slice (if c4 = 1 then some ⟨g, a, none⟩ else some ⟨g, a + 5, none⟩) r.length (c4 - 1))).alloc (.cells #[.int .i64 m.host, .int .i64 m.thread, .slice pul m.label.length cul, .slice pug m.grants.length cug, .string ⟨m.text.toArray⟩] 42)) = w3 at *
    generalize (if c4 = 1 then (some ⟨g, a, none⟩ : Option Addr) else some ⟨g, a + 5, none⟩) = pz at *
    obtain ⟨V2, hK3, hS3⟩ := HC3.out
    clear HC3 z4 zf4 d0 d1 d2 d3 d4 hcap EV
    have HK3 := hid hK3
    have HS3 := hid (HS.out.trans hS3)
    obtain ⟨_, p0, p1, _, c0, c1, _, _, ⟨y0, y1, y2, _⟩, hLA, hOA, _, _, _⟩ := hK3.cellsS h2
    dsimp only at y0 y1 y2 hLA hOA
    have b2 := Qa HB3.out 2
    have HS48 : Hid (∀ w', Below w3.heap.size w3 w' → w'.cell? ⟨wr.heap.size, 2, none⟩ = some (.slice pul m.label.length cul) ∧ w'.cell? ⟨rb, 1 + t * 5, none⟩ = some (.slice p0 th.label.length c0) ∧ w'.cell? ⟨rb, 1 + t * 5 + 1, none⟩ = some (.slice p1 th.own.length c1)) := hid (fun w' hb => ⟨Qa (Qc HB3.out hb) 2, by rw [hb.cell (Qb y0), y0], by rw [hb.cell (Qb y1), y1]⟩)
    have hfl := fun wx (hb : Below w3.heap.size w3 wx) => QF (.slice pul m.label.length cul) (.slice p0 th.label.length c0) (.slice p1 th.own.length c1) m.label th.label th.own wx (HRL.out.1.below hb) (hLA.below hb) (hOA.below hb) hwm hwf
    clear hK3 hS3 y0 y1 y2 b2 hLA hOA
    cases hf : flowsL m.label th.label th.own with
    | false =>
     as_aux_lemma =>
      rw [hf] at hfl
      have HE2 : Hid (takeL th th.mails = takeL th r) := hid (by rw [HEQ.out, takeL, hf]; rfl)
      refine wp_region_held_drew (S := (fun w' => w'.cell? ⟨wr.heap.size, 2, none⟩ = some (.slice pul m.label.length cul) ∧ w'.cell? ⟨rb, 1 + t * 5, none⟩ = some (.slice p0 th.label.length c0) ∧ w'.cell? ⟨rb, 1 + t * 5 + 1, none⟩ = some (.slice p1 th.own.length c1))) (by as_aux_lemma => kernel_rfl) (HS48.out _ (Below.refl _ _).drew) (fun _ => ?_)
      refine takeF 0 333 ?v351 rfl (Or.inl ⟨by rfl, ?hy351⟩) ?rest351
      case hy351 => intro wz hSw; (try dsimp only at hSw); go_simp; try with_reducible rfl
      simp only [Act.put, List.setIfInBounds_toArray, List.set_cons_zero, List.set_cons_succ]
      refine takeF 1 334 ?v352 rfl (Or.inl ⟨by rfl, ?hy352⟩) ?rest352
      case hy352 => intro wz hSw; (try dsimp only at hSw); go_simp; try with_reducible rfl
      simp only [Act.put, List.setIfInBounds_toArray, List.set_cons_zero, List.set_cons_succ]
      refine takeF 2 335 ?v353 rfl (Or.inl ⟨by rfl, ?hy353⟩) ?rest353
      case hy353 => intro wz hSw; (try dsimp only at hSw); go_simp; try with_reducible rfl
      simp only [Act.put, List.setIfInBounds_toArray, List.set_cons_zero, List.set_cons_succ]
      refine takeF 3 336 ?v354 rfl (Or.inl ⟨by rfl, ?hy354⟩) ?rest354
      case hy354 => intro wz hSw; (try dsimp only at hSw); go_simp; try with_reducible rfl
      simp only [Act.put, List.setIfInBounds_toArray, List.set_cons_zero, List.set_cons_succ]
      refine takeF 4 337 ?v355 rfl (Or.inl ⟨by rfl, ?hy355⟩) ?rest355
      case hy355 => intro wz hSw; (try dsimp only at hSw); go_simp; try with_reducible rfl
      simp only [Act.put, List.setIfInBounds_toArray, List.set_cons_zero, List.set_cons_succ]
      refine takeF 5 338 ?v356 rfl (Or.inl ⟨by rfl, ?hy356⟩) ?rest356
      case hy356 => intro wz hSw; (try dsimp only at hSw); go_simp; try with_reducible rfl
      simp only [Act.put, List.setIfInBounds_toArray, List.set_cons_zero, List.set_cons_succ]
      refine takeF 6 339 ?v357 rfl (Or.inl ⟨by rfl, ?hy357⟩) ?rest357
      case hy357 => intro wz hSw; (try dsimp only at hSw); go_simp; try with_reducible rfl
      simp only [Act.put, List.setIfInBounds_toArray, List.set_cons_zero, List.set_cons_succ]
      refine takeF 7 340 ?v358 rfl (Or.inl ⟨by rfl, ?hy358⟩) ?rest358
      case hy358 => intro wz hSw; (try dsimp only at hSw); go_simp; try with_reducible rfl
      simp only [Act.put, List.setIfInBounds_toArray, List.set_cons_zero, List.set_cons_succ]
      refine takeF 8 341 ?v359 rfl (Or.inl ⟨by rfl, ?hy359⟩) ?rest359
      case hy359 => intro wz hSw; (try dsimp only at hSw); go_simp; try with_reducible rfl
      simp only [Act.put, List.setIfInBounds_toArray, List.set_cons_zero, List.set_cons_succ]
      refine takeF 9 342 ?v360 rfl (Or.inl ⟨by rfl, ?hy360⟩) ?rest360
      case hy360 => intro wz hSw; (try dsimp only at hSw); go_simp; try with_reducible rfl
      simp only [Act.put, List.setIfInBounds_toArray, List.set_cons_zero, List.set_cons_succ]
      refine wpAnyH_ready (rs := [10]) (by as_aux_lemma => kernel_rfl) (by simp) ?_
      refine (AllReadyH.cons rfl (fun K' hK => ?_) AllReadyH.nil)
      go_simp
      go_wp2_with (go_at_call 27; refine (hfl _ (by first | exact Below.refl _ _ | exact (Below.refl _ _).drew)).mono ?_; rintro e w4 ⟨rfl, hwd⟩)
      have hw4 : Below w3.heap.size w3 w4 := (by first | exact hwd | exact kundrew hwd)
      clear hwd
      refine hK.out _ _ (HS48.out _ hw4) (fun _ => ?_)
      clear hK K'
      refine wpAnyH_done (by as_aux_lemma => kernel_rfl) ?_ _
      go_wp2
      go_roundg r.length
      case measure => simp at hn; omega
      case rel => exact ⟨V2, r, Nat.le_refl _, HE2.out, HMR.out, Qc HX3.out hw4, HK3.out.below hw4, HS3.out.trans (RStep.below hw4)⟩
    | true =>
     as_aux_lemma =>
      rw [hf] at hfl
      have HE2 : Hid (takeL th th.mails = ({ readL th m with mails := r }, ⟨0, m.host * 4 + m.thread, []⟩)) := hid (by rw [HEQ.out, takeL, hf]; rfl)
      refine wp_region_held_drew (S := (fun w' => w'.cell? ⟨wr.heap.size, 2, none⟩ = some (.slice pul m.label.length cul) ∧ w'.cell? ⟨rb, 1 + t * 5, none⟩ = some (.slice p0 th.label.length c0) ∧ w'.cell? ⟨rb, 1 + t * 5 + 1, none⟩ = some (.slice p1 th.own.length c1))) (by as_aux_lemma => kernel_rfl) (HS48.out _ (Below.refl _ _).drew) (fun _ => ?_)
      refine takeF 0 333 ?v361 rfl (Or.inl ⟨by rfl, ?hy361⟩) ?rest361
      case hy361 => intro wz hSw; (try dsimp only at hSw); go_simp; try with_reducible rfl
      simp only [Act.put, List.setIfInBounds_toArray, List.set_cons_zero, List.set_cons_succ]
      refine takeF 1 334 ?v362 rfl (Or.inl ⟨by rfl, ?hy362⟩) ?rest362
      case hy362 => intro wz hSw; (try dsimp only at hSw); go_simp; try with_reducible rfl
      simp only [Act.put, List.setIfInBounds_toArray, List.set_cons_zero, List.set_cons_succ]
      refine takeF 2 335 ?v363 rfl (Or.inl ⟨by rfl, ?hy363⟩) ?rest363
      case hy363 => intro wz hSw; (try dsimp only at hSw); go_simp; try with_reducible rfl
      simp only [Act.put, List.setIfInBounds_toArray, List.set_cons_zero, List.set_cons_succ]
      refine takeF 3 336 ?v364 rfl (Or.inl ⟨by rfl, ?hy364⟩) ?rest364
      case hy364 => intro wz hSw; (try dsimp only at hSw); go_simp; try with_reducible rfl
      simp only [Act.put, List.setIfInBounds_toArray, List.set_cons_zero, List.set_cons_succ]
      refine takeF 4 337 ?v365 rfl (Or.inl ⟨by rfl, ?hy365⟩) ?rest365
      case hy365 => intro wz hSw; (try dsimp only at hSw); go_simp; try with_reducible rfl
      simp only [Act.put, List.setIfInBounds_toArray, List.set_cons_zero, List.set_cons_succ]
      refine takeF 5 338 ?v366 rfl (Or.inl ⟨by rfl, ?hy366⟩) ?rest366
      case hy366 => intro wz hSw; (try dsimp only at hSw); go_simp; try with_reducible rfl
      simp only [Act.put, List.setIfInBounds_toArray, List.set_cons_zero, List.set_cons_succ]
      refine takeF 6 339 ?v367 rfl (Or.inl ⟨by rfl, ?hy367⟩) ?rest367
      case hy367 => intro wz hSw; (try dsimp only at hSw); go_simp; try with_reducible rfl
      simp only [Act.put, List.setIfInBounds_toArray, List.set_cons_zero, List.set_cons_succ]
      refine takeF 7 340 ?v368 rfl (Or.inl ⟨by rfl, ?hy368⟩) ?rest368
      case hy368 => intro wz hSw; (try dsimp only at hSw); go_simp; try with_reducible rfl
      simp only [Act.put, List.setIfInBounds_toArray, List.set_cons_zero, List.set_cons_succ]
      refine takeF 8 341 ?v369 rfl (Or.inl ⟨by rfl, ?hy369⟩) ?rest369
      case hy369 => intro wz hSw; (try dsimp only at hSw); go_simp; try with_reducible rfl
      simp only [Act.put, List.setIfInBounds_toArray, List.set_cons_zero, List.set_cons_succ]
      refine takeF 9 342 ?v370 rfl (Or.inl ⟨by rfl, ?hy370⟩) ?rest370
      case hy370 => intro wz hSw; (try dsimp only at hSw); go_simp; try with_reducible rfl
      simp only [Act.put, List.setIfInBounds_toArray, List.set_cons_zero, List.set_cons_succ]
      refine wpAnyH_ready (rs := [10]) (by as_aux_lemma => kernel_rfl) (by simp) ?_
      refine (AllReadyH.cons rfl (fun K' hK => ?_) AllReadyH.nil)
      go_simp
      go_wp2_with (go_at_call 27; refine (hfl _ (by first | exact Below.refl _ _ | exact (Below.refl _ _).drew)).mono ?_; rintro e w4 ⟨rfl, hwd⟩)
      have hw4 : Below w3.heap.size w3 w4 := (by first | exact hwd | exact kundrew hwd)
      clear hwd
      refine hK.out _ _ (HS48.out _ hw4) (fun _ => ?_)
      clear hK K'
      refine wpAnyH_done (by as_aux_lemma => kernel_rfl) ?_ _
      have Hw4 := hid hw4
      obtain ⟨_, _, _, _, _, _, _, _, ⟨_, _, y2, _⟩, _, _, _, _, hfz⟩ := (HK3.out.below hw4).cellsS h2
      dsimp only at y2
      have yf2 := hfz (1 + t * 5 + 2)
      have b4 := Qa (Qc HB3.out hw4) 4
      have hstr : ∀ a b : List UInt8, (⟨a.toArray⟩ : ByteArray) ++ ⟨b.toArray⟩ = ⟨(a ++ b).toArray⟩ := fun a b => ByteArray.mk_append_mk a b
      have hnl : ¬ 9223372036854775807 < th.text.length + m.text.length := by omega
      clear hfl hw4 hfz HS48
      go_upto_region 49 with fail
      go_cut [16] from 313 to 384 (fun v16 wx => v16 = .pointer (some ⟨wr.heap.size, 0, none⟩) ∧ wx = (w4.setCell ⟨rb, 1 + t * 5 + 2, none⟩ (.string ⟨(lastL (th.text ++ m.text)).toArray⟩)).drew)
      case first =>
       as_aux_lemma =>
        go_region_law ((refine QeE (by rfl) (.tmp 351) #[9] (by rfl) (th.text ++ m.text) (by rfl) (by rw [List.length_append]; omega) ?_))
        all_goals
         go_wp2_with fail
         go_meet
         exact ⟨rfl, rfl⟩
      case rest =>
       obtain ⟨rfl, hcw⟩ := hcut
       have HK5 : Hid (∃ V5, RKerAt (w4.setCell ⟨rb, 1 + t * 5 + 2, none⟩ (.string ⟨(lastL (th.text ++ m.text)).toArray⟩)).drew rb (F ++ [w.heap.size + 1]) V5 (inK K t { th with mails := r, text := (lastL (th.text ++ m.text)) }) ∧ RStep rb w F V (w4.setCell ⟨rb, 1 + t * 5 + 2, none⟩ (.string ⟨(lastL (th.text ++ m.text)).toArray⟩)).drew (F ++ [w.heap.size + 1]) V5) := hid (by
        obtain ⟨V5, q1, q2⟩ := (HK3.out.below Hw4.out).textS (x := (lastL (th.text ++ m.text))) h2
        exact ⟨V5, q1.below (Below.refl _ _).drew, ((HS3.out.trans (RStep.below Hw4.out)).trans q2).trans (RStep.below (Below.refl _ _).drew)⟩)
       have HB5 := hid (Qc (Qr (Qc HB3.out Hw4.out) hwne (1 + t * 5 + 2) (.string ⟨(lastL (th.text ++ m.text)).toArray⟩)) (Below.refl _ _).drew)
       have HX5 := hid (Qc (Qr (Qc HX3.out Hw4.out) NE.out (1 + t * 5 + 2) (.string ⟨(lastL (th.text ++ m.text)).toArray⟩)) (Below.refl _ _).drew)
       have HRG5 := hid ((RoInts.put (HRG.out.keep (Qk _ Hw4.out) (More.refl _ _)) HKB.out (1 + t * 5 + 2) (.string ⟨(lastL (th.text ++ m.text)).toArray⟩)).keep (Qk _ (Below.refl _ _).drew) (More.refl _ _))
       rw [← hcw] at HK5 HB5 HX5 HRG5
       clear hcw y2 yf2 b4 hstr hnl Hw4 HB3 HX3 HRG HRL HK3 HS3 HBX HK HS
       obtain ⟨V5, hK5, hS5⟩ := HK5.out
       have b3 := Qa HB5.out 3
       have hwA : IntKind.i64.wrap (4 * m.host) = 4 * m.host := Go.wrap_small _ (by omega) (by omega)
       have hwB : IntKind.i64.wrap (4 * m.host + m.thread) = 4 * m.host + m.thread := Go.wrap_small _ (by omega) (by omega)
       have HK6 := hid hK5
       have HS6 := hid hS5
       clear hK5 hS5 HK5
       go_wp2
       go_loopw [358] (fun i wq => ∃ (n : Nat) (Vk : List ThrV) (ow : List Int), n ≤ m.grants.length ∧ i = .int .i64 n ∧ grantL m.grants th.own = grantL (m.grants.drop n) ow ∧ ow.Pairwise (· < ·) ∧ ow.length ≤ 8 ∧ RKerAt wq rb (F ++ [w.heap.size + 1]) Vk (inK K t { th with mails := r, text := (lastL (th.text ++ m.text)), own := ow }) ∧ RStep rb w F V wq (F ++ [w.heap.size + 1]) Vk ∧ RoInts wq (F ++ [w.heap.size + 1]) (.slice pug m.grants.length cug) m.grants ∧ wq.heap[wr.heap.size]? = some (.cells #[.int .i64 m.host, .int .i64 m.thread, .slice pul m.label.length cul, .slice pug m.grants.length cug, .string ⟨m.text.toArray⟩] 42 (0, 0)) ∧ wq.heap[w.heap.size + 1]? = some (.cells #[.int .i64 0, .int .i64 0, .string ⟨#[]⟩] 52 (0, 0))) (fun i _ => m.grants.length - (intOf i).toNat)
       case atStart => exact ⟨0, V5, th.own, Nat.zero_le _, rfl, rfl, hsO, hlO, HK6.out, HS6.out, HRG5.out, HB5.out, HX5.out⟩
       case round =>
        as_aux_lemma =>
         clear HK6 HS6 HRG5 HB5 HX5 b3
         obtain ⟨n, Vk, ow, hnk, rfl, hgr, hsw, hlw, hKk, hSk, hgk, hBk, hXk⟩ := hrel
         have HGR := hid hgr
         have HKk := hid hKk
         have HSk := hid hSk
         have HGk := hid hgk
         have HBk := hid hBk
         have HXk := hid hXk
         clear hgr hSk hBk hXk
         by_cases hlt : n < m.grants.length
         · obtain ⟨b, ob, hpe, hc⟩ := hgk.1.cells (by omega)
           have hck := hc n hlt
           subst hpe
           obtain ⟨_, _, p1, _, _, c1, _, _, ⟨_, z1, _, _⟩, _, _, hro1, _, hfz⟩ := hKk.cellsS h2
           dsimp only at z1 hro1
           have HOW := hid (QdJ (F ++ [w.heap.size + 1]) (.slice p1 ow.length c1) ow m.grants[n] _ hro1 hsw hlw hKk.fin)
           have HD : Hid (m.grants.drop n = m.grants[n] :: m.grants.drop (n + 1)) := hid (List.drop_eq_getElem_cons hlt)
           have hI : (n : Int) < (m.grants.length : Int) := by omega
           clear hgk hc hKk hro1 hfz
           by_cases hz : (ownL ow m.grants[n]).1 = 0
           · as_aux_lemma =>
              have hne : ((ownL ow m.grants[n]).1 == 0) = true := by simp [hz]
              have HN : Hid (grantL m.grants th.own = grantL (m.grants.drop (n + 1)) (ownL ow m.grants[n]).2) := hid (by rw [HGR.out, HD.out, Qak, if_pos hz])
              have hs2 := QaH hsw m.grants[n]
              have hl2 := Qbw hlw m.grants[n]
              rw [hne] at HOW
              clear hz hne
              generalize ownL ow m.grants[n] = R at *
              go_wp2_with (go_at_call 40; refine HOW.out.mono ?_; rintro e w6 ⟨p5, c5, rfl, hro5, hw6⟩; have HRO5 := hid hro5; have HW6 := hid hw6; have yf1 := ((HKk.out.below hw6).cellsS h2).choose_spec.choose_spec.choose_spec.choose_spec.choose_spec.choose_spec.choose_spec.2.2.2.2.2.2 (1 + t * 5 + 1); have y1 := hw6.cell (Qb z1); rw [z1] at y1; clear hro5 hw6)
              go_roundw
              case rel =>
               obtain ⟨V6, q1, q2⟩ := (HKk.out.below HW6.out).ownS h2 HRO5.out
               exact ⟨n + 1, V6, R.2, hlt, by go_num, HN.out, hs2, hl2, q1, (HSk.out.trans (RStep.below HW6.out)).trans q2, RoInts.put (HGk.out.keep (Qk _ HW6.out) (More.refl _ _)) HKB.out _ _, Qr (Qc HBk.out HW6.out) hwne _ _, Qr (Qc HXk.out HW6.out) NE.out _ _⟩
              case measure => simp [intOf]; omega
           · as_aux_lemma =>
              have hne : ((ownL ow m.grants[n]).1 == 0) = false := by simp [hz]
              have HN : Hid (grantL m.grants th.own = ow) := hid (by rw [HGR.out, HD.out, Qak, if_neg hz])
              rw [hne] at HOW
              clear hz hne
              generalize ownL ow m.grants[n] = R at *
              go_wp2_with (go_at_call 40; refine HOW.out.mono ?_; rintro e w6 ⟨p5, c5, rfl, hro5, hw6⟩; have HXq := hid (Qc HXk.out hw6); have HBq := hid (Qc HBk.out hw6); have HKq := hid (HKk.out.below hw6); have HSq := hid (HSk.out.trans (RStep.below hw6)); clear hro5 hw6; have r0 := Qa HXq.out 0; have r1 := Qa HXq.out 1; have r2 := Qa HXq.out 2; have rf0 := Qf HXq.out 0; have rf1 := Qf HXq.out 1; have rf2 := Qf HXq.out 2; have b0 := Qa HBq.out 0; have b1 := Qa HBq.out 1)
              have hend := Qt (w := w) (B := w.heap.size + 1) 0 (4 * m.host + m.thread) [] HXq.out (by omega) HHD.out HKq.out HSq.out
              have e7 : { readL th m with mails := r } = { th with mails := r, text := (lastL (th.text ++ m.text)), own := ow } := by unfold readL; rw [HN.out]
              have e8 : (⟨0, m.host * 4 + m.thread, []⟩ : Rep) = ⟨0, 4 * m.host + m.thread, []⟩ := by rw [Int.mul_comm]
              rw [HT.out, HE2.out, e7, e8]
              exact bodyPost_ret (results_cell_row rfl _ _ (w.heap.size + 1) 52 _ (0, 0) _ rfl hend.1 Try.underlying52 rfl (by kernel_rfl)) rfl ⟨rfl, _, _, hend.2.1, hend.2.2⟩
         · as_aux_lemma =>
            have en : n = m.grants.length := by omega
            subst en
            have HN : Hid (grantL m.grants th.own = ow) := hid (by rw [HGR.out, List.drop_length]; rfl)
            have HXq := HXk
            have HBq := HBk
            have HKq := HKk
            have HSq := HSk
            have r0 := Qa HXq.out 0
            have r1 := Qa HXq.out 1
            have r2 := Qa HXq.out 2
            have rf0 := Qf HXq.out 0
            have rf1 := Qf HXq.out 1
            have rf2 := Qf HXq.out 2
            have b0 := Qa HBq.out 0
            have b1 := Qa HBq.out 1
            clear hgk hKk
            go_wp2
            have hend := Qt (w := w) (B := w.heap.size + 1) 0 (4 * m.host + m.thread) [] HXq.out (by omega) HHD.out HKq.out HSq.out
            have e7 : { readL th m with mails := r } = { th with mails := r, text := (lastL (th.text ++ m.text)), own := ow } := by unfold readL; rw [HN.out]
            have e8 : (⟨0, m.host * 4 + m.thread, []⟩ : Rep) = ⟨0, 4 * m.host + m.thread, []⟩ := by rw [Int.mul_comm]
            rw [HT.out, HE2.out, e7, e8]
            exact bodyPost_ret (results_cell_row rfl _ _ (w.heap.size + 1) 52 _ (0, 0) _ rfl hend.1 Try.underlying52 rfl (by kernel_rfl)) rfl ⟨rfl, _, _, hend.2.1, hend.2.2⟩
   end Go.Proofs.Ytpdijobakfpnbaa
