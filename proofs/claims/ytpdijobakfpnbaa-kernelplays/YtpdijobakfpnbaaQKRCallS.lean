/- The reference's Call: KRCallS (written by genrcall.py). -/
import Derived.Test.YtpdijobakfpnbaaQKRCallL
namespace Go.Proofs.Ytpdijobakfpnbaa
open Go.RowKit Go.Proofs.Parclose
set_option linter.unusedSimpArgs false in
set_option maxRecDepth 100000 in
set_option maxHeartbeats 6400000 in
theorem QgN (rb t : Nat) (F : List Nat) (V : List ThrV) (K : Ker) (v : Value) (c : Cal) (w : World) (h : RKerAt w rb F V K) (h1 : t < V.length) (h2 : t < K.ths.length) (hv : CalAt w v c) (hx : c.text.length ≤ 64) (hk : c.kind = 9) :
 Calls Try.prog 14 #[.pointer (some ⟨rb, 0, none⟩), .int .i64 t, v] w fun e w' => e = .returned (repV (callT K t K.ths[t] c).2) ∧ ∃ G V', RKerAt w' rb G V' (callT K t K.ths[t] c).1 ∧ RStep rb w F V w' G V' := by
 have ht : t < 4 := by have := h.len; omega
 have hf : hostB t = true := by unfold hostB; simp; omega
 have hfour := Qj t
 rw [hf] at hfour
 have hx1 : ¬ ((64 : Int) < (c.text.length : Int)) := by omega
 have hti : (t : Int) < 4 := by omega
 obtain ⟨vl, vg, rfl, hvl, hvg⟩ := hv
 obtain ⟨pl, cl, rfl, _⟩ := id hvl
 obtain ⟨pg, cg, rfl, _⟩ := id hvg
 have HVL := hid hvl
 have HVG := hid hvg
 unfold calV
 clear hvl hvg
 rw [hk]
 go_enter Try.func14, Try.ntmps14
 go_upto_region 2 with fail
 have hb0 : Below w.heap.size w ((w.alloc (.cells #[.int .i64 9, .int .i64 c.h, .int .i64 c.t, .int .i64 c.n, .int .i64 c.c, .slice pl c.label.length cl, .slice pg c.grants.length cg, .string ⟨c.text.toArray⟩] 40)).alloc (.cells #[.int .i64 0, .int .i64 0, .string ⟨#[]⟩] 52)) := (Qe w _).alloc (by simp) _
 have HB0 : Hid (((w.alloc (.cells #[.int .i64 9, .int .i64 c.h, .int .i64 c.t, .int .i64 c.n, .int .i64 c.c, .slice pl c.label.length cl, .slice pg c.grants.length cg, .string ⟨c.text.toArray⟩] 40)).alloc (.cells #[.int .i64 0, .int .i64 0, .string ⟨#[]⟩] 52)).heap[w.heap.size]? = some (.cells #[.int .i64 9, .int .i64 c.h, .int .i64 c.t, .int .i64 c.n, .int .i64 c.c, .slice pl c.label.length cl, .slice pg c.grants.length cg, .string ⟨c.text.toArray⟩] 40 (0, 0))) := hid (QI (heap_alloc_new w _) _)
 have HR0 : Hid (((w.alloc (.cells #[.int .i64 9, .int .i64 c.h, .int .i64 c.t, .int .i64 c.n, .int .i64 c.c, .slice pl c.label.length cl, .slice pg c.grants.length cg, .string ⟨c.text.toArray⟩] 40)).alloc (.cells #[.int .i64 0, .int .i64 0, .string ⟨#[]⟩] 52)).heap[w.heap.size + 1]? = some (.cells #[.int .i64 0, .int .i64 0, .string ⟨#[]⟩] 52 (0, 0))) := hid (by have := heap_alloc_new (w.alloc (.cells #[.int .i64 9, .int .i64 c.h, .int .i64 c.t, .int .i64 c.n, .int .i64 c.c, .slice pl c.label.length cl, .slice pg c.grants.length cg, .string ⟨c.text.toArray⟩] 40)) (.cells #[.int .i64 0, .int .i64 0, .string ⟨#[]⟩] 52); simpa using this)
 have RK0 : Hid (RKerAt ((w.alloc (.cells #[.int .i64 9, .int .i64 c.h, .int .i64 c.t, .int .i64 c.n, .int .i64 c.c, .slice pl c.label.length cl, .slice pg c.grants.length cg, .string ⟨c.text.toArray⟩] 40)).alloc (.cells #[.int .i64 0, .int .i64 0, .string ⟨#[]⟩] 52)) rb (F ++ [w.heap.size + 1]) V K) := hid (by have := (h.below (Qe w (.cells #[.int .i64 9, .int .i64 c.h, .int .i64 c.t, .int .i64 c.n, .int .i64 c.c, .slice pl c.label.length cl, .slice pg c.grants.length cg, .string ⟨c.text.toArray⟩] 40))).reserve (.cells #[.int .i64 0, .int .i64 0, .string ⟨#[]⟩] 52); simpa using this)
 have RS0 : Hid (RStep rb w F V ((w.alloc (.cells #[.int .i64 9, .int .i64 c.h, .int .i64 c.t, .int .i64 c.n, .int .i64 c.c, .slice pl c.label.length cl, .slice pg c.grants.length cg, .string ⟨c.text.toArray⟩] 40)).alloc (.cells #[.int .i64 0, .int .i64 0, .string ⟨#[]⟩] 52)) (F ++ [w.heap.size + 1]) V) := hid (by have := (RStep.below (rb := rb) (F := F) (V := V) (Qe w (.cells #[.int .i64 9, .int .i64 c.h, .int .i64 c.t, .int .i64 c.n, .int .i64 c.c, .slice pl c.label.length cl, .slice pg c.grants.length cg, .string ⟨c.text.toArray⟩] 40))).trans (RStep.reserve rb (w.alloc (.cells #[.int .i64 9, .int .i64 c.h, .int .i64 c.t, .int .i64 c.n, .int .i64 c.c, .slice pl c.label.length cl, .slice pg c.grants.length cg, .string ⟨c.text.toArray⟩] 40)) F V (.cells #[.int .i64 0, .int .i64 0, .string ⟨#[]⟩] 52)); simpa using this)
 generalize ((w.alloc (.cells #[.int .i64 9, .int .i64 c.h, .int .i64 c.t, .int .i64 c.n, .int .i64 c.c, .slice pl c.label.length cl, .slice pg c.grants.length cg, .string ⟨c.text.toArray⟩] 40)).alloc (.cells #[.int .i64 0, .int .i64 0, .string ⟨#[]⟩] 52)) = w0 at *
 have b7 : w0.cell? ⟨w.heap.size, 7, none⟩ = some (.string ⟨c.text.toArray⟩) := by rw [Qa HB0.out]; rfl
 go_upto_region 7 with (go_at_call 23; refine (hfour _).mono ?_; rintro e w1 ⟨rfl, hw1⟩; rw [hw1]; clear hw1 w1)
 go_cut [9] (fun v9 wx => v9 = .bool (objAt K c.t c.n).isSome ∧ Below w0.heap.size w0 wx)
 case first =>
  cases hct : hostB c.t with
  | false =>
   have hob := hid (QP (n := c.n) h.lenK hct)
   have hfc := Qj c.t
   rw [hct] at hfc
   have HS : Hid (∀ w', Below w0.heap.size w0 w' → w'.cell? ⟨w.heap.size, 2, none⟩ = some (.int .i64 c.t) ∧ w'.cell? ⟨w.heap.size, 3, none⟩ = some (.int .i64 c.n)) := hid (fun w' hb => ⟨by rw [Qa (Qc HB0.out hb)]; rfl, by rw [Qa (Qc HB0.out hb)]; rfl⟩)
   refine wp_region_held_drew (S := (fun w' => w'.cell? ⟨w.heap.size, 2, none⟩ = some (.int .i64 c.t) ∧ w'.cell? ⟨w.heap.size, 3, none⟩ = some (.int .i64 c.n))) (by as_aux_lemma => kernel_rfl) (HS.out _ (Below.refl _ _).drew) (fun _ => ?_)
   refine takeF 0 37 ?v41 rfl (Or.inl ⟨by rfl, ?hy41⟩) ?rest41
   case hy41 => intro wz hSw; (try dsimp only at hSw); go_simp; try with_reducible rfl
   simp only [Act.put, List.setIfInBounds_toArray, List.set_cons_zero, List.set_cons_succ]
   refine takeF 1 38 ?v42 rfl (Or.inl ⟨by rfl, ?hy42⟩) ?rest42
   case hy42 => intro wz hSw; (try dsimp only at hSw); go_simp; try with_reducible rfl
   simp only [Act.put, List.setIfInBounds_toArray, List.set_cons_zero, List.set_cons_succ]
   refine wpAnyH_ready (rs := [2]) (by as_aux_lemma => kernel_rfl) (by simp) ?_
   refine (AllReadyH.cons rfl (fun K' hK => ?_) AllReadyH.nil)
   go_simp
   go_wp2_with (go_at_call 23; refine (hfc _).mono ?_; rintro e w1 ⟨rfl, hwl⟩; have hb1 : Below w0.heap.size w0 w1 := (by rw [hwl]; first | exact Below.refl _ _ | exact (Below.refl _ _).drew); clear hwl)
   refine hK.out _ _ (HS.out _ hb1) (fun _ => ?_)
   clear hK K'
   refine takeF 3 40 ?v43 rfl (Or.inl ⟨by rfl, ?hy43⟩) ?rest43
   case hy43 => intro wz hSw; (try dsimp only at hSw); go_simp; try with_reducible rfl
   simp only [Act.put, List.setIfInBounds_toArray, List.set_cons_zero, List.set_cons_succ]
   refine skipD 4 41 rfl (by as_aux_lemma => kernel_rfl) (by as_aux_lemma => kernel_rfl) (by as_aux_lemma => kernel_rfl) (by as_aux_lemma => kernel_rfl) (fun _ _ _ h => h) (by as_aux_lemma => kernel_rfl) (by assumption) ?_
   simp only [Act.put, List.setIfInBounds_toArray, List.set_cons_zero, List.set_cons_succ]
   refine skipD 5 42 rfl (by as_aux_lemma => kernel_rfl) (by as_aux_lemma => kernel_rfl) (by as_aux_lemma => kernel_rfl) (by as_aux_lemma => kernel_rfl) (fun _ _ _ h => h) (by as_aux_lemma => kernel_rfl) (by assumption) ?_
   simp only [Act.put, List.setIfInBounds_toArray, List.set_cons_zero, List.set_cons_succ]
   refine skipD 6 43 rfl (by as_aux_lemma => kernel_rfl) (by as_aux_lemma => kernel_rfl) (by as_aux_lemma => kernel_rfl) (by as_aux_lemma => kernel_rfl) (fun _ _ _ h => h) (by as_aux_lemma => kernel_rfl) (by assumption) ?_
   simp only [Act.put, List.setIfInBounds_toArray, List.set_cons_zero, List.set_cons_succ]
   refine takeF 7 44 ?v44 rfl (Or.inl ⟨by rfl, ?hy44⟩) ?rest44
   case hy44 => intro wz hSw; (try dsimp only at hSw); go_simp; try with_reducible rfl
   simp only [Act.put, List.setIfInBounds_toArray, List.set_cons_zero, List.set_cons_succ]
   refine takeF 8 45 ?v45 rfl (Or.inl ⟨by rfl, ?hy45⟩) ?rest45
   case hy45 => intro wz hSw; (try dsimp only at hSw); go_simp; try with_reducible rfl
   simp only [Act.put, List.setIfInBounds_toArray, List.set_cons_zero, List.set_cons_succ]
   refine skipD 9 46 rfl (by as_aux_lemma => kernel_rfl) (by as_aux_lemma => kernel_rfl) (by as_aux_lemma => kernel_rfl) (by as_aux_lemma => kernel_rfl) (fun _ _ _ h => h) (by as_aux_lemma => kernel_rfl) (by assumption) ?_
   simp only [Act.put, List.setIfInBounds_toArray, List.set_cons_zero, List.set_cons_succ]
   refine skipD 10 47 rfl (by as_aux_lemma => kernel_rfl) (by as_aux_lemma => kernel_rfl) (by as_aux_lemma => kernel_rfl) (by as_aux_lemma => kernel_rfl) (fun _ _ _ h => h) (by as_aux_lemma => kernel_rfl) (by assumption) ?_
   simp only [Act.put, List.setIfInBounds_toArray, List.set_cons_zero, List.set_cons_succ]
   refine skipD 11 48 rfl (by as_aux_lemma => kernel_rfl) (by as_aux_lemma => kernel_rfl) (by as_aux_lemma => kernel_rfl) (by as_aux_lemma => kernel_rfl) (fun _ _ _ h => h) (by as_aux_lemma => kernel_rfl) (by assumption) ?_
   simp only [Act.put, List.setIfInBounds_toArray, List.set_cons_zero, List.set_cons_succ]
   refine skipD 12 49 rfl (by as_aux_lemma => kernel_rfl) (by as_aux_lemma => kernel_rfl) (by as_aux_lemma => kernel_rfl) (by as_aux_lemma => kernel_rfl) (fun _ _ _ h => h) (by as_aux_lemma => kernel_rfl) (by assumption) ?_
   simp only [Act.put, List.setIfInBounds_toArray, List.set_cons_zero, List.set_cons_succ]
   refine skipD 13 50 rfl (by as_aux_lemma => kernel_rfl) (by as_aux_lemma => kernel_rfl) (by as_aux_lemma => kernel_rfl) (by as_aux_lemma => kernel_rfl) (fun _ _ _ h => h) (by as_aux_lemma => kernel_rfl) (by assumption) ?_
   simp only [Act.put, List.setIfInBounds_toArray, List.set_cons_zero, List.set_cons_succ]
   refine skipD 14 51 rfl (by as_aux_lemma => kernel_rfl) (by as_aux_lemma => kernel_rfl) (by as_aux_lemma => kernel_rfl) (by as_aux_lemma => kernel_rfl) (fun _ _ _ h => h) (by as_aux_lemma => kernel_rfl) (by assumption) ?_
   simp only [Act.put, List.setIfInBounds_toArray, List.set_cons_zero, List.set_cons_succ]
   refine skipD 15 52 rfl (by as_aux_lemma => kernel_rfl) (by as_aux_lemma => kernel_rfl) (by as_aux_lemma => kernel_rfl) (by as_aux_lemma => kernel_rfl) (fun _ _ _ h => h) (by as_aux_lemma => kernel_rfl) (by assumption) ?_
   simp only [Act.put, List.setIfInBounds_toArray, List.set_cons_zero, List.set_cons_succ]
   refine skipD 16 53 rfl (by as_aux_lemma => kernel_rfl) (by as_aux_lemma => kernel_rfl) (by as_aux_lemma => kernel_rfl) (by as_aux_lemma => kernel_rfl) (fun _ _ _ h => h) (by as_aux_lemma => kernel_rfl) (by assumption) ?_
   simp only [Act.put, List.setIfInBounds_toArray, List.set_cons_zero, List.set_cons_succ]
   refine skipD 17 54 rfl (by as_aux_lemma => kernel_rfl) (by as_aux_lemma => kernel_rfl) (by as_aux_lemma => kernel_rfl) (by as_aux_lemma => kernel_rfl) (fun _ _ _ h => h) (by as_aux_lemma => kernel_rfl) (by assumption) ?_
   simp only [Act.put, List.setIfInBounds_toArray, List.set_cons_zero, List.set_cons_succ]
   refine skipD 18 55 rfl (by as_aux_lemma => kernel_rfl) (by as_aux_lemma => kernel_rfl) (by as_aux_lemma => kernel_rfl) (by as_aux_lemma => kernel_rfl) (fun _ _ _ h => h) (by as_aux_lemma => kernel_rfl) (by assumption) ?_
   simp only [Act.put, List.setIfInBounds_toArray, List.set_cons_zero, List.set_cons_succ]
   refine skipD 19 56 rfl (by as_aux_lemma => kernel_rfl) (by as_aux_lemma => kernel_rfl) (by as_aux_lemma => kernel_rfl) (by as_aux_lemma => kernel_rfl) (fun _ _ _ h => h) (by as_aux_lemma => kernel_rfl) (by assumption) ?_
   simp only [Act.put, List.setIfInBounds_toArray, List.set_cons_zero, List.set_cons_succ]
   refine skipD 20 57 rfl (by as_aux_lemma => kernel_rfl) (by as_aux_lemma => kernel_rfl) (by as_aux_lemma => kernel_rfl) (by as_aux_lemma => kernel_rfl) (fun _ _ _ h => h) (by as_aux_lemma => kernel_rfl) (by assumption) ?_
   simp only [Act.put, List.setIfInBounds_toArray, List.set_cons_zero, List.set_cons_succ]
   refine skipD 21 58 rfl (by as_aux_lemma => kernel_rfl) (by as_aux_lemma => kernel_rfl) (by as_aux_lemma => kernel_rfl) (by as_aux_lemma => kernel_rfl) (fun _ _ _ h => h) (by as_aux_lemma => kernel_rfl) (by assumption) ?_
   simp only [Act.put, List.setIfInBounds_toArray, List.set_cons_zero, List.set_cons_succ]
   refine takeF 22 59 ?v46 rfl (Or.inl ⟨by rfl, ?hy46⟩) ?rest46
   case hy46 => intro wz hSw; (try dsimp only at hSw); go_simp; try with_reducible rfl
   simp only [Act.put, List.setIfInBounds_toArray, List.set_cons_zero, List.set_cons_succ]
   refine takeF 23 9 ?v47 rfl (Or.inl ⟨by rfl, ?hy47⟩) ?rest47
   case hy47 => intro wz hSw; (try dsimp only at hSw); go_simp; try with_reducible rfl
   simp only [Act.put, List.setIfInBounds_toArray, List.set_cons_zero, List.set_cons_succ]
   refine wpAnyH_done (by as_aux_lemma => kernel_rfl) ?_ _
   go_wp2_with fail
   go_meet
   exact ⟨by rw [hob.out]; rfl, hb1⟩
  | true =>
   have hfc := Qj c.t
   rw [hct] at hfc
   by_cases hn : 0 ≤ c.n
   · skip
     obtain ⟨u, hu⟩ : ∃ u : Nat, c.t = u := ⟨c.t.toNat, by unfold hostB at hct; simp at hct; omega⟩
     have hu4 : u < 4 := by unfold hostB at hct; simp at hct; omega
     have huV : u < V.length := by rw [h.len]; exact hu4
     have huK : u < K.ths.length := by rw [h.lenK]; exact hu4
     have hob : (objAt K c.t c.n).isSome = decide (c.n < (K.ths[u].objs.length : Int)) := Q2 huK hu hn
     have HOB := hid hob
     rw [hu] at hfc
     clear hob
     obtain ⟨C, hC, _, _, _, hcc⟩ := RK0.out.box
     obtain ⟨_, _, _, q3, _⟩ := hcc u huV huK
     obtain ⟨_, _, ⟨_, _, hoj, _⟩, _⟩ := RK0.out.thr u huV huK
     obtain ⟨pu, cu, eu⟩ := Qi hoj
     have hu3 : w0.cell? ⟨rb, 1 + u * 5 + 3, none⟩ = some (.slice pu K.ths[u].objs.length cu) := by rw [Qa hC, q3, eu]
     have hand : bits .and .i64 (u : Int) 3 = (u : Int) := and3 hu4
     have hui : (u : Int) < 4 := by omega
     have hu0 : ¬ ((u : Int) < 0) := by omega
     have HS : Hid (∀ w', Below w0.heap.size w0 w' → w'.cell? ⟨w.heap.size, 2, none⟩ = some (.int .i64 u) ∧ w'.cell? ⟨w.heap.size, 3, none⟩ = some (.int .i64 c.n) ∧ w'.cell? ⟨rb, 1 + u * 5 + 3, none⟩ = some (.slice pu K.ths[u].objs.length cu)) := hid (fun w' hb => ⟨by rw [Qa (Qc HB0.out hb)]; show some (Value.int .i64 c.t) = _; rw [hu], by rw [Qa (Qc HB0.out hb)]; rfl, by rw [hb.cell (Qb hu3), hu3]⟩)
     clear hC hcc q3 hoj eu hu
     refine wp_region_held_drew (S := (fun w' => w'.cell? ⟨w.heap.size, 2, none⟩ = some (.int .i64 u) ∧ w'.cell? ⟨w.heap.size, 3, none⟩ = some (.int .i64 c.n) ∧ w'.cell? ⟨rb, 1 + u * 5 + 3, none⟩ = some (.slice pu K.ths[u].objs.length cu))) (by as_aux_lemma => kernel_rfl) (HS.out _ (Below.refl _ _).drew) (fun _ => ?_)
     refine takeF 0 37 ?v48 rfl (Or.inl ⟨by rfl, ?hy48⟩) ?rest48
     case hy48 => intro wz hSw; (try dsimp only at hSw); go_simp; try with_reducible rfl
     simp only [Act.put, List.setIfInBounds_toArray, List.set_cons_zero, List.set_cons_succ]
     refine takeF 1 38 ?v49 rfl (Or.inl ⟨by rfl, ?hy49⟩) ?rest49
     case hy49 => intro wz hSw; (try dsimp only at hSw); go_simp; try with_reducible rfl
     simp only [Act.put, List.setIfInBounds_toArray, List.set_cons_zero, List.set_cons_succ]
     refine wpAnyH_ready (rs := [2]) (by as_aux_lemma => kernel_rfl) (by simp) ?_
     refine (AllReadyH.cons rfl (fun K' hK => ?_) AllReadyH.nil)
     go_simp
     go_wp2_with (go_at_call 23; refine (hfc _).mono ?_; rintro e w1 ⟨rfl, hwl⟩; have hb1 : Below w0.heap.size w0 w1 := (by rw [hwl]; first | exact Below.refl _ _ | exact (Below.refl _ _).drew); clear hwl)
     refine hK.out _ _ (HS.out _ hb1) (fun _ => ?_)
     clear hK K'
     refine takeF 3 40 ?v50 rfl (Or.inl ⟨by rfl, ?hy50⟩) ?rest50
     case hy50 => intro wz hSw; (try dsimp only at hSw); go_simp; try with_reducible rfl
     simp only [Act.put, List.setIfInBounds_toArray, List.set_cons_zero, List.set_cons_succ]
     refine takeF 4 41 ?v51 rfl (Or.inl ⟨by rfl, ?hy51⟩) ?rest51
     case hy51 => intro wz hSw; (try dsimp only at hSw); go_simp; try with_reducible rfl
     simp only [Act.put, List.setIfInBounds_toArray, List.set_cons_zero, List.set_cons_succ]
     refine takeF 5 42 ?v52 rfl (Or.inl ⟨by rfl, ?hy52⟩) ?rest52
     case hy52 => intro wz hSw; (try dsimp only at hSw); go_simp; try with_reducible rfl
     simp only [Act.put, List.setIfInBounds_toArray, List.set_cons_zero, List.set_cons_succ]
     refine takeD 6 43 (.bool true) rfl (by as_aux_lemma => kernel_rfl) (by as_aux_lemma => kernel_rfl) (by as_aux_lemma => kernel_rfl) (by as_aux_lemma => kernel_rfl) (fun _ _ _ h => h) (Or.inl ⟨by rfl, ?hy53⟩) (by assumption) ?rest53
     case hy53 => intro wz hSw; (try dsimp only at hSw); go_simp; try simp [hn]
     simp only [Act.put, List.setIfInBounds_toArray, List.set_cons_zero, List.set_cons_succ]
     refine takeF 7 44 ?v54 rfl (Or.inl ⟨by rfl, ?hy54⟩) ?rest54
     case hy54 => intro wz hSw; (try dsimp only at hSw); go_simp; try with_reducible rfl
     simp only [Act.put, List.setIfInBounds_toArray, List.set_cons_zero, List.set_cons_succ]
     refine takeF 8 45 ?v55 rfl (Or.inl ⟨by rfl, ?hy55⟩) ?rest55
     case hy55 => intro wz hSw; (try dsimp only at hSw); go_simp; try with_reducible rfl
     simp only [Act.put, List.setIfInBounds_toArray, List.set_cons_zero, List.set_cons_succ]
     refine takeF 9 46 ?v56 rfl (Or.inl ⟨by rfl, ?hy56⟩) ?rest56
     case hy56 => intro wz hSw; (try dsimp only at hSw); go_simp; try with_reducible rfl
     simp only [Act.put, List.setIfInBounds_toArray, List.set_cons_zero, List.set_cons_succ]
     refine takeF 10 47 ?v57 rfl (Or.inl ⟨by rfl, ?hy57⟩) ?rest57
     case hy57 => intro wz hSw; (try dsimp only at hSw); go_simp; try with_reducible rfl
     simp only [Act.put, List.setIfInBounds_toArray, List.set_cons_zero, List.set_cons_succ]
     refine takeF 11 48 ?v58 rfl (Or.inl ⟨by rfl, ?hy58⟩) ?rest58
     case hy58 => intro wz hSw; (try dsimp only at hSw); go_simp; try with_reducible rfl
     simp only [Act.put, List.setIfInBounds_toArray, List.set_cons_zero, List.set_cons_succ]
     refine takeF 12 49 ?v59 rfl (Or.inl ⟨by rfl, ?hy59⟩) ?rest59
     case hy59 => intro wz hSw; (try dsimp only at hSw); go_simp; try with_reducible rfl
     simp only [Act.put, List.setIfInBounds_toArray, List.set_cons_zero, List.set_cons_succ]
     refine takeF 13 50 ?v60 rfl (Or.inl ⟨by rfl, ?hy60⟩) ?rest60
     case hy60 => intro wz hSw; (try dsimp only at hSw); go_simp; try with_reducible rfl
     simp only [Act.put, List.setIfInBounds_toArray, List.set_cons_zero, List.set_cons_succ]
     refine takeD 14 51 (.int .i64 u) rfl (by as_aux_lemma => kernel_rfl) (by as_aux_lemma => kernel_rfl) (by as_aux_lemma => kernel_rfl) (by as_aux_lemma => kernel_rfl) (fun _ _ _ h => h) (Or.inl ⟨by rfl, ?hy61⟩) (by assumption) ?rest61
     case hy61 => intro wz hSw; (try dsimp only at hSw); go_simp; try simp [hand]
     simp only [Act.put, List.setIfInBounds_toArray, List.set_cons_zero, List.set_cons_succ]
     refine takeF 15 52 ?v62 rfl (Or.inl ⟨by rfl, ?hy62⟩) ?rest62
     case hy62 => intro wz hSw; (try dsimp only at hSw); go_simp; try with_reducible rfl
     simp only [Act.put, List.setIfInBounds_toArray, List.set_cons_zero, List.set_cons_succ]
     refine takeF 16 53 ?v63 rfl (Or.inl ⟨by rfl, ?hy63⟩) ?rest63
     case hy63 => intro wz hSw; (try dsimp only at hSw); go_simp; try with_reducible rfl
     simp only [Act.put, List.setIfInBounds_toArray, List.set_cons_zero, List.set_cons_succ]
     refine takeD 17 54 (.pointer (some ⟨rb, 1 + u * 5, none⟩)) rfl (by as_aux_lemma => kernel_rfl) (by as_aux_lemma => kernel_rfl) (by as_aux_lemma => kernel_rfl) (by as_aux_lemma => kernel_rfl) (fun _ _ _ h => h) (Or.inl ⟨by rfl, ?hy64⟩) (by assumption) ?rest64
     case hy64 => intro wz hSw; (try dsimp only at hSw); go_simp; try simp [hui, hu0, hu4]
     simp only [Act.put, List.setIfInBounds_toArray, List.set_cons_zero, List.set_cons_succ]
     refine takeF 18 55 ?v65 rfl (Or.inl ⟨by rfl, ?hy65⟩) ?rest65
     case hy65 => intro wz hSw; (try dsimp only at hSw); go_simp; try with_reducible rfl
     simp only [Act.put, List.setIfInBounds_toArray, List.set_cons_zero, List.set_cons_succ]
     refine takeF 19 56 ?v66 rfl (Or.inl ⟨by rfl, ?hy66⟩) ?rest66
     case hy66 => intro wz hSw; (try dsimp only at hSw); go_simp; try with_reducible rfl
     simp only [Act.put, List.setIfInBounds_toArray, List.set_cons_zero, List.set_cons_succ]
     refine takeF 20 57 ?v67 rfl (Or.inl ⟨by rfl, ?hy67⟩) ?rest67
     case hy67 => intro wz hSw; (try dsimp only at hSw); go_simp; try with_reducible rfl
     simp only [Act.put, List.setIfInBounds_toArray, List.set_cons_zero, List.set_cons_succ]
     refine takeF 21 58 ?v68 rfl (Or.inl ⟨by rfl, ?hy68⟩) ?rest68
     case hy68 => intro wz hSw; (try dsimp only at hSw); go_simp; try with_reducible rfl
     simp only [Act.put, List.setIfInBounds_toArray, List.set_cons_zero, List.set_cons_succ]
     refine takeF 22 59 ?v69 rfl (Or.inl ⟨by rfl, ?hy69⟩) ?rest69
     case hy69 => intro wz hSw; (try dsimp only at hSw); go_simp; try with_reducible rfl
     simp only [Act.put, List.setIfInBounds_toArray, List.set_cons_zero, List.set_cons_succ]
     refine takeF 23 9 ?v70 rfl (Or.inl ⟨by rfl, ?hy70⟩) ?rest70
     case hy70 => intro wz hSw; (try dsimp only at hSw); go_simp; try with_reducible rfl
     simp only [Act.put, List.setIfInBounds_toArray, List.set_cons_zero, List.set_cons_succ]
     refine wpAnyH_done (by as_aux_lemma => kernel_rfl) ?_ _
     go_wp2_with fail
     go_meet
     exact ⟨by rw [HOB.out], hb1⟩
   · skip
     have hob := hid (QQ (K := K) (t := c.t) hn)
     have HS : Hid (∀ w', Below w0.heap.size w0 w' → w'.cell? ⟨w.heap.size, 2, none⟩ = some (.int .i64 c.t) ∧ w'.cell? ⟨w.heap.size, 3, none⟩ = some (.int .i64 c.n)) := hid (fun w' hb => ⟨by rw [Qa (Qc HB0.out hb)]; rfl, by rw [Qa (Qc HB0.out hb)]; rfl⟩)
     refine wp_region_held_drew (S := (fun w' => w'.cell? ⟨w.heap.size, 2, none⟩ = some (.int .i64 c.t) ∧ w'.cell? ⟨w.heap.size, 3, none⟩ = some (.int .i64 c.n))) (by as_aux_lemma => kernel_rfl) (HS.out _ (Below.refl _ _).drew) (fun _ => ?_)
     refine takeF 0 37 ?v71 rfl (Or.inl ⟨by rfl, ?hy71⟩) ?rest71
     case hy71 => intro wz hSw; (try dsimp only at hSw); go_simp; try with_reducible rfl
     simp only [Act.put, List.setIfInBounds_toArray, List.set_cons_zero, List.set_cons_succ]
     refine takeF 1 38 ?v72 rfl (Or.inl ⟨by rfl, ?hy72⟩) ?rest72
     case hy72 => intro wz hSw; (try dsimp only at hSw); go_simp; try with_reducible rfl
     simp only [Act.put, List.setIfInBounds_toArray, List.set_cons_zero, List.set_cons_succ]
     refine wpAnyH_ready (rs := [2]) (by as_aux_lemma => kernel_rfl) (by simp) ?_
     refine (AllReadyH.cons rfl (fun K' hK => ?_) AllReadyH.nil)
     go_simp
     go_wp2_with (go_at_call 23; refine (hfc _).mono ?_; rintro e w1 ⟨rfl, hwl⟩; have hb1 : Below w0.heap.size w0 w1 := (by rw [hwl]; first | exact Below.refl _ _ | exact (Below.refl _ _).drew); clear hwl)
     refine hK.out _ _ (HS.out _ hb1) (fun _ => ?_)
     clear hK K'
     refine takeF 3 40 ?v73 rfl (Or.inl ⟨by rfl, ?hy73⟩) ?rest73
     case hy73 => intro wz hSw; (try dsimp only at hSw); go_simp; try with_reducible rfl
     simp only [Act.put, List.setIfInBounds_toArray, List.set_cons_zero, List.set_cons_succ]
     refine takeF 4 41 ?v74 rfl (Or.inl ⟨by rfl, ?hy74⟩) ?rest74
     case hy74 => intro wz hSw; (try dsimp only at hSw); go_simp; try with_reducible rfl
     simp only [Act.put, List.setIfInBounds_toArray, List.set_cons_zero, List.set_cons_succ]
     refine takeF 5 42 ?v75 rfl (Or.inl ⟨by rfl, ?hy75⟩) ?rest75
     case hy75 => intro wz hSw; (try dsimp only at hSw); go_simp; try with_reducible rfl
     simp only [Act.put, List.setIfInBounds_toArray, List.set_cons_zero, List.set_cons_succ]
     refine takeD 6 43 (.bool false) rfl (by as_aux_lemma => kernel_rfl) (by as_aux_lemma => kernel_rfl) (by as_aux_lemma => kernel_rfl) (by as_aux_lemma => kernel_rfl) (fun _ _ _ h => h) (Or.inl ⟨by rfl, ?hy76⟩) (by assumption) ?rest76
     case hy76 => intro wz hSw; (try dsimp only at hSw); go_simp; try simp [hn]; try omega
     simp only [Act.put, List.setIfInBounds_toArray, List.set_cons_zero, List.set_cons_succ]
     refine takeF 7 44 ?v77 rfl (Or.inl ⟨by rfl, ?hy77⟩) ?rest77
     case hy77 => intro wz hSw; (try dsimp only at hSw); go_simp; try with_reducible rfl
     simp only [Act.put, List.setIfInBounds_toArray, List.set_cons_zero, List.set_cons_succ]
     refine takeF 8 45 ?v78 rfl (Or.inl ⟨by rfl, ?hy78⟩) ?rest78
     case hy78 => intro wz hSw; (try dsimp only at hSw); go_simp; try with_reducible rfl
     simp only [Act.put, List.setIfInBounds_toArray, List.set_cons_zero, List.set_cons_succ]
     refine skipD 9 46 rfl (by as_aux_lemma => kernel_rfl) (by as_aux_lemma => kernel_rfl) (by as_aux_lemma => kernel_rfl) (by as_aux_lemma => kernel_rfl) (fun _ _ _ h => h) (by as_aux_lemma => kernel_rfl) (by assumption) ?_
     simp only [Act.put, List.setIfInBounds_toArray, List.set_cons_zero, List.set_cons_succ]
     refine skipD 10 47 rfl (by as_aux_lemma => kernel_rfl) (by as_aux_lemma => kernel_rfl) (by as_aux_lemma => kernel_rfl) (by as_aux_lemma => kernel_rfl) (fun _ _ _ h => h) (by as_aux_lemma => kernel_rfl) (by assumption) ?_
     simp only [Act.put, List.setIfInBounds_toArray, List.set_cons_zero, List.set_cons_succ]
     refine skipD 11 48 rfl (by as_aux_lemma => kernel_rfl) (by as_aux_lemma => kernel_rfl) (by as_aux_lemma => kernel_rfl) (by as_aux_lemma => kernel_rfl) (fun _ _ _ h => h) (by as_aux_lemma => kernel_rfl) (by assumption) ?_
     simp only [Act.put, List.setIfInBounds_toArray, List.set_cons_zero, List.set_cons_succ]
     refine skipD 12 49 rfl (by as_aux_lemma => kernel_rfl) (by as_aux_lemma => kernel_rfl) (by as_aux_lemma => kernel_rfl) (by as_aux_lemma => kernel_rfl) (fun _ _ _ h => h) (by as_aux_lemma => kernel_rfl) (by assumption) ?_
     simp only [Act.put, List.setIfInBounds_toArray, List.set_cons_zero, List.set_cons_succ]
     refine skipD 13 50 rfl (by as_aux_lemma => kernel_rfl) (by as_aux_lemma => kernel_rfl) (by as_aux_lemma => kernel_rfl) (by as_aux_lemma => kernel_rfl) (fun _ _ _ h => h) (by as_aux_lemma => kernel_rfl) (by assumption) ?_
     simp only [Act.put, List.setIfInBounds_toArray, List.set_cons_zero, List.set_cons_succ]
     refine skipD 14 51 rfl (by as_aux_lemma => kernel_rfl) (by as_aux_lemma => kernel_rfl) (by as_aux_lemma => kernel_rfl) (by as_aux_lemma => kernel_rfl) (fun _ _ _ h => h) (by as_aux_lemma => kernel_rfl) (by assumption) ?_
     simp only [Act.put, List.setIfInBounds_toArray, List.set_cons_zero, List.set_cons_succ]
     refine skipD 15 52 rfl (by as_aux_lemma => kernel_rfl) (by as_aux_lemma => kernel_rfl) (by as_aux_lemma => kernel_rfl) (by as_aux_lemma => kernel_rfl) (fun _ _ _ h => h) (by as_aux_lemma => kernel_rfl) (by assumption) ?_
     simp only [Act.put, List.setIfInBounds_toArray, List.set_cons_zero, List.set_cons_succ]
     refine skipD 16 53 rfl (by as_aux_lemma => kernel_rfl) (by as_aux_lemma => kernel_rfl) (by as_aux_lemma => kernel_rfl) (by as_aux_lemma => kernel_rfl) (fun _ _ _ h => h) (by as_aux_lemma => kernel_rfl) (by assumption) ?_
     simp only [Act.put, List.setIfInBounds_toArray, List.set_cons_zero, List.set_cons_succ]
     refine skipD 17 54 rfl (by as_aux_lemma => kernel_rfl) (by as_aux_lemma => kernel_rfl) (by as_aux_lemma => kernel_rfl) (by as_aux_lemma => kernel_rfl) (fun _ _ _ h => h) (by as_aux_lemma => kernel_rfl) (by assumption) ?_
     simp only [Act.put, List.setIfInBounds_toArray, List.set_cons_zero, List.set_cons_succ]
     refine skipD 18 55 rfl (by as_aux_lemma => kernel_rfl) (by as_aux_lemma => kernel_rfl) (by as_aux_lemma => kernel_rfl) (by as_aux_lemma => kernel_rfl) (fun _ _ _ h => h) (by as_aux_lemma => kernel_rfl) (by assumption) ?_
     simp only [Act.put, List.setIfInBounds_toArray, List.set_cons_zero, List.set_cons_succ]
     refine skipD 19 56 rfl (by as_aux_lemma => kernel_rfl) (by as_aux_lemma => kernel_rfl) (by as_aux_lemma => kernel_rfl) (by as_aux_lemma => kernel_rfl) (fun _ _ _ h => h) (by as_aux_lemma => kernel_rfl) (by assumption) ?_
     simp only [Act.put, List.setIfInBounds_toArray, List.set_cons_zero, List.set_cons_succ]
     refine skipD 20 57 rfl (by as_aux_lemma => kernel_rfl) (by as_aux_lemma => kernel_rfl) (by as_aux_lemma => kernel_rfl) (by as_aux_lemma => kernel_rfl) (fun _ _ _ h => h) (by as_aux_lemma => kernel_rfl) (by assumption) ?_
     simp only [Act.put, List.setIfInBounds_toArray, List.set_cons_zero, List.set_cons_succ]
     refine skipD 21 58 rfl (by as_aux_lemma => kernel_rfl) (by as_aux_lemma => kernel_rfl) (by as_aux_lemma => kernel_rfl) (by as_aux_lemma => kernel_rfl) (fun _ _ _ h => h) (by as_aux_lemma => kernel_rfl) (by assumption) ?_
     simp only [Act.put, List.setIfInBounds_toArray, List.set_cons_zero, List.set_cons_succ]
     refine takeF 22 59 ?v79 rfl (Or.inl ⟨by rfl, ?hy79⟩) ?rest79
     case hy79 => intro wz hSw; (try dsimp only at hSw); go_simp; try with_reducible rfl
     simp only [Act.put, List.setIfInBounds_toArray, List.set_cons_zero, List.set_cons_succ]
     refine takeF 23 9 ?v80 rfl (Or.inl ⟨by rfl, ?hy80⟩) ?rest80
     case hy80 => intro wz hSw; (try dsimp only at hSw); go_simp; try with_reducible rfl
     simp only [Act.put, List.setIfInBounds_toArray, List.set_cons_zero, List.set_cons_succ]
     refine wpAnyH_done (by as_aux_lemma => kernel_rfl) ?_ _
     go_wp2_with fail
     go_meet
     exact ⟨by rw [hob.out]; rfl, hb1⟩
 case rest =>
  obtain ⟨rfl, hbc⟩ := hcut
  have HBC := hid (Qc HB0.out hbc)
  have HRC := hid (Qc HR0.out hbc)
  have RKC := hid (RK0.out.below hbc)
  have RSC := hid (RS0.out.trans (RStep.below hbc))
  have hbw := Qd hb0 hbc
  have a0 : wc.cell? ⟨w.heap.size, 0, none⟩ = some (.int .i64 9) := by rw [Qa HBC.out]; rfl
  have a7 : wc.cell? ⟨w.heap.size, 7, none⟩ = some (.string ⟨c.text.toArray⟩) := by rw [Qa HBC.out]; rfl
  obtain ⟨C, hC, _, hc0, hc21, hcc⟩ := RKC.out.box
  obtain ⟨d0, d1, d2, d3, d4⟩ := hcc t h1 h2
  have x2 : wc.cell? ⟨rb, 1 + t * 5 + 2, none⟩ = some (.string ⟨K.ths[t].text.toArray⟩) := by rw [Qa hC, d2]
  have xf2 := Qf hC (1 + t * 5 + 2)
  have HRB := hid hC
  clear hfour b7
  have hst := RKC.out.text h1 h2 (x := c.text)
  have hbx := QU HRC.out (Qcq HRB.out HRC.out (by decide)) (1 + t * 5 + 2) (.string ⟨c.text.toArray⟩)
  have HST := hid hst
  have HBX := hid hbx
  clear hst hbx hC hc0 hc21 hcc d0 d1 d2 d3 d4
  have HT : Hid (callT K t K.ths[t] c = ({ K with ths := K.ths.set t { K.ths[t] with text := c.text } }, code 0)) := hid (by unfold callT; rw [if_neg (by omega), hk, Qav hx]; simp; exact QC K t _)
  have hrn : w.heap.size + 1 ≠ rb := Qcq HRB.out HRC.out (by decide)
  go_wp2_with (go_at_call 39; refine (Qw _ _).mono ?_; rintro e w9 ⟨rfl, hw9⟩; have HR9 := hid (Qc HBX.out hw9); have HW9 := hid hw9; clear hw9; have g0 := Qa HR9.out 0; have g1 := Qa HR9.out 1; have g2 := Qa HR9.out 2; have gf0 := Qf HR9.out 0; have gf1 := Qf HR9.out 1; have gf2 := Qf HR9.out 2)
  have hend := Qt (w := w) (B := w.heap.size + 1) 0 0 [] HR9.out (by omega) (by simp) (HST.out.1.below HW9.out) ((RSC.out.trans HST.out.2).trans (RStep.below HW9.out))
  rw [HT.out]
  exact bodyPost_ret (results_cell_row rfl _ _ (w.heap.size + 1) 52 _ (0, 0) _ rfl hend.1 Try.underlying52 rfl (by kernel_rfl)) rfl ⟨rfl, _, _, hend.2.1, hend.2.2⟩
end Go.Proofs.Ytpdijobakfpnbaa
