/- The reference's Call: KRK4 (written by genrcall.py). -/
import Derived.Test.YtpdijobakfpnbaaQKRCallL
namespace Go.Proofs.Ytpdijobakfpnbaa
open Go.RowKit Go.Proofs.Parclose
set_option linter.unusedSimpArgs false in
set_option maxRecDepth 100000 in
set_option maxHeartbeats 6400000 in
theorem QgP (rb t : Nat) (F : List Nat) (V : List ThrV) (K : Ker) (v : Value) (c : Cal) (w : World) (h : RKerAt w rb F V K) (h1 : t < V.length) (h2 : t < K.ths.length) (hv : CalAt w v c) (hx : c.text.length ≤ 64) (hk : c.kind = 4) (hg : GoodK K) :
 Calls Try.prog 14 #[.pointer (some ⟨rb, 0, none⟩), .int .i64 t, v] w fun e w' => e = .returned (repV (callT K t K.ths[t] c).2) ∧ ∃ G V', RKerAt w' rb G V' (callT K t K.ths[t] c).1 ∧ RStep rb w F V w' G V' := by
 have ht : t < 4 := by have := h.len; omega
 have hf : hostB t = true := by unfold hostB; simp; omega
 have hfour := Qj t
 rw [hf] at hfour
 have hx1 : ¬ ((64 : Int) < (c.text.length : Int)) := by omega
 have hti : (t : Int) < 4 := by omega
 obtain ⟨vl, vg, rfl, hvl, hvg⟩ := hv
 obtain ⟨pl, cl, rfl, _⟩ := id hvl
 obtain ⟨pg, cg, rfl, _⟩ := id hvg
 have HVL := hid hvl
 have HVG := hid hvg
 unfold calV
 clear hvl hvg
 rw [hk]
 go_enter Try.func14, Try.ntmps14
 go_upto_region 2 with fail
 have hb0 : Below w.heap.size w ((w.alloc (.cells #[.int .i64 4, .int .i64 c.h, .int .i64 c.t, .int .i64 c.n, .int .i64 c.c, .slice pl c.label.length cl, .slice pg c.grants.length cg, .string ⟨c.text.toArray⟩] 40)).alloc (.cells #[.int .i64 0, .int .i64 0, .string ⟨#[]⟩] 52)) := (Qe w _).alloc (by simp) _
 have HB0 : Hid (((w.alloc (.cells #[.int .i64 4, .int .i64 c.h, .int .i64 c.t, .int .i64 c.n, .int .i64 c.c, .slice pl c.label.length cl, .slice pg c.grants.length cg, .string ⟨c.text.toArray⟩] 40)).alloc (.cells #[.int .i64 0, .int .i64 0, .string ⟨#[]⟩] 52)).heap[w.heap.size]? = some (.cells #[.int .i64 4, .int .i64 c.h, .int .i64 c.t, .int .i64 c.n, .int .i64 c.c, .slice pl c.label.length cl, .slice pg c.grants.length cg, .string ⟨c.text.toArray⟩] 40 (0, 0))) := hid (QI (heap_alloc_new w _) _)
 have HR0 : Hid (((w.alloc (.cells #[.int .i64 4, .int .i64 c.h, .int .i64 c.t, .int .i64 c.n, .int .i64 c.c, .slice pl c.label.length cl, .slice pg c.grants.length cg, .string ⟨c.text.toArray⟩] 40)).alloc (.cells #[.int .i64 0, .int .i64 0, .string ⟨#[]⟩] 52)).heap[w.heap.size + 1]? = some (.cells #[.int .i64 0, .int .i64 0, .string ⟨#[]⟩] 52 (0, 0))) := hid (by have := heap_alloc_new (w.alloc (.cells #[.int .i64 4, .int .i64 c.h, .int .i64 c.t, .int .i64 c.n, .int .i64 c.c, .slice pl c.label.length cl, .slice pg c.grants.length cg, .string ⟨c.text.toArray⟩] 40)) (.cells #[.int .i64 0, .int .i64 0, .string ⟨#[]⟩] 52); simpa using this)
 have RK0 : Hid (RKerAt ((w.alloc (.cells #[.int .i64 4, .int .i64 c.h, .int .i64 c.t, .int .i64 c.n, .int .i64 c.c, .slice pl c.label.length cl, .slice pg c.grants.length cg, .string ⟨c.text.toArray⟩] 40)).alloc (.cells #[.int .i64 0, .int .i64 0, .string ⟨#[]⟩] 52)) rb (F ++ [w.heap.size + 1]) V K) := hid (by have := (h.below (Qe w (.cells #[.int .i64 4, .int .i64 c.h, .int .i64 c.t, .int .i64 c.n, .int .i64 c.c, .slice pl c.label.length cl, .slice pg c.grants.length cg, .string ⟨c.text.toArray⟩] 40))).reserve (.cells #[.int .i64 0, .int .i64 0, .string ⟨#[]⟩] 52); simpa using this)
 have RS0 : Hid (RStep rb w F V ((w.alloc (.cells #[.int .i64 4, .int .i64 c.h, .int .i64 c.t, .int .i64 c.n, .int .i64 c.c, .slice pl c.label.length cl, .slice pg c.grants.length cg, .string ⟨c.text.toArray⟩] 40)).alloc (.cells #[.int .i64 0, .int .i64 0, .string ⟨#[]⟩] 52)) (F ++ [w.heap.size + 1]) V) := hid (by have := (RStep.below (rb := rb) (F := F) (V := V) (Qe w (.cells #[.int .i64 4, .int .i64 c.h, .int .i64 c.t, .int .i64 c.n, .int .i64 c.c, .slice pl c.label.length cl, .slice pg c.grants.length cg, .string ⟨c.text.toArray⟩] 40))).trans (RStep.reserve rb (w.alloc (.cells #[.int .i64 4, .int .i64 c.h, .int .i64 c.t, .int .i64 c.n, .int .i64 c.c, .slice pl c.label.length cl, .slice pg c.grants.length cg, .string ⟨c.text.toArray⟩] 40)) F V (.cells #[.int .i64 0, .int .i64 0, .string ⟨#[]⟩] 52)); simpa using this)
 generalize ((w.alloc (.cells #[.int .i64 4, .int .i64 c.h, .int .i64 c.t, .int .i64 c.n, .int .i64 c.c, .slice pl c.label.length cl, .slice pg c.grants.length cg, .string ⟨c.text.toArray⟩] 40)).alloc (.cells #[.int .i64 0, .int .i64 0, .string ⟨#[]⟩] 52)) = w0 at *
 have b7 : w0.cell? ⟨w.heap.size, 7, none⟩ = some (.string ⟨c.text.toArray⟩) := by rw [Qa HB0.out]; rfl
 go_upto_region 7 with (go_at_call 23; refine (hfour _).mono ?_; rintro e w1 ⟨rfl, hw1⟩; rw [hw1]; clear hw1 w1)
 go_cut [9] (fun v9 wx => v9 = .bool (objAt K c.t c.n).isSome ∧ Below w0.heap.size w0 wx)
 case first =>
  as_aux_lemma =>
   cases hct : hostB c.t with
   | false =>
    have hob := hid (QP (n := c.n) h.lenK hct)
    have hfc := Qj c.t
    rw [hct] at hfc
    have HS : Hid (∀ w', Below w0.heap.size w0 w' → w'.cell? ⟨w.heap.size, 2, none⟩ = some (.int .i64 c.t) ∧ w'.cell? ⟨w.heap.size, 3, none⟩ = some (.int .i64 c.n)) := hid (fun w' hb => ⟨by rw [Qa (Qc HB0.out hb)]; rfl, by rw [Qa (Qc HB0.out hb)]; rfl⟩)
    refine wp_region_held_drew (S := (fun w' => w'.cell? ⟨w.heap.size, 2, none⟩ = some (.int .i64 c.t) ∧ w'.cell? ⟨w.heap.size, 3, none⟩ = some (.int .i64 c.n))) (by as_aux_lemma => kernel_rfl) (HS.out _ (Below.refl _ _).drew) (fun _ => ?_)
    refine takeF 0 37 ?v311 rfl (Or.inl ⟨by rfl, ?hy311⟩) ?rest311
    case hy311 => intro wz hSw; (try dsimp only at hSw); go_simp; try with_reducible rfl
    simp only [Act.put, List.setIfInBounds_toArray, List.set_cons_zero, List.set_cons_succ]
    refine takeF 1 38 ?v312 rfl (Or.inl ⟨by rfl, ?hy312⟩) ?rest312
    case hy312 => intro wz hSw; (try dsimp only at hSw); go_simp; try with_reducible rfl
    simp only [Act.put, List.setIfInBounds_toArray, List.set_cons_zero, List.set_cons_succ]
    refine wpAnyH_ready (rs := [2]) (by as_aux_lemma => kernel_rfl) (by simp) ?_
    refine (AllReadyH.cons rfl (fun K' hK => ?_) AllReadyH.nil)
    go_simp
    go_wp2_with (go_at_call 23; refine (hfc _).mono ?_; rintro e w1 ⟨rfl, hwl⟩; have hb1 : Below w0.heap.size w0 w1 := (by rw [hwl]; first | exact Below.refl _ _ | exact (Below.refl _ _).drew); clear hwl)
    refine hK.out _ _ (HS.out _ hb1) (fun _ => ?_)
    clear hK K'
    refine takeF 3 40 ?v313 rfl (Or.inl ⟨by rfl, ?hy313⟩) ?rest313
    case hy313 => intro wz hSw; (try dsimp only at hSw); go_simp; try with_reducible rfl
    simp only [Act.put, List.setIfInBounds_toArray, List.set_cons_zero, List.set_cons_succ]
    refine skipF 4 41 rfl ?_
    simp only [Act.put, List.setIfInBounds_toArray, List.set_cons_zero, List.set_cons_succ]
    refine skipF 5 42 rfl ?_
    simp only [Act.put, List.setIfInBounds_toArray, List.set_cons_zero, List.set_cons_succ]
    refine skipF 6 43 rfl ?_
    simp only [Act.put, List.setIfInBounds_toArray, List.set_cons_zero, List.set_cons_succ]
    refine takeF 7 44 ?v314 rfl (Or.inl ⟨by rfl, ?hy314⟩) ?rest314
    case hy314 => intro wz hSw; (try dsimp only at hSw); go_simp; try with_reducible rfl
    simp only [Act.put, List.setIfInBounds_toArray, List.set_cons_zero, List.set_cons_succ]
    refine takeF 8 45 ?v315 rfl (Or.inl ⟨by rfl, ?hy315⟩) ?rest315
    case hy315 => intro wz hSw; (try dsimp only at hSw); go_simp; try with_reducible rfl
    simp only [Act.put, List.setIfInBounds_toArray, List.set_cons_zero, List.set_cons_succ]
    refine skipF 9 46 rfl ?_
    simp only [Act.put, List.setIfInBounds_toArray, List.set_cons_zero, List.set_cons_succ]
    refine skipF 10 47 rfl ?_
    simp only [Act.put, List.setIfInBounds_toArray, List.set_cons_zero, List.set_cons_succ]
    refine skipF 11 48 rfl ?_
    simp only [Act.put, List.setIfInBounds_toArray, List.set_cons_zero, List.set_cons_succ]
    refine skipF 12 49 rfl ?_
    simp only [Act.put, List.setIfInBounds_toArray, List.set_cons_zero, List.set_cons_succ]
    refine skipF 13 50 rfl ?_
    simp only [Act.put, List.setIfInBounds_toArray, List.set_cons_zero, List.set_cons_succ]
    refine skipF 14 51 rfl ?_
    simp only [Act.put, List.setIfInBounds_toArray, List.set_cons_zero, List.set_cons_succ]
    refine skipF 15 52 rfl ?_
    simp only [Act.put, List.setIfInBounds_toArray, List.set_cons_zero, List.set_cons_succ]
    refine skipF 16 53 rfl ?_
    simp only [Act.put, List.setIfInBounds_toArray, List.set_cons_zero, List.set_cons_succ]
    refine skipF 17 54 rfl ?_
    simp only [Act.put, List.setIfInBounds_toArray, List.set_cons_zero, List.set_cons_succ]
    refine skipF 18 55 rfl ?_
    simp only [Act.put, List.setIfInBounds_toArray, List.set_cons_zero, List.set_cons_succ]
    refine skipF 19 56 rfl ?_
    simp only [Act.put, List.setIfInBounds_toArray, List.set_cons_zero, List.set_cons_succ]
    refine skipF 20 57 rfl ?_
    simp only [Act.put, List.setIfInBounds_toArray, List.set_cons_zero, List.set_cons_succ]
    refine skipF 21 58 rfl ?_
    simp only [Act.put, List.setIfInBounds_toArray, List.set_cons_zero, List.set_cons_succ]
    refine takeF 22 59 ?v316 rfl (Or.inl ⟨by rfl, ?hy316⟩) ?rest316
    case hy316 => intro wz hSw; (try dsimp only at hSw); go_simp; try with_reducible rfl
    simp only [Act.put, List.setIfInBounds_toArray, List.set_cons_zero, List.set_cons_succ]
    refine takeF 23 9 ?v317 rfl (Or.inl ⟨by rfl, ?hy317⟩) ?rest317
    case hy317 => intro wz hSw; (try dsimp only at hSw); go_simp; try with_reducible rfl
    simp only [Act.put, List.setIfInBounds_toArray, List.set_cons_zero, List.set_cons_succ]
    refine wpAnyH_done (by as_aux_lemma => kernel_rfl) ?_ _
    go_wp2_with fail
    go_meet
    exact ⟨by rw [hob.out]; rfl, hb1⟩
   | true =>
    have hfc := Qj c.t
    rw [hct] at hfc
    by_cases hn : 0 ≤ c.n
    · skip
      obtain ⟨u, hu⟩ : ∃ u : Nat, c.t = u := ⟨c.t.toNat, by unfold hostB at hct; simp at hct; omega⟩
      have hu4 : u < 4 := by unfold hostB at hct; simp at hct; omega
      have huV : u < V.length := by rw [h.len]; exact hu4
      have huK : u < K.ths.length := by rw [h.lenK]; exact hu4
      have hob : (objAt K c.t c.n).isSome = decide (c.n < (K.ths[u].objs.length : Int)) := Q2 huK hu hn
      have HOB := hid hob
      rw [hu] at hfc
      clear hob
      obtain ⟨C, hC, _, _, _, hcc⟩ := RK0.out.box
      obtain ⟨_, _, _, q3, _⟩ := hcc u huV huK
      obtain ⟨_, _, ⟨_, _, hoj, _⟩, _⟩ := RK0.out.thr u huV huK
      obtain ⟨pu, cu, eu⟩ := Qi hoj
      have hu3 : w0.cell? ⟨rb, 1 + u * 5 + 3, none⟩ = some (.slice pu K.ths[u].objs.length cu) := by rw [Qa hC, q3, eu]
      have hand : bits .and .i64 (u : Int) 3 = (u : Int) := and3 hu4
      have hui : (u : Int) < 4 := by omega
      have hu0 : ¬ ((u : Int) < 0) := by omega
      have HS : Hid (∀ w', Below w0.heap.size w0 w' → w'.cell? ⟨w.heap.size, 2, none⟩ = some (.int .i64 u) ∧ w'.cell? ⟨w.heap.size, 3, none⟩ = some (.int .i64 c.n) ∧ w'.cell? ⟨rb, 1 + u * 5 + 3, none⟩ = some (.slice pu K.ths[u].objs.length cu)) := hid (fun w' hb => ⟨by rw [Qa (Qc HB0.out hb)]; show some (Value.int .i64 c.t) = _; rw [hu], by rw [Qa (Qc HB0.out hb)]; rfl, by rw [hb.cell (Qb hu3), hu3]⟩)
      clear hC hcc q3 hoj eu hu
      refine wp_region_held_drew (S := (fun w' => w'.cell? ⟨w.heap.size, 2, none⟩ = some (.int .i64 u) ∧ w'.cell? ⟨w.heap.size, 3, none⟩ = some (.int .i64 c.n) ∧ w'.cell? ⟨rb, 1 + u * 5 + 3, none⟩ = some (.slice pu K.ths[u].objs.length cu))) (by as_aux_lemma => kernel_rfl) (HS.out _ (Below.refl _ _).drew) (fun _ => ?_)
      refine takeF 0 37 ?v318 rfl (Or.inl ⟨by rfl, ?hy318⟩) ?rest318
      case hy318 => intro wz hSw; (try dsimp only at hSw); go_simp; try with_reducible rfl
      simp only [Act.put, List.setIfInBounds_toArray, List.set_cons_zero, List.set_cons_succ]
      refine takeF 1 38 ?v319 rfl (Or.inl ⟨by rfl, ?hy319⟩) ?rest319
      case hy319 => intro wz hSw; (try dsimp only at hSw); go_simp; try with_reducible rfl
      simp only [Act.put, List.setIfInBounds_toArray, List.set_cons_zero, List.set_cons_succ]
      refine wpAnyH_ready (rs := [2]) (by as_aux_lemma => kernel_rfl) (by simp) ?_
      refine (AllReadyH.cons rfl (fun K' hK => ?_) AllReadyH.nil)
      go_simp
      go_wp2_with (go_at_call 23; refine (hfc _).mono ?_; rintro e w1 ⟨rfl, hwl⟩; have hb1 : Below w0.heap.size w0 w1 := (by rw [hwl]; first | exact Below.refl _ _ | exact (Below.refl _ _).drew); clear hwl)
      refine hK.out _ _ (HS.out _ hb1) (fun _ => ?_)
      clear hK K'
      refine takeF 3 40 ?v320 rfl (Or.inl ⟨by rfl, ?hy320⟩) ?rest320
      case hy320 => intro wz hSw; (try dsimp only at hSw); go_simp; try with_reducible rfl
      simp only [Act.put, List.setIfInBounds_toArray, List.set_cons_zero, List.set_cons_succ]
      refine takeF 4 41 ?v321 rfl (Or.inl ⟨by rfl, ?hy321⟩) ?rest321
      case hy321 => intro wz hSw; (try dsimp only at hSw); go_simp; try with_reducible rfl
      simp only [Act.put, List.setIfInBounds_toArray, List.set_cons_zero, List.set_cons_succ]
      refine takeF 5 42 ?v322 rfl (Or.inl ⟨by rfl, ?hy322⟩) ?rest322
      case hy322 => intro wz hSw; (try dsimp only at hSw); go_simp; try with_reducible rfl
      simp only [Act.put, List.setIfInBounds_toArray, List.set_cons_zero, List.set_cons_succ]
      refine takeF 6 43 (.bool true) rfl (Or.inl ⟨by rfl, ?hy323⟩) ?rest323
      case hy323 => intro wz hSw; (try dsimp only at hSw); go_simp; try simp [hn]
      simp only [Act.put, List.setIfInBounds_toArray, List.set_cons_zero, List.set_cons_succ]
      refine takeF 7 44 ?v324 rfl (Or.inl ⟨by rfl, ?hy324⟩) ?rest324
      case hy324 => intro wz hSw; (try dsimp only at hSw); go_simp; try with_reducible rfl
      simp only [Act.put, List.setIfInBounds_toArray, List.set_cons_zero, List.set_cons_succ]
      refine takeF 8 45 ?v325 rfl (Or.inl ⟨by rfl, ?hy325⟩) ?rest325
      case hy325 => intro wz hSw; (try dsimp only at hSw); go_simp; try with_reducible rfl
      simp only [Act.put, List.setIfInBounds_toArray, List.set_cons_zero, List.set_cons_succ]
      refine takeF 9 46 ?v326 rfl (Or.inl ⟨by rfl, ?hy326⟩) ?rest326
      case hy326 => intro wz hSw; (try dsimp only at hSw); go_simp; try with_reducible rfl
      simp only [Act.put, List.setIfInBounds_toArray, List.set_cons_zero, List.set_cons_succ]
      refine takeF 10 47 ?v327 rfl (Or.inl ⟨by rfl, ?hy327⟩) ?rest327
      case hy327 => intro wz hSw; (try dsimp only at hSw); go_simp; try with_reducible rfl
      simp only [Act.put, List.setIfInBounds_toArray, List.set_cons_zero, List.set_cons_succ]
      refine takeF 11 48 ?v328 rfl (Or.inl ⟨by rfl, ?hy328⟩) ?rest328
      case hy328 => intro wz hSw; (try dsimp only at hSw); go_simp; try with_reducible rfl
      simp only [Act.put, List.setIfInBounds_toArray, List.set_cons_zero, List.set_cons_succ]
      refine takeF 12 49 ?v329 rfl (Or.inl ⟨by rfl, ?hy329⟩) ?rest329
      case hy329 => intro wz hSw; (try dsimp only at hSw); go_simp; try with_reducible rfl
      simp only [Act.put, List.setIfInBounds_toArray, List.set_cons_zero, List.set_cons_succ]
      refine takeF 13 50 ?v330 rfl (Or.inl ⟨by rfl, ?hy330⟩) ?rest330
      case hy330 => intro wz hSw; (try dsimp only at hSw); go_simp; try with_reducible rfl
      simp only [Act.put, List.setIfInBounds_toArray, List.set_cons_zero, List.set_cons_succ]
      refine takeF 14 51 (.int .i64 u) rfl (Or.inl ⟨by rfl, ?hy331⟩) ?rest331
      case hy331 => intro wz hSw; (try dsimp only at hSw); go_simp; try simp [hand]
      simp only [Act.put, List.setIfInBounds_toArray, List.set_cons_zero, List.set_cons_succ]
      refine takeF 15 52 ?v332 rfl (Or.inl ⟨by rfl, ?hy332⟩) ?rest332
      case hy332 => intro wz hSw; (try dsimp only at hSw); go_simp; try with_reducible rfl
      simp only [Act.put, List.setIfInBounds_toArray, List.set_cons_zero, List.set_cons_succ]
      refine takeF 16 53 ?v333 rfl (Or.inl ⟨by rfl, ?hy333⟩) ?rest333
      case hy333 => intro wz hSw; (try dsimp only at hSw); go_simp; try with_reducible rfl
      simp only [Act.put, List.setIfInBounds_toArray, List.set_cons_zero, List.set_cons_succ]
      refine takeF 17 54 (.pointer (some ⟨rb, 1 + u * 5, none⟩)) rfl (Or.inl ⟨by rfl, ?hy334⟩) ?rest334
      case hy334 => intro wz hSw; (try dsimp only at hSw); go_simp; try simp [hui, hu0, hu4]
      simp only [Act.put, List.setIfInBounds_toArray, List.set_cons_zero, List.set_cons_succ]
      refine takeF 18 55 ?v335 rfl (Or.inl ⟨by rfl, ?hy335⟩) ?rest335
      case hy335 => intro wz hSw; (try dsimp only at hSw); go_simp; try with_reducible rfl
      simp only [Act.put, List.setIfInBounds_toArray, List.set_cons_zero, List.set_cons_succ]
      refine takeF 19 56 ?v336 rfl (Or.inl ⟨by rfl, ?hy336⟩) ?rest336
      case hy336 => intro wz hSw; (try dsimp only at hSw); go_simp; try with_reducible rfl
      simp only [Act.put, List.setIfInBounds_toArray, List.set_cons_zero, List.set_cons_succ]
      refine takeF 20 57 ?v337 rfl (Or.inl ⟨by rfl, ?hy337⟩) ?rest337
      case hy337 => intro wz hSw; (try dsimp only at hSw); go_simp; try with_reducible rfl
      simp only [Act.put, List.setIfInBounds_toArray, List.set_cons_zero, List.set_cons_succ]
      refine takeF 21 58 ?v338 rfl (Or.inl ⟨by rfl, ?hy338⟩) ?rest338
      case hy338 => intro wz hSw; (try dsimp only at hSw); go_simp; try with_reducible rfl
      simp only [Act.put, List.setIfInBounds_toArray, List.set_cons_zero, List.set_cons_succ]
      refine takeF 22 59 ?v339 rfl (Or.inl ⟨by rfl, ?hy339⟩) ?rest339
      case hy339 => intro wz hSw; (try dsimp only at hSw); go_simp; try with_reducible rfl
      simp only [Act.put, List.setIfInBounds_toArray, List.set_cons_zero, List.set_cons_succ]
      refine takeF 23 9 ?v340 rfl (Or.inl ⟨by rfl, ?hy340⟩) ?rest340
      case hy340 => intro wz hSw; (try dsimp only at hSw); go_simp; try with_reducible rfl
      simp only [Act.put, List.setIfInBounds_toArray, List.set_cons_zero, List.set_cons_succ]
      refine wpAnyH_done (by as_aux_lemma => kernel_rfl) ?_ _
      go_wp2_with fail
      go_meet
      exact ⟨by rw [HOB.out], hb1⟩
    · skip
      have hob := hid (QQ (K := K) (t := c.t) hn)
      have HS : Hid (∀ w', Below w0.heap.size w0 w' → w'.cell? ⟨w.heap.size, 2, none⟩ = some (.int .i64 c.t) ∧ w'.cell? ⟨w.heap.size, 3, none⟩ = some (.int .i64 c.n)) := hid (fun w' hb => ⟨by rw [Qa (Qc HB0.out hb)]; rfl, by rw [Qa (Qc HB0.out hb)]; rfl⟩)
      refine wp_region_held_drew (S := (fun w' => w'.cell? ⟨w.heap.size, 2, none⟩ = some (.int .i64 c.t) ∧ w'.cell? ⟨w.heap.size, 3, none⟩ = some (.int .i64 c.n))) (by as_aux_lemma => kernel_rfl) (HS.out _ (Below.refl _ _).drew) (fun _ => ?_)
      refine takeF 0 37 ?v341 rfl (Or.inl ⟨by rfl, ?hy341⟩) ?rest341
      case hy341 => intro wz hSw; (try dsimp only at hSw); go_simp; try with_reducible rfl
      simp only [Act.put, List.setIfInBounds_toArray, List.set_cons_zero, List.set_cons_succ]
      refine takeF 1 38 ?v342 rfl (Or.inl ⟨by rfl, ?hy342⟩) ?rest342
      case hy342 => intro wz hSw; (try dsimp only at hSw); go_simp; try with_reducible rfl
      simp only [Act.put, List.setIfInBounds_toArray, List.set_cons_zero, List.set_cons_succ]
      refine wpAnyH_ready (rs := [2]) (by as_aux_lemma => kernel_rfl) (by simp) ?_
      refine (AllReadyH.cons rfl (fun K' hK => ?_) AllReadyH.nil)
      go_simp
      go_wp2_with (go_at_call 23; refine (hfc _).mono ?_; rintro e w1 ⟨rfl, hwl⟩; have hb1 : Below w0.heap.size w0 w1 := (by rw [hwl]; first | exact Below.refl _ _ | exact (Below.refl _ _).drew); clear hwl)
      refine hK.out _ _ (HS.out _ hb1) (fun _ => ?_)
      clear hK K'
      refine takeF 3 40 ?v343 rfl (Or.inl ⟨by rfl, ?hy343⟩) ?rest343
      case hy343 => intro wz hSw; (try dsimp only at hSw); go_simp; try with_reducible rfl
      simp only [Act.put, List.setIfInBounds_toArray, List.set_cons_zero, List.set_cons_succ]
      refine takeF 4 41 ?v344 rfl (Or.inl ⟨by rfl, ?hy344⟩) ?rest344
      case hy344 => intro wz hSw; (try dsimp only at hSw); go_simp; try with_reducible rfl
      simp only [Act.put, List.setIfInBounds_toArray, List.set_cons_zero, List.set_cons_succ]
      refine takeF 5 42 ?v345 rfl (Or.inl ⟨by rfl, ?hy345⟩) ?rest345
      case hy345 => intro wz hSw; (try dsimp only at hSw); go_simp; try with_reducible rfl
      simp only [Act.put, List.setIfInBounds_toArray, List.set_cons_zero, List.set_cons_succ]
      refine takeF 6 43 (.bool false) rfl (Or.inl ⟨by rfl, ?hy346⟩) ?rest346
      case hy346 => intro wz hSw; (try dsimp only at hSw); go_simp; try simp [hn]; try omega
      simp only [Act.put, List.setIfInBounds_toArray, List.set_cons_zero, List.set_cons_succ]
      refine takeF 7 44 ?v347 rfl (Or.inl ⟨by rfl, ?hy347⟩) ?rest347
      case hy347 => intro wz hSw; (try dsimp only at hSw); go_simp; try with_reducible rfl
      simp only [Act.put, List.setIfInBounds_toArray, List.set_cons_zero, List.set_cons_succ]
      refine takeF 8 45 ?v348 rfl (Or.inl ⟨by rfl, ?hy348⟩) ?rest348
      case hy348 => intro wz hSw; (try dsimp only at hSw); go_simp; try with_reducible rfl
      simp only [Act.put, List.setIfInBounds_toArray, List.set_cons_zero, List.set_cons_succ]
      refine skipF 9 46 rfl ?_
      simp only [Act.put, List.setIfInBounds_toArray, List.set_cons_zero, List.set_cons_succ]
      refine skipF 10 47 rfl ?_
      simp only [Act.put, List.setIfInBounds_toArray, List.set_cons_zero, List.set_cons_succ]
      refine skipF 11 48 rfl ?_
      simp only [Act.put, List.setIfInBounds_toArray, List.set_cons_zero, List.set_cons_succ]
      refine skipF 12 49 rfl ?_
      simp only [Act.put, List.setIfInBounds_toArray, List.set_cons_zero, List.set_cons_succ]
      refine skipF 13 50 rfl ?_
      simp only [Act.put, List.setIfInBounds_toArray, List.set_cons_zero, List.set_cons_succ]
      refine skipF 14 51 rfl ?_
      simp only [Act.put, List.setIfInBounds_toArray, List.set_cons_zero, List.set_cons_succ]
      refine skipF 15 52 rfl ?_
      simp only [Act.put, List.setIfInBounds_toArray, List.set_cons_zero, List.set_cons_succ]
      refine skipF 16 53 rfl ?_
      simp only [Act.put, List.setIfInBounds_toArray, List.set_cons_zero, List.set_cons_succ]
      refine skipF 17 54 rfl ?_
      simp only [Act.put, List.setIfInBounds_toArray, List.set_cons_zero, List.set_cons_succ]
      refine skipF 18 55 rfl ?_
      simp only [Act.put, List.setIfInBounds_toArray, List.set_cons_zero, List.set_cons_succ]
      refine skipF 19 56 rfl ?_
      simp only [Act.put, List.setIfInBounds_toArray, List.set_cons_zero, List.set_cons_succ]
      refine skipF 20 57 rfl ?_
      simp only [Act.put, List.setIfInBounds_toArray, List.set_cons_zero, List.set_cons_succ]
      refine skipF 21 58 rfl ?_
      simp only [Act.put, List.setIfInBounds_toArray, List.set_cons_zero, List.set_cons_succ]
      refine takeF 22 59 ?v349 rfl (Or.inl ⟨by rfl, ?hy349⟩) ?rest349
      case hy349 => intro wz hSw; (try dsimp only at hSw); go_simp; try with_reducible rfl
      simp only [Act.put, List.setIfInBounds_toArray, List.set_cons_zero, List.set_cons_succ]
      refine takeF 23 9 ?v350 rfl (Or.inl ⟨by rfl, ?hy350⟩) ?rest350
      case hy350 => intro wz hSw; (try dsimp only at hSw); go_simp; try with_reducible rfl
      simp only [Act.put, List.setIfInBounds_toArray, List.set_cons_zero, List.set_cons_succ]
      refine wpAnyH_done (by as_aux_lemma => kernel_rfl) ?_ _
      go_wp2_with fail
      go_meet
      exact ⟨by rw [hob.out]; rfl, hb1⟩
 case rest =>
  obtain ⟨rfl, hbc⟩ := hcut
  have HBC := hid (Qc HB0.out hbc)
  have HRC := hid (Qc HR0.out hbc)
  have RKC := hid (RK0.out.below hbc)
  have RSC := hid (RS0.out.trans (RStep.below hbc))
  have hbw := Qd hb0 hbc
  have a0 : wc.cell? ⟨w.heap.size, 0, none⟩ = some (.int .i64 4) := by rw [Qa HBC.out]; rfl
  have a7 : wc.cell? ⟨w.heap.size, 7, none⟩ = some (.string ⟨c.text.toArray⟩) := by rw [Qa HBC.out]; rfl
  obtain ⟨C, hC, _, hc0, hc21, hcc⟩ := RKC.out.box
  obtain ⟨d0, d1, d2, d3, d4⟩ := hcc t h1 h2
  have x2 : wc.cell? ⟨rb, 1 + t * 5 + 2, none⟩ = some (.string ⟨K.ths[t].text.toArray⟩) := by rw [Qa hC, d2]
  have xf2 := Qf hC (1 + t * 5 + 2)
  have HRB := hid hC
  clear hfour b7
  cases hO : objAt K c.t c.n with
  | none =>
   as_aux_lemma =>
    clear hC hc0 hc21 hcc d0 d1 d2 d3 d4 x2 xf2
    have hso : (objAt K c.t c.n).isSome = false := by rw [hO]; rfl
    have HT : Hid (callT K t K.ths[t] c = (K, code 4)) := hid (by unfold callT getL; rw [if_neg (by omega), hk, hO]; simp)
    simp only [Option.isSome_none, Option.isSome_some]
    have HS : Hid (∀ w', Below wc.heap.size wc w' → w'.cell? ⟨w.heap.size, 0, none⟩ = some (.int .i64 4)) := hid (fun w' hb => by rw [Qa (Qc HBC.out hb)]; rfl)
    clear hO hso
    go_wp2
    refine wp_region_held_drew (S := (fun w' => w'.cell? ⟨w.heap.size, 0, none⟩ = some (.int .i64 4))) (by as_aux_lemma => kernel_rfl) (HS.out _ (Below.refl _ _).drew) (fun _ => ?_)
    refine takeF 0 218 ?v267 rfl (Or.inl ⟨by rfl, ?hy267⟩) ?rest267
    case hy267 => intro wz hSw; (try dsimp only at hSw); go_simp; try with_reducible rfl
    simp only [Act.put, List.setIfInBounds_toArray, List.set_cons_zero, List.set_cons_succ]
    refine takeF 1 219 ?v268 rfl (Or.inl ⟨by rfl, ?hy268⟩) ?rest268
    case hy268 => intro wz hSw; (try dsimp only at hSw); go_simp; try with_reducible rfl
    simp only [Act.put, List.setIfInBounds_toArray, List.set_cons_zero, List.set_cons_succ]
    refine takeF 2 220 ?v269 rfl (Or.inl ⟨by rfl, ?hy269⟩) ?rest269
    case hy269 => intro wz hSw; (try dsimp only at hSw); go_simp; try with_reducible rfl
    simp only [Act.put, List.setIfInBounds_toArray, List.set_cons_zero, List.set_cons_succ]
    refine skipF 3 221 rfl ?_
    simp only [Act.put, List.setIfInBounds_toArray, List.set_cons_zero, List.set_cons_succ]
    refine skipF 4 222 rfl ?_
    simp only [Act.put, List.setIfInBounds_toArray, List.set_cons_zero, List.set_cons_succ]
    refine skipF 5 223 rfl ?_
    simp only [Act.put, List.setIfInBounds_toArray, List.set_cons_zero, List.set_cons_succ]
    refine skipF 6 224 rfl ?_
    simp only [Act.put, List.setIfInBounds_toArray, List.set_cons_zero, List.set_cons_succ]
    refine skipF 7 225 rfl ?_
    simp only [Act.put, List.setIfInBounds_toArray, List.set_cons_zero, List.set_cons_succ]
    refine skipF 8 226 rfl ?_
    simp only [Act.put, List.setIfInBounds_toArray, List.set_cons_zero, List.set_cons_succ]
    refine skipF 9 227 rfl ?_
    simp only [Act.put, List.setIfInBounds_toArray, List.set_cons_zero, List.set_cons_succ]
    refine skipF 10 228 rfl ?_
    simp only [Act.put, List.setIfInBounds_toArray, List.set_cons_zero, List.set_cons_succ]
    refine skipF 11 229 rfl ?_
    simp only [Act.put, List.setIfInBounds_toArray, List.set_cons_zero, List.set_cons_succ]
    refine skipF 12 230 rfl ?_
    simp only [Act.put, List.setIfInBounds_toArray, List.set_cons_zero, List.set_cons_succ]
    refine skipF 13 231 rfl ?_
    simp only [Act.put, List.setIfInBounds_toArray, List.set_cons_zero, List.set_cons_succ]
    refine skipF 14 232 rfl ?_
    simp only [Act.put, List.setIfInBounds_toArray, List.set_cons_zero, List.set_cons_succ]
    refine skipF 15 233 rfl ?_
    simp only [Act.put, List.setIfInBounds_toArray, List.set_cons_zero, List.set_cons_succ]
    refine skipF 16 234 rfl ?_
    simp only [Act.put, List.setIfInBounds_toArray, List.set_cons_zero, List.set_cons_succ]
    refine skipF 17 235 rfl ?_
    simp only [Act.put, List.setIfInBounds_toArray, List.set_cons_zero, List.set_cons_succ]
    refine skipF 18 236 rfl ?_
    simp only [Act.put, List.setIfInBounds_toArray, List.set_cons_zero, List.set_cons_succ]
    refine skipF 19 237 rfl ?_
    simp only [Act.put, List.setIfInBounds_toArray, List.set_cons_zero, List.set_cons_succ]
    refine skipF 20 238 rfl ?_
    simp only [Act.put, List.setIfInBounds_toArray, List.set_cons_zero, List.set_cons_succ]
    refine skipF 21 239 rfl ?_
    simp only [Act.put, List.setIfInBounds_toArray, List.set_cons_zero, List.set_cons_succ]
    refine skipF 22 240 rfl ?_
    simp only [Act.put, List.setIfInBounds_toArray, List.set_cons_zero, List.set_cons_succ]
    refine skipF 23 241 rfl ?_
    simp only [Act.put, List.setIfInBounds_toArray, List.set_cons_zero, List.set_cons_succ]
    refine skipF 24 242 rfl ?_
    simp only [Act.put, List.setIfInBounds_toArray, List.set_cons_zero, List.set_cons_succ]
    refine skipF 25 243 rfl ?_
    simp only [Act.put, List.setIfInBounds_toArray, List.set_cons_zero, List.set_cons_succ]
    refine takeF 26 244 ?v270 rfl (Or.inl ⟨by rfl, ?hy270⟩) ?rest270
    case hy270 => intro wz hSw; (try dsimp only at hSw); go_simp; try with_reducible rfl
    simp only [Act.put, List.setIfInBounds_toArray, List.set_cons_zero, List.set_cons_succ]
    refine wpAnyH_done (by as_aux_lemma => kernel_rfl) ?_ _
    go_wp2_with (go_at_call 39; refine (Qw _ _).mono ?_; rintro e w9 ⟨rfl, hwd⟩; have hw9 : Below wc.heap.size wc w9 := (by first | exact hwd | exact kundrew hwd); have HR9 := hid (Qc HRC.out hw9); have HW9 := hid hw9; clear hw9 hwd; have g0 := Qa HR9.out 0; have g1 := Qa HR9.out 1; have g2 := Qa HR9.out 2; have gf0 := Qf HR9.out 0; have gf1 := Qf HR9.out 1; have gf2 := Qf HR9.out 2)
    have hend := Qt (w := w) (B := w.heap.size + 1) 4 0 [] HR9.out (by omega) (by simp) (RKC.out.below HW9.out) (RSC.out.trans (RStep.below HW9.out))
    rw [HT.out]
    exact bodyPost_ret (results_cell_row rfl _ _ (w.heap.size + 1) 52 _ (0, 0) _ rfl hend.1 Try.underlying52 rfl (by kernel_rfl)) rfl ⟨rfl, _, _, hend.2.1, hend.2.2⟩
  | some o =>
  cases hF : flowsL o.label K.ths[t].label K.ths[t].own with
  | false =>
   as_aux_lemma =>
    obtain ⟨u, i, hcu, hci, huK, hi, rfl⟩ := Qap hO
    have hTG := hg.ths _ (List.getElem_mem h2)
    have hUG := hg.ths _ (List.getElem_mem huK)
    have hwf : WfL K.ths[t].label := QO ((Qx _).2 hTG.label)
    have hwo : WfL K.ths[u].objs[i].label := QO ((Qx _).2 (hUG.obj _ (List.getElem_mem hi)).2)
    have hxl := hTG.text
    have hol := (hUG.obj _ (List.getElem_mem hi)).1
    have hu4 : u < 4 := by have := h.lenK; omega
    have h1u : u < V.length := by have := h.len; omega
    have hget := hid (show getT K c.t = some K.ths[u] by rw [hcu]; exact Qa4 huK)
    have hso : (objAt K c.t c.n).isSome = true := by rw [hO]; rfl
    have x0 : wc.cell? ⟨rb, 1 + t * 5, none⟩ = some V[t].vl := by rw [Qa hC, d0]
    have x1 : wc.cell? ⟨rb, 1 + t * 5 + 1, none⟩ = some V[t].vo := by rw [Qa hC, d1]
    have x3 : wc.cell? ⟨rb, 1 + u * 5 + 3, none⟩ = some V[u].vj := by rw [Qa hC, (hcc u h1u huK).2.2.2.1]
    obtain ⟨hrl, hro, _, _⟩ := RKC.out.thr t h1 h2
    obtain ⟨_, _, hrj, _⟩ := RKC.out.thr u h1u huK
    obtain ⟨p0, c0, e0, _⟩ := id hrl.1
    obtain ⟨p1, c1, e1, _⟩ := id hro.1
    obtain ⟨g, cap, ul, ev, kl, kt, kf, hul⟩ := hrj.cell i hi
    obtain ⟨_, _, hjo, _⟩ := id hrj
    obtain ⟨p8, c8, rfl, _⟩ := id hul.1
    have hLA := hrl.1
    have hOA := hro.1
    have hUA := hul.1
    rw [e0] at x0 hLA
    rw [e1] at x1 hOA
    rw [ev] at x3
    have a2 : wc.cell? ⟨w.heap.size, 2, none⟩ = some (.int .i64 u) := by rw [Qa HBC.out, ← hcu]; rfl
    have a3 : wc.cell? ⟨w.heap.size, 3, none⟩ = some (.int .i64 i) := by rw [Qa HBC.out, ← hci]; rfl
    have HGR : Hid (g ≠ w.heap.size + 1) := hid (fun e => Qn hjo HRC.out (by decide) (by rw [ev, e]; rfl))
    have HBG : Hid (w.heap.size ≠ g) := hid (fun e => Qn hjo HBC.out (by decide) (by rw [ev, ← e]; rfl))
    have HRG : Hid (rb ≠ g) := hid (fun e => Qn hjo hC (by decide) (by rw [ev, ← e]; rfl))
    have EV := hid ev
    have hui : (u : Int) < 4 := by omega
    have hu0 : ¬ ((u : Int) < 0) := by omega
    have hI : (i : Int) < (K.ths[u].objs.length : Int) := by omega
    have I0 : (0 : Int) ≤ i := by omega
    have hin : ¬ ((i : Int) < 0) := by omega
    have HS : Hid (∀ w', Below wc.heap.size wc w' → w'.cell? ⟨rb, 1 + t * 5, none⟩ = some (.slice p0 K.ths[t].label.length c0) ∧ w'.cell? ⟨rb, 1 + t * 5 + 1, none⟩ = some (.slice p1 K.ths[t].own.length c1) ∧ w'.cell? ⟨rb, 1 + t * 5 + 2, none⟩ = some (.string ⟨K.ths[t].text.toArray⟩) ∧ w'.cell? ⟨w.heap.size, 2, none⟩ = some (.int .i64 u) ∧ w'.cell? ⟨w.heap.size, 3, none⟩ = some (.int .i64 i) ∧ w'.cell? ⟨w.heap.size, 7, none⟩ = some (.string ⟨c.text.toArray⟩) ∧ w'.cell? ⟨rb, 1 + u * 5 + 3, none⟩ = some (.slice (some ⟨g, 0, none⟩) K.ths[u].objs.length cap) ∧ w'.cell? ⟨g, i * 2, none⟩ = some (.slice p8 K.ths[u].objs[i].label.length c8) ∧ w'.cell? ⟨g, i * 2 + 1, none⟩ = some (.string ⟨K.ths[u].objs[i].text.toArray⟩)) := hid (fun w' hb => ⟨by rw [hb.cell (Qb x0), x0], by rw [hb.cell (Qb x1), x1], by rw [hb.cell (Qb x2), x2], by rw [hb.cell (Qb a2), a2], by rw [hb.cell (Qb a3), a3], by rw [hb.cell (Qb a7), a7], by rw [hb.cell (Qb x3), x3], by rw [hb.cell (Qb kl), kl], by rw [hb.cell (Qb kt), kt]⟩)
    simp only [Option.isSome_none, Option.isSome_some]
    have HT : Hid (callT K t K.ths[t] c = (K, code 4)) := hid (by unfold callT getL; rw [if_neg (by omega), hk, hO]; simp [hF])
    clear hC hc0 hc21 hcc d0 d1 d2 d3 d4 x2 xf2 hrl hro hrj hjo e0 e1 ev kl kt kf hul x0 x1 x3 a2 a3 a7 hso hcu hci hO hTG hUG hg
    have hfl := fun wx (hb : Below wc.heap.size wc wx) => QF (.slice p8 K.ths[u].objs[i].label.length c8) (.slice p0 K.ths[t].label.length c0) (.slice p1 K.ths[t].own.length c1) K.ths[u].objs[i].label K.ths[t].label K.ths[t].own wx (hUA.below hb) (hLA.below hb) (hOA.below hb) hwo hwf
    rw [hF] at hfl
    clear hF
    go_wp2
    refine wp_region_held_drew (S := (fun w' => w'.cell? ⟨rb, 1 + t * 5, none⟩ = some (.slice p0 K.ths[t].label.length c0) ∧ w'.cell? ⟨rb, 1 + t * 5 + 1, none⟩ = some (.slice p1 K.ths[t].own.length c1) ∧ w'.cell? ⟨rb, 1 + t * 5 + 2, none⟩ = some (.string ⟨K.ths[t].text.toArray⟩) ∧ w'.cell? ⟨w.heap.size, 2, none⟩ = some (.int .i64 u) ∧ w'.cell? ⟨w.heap.size, 3, none⟩ = some (.int .i64 i) ∧ w'.cell? ⟨w.heap.size, 7, none⟩ = some (.string ⟨c.text.toArray⟩) ∧ w'.cell? ⟨rb, 1 + u * 5 + 3, none⟩ = some (.slice (some ⟨g, 0, none⟩) K.ths[u].objs.length cap) ∧ w'.cell? ⟨g, i * 2, none⟩ = some (.slice p8 K.ths[u].objs[i].label.length c8) ∧ w'.cell? ⟨g, i * 2 + 1, none⟩ = some (.string ⟨K.ths[u].objs[i].text.toArray⟩))) (by as_aux_lemma => kernel_rfl) (HS.out _ (Below.refl _ _).drew) (fun _ => ?_)
    refine takeF 0 218 ?v201 rfl (Or.inl ⟨by rfl, ?hy201⟩) ?rest201
    case hy201 => intro wz hSw; (try dsimp only at hSw); go_simp; try with_reducible rfl
    simp only [Act.put, List.setIfInBounds_toArray, List.set_cons_zero, List.set_cons_succ]
    refine takeF 1 219 ?v202 rfl (Or.inl ⟨by rfl, ?hy202⟩) ?rest202
    case hy202 => intro wz hSw; (try dsimp only at hSw); go_simp; try with_reducible rfl
    simp only [Act.put, List.setIfInBounds_toArray, List.set_cons_zero, List.set_cons_succ]
    refine takeF 2 220 ?v203 rfl (Or.inl ⟨by rfl, ?hy203⟩) ?rest203
    case hy203 => intro wz hSw; (try dsimp only at hSw); go_simp; try with_reducible rfl
    simp only [Act.put, List.setIfInBounds_toArray, List.set_cons_zero, List.set_cons_succ]
    refine takeF 3 221 ?v204 rfl (Or.inl ⟨by rfl, ?hy204⟩) ?rest204
    case hy204 => intro wz hSw; (try dsimp only at hSw); go_simp; try with_reducible rfl
    simp only [Act.put, List.setIfInBounds_toArray, List.set_cons_zero, List.set_cons_succ]
    refine takeF 4 222 ?v205 rfl (Or.inl ⟨by rfl, ?hy205⟩) ?rest205
    case hy205 => intro wz hSw; (try dsimp only at hSw); go_simp; try with_reducible rfl
    simp only [Act.put, List.setIfInBounds_toArray, List.set_cons_zero, List.set_cons_succ]
    refine takeF 5 223 ?v206 rfl (Or.inl ⟨by rfl, ?hy206⟩) ?rest206
    case hy206 => intro wz hSw; (try dsimp only at hSw); go_simp; try with_reducible rfl
    simp only [Act.put, List.setIfInBounds_toArray, List.set_cons_zero, List.set_cons_succ]
    refine takeF 6 224 ?v207 rfl (Or.inl ⟨by rfl, ?hy207⟩) ?rest207
    case hy207 => intro wz hSw; (try dsimp only at hSw); go_simp; try with_reducible rfl
    simp only [Act.put, List.setIfInBounds_toArray, List.set_cons_zero, List.set_cons_succ]
    refine takeF 7 225 ?v208 rfl (Or.inl ⟨by rfl, ?hy208⟩) ?rest208
    case hy208 => intro wz hSw; (try dsimp only at hSw); go_simp; try with_reducible rfl
    simp only [Act.put, List.setIfInBounds_toArray, List.set_cons_zero, List.set_cons_succ]
    refine takeF 8 226 (.pointer (some ⟨rb, 1 + u * 5, none⟩)) rfl (Or.inl ⟨by rfl, ?hy209⟩) ?rest209
    case hy209 => intro wz hSw; (try dsimp only at hSw); go_simp; try simp [hui, hu0, hu4, hI, I0, hin, hi]
    simp only [Act.put, List.setIfInBounds_toArray, List.set_cons_zero, List.set_cons_succ]
    refine takeF 9 227 ?v210 rfl (Or.inl ⟨by rfl, ?hy210⟩) ?rest210
    case hy210 => intro wz hSw; (try dsimp only at hSw); go_simp; try with_reducible rfl
    simp only [Act.put, List.setIfInBounds_toArray, List.set_cons_zero, List.set_cons_succ]
    refine takeF 10 228 ?v211 rfl (Or.inl ⟨by rfl, ?hy211⟩) ?rest211
    case hy211 => intro wz hSw; (try dsimp only at hSw); go_simp; try with_reducible rfl
    simp only [Act.put, List.setIfInBounds_toArray, List.set_cons_zero, List.set_cons_succ]
    refine takeF 11 229 ?v212 rfl (Or.inl ⟨by rfl, ?hy212⟩) ?rest212
    case hy212 => intro wz hSw; (try dsimp only at hSw); go_simp; try with_reducible rfl
    simp only [Act.put, List.setIfInBounds_toArray, List.set_cons_zero, List.set_cons_succ]
    refine takeF 12 230 ?v213 rfl (Or.inl ⟨by rfl, ?hy213⟩) ?rest213
    case hy213 => intro wz hSw; (try dsimp only at hSw); go_simp; try with_reducible rfl
    simp only [Act.put, List.setIfInBounds_toArray, List.set_cons_zero, List.set_cons_succ]
    refine takeF 13 231 (.pointer (some ⟨g, i * 2, none⟩)) rfl (Or.inl ⟨by rfl, ?hy214⟩) ?rest214
    case hy214 => intro wz hSw; (try dsimp only at hSw); go_simp; try simp [hui, hu0, hu4, hI, I0, hin, hi]
    simp only [Act.put, List.setIfInBounds_toArray, List.set_cons_zero, List.set_cons_succ]
    refine takeF 14 232 ?v215 rfl (Or.inl ⟨by rfl, ?hy215⟩) ?rest215
    case hy215 => intro wz hSw; (try dsimp only at hSw); go_simp; try with_reducible rfl
    simp only [Act.put, List.setIfInBounds_toArray, List.set_cons_zero, List.set_cons_succ]
    refine takeF 15 233 ?v216 rfl (Or.inl ⟨by rfl, ?hy216⟩) ?rest216
    case hy216 => intro wz hSw; (try dsimp only at hSw); go_simp; try with_reducible rfl
    simp only [Act.put, List.setIfInBounds_toArray, List.set_cons_zero, List.set_cons_succ]
    refine takeF 16 234 ?v217 rfl (Or.inl ⟨by rfl, ?hy217⟩) ?rest217
    case hy217 => intro wz hSw; (try dsimp only at hSw); go_simp; try with_reducible rfl
    simp only [Act.put, List.setIfInBounds_toArray, List.set_cons_zero, List.set_cons_succ]
    refine takeF 17 235 ?v218 rfl (Or.inl ⟨by rfl, ?hy218⟩) ?rest218
    case hy218 => intro wz hSw; (try dsimp only at hSw); go_simp; try with_reducible rfl
    simp only [Act.put, List.setIfInBounds_toArray, List.set_cons_zero, List.set_cons_succ]
    refine takeF 18 236 ?v219 rfl (Or.inl ⟨by rfl, ?hy219⟩) ?rest219
    case hy219 => intro wz hSw; (try dsimp only at hSw); go_simp; try with_reducible rfl
    simp only [Act.put, List.setIfInBounds_toArray, List.set_cons_zero, List.set_cons_succ]
    refine takeF 19 237 ?v220 rfl (Or.inl ⟨by rfl, ?hy220⟩) ?rest220
    case hy220 => intro wz hSw; (try dsimp only at hSw); go_simp; try with_reducible rfl
    simp only [Act.put, List.setIfInBounds_toArray, List.set_cons_zero, List.set_cons_succ]
    refine takeF 20 238 ?v221 rfl (Or.inl ⟨by rfl, ?hy221⟩) ?rest221
    case hy221 => intro wz hSw; (try dsimp only at hSw); go_simp; try with_reducible rfl
    simp only [Act.put, List.setIfInBounds_toArray, List.set_cons_zero, List.set_cons_succ]
    refine takeF 21 239 ?v222 rfl (Or.inl ⟨by rfl, ?hy222⟩) ?rest222
    case hy222 => intro wz hSw; (try dsimp only at hSw); go_simp; try with_reducible rfl
    simp only [Act.put, List.setIfInBounds_toArray, List.set_cons_zero, List.set_cons_succ]
    refine takeF 22 240 ?v223 rfl (Or.inl ⟨by rfl, ?hy223⟩) ?rest223
    case hy223 => intro wz hSw; (try dsimp only at hSw); go_simp; try with_reducible rfl
    simp only [Act.put, List.setIfInBounds_toArray, List.set_cons_zero, List.set_cons_succ]
    refine takeF 23 241 ?v224 rfl (Or.inl ⟨by rfl, ?hy224⟩) ?rest224
    case hy224 => intro wz hSw; (try dsimp only at hSw); go_simp; try with_reducible rfl
    simp only [Act.put, List.setIfInBounds_toArray, List.set_cons_zero, List.set_cons_succ]
    refine wpAnyH_ready (rs := [24]) (by as_aux_lemma => kernel_rfl) (by simp) ?_
    refine (AllReadyH.cons rfl (fun K' hK => ?_) AllReadyH.nil)
    go_simp
    go_wp2_with (go_at_call 27; refine (hfl _ (by first | exact Below.refl _ _ | exact (Below.refl _ _).drew)).mono ?_; rintro e w3 ⟨rfl, hwd⟩)
    have hw3 : Below wc.heap.size wc w3 := (by first | exact hwd | exact kundrew hwd)
    clear hwd
    refine hK.out _ _ (HS.out _ hw3) (fun _ => ?_)
    clear hK K'
    refine takeF 25 243 ?v225 rfl (Or.inl ⟨by rfl, ?hy225⟩) ?rest225
    case hy225 => intro wz hSw; (try dsimp only at hSw); go_simp; try with_reducible rfl
    simp only [Act.put, List.setIfInBounds_toArray, List.set_cons_zero, List.set_cons_succ]
    refine takeF 26 244 ?v226 rfl (Or.inl ⟨by rfl, ?hy226⟩) ?rest226
    case hy226 => intro wz hSw; (try dsimp only at hSw); go_simp; try with_reducible rfl
    simp only [Act.put, List.setIfInBounds_toArray, List.set_cons_zero, List.set_cons_succ]
    refine wpAnyH_done (by as_aux_lemma => kernel_rfl) ?_ _
    go_wp2_with (go_at_call 39; refine (Qw _ _).mono ?_; rintro e w9 ⟨rfl, hwd⟩; have hw9 : Below w3.heap.size w3 w9 := (by first | exact hwd | exact kundrew hwd); have HR9 := hid (Qc (Qc HRC.out hw3) hw9); have HW9 := hid hw9; clear hw9 hwd; have g0 := Qa HR9.out 0; have g1 := Qa HR9.out 1; have g2 := Qa HR9.out 2; have gf0 := Qf HR9.out 0; have gf1 := Qf HR9.out 1; have gf2 := Qf HR9.out 2)
    have hend := Qt (w := w) (B := w.heap.size + 1) 4 0 [] HR9.out (by omega) (by simp) ((RKC.out.below hw3).below HW9.out) ((RSC.out.trans (RStep.below hw3)).trans (RStep.below HW9.out))
    rw [HT.out]
    exact bodyPost_ret (results_cell_row rfl _ _ (w.heap.size + 1) 52 _ (0, 0) _ rfl hend.1 Try.underlying52 rfl (by kernel_rfl)) rfl ⟨rfl, _, _, hend.2.1, hend.2.2⟩
  | true =>
   as_aux_lemma =>
    obtain ⟨u, i, hcu, hci, huK, hi, rfl⟩ := Qap hO
    have hTG := hg.ths _ (List.getElem_mem h2)
    have hUG := hg.ths _ (List.getElem_mem huK)
    have hwf : WfL K.ths[t].label := QO ((Qx _).2 hTG.label)
    have hwo : WfL K.ths[u].objs[i].label := QO ((Qx _).2 (hUG.obj _ (List.getElem_mem hi)).2)
    have hxl := hTG.text
    have hol := (hUG.obj _ (List.getElem_mem hi)).1
    have hu4 : u < 4 := by have := h.lenK; omega
    have h1u : u < V.length := by have := h.len; omega
    have hget := hid (show getT K c.t = some K.ths[u] by rw [hcu]; exact Qa4 huK)
    have hso : (objAt K c.t c.n).isSome = true := by rw [hO]; rfl
    have x0 : wc.cell? ⟨rb, 1 + t * 5, none⟩ = some V[t].vl := by rw [Qa hC, d0]
    have x1 : wc.cell? ⟨rb, 1 + t * 5 + 1, none⟩ = some V[t].vo := by rw [Qa hC, d1]
    have x3 : wc.cell? ⟨rb, 1 + u * 5 + 3, none⟩ = some V[u].vj := by rw [Qa hC, (hcc u h1u huK).2.2.2.1]
    obtain ⟨hrl, hro, _, _⟩ := RKC.out.thr t h1 h2
    obtain ⟨_, _, hrj, _⟩ := RKC.out.thr u h1u huK
    obtain ⟨p0, c0, e0, _⟩ := id hrl.1
    obtain ⟨p1, c1, e1, _⟩ := id hro.1
    obtain ⟨g, cap, ul, ev, kl, kt, kf, hul⟩ := hrj.cell i hi
    obtain ⟨_, _, hjo, _⟩ := id hrj
    obtain ⟨p8, c8, rfl, _⟩ := id hul.1
    have hLA := hrl.1
    have hOA := hro.1
    have hUA := hul.1
    rw [e0] at x0 hLA
    rw [e1] at x1 hOA
    rw [ev] at x3
    have a2 : wc.cell? ⟨w.heap.size, 2, none⟩ = some (.int .i64 u) := by rw [Qa HBC.out, ← hcu]; rfl
    have a3 : wc.cell? ⟨w.heap.size, 3, none⟩ = some (.int .i64 i) := by rw [Qa HBC.out, ← hci]; rfl
    have HGR : Hid (g ≠ w.heap.size + 1) := hid (fun e => Qn hjo HRC.out (by decide) (by rw [ev, e]; rfl))
    have HBG : Hid (w.heap.size ≠ g) := hid (fun e => Qn hjo HBC.out (by decide) (by rw [ev, ← e]; rfl))
    have HRG : Hid (rb ≠ g) := hid (fun e => Qn hjo hC (by decide) (by rw [ev, ← e]; rfl))
    have EV := hid ev
    have hui : (u : Int) < 4 := by omega
    have hu0 : ¬ ((u : Int) < 0) := by omega
    have hI : (i : Int) < (K.ths[u].objs.length : Int) := by omega
    have I0 : (0 : Int) ≤ i := by omega
    have hin : ¬ ((i : Int) < 0) := by omega
    have HS : Hid (∀ w', Below wc.heap.size wc w' → w'.cell? ⟨rb, 1 + t * 5, none⟩ = some (.slice p0 K.ths[t].label.length c0) ∧ w'.cell? ⟨rb, 1 + t * 5 + 1, none⟩ = some (.slice p1 K.ths[t].own.length c1) ∧ w'.cell? ⟨rb, 1 + t * 5 + 2, none⟩ = some (.string ⟨K.ths[t].text.toArray⟩) ∧ w'.cell? ⟨w.heap.size, 2, none⟩ = some (.int .i64 u) ∧ w'.cell? ⟨w.heap.size, 3, none⟩ = some (.int .i64 i) ∧ w'.cell? ⟨w.heap.size, 7, none⟩ = some (.string ⟨c.text.toArray⟩) ∧ w'.cell? ⟨rb, 1 + u * 5 + 3, none⟩ = some (.slice (some ⟨g, 0, none⟩) K.ths[u].objs.length cap) ∧ w'.cell? ⟨g, i * 2, none⟩ = some (.slice p8 K.ths[u].objs[i].label.length c8) ∧ w'.cell? ⟨g, i * 2 + 1, none⟩ = some (.string ⟨K.ths[u].objs[i].text.toArray⟩)) := hid (fun w' hb => ⟨by rw [hb.cell (Qb x0), x0], by rw [hb.cell (Qb x1), x1], by rw [hb.cell (Qb x2), x2], by rw [hb.cell (Qb a2), a2], by rw [hb.cell (Qb a3), a3], by rw [hb.cell (Qb a7), a7], by rw [hb.cell (Qb x3), x3], by rw [hb.cell (Qb kl), kl], by rw [hb.cell (Qb kt), kt]⟩)
    simp only [Option.isSome_none, Option.isSome_some]
    have HT : Hid (callT K t K.ths[t] c = ({ K with ths := K.ths.set t { K.ths[t] with text := lastL (K.ths[t].text ++ K.ths[u].objs[i].text) } }, ⟨0, (K.ths[u].objs[i].text.length : Int), []⟩)) := hid (by unfold callT getL; rw [if_neg (by omega), hk, hO]; simp [hF]; exact QC K t _)
    clear hC hc0 hc21 hcc d0 d1 d2 d3 d4 x2 xf2 hrl hro hrj hjo e0 e1 ev kl kt kf hul x0 x1 x3 a2 a3 a7 hso hcu hci hO hTG hUG hg
    have hfl := fun wx (hb : Below wc.heap.size wc wx) => QF (.slice p8 K.ths[u].objs[i].label.length c8) (.slice p0 K.ths[t].label.length c0) (.slice p1 K.ths[t].own.length c1) K.ths[u].objs[i].label K.ths[t].label K.ths[t].own wx (hUA.below hb) (hLA.below hb) (hOA.below hb) hwo hwf
    rw [hF] at hfl
    clear hF
    go_wp2
    refine wp_region_held_drew (S := (fun w' => w'.cell? ⟨rb, 1 + t * 5, none⟩ = some (.slice p0 K.ths[t].label.length c0) ∧ w'.cell? ⟨rb, 1 + t * 5 + 1, none⟩ = some (.slice p1 K.ths[t].own.length c1) ∧ w'.cell? ⟨rb, 1 + t * 5 + 2, none⟩ = some (.string ⟨K.ths[t].text.toArray⟩) ∧ w'.cell? ⟨w.heap.size, 2, none⟩ = some (.int .i64 u) ∧ w'.cell? ⟨w.heap.size, 3, none⟩ = some (.int .i64 i) ∧ w'.cell? ⟨w.heap.size, 7, none⟩ = some (.string ⟨c.text.toArray⟩) ∧ w'.cell? ⟨rb, 1 + u * 5 + 3, none⟩ = some (.slice (some ⟨g, 0, none⟩) K.ths[u].objs.length cap) ∧ w'.cell? ⟨g, i * 2, none⟩ = some (.slice p8 K.ths[u].objs[i].label.length c8) ∧ w'.cell? ⟨g, i * 2 + 1, none⟩ = some (.string ⟨K.ths[u].objs[i].text.toArray⟩))) (by as_aux_lemma => kernel_rfl) (HS.out _ (Below.refl _ _).drew) (fun _ => ?_)
    refine takeF 0 218 ?v241 rfl (Or.inl ⟨by rfl, ?hy241⟩) ?rest241
    case hy241 => intro wz hSw; (try dsimp only at hSw); go_simp; try with_reducible rfl
    simp only [Act.put, List.setIfInBounds_toArray, List.set_cons_zero, List.set_cons_succ]
    refine takeF 1 219 ?v242 rfl (Or.inl ⟨by rfl, ?hy242⟩) ?rest242
    case hy242 => intro wz hSw; (try dsimp only at hSw); go_simp; try with_reducible rfl
    simp only [Act.put, List.setIfInBounds_toArray, List.set_cons_zero, List.set_cons_succ]
    refine takeF 2 220 ?v243 rfl (Or.inl ⟨by rfl, ?hy243⟩) ?rest243
    case hy243 => intro wz hSw; (try dsimp only at hSw); go_simp; try with_reducible rfl
    simp only [Act.put, List.setIfInBounds_toArray, List.set_cons_zero, List.set_cons_succ]
    refine takeF 3 221 ?v244 rfl (Or.inl ⟨by rfl, ?hy244⟩) ?rest244
    case hy244 => intro wz hSw; (try dsimp only at hSw); go_simp; try with_reducible rfl
    simp only [Act.put, List.setIfInBounds_toArray, List.set_cons_zero, List.set_cons_succ]
    refine takeF 4 222 ?v245 rfl (Or.inl ⟨by rfl, ?hy245⟩) ?rest245
    case hy245 => intro wz hSw; (try dsimp only at hSw); go_simp; try with_reducible rfl
    simp only [Act.put, List.setIfInBounds_toArray, List.set_cons_zero, List.set_cons_succ]
    refine takeF 5 223 ?v246 rfl (Or.inl ⟨by rfl, ?hy246⟩) ?rest246
    case hy246 => intro wz hSw; (try dsimp only at hSw); go_simp; try with_reducible rfl
    simp only [Act.put, List.setIfInBounds_toArray, List.set_cons_zero, List.set_cons_succ]
    refine takeF 6 224 ?v247 rfl (Or.inl ⟨by rfl, ?hy247⟩) ?rest247
    case hy247 => intro wz hSw; (try dsimp only at hSw); go_simp; try with_reducible rfl
    simp only [Act.put, List.setIfInBounds_toArray, List.set_cons_zero, List.set_cons_succ]
    refine takeF 7 225 ?v248 rfl (Or.inl ⟨by rfl, ?hy248⟩) ?rest248
    case hy248 => intro wz hSw; (try dsimp only at hSw); go_simp; try with_reducible rfl
    simp only [Act.put, List.setIfInBounds_toArray, List.set_cons_zero, List.set_cons_succ]
    refine takeF 8 226 (.pointer (some ⟨rb, 1 + u * 5, none⟩)) rfl (Or.inl ⟨by rfl, ?hy249⟩) ?rest249
    case hy249 => intro wz hSw; (try dsimp only at hSw); go_simp; try simp [hui, hu0, hu4, hI, I0, hin, hi]
    simp only [Act.put, List.setIfInBounds_toArray, List.set_cons_zero, List.set_cons_succ]
    refine takeF 9 227 ?v250 rfl (Or.inl ⟨by rfl, ?hy250⟩) ?rest250
    case hy250 => intro wz hSw; (try dsimp only at hSw); go_simp; try with_reducible rfl
    simp only [Act.put, List.setIfInBounds_toArray, List.set_cons_zero, List.set_cons_succ]
    refine takeF 10 228 ?v251 rfl (Or.inl ⟨by rfl, ?hy251⟩) ?rest251
    case hy251 => intro wz hSw; (try dsimp only at hSw); go_simp; try with_reducible rfl
    simp only [Act.put, List.setIfInBounds_toArray, List.set_cons_zero, List.set_cons_succ]
    refine takeF 11 229 ?v252 rfl (Or.inl ⟨by rfl, ?hy252⟩) ?rest252
    case hy252 => intro wz hSw; (try dsimp only at hSw); go_simp; try with_reducible rfl
    simp only [Act.put, List.setIfInBounds_toArray, List.set_cons_zero, List.set_cons_succ]
    refine takeF 12 230 ?v253 rfl (Or.inl ⟨by rfl, ?hy253⟩) ?rest253
    case hy253 => intro wz hSw; (try dsimp only at hSw); go_simp; try with_reducible rfl
    simp only [Act.put, List.setIfInBounds_toArray, List.set_cons_zero, List.set_cons_succ]
    refine takeF 13 231 (.pointer (some ⟨g, i * 2, none⟩)) rfl (Or.inl ⟨by rfl, ?hy254⟩) ?rest254
    case hy254 => intro wz hSw; (try dsimp only at hSw); go_simp; try simp [hui, hu0, hu4, hI, I0, hin, hi]
    simp only [Act.put, List.setIfInBounds_toArray, List.set_cons_zero, List.set_cons_succ]
    refine takeF 14 232 ?v255 rfl (Or.inl ⟨by rfl, ?hy255⟩) ?rest255
    case hy255 => intro wz hSw; (try dsimp only at hSw); go_simp; try with_reducible rfl
    simp only [Act.put, List.setIfInBounds_toArray, List.set_cons_zero, List.set_cons_succ]
    refine takeF 15 233 ?v256 rfl (Or.inl ⟨by rfl, ?hy256⟩) ?rest256
    case hy256 => intro wz hSw; (try dsimp only at hSw); go_simp; try with_reducible rfl
    simp only [Act.put, List.setIfInBounds_toArray, List.set_cons_zero, List.set_cons_succ]
    refine takeF 16 234 ?v257 rfl (Or.inl ⟨by rfl, ?hy257⟩) ?rest257
    case hy257 => intro wz hSw; (try dsimp only at hSw); go_simp; try with_reducible rfl
    simp only [Act.put, List.setIfInBounds_toArray, List.set_cons_zero, List.set_cons_succ]
    refine takeF 17 235 ?v258 rfl (Or.inl ⟨by rfl, ?hy258⟩) ?rest258
    case hy258 => intro wz hSw; (try dsimp only at hSw); go_simp; try with_reducible rfl
    simp only [Act.put, List.setIfInBounds_toArray, List.set_cons_zero, List.set_cons_succ]
    refine takeF 18 236 ?v259 rfl (Or.inl ⟨by rfl, ?hy259⟩) ?rest259
    case hy259 => intro wz hSw; (try dsimp only at hSw); go_simp; try with_reducible rfl
    simp only [Act.put, List.setIfInBounds_toArray, List.set_cons_zero, List.set_cons_succ]
    refine takeF 19 237 ?v260 rfl (Or.inl ⟨by rfl, ?hy260⟩) ?rest260
    case hy260 => intro wz hSw; (try dsimp only at hSw); go_simp; try with_reducible rfl
    simp only [Act.put, List.setIfInBounds_toArray, List.set_cons_zero, List.set_cons_succ]
    refine takeF 20 238 ?v261 rfl (Or.inl ⟨by rfl, ?hy261⟩) ?rest261
    case hy261 => intro wz hSw; (try dsimp only at hSw); go_simp; try with_reducible rfl
    simp only [Act.put, List.setIfInBounds_toArray, List.set_cons_zero, List.set_cons_succ]
    refine takeF 21 239 ?v262 rfl (Or.inl ⟨by rfl, ?hy262⟩) ?rest262
    case hy262 => intro wz hSw; (try dsimp only at hSw); go_simp; try with_reducible rfl
    simp only [Act.put, List.setIfInBounds_toArray, List.set_cons_zero, List.set_cons_succ]
    refine takeF 22 240 ?v263 rfl (Or.inl ⟨by rfl, ?hy263⟩) ?rest263
    case hy263 => intro wz hSw; (try dsimp only at hSw); go_simp; try with_reducible rfl
    simp only [Act.put, List.setIfInBounds_toArray, List.set_cons_zero, List.set_cons_succ]
    refine takeF 23 241 ?v264 rfl (Or.inl ⟨by rfl, ?hy264⟩) ?rest264
    case hy264 => intro wz hSw; (try dsimp only at hSw); go_simp; try with_reducible rfl
    simp only [Act.put, List.setIfInBounds_toArray, List.set_cons_zero, List.set_cons_succ]
    refine wpAnyH_ready (rs := [24]) (by as_aux_lemma => kernel_rfl) (by simp) ?_
    refine (AllReadyH.cons rfl (fun K' hK => ?_) AllReadyH.nil)
    go_simp
    go_wp2_with (go_at_call 27; refine (hfl _ (by first | exact Below.refl _ _ | exact (Below.refl _ _).drew)).mono ?_; rintro e w3 ⟨rfl, hwd⟩)
    have hw3 : Below wc.heap.size wc w3 := (by first | exact hwd | exact kundrew hwd)
    clear hwd
    refine hK.out _ _ (HS.out _ hw3) (fun _ => ?_)
    clear hK K'
    refine takeF 25 243 ?v265 rfl (Or.inl ⟨by rfl, ?hy265⟩) ?rest265
    case hy265 => intro wz hSw; (try dsimp only at hSw); go_simp; try with_reducible rfl
    simp only [Act.put, List.setIfInBounds_toArray, List.set_cons_zero, List.set_cons_succ]
    refine takeF 26 244 ?v266 rfl (Or.inl ⟨by rfl, ?hy266⟩) ?rest266
    case hy266 => intro wz hSw; (try dsimp only at hSw); go_simp; try with_reducible rfl
    simp only [Act.put, List.setIfInBounds_toArray, List.set_cons_zero, List.set_cons_succ]
    refine wpAnyH_done (by as_aux_lemma => kernel_rfl) ?_ _
    have Hw3 := hid hw3
    clear hw3 hfl
    go_wp2
    refine wp_region_held_drew (S := (fun w' => w'.cell? ⟨rb, 1 + t * 5, none⟩ = some (.slice p0 K.ths[t].label.length c0) ∧ w'.cell? ⟨rb, 1 + t * 5 + 1, none⟩ = some (.slice p1 K.ths[t].own.length c1) ∧ w'.cell? ⟨rb, 1 + t * 5 + 2, none⟩ = some (.string ⟨K.ths[t].text.toArray⟩) ∧ w'.cell? ⟨w.heap.size, 2, none⟩ = some (.int .i64 u) ∧ w'.cell? ⟨w.heap.size, 3, none⟩ = some (.int .i64 i) ∧ w'.cell? ⟨w.heap.size, 7, none⟩ = some (.string ⟨c.text.toArray⟩) ∧ w'.cell? ⟨rb, 1 + u * 5 + 3, none⟩ = some (.slice (some ⟨g, 0, none⟩) K.ths[u].objs.length cap) ∧ w'.cell? ⟨g, i * 2, none⟩ = some (.slice p8 K.ths[u].objs[i].label.length c8) ∧ w'.cell? ⟨g, i * 2 + 1, none⟩ = some (.string ⟨K.ths[u].objs[i].text.toArray⟩))) (by as_aux_lemma => kernel_rfl) (HS.out _ (Qd Hw3.out (Below.refl _ _).drew)) (fun _ => ?_)
    refine takeF 0 247 ?v227 rfl (Or.inl ⟨by rfl, ?hy227⟩) ?rest227
    case hy227 => intro wz hSw; (try dsimp only at hSw); go_simp; try with_reducible rfl
    simp only [Act.put, List.setIfInBounds_toArray, List.set_cons_zero, List.set_cons_succ]
    refine takeF 1 248 ?v228 rfl (Or.inl ⟨by rfl, ?hy228⟩) ?rest228
    case hy228 => intro wz hSw; (try dsimp only at hSw); go_simp; try with_reducible rfl
    simp only [Act.put, List.setIfInBounds_toArray, List.set_cons_zero, List.set_cons_succ]
    refine takeF 2 249 ?v229 rfl (Or.inl ⟨by rfl, ?hy229⟩) ?rest229
    case hy229 => intro wz hSw; (try dsimp only at hSw); go_simp; try with_reducible rfl
    simp only [Act.put, List.setIfInBounds_toArray, List.set_cons_zero, List.set_cons_succ]
    refine takeF 3 250 ?v230 rfl (Or.inl ⟨by rfl, ?hy230⟩) ?rest230
    case hy230 => intro wz hSw; (try dsimp only at hSw); go_simp; try with_reducible rfl
    simp only [Act.put, List.setIfInBounds_toArray, List.set_cons_zero, List.set_cons_succ]
    refine takeF 4 251 ?v231 rfl (Or.inl ⟨by rfl, ?hy231⟩) ?rest231
    case hy231 => intro wz hSw; (try dsimp only at hSw); go_simp; try with_reducible rfl
    simp only [Act.put, List.setIfInBounds_toArray, List.set_cons_zero, List.set_cons_succ]
    refine takeF 5 252 (.pointer (some ⟨rb, 1 + u * 5, none⟩)) rfl (Or.inl ⟨by rfl, ?hy232⟩) ?rest232
    case hy232 => intro wz hSw; (try dsimp only at hSw); go_simp; try simp [hui, hu0, hu4, hI, I0, hin, hi]
    simp only [Act.put, List.setIfInBounds_toArray, List.set_cons_zero, List.set_cons_succ]
    refine takeF 6 253 ?v233 rfl (Or.inl ⟨by rfl, ?hy233⟩) ?rest233
    case hy233 => intro wz hSw; (try dsimp only at hSw); go_simp; try with_reducible rfl
    simp only [Act.put, List.setIfInBounds_toArray, List.set_cons_zero, List.set_cons_succ]
    refine takeF 7 254 ?v234 rfl (Or.inl ⟨by rfl, ?hy234⟩) ?rest234
    case hy234 => intro wz hSw; (try dsimp only at hSw); go_simp; try with_reducible rfl
    simp only [Act.put, List.setIfInBounds_toArray, List.set_cons_zero, List.set_cons_succ]
    refine takeF 8 255 ?v235 rfl (Or.inl ⟨by rfl, ?hy235⟩) ?rest235
    case hy235 => intro wz hSw; (try dsimp only at hSw); go_simp; try with_reducible rfl
    simp only [Act.put, List.setIfInBounds_toArray, List.set_cons_zero, List.set_cons_succ]
    refine takeF 9 256 ?v236 rfl (Or.inl ⟨by rfl, ?hy236⟩) ?rest236
    case hy236 => intro wz hSw; (try dsimp only at hSw); go_simp; try with_reducible rfl
    simp only [Act.put, List.setIfInBounds_toArray, List.set_cons_zero, List.set_cons_succ]
    refine takeF 10 257 (.pointer (some ⟨g, i * 2, none⟩)) rfl (Or.inl ⟨by rfl, ?hy237⟩) ?rest237
    case hy237 => intro wz hSw; (try dsimp only at hSw); go_simp; try simp [hui, hu0, hu4, hI, I0, hin, hi]
    simp only [Act.put, List.setIfInBounds_toArray, List.set_cons_zero, List.set_cons_succ]
    refine takeF 11 258 ?v238 rfl (Or.inl ⟨by rfl, ?hy238⟩) ?rest238
    case hy238 => intro wz hSw; (try dsimp only at hSw); go_simp; try with_reducible rfl
    simp only [Act.put, List.setIfInBounds_toArray, List.set_cons_zero, List.set_cons_succ]
    refine takeF 12 259 ?v239 rfl (Or.inl ⟨by rfl, ?hy239⟩) ?rest239
    case hy239 => intro wz hSw; (try dsimp only at hSw); go_simp; try with_reducible rfl
    simp only [Act.put, List.setIfInBounds_toArray, List.set_cons_zero, List.set_cons_succ]
    refine takeF 13 13 ?v240 rfl (Or.inl ⟨by rfl, ?hy240⟩) ?rest240
    case hy240 => intro wz hSw; (try dsimp only at hSw); go_simp; try with_reducible rfl
    simp only [Act.put, List.setIfInBounds_toArray, List.set_cons_zero, List.set_cons_succ]
    refine wpAnyH_done (by as_aux_lemma => kernel_rfl) ?_ _
    have hstr : ∀ a b : List UInt8, (⟨a.toArray⟩ : ByteArray) ++ ⟨b.toArray⟩ = ⟨(a ++ b).toArray⟩ := fun a b => ByteArray.mk_append_mk a b
    have hnl : ¬ 9223372036854775807 < K.ths[t].text.length + K.ths[u].objs[i].text.length := by omega
    have hlast := fun wx => QaQ (K.ths[t].text ++ K.ths[u].objs[i].text) wx (by rw [List.length_append]; omega)
    obtain ⟨y0, y1, y2, y3, y4, y5, y6, y7, y8⟩ := HS.out _ Hw3.out
    have NE := Qcq HRB.out HRC.out (by decide)
    go_wp2_with (go_at_call 24; refine (hlast _).mono ?_; rintro e w4 ⟨rfl, hwq⟩; have hw4 : Below w3.heap.size w3 w4 := (by rw [hwq]; first | exact Below.refl _ _ | exact (Below.refl _ _).drew); have HB4 := hid (Qd Hw3.out hw4); have zf2 := Qf (Qc HRB.out HB4.out) (1 + t * 5 + 2); have z2 := (HS.out _ HB4.out).2.2.1; have HST := hid ((RKC.out.below HB4.out).text h1 h2 (x := lastL (K.ths[t].text ++ K.ths[u].objs[i].text))); have HBX := hid (QU (Qc HRC.out HB4.out) NE (1 + t * 5 + 2) (.string ⟨(lastL (K.ths[t].text ++ K.ths[u].objs[i].text)).toArray⟩)); have r0 := Qa HBX.out 0; have r1 := Qa HBX.out 1; have r2 := Qa HBX.out 2; have rf0 := Qf HBX.out 0; have rf1 := Qf HBX.out 1; have rf2 := Qf HBX.out 2; clear hwq hw4)
    have hend := Qt (w := w) (B := w.heap.size + 1) 0 (K.ths[u].objs[i].text.length : Int) [] HBX.out (by omega) (by simp) HST.out.1 ((RSC.out.trans (RStep.below HB4.out)).trans HST.out.2)
    rw [HT.out]
    exact bodyPost_ret (results_cell_row rfl _ _ (w.heap.size + 1) 52 _ (0, 0) _ rfl hend.1 Try.underlying52 rfl (by kernel_rfl)) rfl ⟨rfl, _, _, hend.2.1, hend.2.2⟩
end Go.Proofs.Ytpdijobakfpnbaa
