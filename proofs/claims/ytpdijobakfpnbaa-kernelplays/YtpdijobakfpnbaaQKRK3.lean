/- The reference's Call: KRK3 (written by genrcall.py). -/
import Derived.Test.YtpdijobakfpnbaaQKRCallL
namespace Go.Proofs.Ytpdijobakfpnbaa
open Go.RowKit Go.Proofs.Parclose
set_option linter.unusedSimpArgs false in
set_option maxRecDepth 100000 in
set_option maxHeartbeats 6400000 in
theorem QgQ (rb t : Nat) (F : List Nat) (V : List ThrV) (K : Ker) (v : Value) (c : Cal) (w : World) (h : RKerAt w rb F V K) (h1 : t < V.length) (h2 : t < K.ths.length) (hv : CalAt w v c) (hx : c.text.length ≤ 64) (hk : c.kind = 3) (hg : GoodK K) :
 Calls Try.prog 14 #[.pointer (some ⟨rb, 0, none⟩), .int .i64 t, v] w fun e w' => e = .returned (repV (callT K t K.ths[t] c).2) ∧ ∃ G V', RKerAt w' rb G V' (callT K t K.ths[t] c).1 ∧ RStep rb w F V w' G V' := by
 have ht : t < 4 := by have := h.len; omega
 have hf : hostB t = true := by unfold hostB; simp; omega
 have hfour := Qj t
 rw [hf] at hfour
 have hx1 : ¬ ((64 : Int) < (c.text.length : Int)) := by omega
 have hti : (t : Int) < 4 := by omega
 obtain ⟨vl, vg, rfl, hvl, hvg⟩ := hv
 obtain ⟨pl, cl, rfl, _⟩ := id hvl
 obtain ⟨pg, cg, rfl, _⟩ := id hvg
 have HVL := hid hvl
 have HVG := hid hvg
 unfold calV
 clear hvl hvg
 rw [hk]
 go_enter Try.func14, Try.ntmps14
 go_upto_region 2 with fail
 have hb0 : Below w.heap.size w ((w.alloc (.cells #[.int .i64 3, .int .i64 c.h, .int .i64 c.t, .int .i64 c.n, .int .i64 c.c, .slice pl c.label.length cl, .slice pg c.grants.length cg, .string ⟨c.text.toArray⟩] 40)).alloc (.cells #[.int .i64 0, .int .i64 0, .string ⟨#[]⟩] 52)) := (Qe w _).alloc (by simp) _
 have HB0 : Hid (((w.alloc (.cells #[.int .i64 3, .int .i64 c.h, .int .i64 c.t, .int .i64 c.n, .int .i64 c.c, .slice pl c.label.length cl, .slice pg c.grants.length cg, .string ⟨c.text.toArray⟩] 40)).alloc (.cells #[.int .i64 0, .int .i64 0, .string ⟨#[]⟩] 52)).heap[w.heap.size]? = some (.cells #[.int .i64 3, .int .i64 c.h, .int .i64 c.t, .int .i64 c.n, .int .i64 c.c, .slice pl c.label.length cl, .slice pg c.grants.length cg, .string ⟨c.text.toArray⟩] 40 (0, 0))) := hid (QI (heap_alloc_new w _) _)
 have HR0 : Hid (((w.alloc (.cells #[.int .i64 3, .int .i64 c.h, .int .i64 c.t, .int .i64 c.n, .int .i64 c.c, .slice pl c.label.length cl, .slice pg c.grants.length cg, .string ⟨c.text.toArray⟩] 40)).alloc (.cells #[.int .i64 0, .int .i64 0, .string ⟨#[]⟩] 52)).heap[w.heap.size + 1]? = some (.cells #[.int .i64 0, .int .i64 0, .string ⟨#[]⟩] 52 (0, 0))) := hid (by have := heap_alloc_new (w.alloc (.cells #[.int .i64 3, .int .i64 c.h, .int .i64 c.t, .int .i64 c.n, .int .i64 c.c, .slice pl c.label.length cl, .slice pg c.grants.length cg, .string ⟨c.text.toArray⟩] 40)) (.cells #[.int .i64 0, .int .i64 0, .string ⟨#[]⟩] 52); simpa using this)
 have RK0 : Hid (RKerAt ((w.alloc (.cells #[.int .i64 3, .int .i64 c.h, .int .i64 c.t, .int .i64 c.n, .int .i64 c.c, .slice pl c.label.length cl, .slice pg c.grants.length cg, .string ⟨c.text.toArray⟩] 40)).alloc (.cells #[.int .i64 0, .int .i64 0, .string ⟨#[]⟩] 52)) rb (F ++ [w.heap.size + 1]) V K) := hid (by have := (h.below (Qe w (.cells #[.int .i64 3, .int .i64 c.h, .int .i64 c.t, .int .i64 c.n, .int .i64 c.c, .slice pl c.label.length cl, .slice pg c.grants.length cg, .string ⟨c.text.toArray⟩] 40))).reserve (.cells #[.int .i64 0, .int .i64 0, .string ⟨#[]⟩] 52); simpa using this)
 have RS0 : Hid (RStep rb w F V ((w.alloc (.cells #[.int .i64 3, .int .i64 c.h, .int .i64 c.t, .int .i64 c.n, .int .i64 c.c, .slice pl c.label.length cl, .slice pg c.grants.length cg, .string ⟨c.text.toArray⟩] 40)).alloc (.cells #[.int .i64 0, .int .i64 0, .string ⟨#[]⟩] 52)) (F ++ [w.heap.size + 1]) V) := hid (by have := (RStep.below (rb := rb) (F := F) (V := V) (Qe w (.cells #[.int .i64 3, .int .i64 c.h, .int .i64 c.t, .int .i64 c.n, .int .i64 c.c, .slice pl c.label.length cl, .slice pg c.grants.length cg, .string ⟨c.text.toArray⟩] 40))).trans (RStep.reserve rb (w.alloc (.cells #[.int .i64 3, .int .i64 c.h, .int .i64 c.t, .int .i64 c.n, .int .i64 c.c, .slice pl c.label.length cl, .slice pg c.grants.length cg, .string ⟨c.text.toArray⟩] 40)) F V (.cells #[.int .i64 0, .int .i64 0, .string ⟨#[]⟩] 52)); simpa using this)
 generalize ((w.alloc (.cells #[.int .i64 3, .int .i64 c.h, .int .i64 c.t, .int .i64 c.n, .int .i64 c.c, .slice pl c.label.length cl, .slice pg c.grants.length cg, .string ⟨c.text.toArray⟩] 40)).alloc (.cells #[.int .i64 0, .int .i64 0, .string ⟨#[]⟩] 52)) = w0 at *
 have b7 : w0.cell? ⟨w.heap.size, 7, none⟩ = some (.string ⟨c.text.toArray⟩) := by rw [Qa HB0.out]; rfl
 go_upto_region 7 with (go_at_call 23; refine (hfour _).mono ?_; rintro e w1 ⟨rfl, hw1⟩; rw [hw1]; clear hw1 w1)
 go_cut [9] (fun v9 wx => v9 = .bool (objAt K c.t c.n).isSome ∧ Below w0.heap.size w0 wx)
 case first =>
  as_aux_lemma =>
   cases hct : hostB c.t with
   | false =>
    have hob := hid (QP (n := c.n) h.lenK hct)
    have hfc := Qj c.t
    rw [hct] at hfc
    have HS : Hid (∀ w', Below w0.heap.size w0 w' → w'.cell? ⟨w.heap.size, 2, none⟩ = some (.int .i64 c.t) ∧ w'.cell? ⟨w.heap.size, 3, none⟩ = some (.int .i64 c.n)) := hid (fun w' hb => ⟨by rw [Qa (Qc HB0.out hb)]; rfl, by rw [Qa (Qc HB0.out hb)]; rfl⟩)
    refine wp_region_held_drew (S := (fun w' => w'.cell? ⟨w.heap.size, 2, none⟩ = some (.int .i64 c.t) ∧ w'.cell? ⟨w.heap.size, 3, none⟩ = some (.int .i64 c.n))) (by as_aux_lemma => kernel_rfl) (HS.out _ (Below.refl _ _).drew) (fun _ => ?_)
    refine takeF 0 37 ?v271 rfl (Or.inl ⟨by rfl, ?hy271⟩) ?rest271
    case hy271 => intro wz hSw; (try dsimp only at hSw); go_simp; try with_reducible rfl
    simp only [Act.put, List.setIfInBounds_toArray, List.set_cons_zero, List.set_cons_succ]
    refine takeF 1 38 ?v272 rfl (Or.inl ⟨by rfl, ?hy272⟩) ?rest272
    case hy272 => intro wz hSw; (try dsimp only at hSw); go_simp; try with_reducible rfl
    simp only [Act.put, List.setIfInBounds_toArray, List.set_cons_zero, List.set_cons_succ]
    refine wpAnyH_ready (rs := [2]) (by as_aux_lemma => kernel_rfl) (by simp) ?_
    refine (AllReadyH.cons rfl (fun K' hK => ?_) AllReadyH.nil)
    go_simp
    go_wp2_with (go_at_call 23; refine (hfc _).mono ?_; rintro e w1 ⟨rfl, hwl⟩; have hb1 : Below w0.heap.size w0 w1 := (by rw [hwl]; first | exact Below.refl _ _ | exact (Below.refl _ _).drew); clear hwl)
    refine hK.out _ _ (HS.out _ hb1) (fun _ => ?_)
    clear hK K'
    refine takeF 3 40 ?v273 rfl (Or.inl ⟨by rfl, ?hy273⟩) ?rest273
    case hy273 => intro wz hSw; (try dsimp only at hSw); go_simp; try with_reducible rfl
    simp only [Act.put, List.setIfInBounds_toArray, List.set_cons_zero, List.set_cons_succ]
    refine skipF 4 41 rfl ?_
    simp only [Act.put, List.setIfInBounds_toArray, List.set_cons_zero, List.set_cons_succ]
    refine skipF 5 42 rfl ?_
    simp only [Act.put, List.setIfInBounds_toArray, List.set_cons_zero, List.set_cons_succ]
    refine skipF 6 43 rfl ?_
    simp only [Act.put, List.setIfInBounds_toArray, List.set_cons_zero, List.set_cons_succ]
    refine takeF 7 44 ?v274 rfl (Or.inl ⟨by rfl, ?hy274⟩) ?rest274
    case hy274 => intro wz hSw; (try dsimp only at hSw); go_simp; try with_reducible rfl
    simp only [Act.put, List.setIfInBounds_toArray, List.set_cons_zero, List.set_cons_succ]
    refine takeF 8 45 ?v275 rfl (Or.inl ⟨by rfl, ?hy275⟩) ?rest275
    case hy275 => intro wz hSw; (try dsimp only at hSw); go_simp; try with_reducible rfl
    simp only [Act.put, List.setIfInBounds_toArray, List.set_cons_zero, List.set_cons_succ]
    refine skipF 9 46 rfl ?_
    simp only [Act.put, List.setIfInBounds_toArray, List.set_cons_zero, List.set_cons_succ]
    refine skipF 10 47 rfl ?_
    simp only [Act.put, List.setIfInBounds_toArray, List.set_cons_zero, List.set_cons_succ]
    refine skipF 11 48 rfl ?_
    simp only [Act.put, List.setIfInBounds_toArray, List.set_cons_zero, List.set_cons_succ]
    refine skipF 12 49 rfl ?_
    simp only [Act.put, List.setIfInBounds_toArray, List.set_cons_zero, List.set_cons_succ]
    refine skipF 13 50 rfl ?_
    simp only [Act.put, List.setIfInBounds_toArray, List.set_cons_zero, List.set_cons_succ]
    refine skipF 14 51 rfl ?_
    simp only [Act.put, List.setIfInBounds_toArray, List.set_cons_zero, List.set_cons_succ]
    refine skipF 15 52 rfl ?_
    simp only [Act.put, List.setIfInBounds_toArray, List.set_cons_zero, List.set_cons_succ]
    refine skipF 16 53 rfl ?_
    simp only [Act.put, List.setIfInBounds_toArray, List.set_cons_zero, List.set_cons_succ]
    refine skipF 17 54 rfl ?_
    simp only [Act.put, List.setIfInBounds_toArray, List.set_cons_zero, List.set_cons_succ]
    refine skipF 18 55 rfl ?_
    simp only [Act.put, List.setIfInBounds_toArray, List.set_cons_zero, List.set_cons_succ]
    refine skipF 19 56 rfl ?_
    simp only [Act.put, List.setIfInBounds_toArray, List.set_cons_zero, List.set_cons_succ]
    refine skipF 20 57 rfl ?_
    simp only [Act.put, List.setIfInBounds_toArray, List.set_cons_zero, List.set_cons_succ]
    refine skipF 21 58 rfl ?_
    simp only [Act.put, List.setIfInBounds_toArray, List.set_cons_zero, List.set_cons_succ]
    refine takeF 22 59 ?v276 rfl (Or.inl ⟨by rfl, ?hy276⟩) ?rest276
    case hy276 => intro wz hSw; (try dsimp only at hSw); go_simp; try with_reducible rfl
    simp only [Act.put, List.setIfInBounds_toArray, List.set_cons_zero, List.set_cons_succ]
    refine takeF 23 9 ?v277 rfl (Or.inl ⟨by rfl, ?hy277⟩) ?rest277
    case hy277 => intro wz hSw; (try dsimp only at hSw); go_simp; try with_reducible rfl
    simp only [Act.put, List.setIfInBounds_toArray, List.set_cons_zero, List.set_cons_succ]
    refine wpAnyH_done (by as_aux_lemma => kernel_rfl) ?_ _
    go_wp2_with fail
    go_meet
    exact ⟨by rw [hob.out]; rfl, hb1⟩
   | true =>
    have hfc := Qj c.t
    rw [hct] at hfc
    by_cases hn : 0 ≤ c.n
    · skip
      obtain ⟨u, hu⟩ : ∃ u : Nat, c.t = u := ⟨c.t.toNat, by unfold hostB at hct; simp at hct; omega⟩
      have hu4 : u < 4 := by unfold hostB at hct; simp at hct; omega
      have huV : u < V.length := by rw [h.len]; exact hu4
      have huK : u < K.ths.length := by rw [h.lenK]; exact hu4
      have hob : (objAt K c.t c.n).isSome = decide (c.n < (K.ths[u].objs.length : Int)) := Q2 huK hu hn
      have HOB := hid hob
      rw [hu] at hfc
      clear hob
      obtain ⟨C, hC, _, _, _, hcc⟩ := RK0.out.box
      obtain ⟨_, _, _, q3, _⟩ := hcc u huV huK
      obtain ⟨_, _, ⟨_, _, hoj, _⟩, _⟩ := RK0.out.thr u huV huK
      obtain ⟨pu, cu, eu⟩ := Qi hoj
      have hu3 : w0.cell? ⟨rb, 1 + u * 5 + 3, none⟩ = some (.slice pu K.ths[u].objs.length cu) := by rw [Qa hC, q3, eu]
      have hand : bits .and .i64 (u : Int) 3 = (u : Int) := and3 hu4
      have hui : (u : Int) < 4 := by omega
      have hu0 : ¬ ((u : Int) < 0) := by omega
      have HS : Hid (∀ w', Below w0.heap.size w0 w' → w'.cell? ⟨w.heap.size, 2, none⟩ = some (.int .i64 u) ∧ w'.cell? ⟨w.heap.size, 3, none⟩ = some (.int .i64 c.n) ∧ w'.cell? ⟨rb, 1 + u * 5 + 3, none⟩ = some (.slice pu K.ths[u].objs.length cu)) := hid (fun w' hb => ⟨by rw [Qa (Qc HB0.out hb)]; show some (Value.int .i64 c.t) = _; rw [hu], by rw [Qa (Qc HB0.out hb)]; rfl, by rw [hb.cell (Qb hu3), hu3]⟩)
      clear hC hcc q3 hoj eu hu
      refine wp_region_held_drew (S := (fun w' => w'.cell? ⟨w.heap.size, 2, none⟩ = some (.int .i64 u) ∧ w'.cell? ⟨w.heap.size, 3, none⟩ = some (.int .i64 c.n) ∧ w'.cell? ⟨rb, 1 + u * 5 + 3, none⟩ = some (.slice pu K.ths[u].objs.length cu))) (by as_aux_lemma => kernel_rfl) (HS.out _ (Below.refl _ _).drew) (fun _ => ?_)
      refine takeF 0 37 ?v278 rfl (Or.inl ⟨by rfl, ?hy278⟩) ?rest278
      case hy278 => intro wz hSw; (try dsimp only at hSw); go_simp; try with_reducible rfl
      simp only [Act.put, List.setIfInBounds_toArray, List.set_cons_zero, List.set_cons_succ]
      refine takeF 1 38 ?v279 rfl (Or.inl ⟨by rfl, ?hy279⟩) ?rest279
      case hy279 => intro wz hSw; (try dsimp only at hSw); go_simp; try with_reducible rfl
      simp only [Act.put, List.setIfInBounds_toArray, List.set_cons_zero, List.set_cons_succ]
      refine wpAnyH_ready (rs := [2]) (by as_aux_lemma => kernel_rfl) (by simp) ?_
      refine (AllReadyH.cons rfl (fun K' hK => ?_) AllReadyH.nil)
      go_simp
      go_wp2_with (go_at_call 23; refine (hfc _).mono ?_; rintro e w1 ⟨rfl, hwl⟩; have hb1 : Below w0.heap.size w0 w1 := (by rw [hwl]; first | exact Below.refl _ _ | exact (Below.refl _ _).drew); clear hwl)
      refine hK.out _ _ (HS.out _ hb1) (fun _ => ?_)
      clear hK K'
      refine takeF 3 40 ?v280 rfl (Or.inl ⟨by rfl, ?hy280⟩) ?rest280
      case hy280 => intro wz hSw; (try dsimp only at hSw); go_simp; try with_reducible rfl
      simp only [Act.put, List.setIfInBounds_toArray, List.set_cons_zero, List.set_cons_succ]
      refine takeF 4 41 ?v281 rfl (Or.inl ⟨by rfl, ?hy281⟩) ?rest281
      case hy281 => intro wz hSw; (try dsimp only at hSw); go_simp; try with_reducible rfl
      simp only [Act.put, List.setIfInBounds_toArray, List.set_cons_zero, List.set_cons_succ]
      refine takeF 5 42 ?v282 rfl (Or.inl ⟨by rfl, ?hy282⟩) ?rest282
      case hy282 => intro wz hSw; (try dsimp only at hSw); go_simp; try with_reducible rfl
      simp only [Act.put, List.setIfInBounds_toArray, List.set_cons_zero, List.set_cons_succ]
      refine takeF 6 43 (.bool true) rfl (Or.inl ⟨by rfl, ?hy283⟩) ?rest283
      case hy283 => intro wz hSw; (try dsimp only at hSw); go_simp; try simp [hn]
      simp only [Act.put, List.setIfInBounds_toArray, List.set_cons_zero, List.set_cons_succ]
      refine takeF 7 44 ?v284 rfl (Or.inl ⟨by rfl, ?hy284⟩) ?rest284
      case hy284 => intro wz hSw; (try dsimp only at hSw); go_simp; try with_reducible rfl
      simp only [Act.put, List.setIfInBounds_toArray, List.set_cons_zero, List.set_cons_succ]
      refine takeF 8 45 ?v285 rfl (Or.inl ⟨by rfl, ?hy285⟩) ?rest285
      case hy285 => intro wz hSw; (try dsimp only at hSw); go_simp; try with_reducible rfl
      simp only [Act.put, List.setIfInBounds_toArray, List.set_cons_zero, List.set_cons_succ]
      refine takeF 9 46 ?v286 rfl (Or.inl ⟨by rfl, ?hy286⟩) ?rest286
      case hy286 => intro wz hSw; (try dsimp only at hSw); go_simp; try with_reducible rfl
      simp only [Act.put, List.setIfInBounds_toArray, List.set_cons_zero, List.set_cons_succ]
      refine takeF 10 47 ?v287 rfl (Or.inl ⟨by rfl, ?hy287⟩) ?rest287
      case hy287 => intro wz hSw; (try dsimp only at hSw); go_simp; try with_reducible rfl
      simp only [Act.put, List.setIfInBounds_toArray, List.set_cons_zero, List.set_cons_succ]
      refine takeF 11 48 ?v288 rfl (Or.inl ⟨by rfl, ?hy288⟩) ?rest288
      case hy288 => intro wz hSw; (try dsimp only at hSw); go_simp; try with_reducible rfl
      simp only [Act.put, List.setIfInBounds_toArray, List.set_cons_zero, List.set_cons_succ]
      refine takeF 12 49 ?v289 rfl (Or.inl ⟨by rfl, ?hy289⟩) ?rest289
      case hy289 => intro wz hSw; (try dsimp only at hSw); go_simp; try with_reducible rfl
      simp only [Act.put, List.setIfInBounds_toArray, List.set_cons_zero, List.set_cons_succ]
      refine takeF 13 50 ?v290 rfl (Or.inl ⟨by rfl, ?hy290⟩) ?rest290
      case hy290 => intro wz hSw; (try dsimp only at hSw); go_simp; try with_reducible rfl
      simp only [Act.put, List.setIfInBounds_toArray, List.set_cons_zero, List.set_cons_succ]
      refine takeF 14 51 (.int .i64 u) rfl (Or.inl ⟨by rfl, ?hy291⟩) ?rest291
      case hy291 => intro wz hSw; (try dsimp only at hSw); go_simp; try simp [hand]
      simp only [Act.put, List.setIfInBounds_toArray, List.set_cons_zero, List.set_cons_succ]
      refine takeF 15 52 ?v292 rfl (Or.inl ⟨by rfl, ?hy292⟩) ?rest292
      case hy292 => intro wz hSw; (try dsimp only at hSw); go_simp; try with_reducible rfl
      simp only [Act.put, List.setIfInBounds_toArray, List.set_cons_zero, List.set_cons_succ]
      refine takeF 16 53 ?v293 rfl (Or.inl ⟨by rfl, ?hy293⟩) ?rest293
      case hy293 => intro wz hSw; (try dsimp only at hSw); go_simp; try with_reducible rfl
      simp only [Act.put, List.setIfInBounds_toArray, List.set_cons_zero, List.set_cons_succ]
      refine takeF 17 54 (.pointer (some ⟨rb, 1 + u * 5, none⟩)) rfl (Or.inl ⟨by rfl, ?hy294⟩) ?rest294
      case hy294 => intro wz hSw; (try dsimp only at hSw); go_simp; try simp [hui, hu0, hu4]
      simp only [Act.put, List.setIfInBounds_toArray, List.set_cons_zero, List.set_cons_succ]
      refine takeF 18 55 ?v295 rfl (Or.inl ⟨by rfl, ?hy295⟩) ?rest295
      case hy295 => intro wz hSw; (try dsimp only at hSw); go_simp; try with_reducible rfl
      simp only [Act.put, List.setIfInBounds_toArray, List.set_cons_zero, List.set_cons_succ]
      refine takeF 19 56 ?v296 rfl (Or.inl ⟨by rfl, ?hy296⟩) ?rest296
      case hy296 => intro wz hSw; (try dsimp only at hSw); go_simp; try with_reducible rfl
      simp only [Act.put, List.setIfInBounds_toArray, List.set_cons_zero, List.set_cons_succ]
      refine takeF 20 57 ?v297 rfl (Or.inl ⟨by rfl, ?hy297⟩) ?rest297
      case hy297 => intro wz hSw; (try dsimp only at hSw); go_simp; try with_reducible rfl
      simp only [Act.put, List.setIfInBounds_toArray, List.set_cons_zero, List.set_cons_succ]
      refine takeF 21 58 ?v298 rfl (Or.inl ⟨by rfl, ?hy298⟩) ?rest298
      case hy298 => intro wz hSw; (try dsimp only at hSw); go_simp; try with_reducible rfl
      simp only [Act.put, List.setIfInBounds_toArray, List.set_cons_zero, List.set_cons_succ]
      refine takeF 22 59 ?v299 rfl (Or.inl ⟨by rfl, ?hy299⟩) ?rest299
      case hy299 => intro wz hSw; (try dsimp only at hSw); go_simp; try with_reducible rfl
      simp only [Act.put, List.setIfInBounds_toArray, List.set_cons_zero, List.set_cons_succ]
      refine takeF 23 9 ?v300 rfl (Or.inl ⟨by rfl, ?hy300⟩) ?rest300
      case hy300 => intro wz hSw; (try dsimp only at hSw); go_simp; try with_reducible rfl
      simp only [Act.put, List.setIfInBounds_toArray, List.set_cons_zero, List.set_cons_succ]
      refine wpAnyH_done (by as_aux_lemma => kernel_rfl) ?_ _
      go_wp2_with fail
      go_meet
      exact ⟨by rw [HOB.out], hb1⟩
    · skip
      have hob := hid (QQ (K := K) (t := c.t) hn)
      have HS : Hid (∀ w', Below w0.heap.size w0 w' → w'.cell? ⟨w.heap.size, 2, none⟩ = some (.int .i64 c.t) ∧ w'.cell? ⟨w.heap.size, 3, none⟩ = some (.int .i64 c.n)) := hid (fun w' hb => ⟨by rw [Qa (Qc HB0.out hb)]; rfl, by rw [Qa (Qc HB0.out hb)]; rfl⟩)
      refine wp_region_held_drew (S := (fun w' => w'.cell? ⟨w.heap.size, 2, none⟩ = some (.int .i64 c.t) ∧ w'.cell? ⟨w.heap.size, 3, none⟩ = some (.int .i64 c.n))) (by as_aux_lemma => kernel_rfl) (HS.out _ (Below.refl _ _).drew) (fun _ => ?_)
      refine takeF 0 37 ?v301 rfl (Or.inl ⟨by rfl, ?hy301⟩) ?rest301
      case hy301 => intro wz hSw; (try dsimp only at hSw); go_simp; try with_reducible rfl
      simp only [Act.put, List.setIfInBounds_toArray, List.set_cons_zero, List.set_cons_succ]
      refine takeF 1 38 ?v302 rfl (Or.inl ⟨by rfl, ?hy302⟩) ?rest302
      case hy302 => intro wz hSw; (try dsimp only at hSw); go_simp; try with_reducible rfl
      simp only [Act.put, List.setIfInBounds_toArray, List.set_cons_zero, List.set_cons_succ]
      refine wpAnyH_ready (rs := [2]) (by as_aux_lemma => kernel_rfl) (by simp) ?_
      refine (AllReadyH.cons rfl (fun K' hK => ?_) AllReadyH.nil)
      go_simp
      go_wp2_with (go_at_call 23; refine (hfc _).mono ?_; rintro e w1 ⟨rfl, hwl⟩; have hb1 : Below w0.heap.size w0 w1 := (by rw [hwl]; first | exact Below.refl _ _ | exact (Below.refl _ _).drew); clear hwl)
      refine hK.out _ _ (HS.out _ hb1) (fun _ => ?_)
      clear hK K'
      refine takeF 3 40 ?v303 rfl (Or.inl ⟨by rfl, ?hy303⟩) ?rest303
      case hy303 => intro wz hSw; (try dsimp only at hSw); go_simp; try with_reducible rfl
      simp only [Act.put, List.setIfInBounds_toArray, List.set_cons_zero, List.set_cons_succ]
      refine takeF 4 41 ?v304 rfl (Or.inl ⟨by rfl, ?hy304⟩) ?rest304
      case hy304 => intro wz hSw; (try dsimp only at hSw); go_simp; try with_reducible rfl
      simp only [Act.put, List.setIfInBounds_toArray, List.set_cons_zero, List.set_cons_succ]
      refine takeF 5 42 ?v305 rfl (Or.inl ⟨by rfl, ?hy305⟩) ?rest305
      case hy305 => intro wz hSw; (try dsimp only at hSw); go_simp; try with_reducible rfl
      simp only [Act.put, List.setIfInBounds_toArray, List.set_cons_zero, List.set_cons_succ]
      refine takeF 6 43 (.bool false) rfl (Or.inl ⟨by rfl, ?hy306⟩) ?rest306
      case hy306 => intro wz hSw; (try dsimp only at hSw); go_simp; try simp [hn]; try omega
      simp only [Act.put, List.setIfInBounds_toArray, List.set_cons_zero, List.set_cons_succ]
      refine takeF 7 44 ?v307 rfl (Or.inl ⟨by rfl, ?hy307⟩) ?rest307
      case hy307 => intro wz hSw; (try dsimp only at hSw); go_simp; try with_reducible rfl
      simp only [Act.put, List.setIfInBounds_toArray, List.set_cons_zero, List.set_cons_succ]
      refine takeF 8 45 ?v308 rfl (Or.inl ⟨by rfl, ?hy308⟩) ?rest308
      case hy308 => intro wz hSw; (try dsimp only at hSw); go_simp; try with_reducible rfl
      simp only [Act.put, List.setIfInBounds_toArray, List.set_cons_zero, List.set_cons_succ]
      refine skipF 9 46 rfl ?_
      simp only [Act.put, List.setIfInBounds_toArray, List.set_cons_zero, List.set_cons_succ]
      refine skipF 10 47 rfl ?_
      simp only [Act.put, List.setIfInBounds_toArray, List.set_cons_zero, List.set_cons_succ]
      refine skipF 11 48 rfl ?_
      simp only [Act.put, List.setIfInBounds_toArray, List.set_cons_zero, List.set_cons_succ]
      refine skipF 12 49 rfl ?_
      simp only [Act.put, List.setIfInBounds_toArray, List.set_cons_zero, List.set_cons_succ]
      refine skipF 13 50 rfl ?_
      simp only [Act.put, List.setIfInBounds_toArray, List.set_cons_zero, List.set_cons_succ]
      refine skipF 14 51 rfl ?_
      simp only [Act.put, List.setIfInBounds_toArray, List.set_cons_zero, List.set_cons_succ]
      refine skipF 15 52 rfl ?_
      simp only [Act.put, List.setIfInBounds_toArray, List.set_cons_zero, List.set_cons_succ]
      refine skipF 16 53 rfl ?_
      simp only [Act.put, List.setIfInBounds_toArray, List.set_cons_zero, List.set_cons_succ]
      refine skipF 17 54 rfl ?_
      simp only [Act.put, List.setIfInBounds_toArray, List.set_cons_zero, List.set_cons_succ]
      refine skipF 18 55 rfl ?_
      simp only [Act.put, List.setIfInBounds_toArray, List.set_cons_zero, List.set_cons_succ]
      refine skipF 19 56 rfl ?_
      simp only [Act.put, List.setIfInBounds_toArray, List.set_cons_zero, List.set_cons_succ]
      refine skipF 20 57 rfl ?_
      simp only [Act.put, List.setIfInBounds_toArray, List.set_cons_zero, List.set_cons_succ]
      refine skipF 21 58 rfl ?_
      simp only [Act.put, List.setIfInBounds_toArray, List.set_cons_zero, List.set_cons_succ]
      refine takeF 22 59 ?v309 rfl (Or.inl ⟨by rfl, ?hy309⟩) ?rest309
      case hy309 => intro wz hSw; (try dsimp only at hSw); go_simp; try with_reducible rfl
      simp only [Act.put, List.setIfInBounds_toArray, List.set_cons_zero, List.set_cons_succ]
      refine takeF 23 9 ?v310 rfl (Or.inl ⟨by rfl, ?hy310⟩) ?rest310
      case hy310 => intro wz hSw; (try dsimp only at hSw); go_simp; try with_reducible rfl
      simp only [Act.put, List.setIfInBounds_toArray, List.set_cons_zero, List.set_cons_succ]
      refine wpAnyH_done (by as_aux_lemma => kernel_rfl) ?_ _
      go_wp2_with fail
      go_meet
      exact ⟨by rw [hob.out]; rfl, hb1⟩
 case rest =>
  obtain ⟨rfl, hbc⟩ := hcut
  have HBC := hid (Qc HB0.out hbc)
  have HRC := hid (Qc HR0.out hbc)
  have RKC := hid (RK0.out.below hbc)
  have RSC := hid (RS0.out.trans (RStep.below hbc))
  have hbw := Qd hb0 hbc
  have a0 : wc.cell? ⟨w.heap.size, 0, none⟩ = some (.int .i64 3) := by rw [Qa HBC.out]; rfl
  have a7 : wc.cell? ⟨w.heap.size, 7, none⟩ = some (.string ⟨c.text.toArray⟩) := by rw [Qa HBC.out]; rfl
  obtain ⟨C, hC, _, hc0, hc21, hcc⟩ := RKC.out.box
  obtain ⟨d0, d1, d2, d3, d4⟩ := hcc t h1 h2
  have x2 : wc.cell? ⟨rb, 1 + t * 5 + 2, none⟩ = some (.string ⟨K.ths[t].text.toArray⟩) := by rw [Qa hC, d2]
  have xf2 := Qf hC (1 + t * 5 + 2)
  have HRB := hid hC
  clear hfour b7
  cases hO : objAt K c.t c.n with
  | none =>
   as_aux_lemma =>
    clear hC hc0 hc21 hcc d0 d1 d2 d3 d4 x2 xf2
    have hso : (objAt K c.t c.n).isSome = false := by rw [hO]; rfl
    have HT : Hid (callT K t K.ths[t] c = (K, code 0)) := hid (by unfold callT putL; rw [if_neg (by omega), hk, hO]; simp <;> (cases getT K c.t <;> rfl))
    simp only [Option.isSome_none, Option.isSome_some]
    have HS : Hid (∀ w', Below wc.heap.size wc w' → w'.cell? ⟨w.heap.size, 0, none⟩ = some (.int .i64 3)) := hid (fun w' hb => by rw [Qa (Qc HBC.out hb)]; rfl)
    clear hO hso
    go_wp2
    refine wp_region_held_drew (S := (fun w' => w'.cell? ⟨w.heap.size, 0, none⟩ = some (.int .i64 3))) (by as_aux_lemma => kernel_rfl) (HS.out _ (Below.refl _ _).drew) (fun _ => ?_)
    refine takeF 0 168 ?v198 rfl (Or.inl ⟨by rfl, ?hy198⟩) ?rest198
    case hy198 => intro wz hSw; (try dsimp only at hSw); go_simp; try with_reducible rfl
    simp only [Act.put, List.setIfInBounds_toArray, List.set_cons_zero, List.set_cons_succ]
    refine takeF 1 169 ?v199 rfl (Or.inl ⟨by rfl, ?hy199⟩) ?rest199
    case hy199 => intro wz hSw; (try dsimp only at hSw); go_simp; try with_reducible rfl
    simp only [Act.put, List.setIfInBounds_toArray, List.set_cons_zero, List.set_cons_succ]
    refine skipF 2 170 rfl ?_
    simp only [Act.put, List.setIfInBounds_toArray, List.set_cons_zero, List.set_cons_succ]
    refine skipF 3 171 rfl ?_
    simp only [Act.put, List.setIfInBounds_toArray, List.set_cons_zero, List.set_cons_succ]
    refine skipF 4 172 rfl ?_
    simp only [Act.put, List.setIfInBounds_toArray, List.set_cons_zero, List.set_cons_succ]
    refine skipF 5 173 rfl ?_
    simp only [Act.put, List.setIfInBounds_toArray, List.set_cons_zero, List.set_cons_succ]
    refine skipF 6 174 rfl ?_
    simp only [Act.put, List.setIfInBounds_toArray, List.set_cons_zero, List.set_cons_succ]
    refine skipF 7 175 rfl ?_
    simp only [Act.put, List.setIfInBounds_toArray, List.set_cons_zero, List.set_cons_succ]
    refine skipF 8 176 rfl ?_
    simp only [Act.put, List.setIfInBounds_toArray, List.set_cons_zero, List.set_cons_succ]
    refine skipF 9 177 rfl ?_
    simp only [Act.put, List.setIfInBounds_toArray, List.set_cons_zero, List.set_cons_succ]
    refine skipF 10 178 rfl ?_
    simp only [Act.put, List.setIfInBounds_toArray, List.set_cons_zero, List.set_cons_succ]
    refine skipF 11 179 rfl ?_
    simp only [Act.put, List.setIfInBounds_toArray, List.set_cons_zero, List.set_cons_succ]
    refine skipF 12 180 rfl ?_
    simp only [Act.put, List.setIfInBounds_toArray, List.set_cons_zero, List.set_cons_succ]
    refine skipF 13 181 rfl ?_
    simp only [Act.put, List.setIfInBounds_toArray, List.set_cons_zero, List.set_cons_succ]
    refine skipF 14 182 rfl ?_
    simp only [Act.put, List.setIfInBounds_toArray, List.set_cons_zero, List.set_cons_succ]
    refine skipF 15 183 rfl ?_
    simp only [Act.put, List.setIfInBounds_toArray, List.set_cons_zero, List.set_cons_succ]
    refine skipF 16 184 rfl ?_
    simp only [Act.put, List.setIfInBounds_toArray, List.set_cons_zero, List.set_cons_succ]
    refine skipF 17 185 rfl ?_
    simp only [Act.put, List.setIfInBounds_toArray, List.set_cons_zero, List.set_cons_succ]
    refine skipF 18 186 rfl ?_
    simp only [Act.put, List.setIfInBounds_toArray, List.set_cons_zero, List.set_cons_succ]
    refine skipF 19 187 rfl ?_
    simp only [Act.put, List.setIfInBounds_toArray, List.set_cons_zero, List.set_cons_succ]
    refine skipF 20 188 rfl ?_
    simp only [Act.put, List.setIfInBounds_toArray, List.set_cons_zero, List.set_cons_succ]
    refine skipF 21 189 rfl ?_
    simp only [Act.put, List.setIfInBounds_toArray, List.set_cons_zero, List.set_cons_succ]
    refine skipF 22 190 rfl ?_
    simp only [Act.put, List.setIfInBounds_toArray, List.set_cons_zero, List.set_cons_succ]
    refine skipF 23 191 rfl ?_
    simp only [Act.put, List.setIfInBounds_toArray, List.set_cons_zero, List.set_cons_succ]
    refine takeF 24 192 ?v200 rfl (Or.inl ⟨by rfl, ?hy200⟩) ?rest200
    case hy200 => intro wz hSw; (try dsimp only at hSw); go_simp; try with_reducible rfl
    simp only [Act.put, List.setIfInBounds_toArray, List.set_cons_zero, List.set_cons_succ]
    refine wpAnyH_done (by as_aux_lemma => kernel_rfl) ?_ _
    go_wp2_with (go_at_call 39; refine (Qw _ _).mono ?_; rintro e w9 ⟨rfl, hwd⟩; have hw9 : Below wc.heap.size wc w9 := (by first | exact hwd | exact kundrew hwd); have HR9 := hid (Qc HRC.out hw9); have HW9 := hid hw9; clear hw9 hwd; have g0 := Qa HR9.out 0; have g1 := Qa HR9.out 1; have g2 := Qa HR9.out 2; have gf0 := Qf HR9.out 0; have gf1 := Qf HR9.out 1; have gf2 := Qf HR9.out 2)
    have hend := Qt (w := w) (B := w.heap.size + 1) 0 0 [] HR9.out (by omega) (by simp) (RKC.out.below HW9.out) (RSC.out.trans (RStep.below HW9.out))
    rw [HT.out]
    exact bodyPost_ret (results_cell_row rfl _ _ (w.heap.size + 1) 52 _ (0, 0) _ rfl hend.1 Try.underlying52 rfl (by kernel_rfl)) rfl ⟨rfl, _, _, hend.2.1, hend.2.2⟩
  | some o =>
  cases hF : flowsL K.ths[t].label o.label K.ths[t].own with
  | false =>
   as_aux_lemma =>
    obtain ⟨u, i, hcu, hci, huK, hi, rfl⟩ := Qap hO
    have hTG := hg.ths _ (List.getElem_mem h2)
    have hUG := hg.ths _ (List.getElem_mem huK)
    have hwf : WfL K.ths[t].label := QO ((Qx _).2 hTG.label)
    have hwo : WfL K.ths[u].objs[i].label := QO ((Qx _).2 (hUG.obj _ (List.getElem_mem hi)).2)
    have hxl := hTG.text
    have hol := (hUG.obj _ (List.getElem_mem hi)).1
    have hu4 : u < 4 := by have := h.lenK; omega
    have h1u : u < V.length := by have := h.len; omega
    have hget := hid (show getT K c.t = some K.ths[u] by rw [hcu]; exact Qa4 huK)
    have hso : (objAt K c.t c.n).isSome = true := by rw [hO]; rfl
    have x0 : wc.cell? ⟨rb, 1 + t * 5, none⟩ = some V[t].vl := by rw [Qa hC, d0]
    have x1 : wc.cell? ⟨rb, 1 + t * 5 + 1, none⟩ = some V[t].vo := by rw [Qa hC, d1]
    have x3 : wc.cell? ⟨rb, 1 + u * 5 + 3, none⟩ = some V[u].vj := by rw [Qa hC, (hcc u h1u huK).2.2.2.1]
    obtain ⟨hrl, hro, _, _⟩ := RKC.out.thr t h1 h2
    obtain ⟨_, _, hrj, _⟩ := RKC.out.thr u h1u huK
    obtain ⟨p0, c0, e0, _⟩ := id hrl.1
    obtain ⟨p1, c1, e1, _⟩ := id hro.1
    obtain ⟨g, cap, ul, ev, kl, kt, kf, hul⟩ := hrj.cell i hi
    obtain ⟨_, _, hjo, _⟩ := id hrj
    obtain ⟨p8, c8, rfl, _⟩ := id hul.1
    have hLA := hrl.1
    have hOA := hro.1
    have hUA := hul.1
    rw [e0] at x0 hLA
    rw [e1] at x1 hOA
    rw [ev] at x3
    have a2 : wc.cell? ⟨w.heap.size, 2, none⟩ = some (.int .i64 u) := by rw [Qa HBC.out, ← hcu]; rfl
    have a3 : wc.cell? ⟨w.heap.size, 3, none⟩ = some (.int .i64 i) := by rw [Qa HBC.out, ← hci]; rfl
    have HGR : Hid (g ≠ w.heap.size + 1) := hid (fun e => Qn hjo HRC.out (by decide) (by rw [ev, e]; rfl))
    have HBG : Hid (w.heap.size ≠ g) := hid (fun e => Qn hjo HBC.out (by decide) (by rw [ev, ← e]; rfl))
    have HRG : Hid (rb ≠ g) := hid (fun e => Qn hjo hC (by decide) (by rw [ev, ← e]; rfl))
    have EV := hid ev
    have hui : (u : Int) < 4 := by omega
    have hu0 : ¬ ((u : Int) < 0) := by omega
    have hI : (i : Int) < (K.ths[u].objs.length : Int) := by omega
    have I0 : (0 : Int) ≤ i := by omega
    have hin : ¬ ((i : Int) < 0) := by omega
    have HS : Hid (∀ w', Below wc.heap.size wc w' → w'.cell? ⟨rb, 1 + t * 5, none⟩ = some (.slice p0 K.ths[t].label.length c0) ∧ w'.cell? ⟨rb, 1 + t * 5 + 1, none⟩ = some (.slice p1 K.ths[t].own.length c1) ∧ w'.cell? ⟨rb, 1 + t * 5 + 2, none⟩ = some (.string ⟨K.ths[t].text.toArray⟩) ∧ w'.cell? ⟨w.heap.size, 2, none⟩ = some (.int .i64 u) ∧ w'.cell? ⟨w.heap.size, 3, none⟩ = some (.int .i64 i) ∧ w'.cell? ⟨w.heap.size, 7, none⟩ = some (.string ⟨c.text.toArray⟩) ∧ w'.cell? ⟨rb, 1 + u * 5 + 3, none⟩ = some (.slice (some ⟨g, 0, none⟩) K.ths[u].objs.length cap) ∧ w'.cell? ⟨g, i * 2, none⟩ = some (.slice p8 K.ths[u].objs[i].label.length c8) ∧ w'.cell? ⟨g, i * 2 + 1, none⟩ = some (.string ⟨K.ths[u].objs[i].text.toArray⟩)) := hid (fun w' hb => ⟨by rw [hb.cell (Qb x0), x0], by rw [hb.cell (Qb x1), x1], by rw [hb.cell (Qb x2), x2], by rw [hb.cell (Qb a2), a2], by rw [hb.cell (Qb a3), a3], by rw [hb.cell (Qb a7), a7], by rw [hb.cell (Qb x3), x3], by rw [hb.cell (Qb kl), kl], by rw [hb.cell (Qb kt), kt]⟩)
    simp only [Option.isSome_none, Option.isSome_some]
    have HT : Hid (callT K t K.ths[t] c = (K, code 0)) := hid (by unfold callT putL; rw [if_neg (by omega), hk, hget.out, hO]; simp [hF])
    clear hC hc0 hc21 hcc d0 d1 d2 d3 d4 x2 xf2 hrl hro hrj hjo e0 e1 ev kl kt kf hul x0 x1 x3 a2 a3 a7 hso hcu hci hO hTG hUG hg
    have hfl := fun wx (hb : Below wc.heap.size wc wx) => QF (.slice p0 K.ths[t].label.length c0) (.slice p8 K.ths[u].objs[i].label.length c8) (.slice p1 K.ths[t].own.length c1) K.ths[t].label K.ths[u].objs[i].label K.ths[t].own wx (hLA.below hb) (hUA.below hb) (hOA.below hb) hwf hwo
    rw [hF] at hfl
    clear hF
    go_wp2
    refine wp_region_held_drew (S := (fun w' => w'.cell? ⟨rb, 1 + t * 5, none⟩ = some (.slice p0 K.ths[t].label.length c0) ∧ w'.cell? ⟨rb, 1 + t * 5 + 1, none⟩ = some (.slice p1 K.ths[t].own.length c1) ∧ w'.cell? ⟨rb, 1 + t * 5 + 2, none⟩ = some (.string ⟨K.ths[t].text.toArray⟩) ∧ w'.cell? ⟨w.heap.size, 2, none⟩ = some (.int .i64 u) ∧ w'.cell? ⟨w.heap.size, 3, none⟩ = some (.int .i64 i) ∧ w'.cell? ⟨w.heap.size, 7, none⟩ = some (.string ⟨c.text.toArray⟩) ∧ w'.cell? ⟨rb, 1 + u * 5 + 3, none⟩ = some (.slice (some ⟨g, 0, none⟩) K.ths[u].objs.length cap) ∧ w'.cell? ⟨g, i * 2, none⟩ = some (.slice p8 K.ths[u].objs[i].label.length c8) ∧ w'.cell? ⟨g, i * 2 + 1, none⟩ = some (.string ⟨K.ths[u].objs[i].text.toArray⟩))) (by as_aux_lemma => kernel_rfl) (HS.out _ (Below.refl _ _).drew) (fun _ => ?_)
    refine takeF 0 168 ?v150 rfl (Or.inl ⟨by rfl, ?hy150⟩) ?rest150
    case hy150 => intro wz hSw; (try dsimp only at hSw); go_simp; try with_reducible rfl
    simp only [Act.put, List.setIfInBounds_toArray, List.set_cons_zero, List.set_cons_succ]
    refine takeF 1 169 ?v151 rfl (Or.inl ⟨by rfl, ?hy151⟩) ?rest151
    case hy151 => intro wz hSw; (try dsimp only at hSw); go_simp; try with_reducible rfl
    simp only [Act.put, List.setIfInBounds_toArray, List.set_cons_zero, List.set_cons_succ]
    refine takeF 2 170 ?v152 rfl (Or.inl ⟨by rfl, ?hy152⟩) ?rest152
    case hy152 => intro wz hSw; (try dsimp only at hSw); go_simp; try with_reducible rfl
    simp only [Act.put, List.setIfInBounds_toArray, List.set_cons_zero, List.set_cons_succ]
    refine takeF 3 171 ?v153 rfl (Or.inl ⟨by rfl, ?hy153⟩) ?rest153
    case hy153 => intro wz hSw; (try dsimp only at hSw); go_simp; try with_reducible rfl
    simp only [Act.put, List.setIfInBounds_toArray, List.set_cons_zero, List.set_cons_succ]
    refine takeF 4 172 ?v154 rfl (Or.inl ⟨by rfl, ?hy154⟩) ?rest154
    case hy154 => intro wz hSw; (try dsimp only at hSw); go_simp; try with_reducible rfl
    simp only [Act.put, List.setIfInBounds_toArray, List.set_cons_zero, List.set_cons_succ]
    refine takeF 5 173 ?v155 rfl (Or.inl ⟨by rfl, ?hy155⟩) ?rest155
    case hy155 => intro wz hSw; (try dsimp only at hSw); go_simp; try with_reducible rfl
    simp only [Act.put, List.setIfInBounds_toArray, List.set_cons_zero, List.set_cons_succ]
    refine takeF 6 174 ?v156 rfl (Or.inl ⟨by rfl, ?hy156⟩) ?rest156
    case hy156 => intro wz hSw; (try dsimp only at hSw); go_simp; try with_reducible rfl
    simp only [Act.put, List.setIfInBounds_toArray, List.set_cons_zero, List.set_cons_succ]
    refine takeF 7 175 ?v157 rfl (Or.inl ⟨by rfl, ?hy157⟩) ?rest157
    case hy157 => intro wz hSw; (try dsimp only at hSw); go_simp; try with_reducible rfl
    simp only [Act.put, List.setIfInBounds_toArray, List.set_cons_zero, List.set_cons_succ]
    refine takeF 8 176 ?v158 rfl (Or.inl ⟨by rfl, ?hy158⟩) ?rest158
    case hy158 => intro wz hSw; (try dsimp only at hSw); go_simp; try with_reducible rfl
    simp only [Act.put, List.setIfInBounds_toArray, List.set_cons_zero, List.set_cons_succ]
    refine takeF 9 177 ?v159 rfl (Or.inl ⟨by rfl, ?hy159⟩) ?rest159
    case hy159 => intro wz hSw; (try dsimp only at hSw); go_simp; try with_reducible rfl
    simp only [Act.put, List.setIfInBounds_toArray, List.set_cons_zero, List.set_cons_succ]
    refine takeF 10 178 ?v160 rfl (Or.inl ⟨by rfl, ?hy160⟩) ?rest160
    case hy160 => intro wz hSw; (try dsimp only at hSw); go_simp; try with_reducible rfl
    simp only [Act.put, List.setIfInBounds_toArray, List.set_cons_zero, List.set_cons_succ]
    refine takeF 11 179 (.pointer (some ⟨rb, 1 + u * 5, none⟩)) rfl (Or.inl ⟨by rfl, ?hy161⟩) ?rest161
    case hy161 => intro wz hSw; (try dsimp only at hSw); go_simp; try simp [hui, hu0, hu4, hI, I0, hin, hi]
    simp only [Act.put, List.setIfInBounds_toArray, List.set_cons_zero, List.set_cons_succ]
    refine takeF 12 180 ?v162 rfl (Or.inl ⟨by rfl, ?hy162⟩) ?rest162
    case hy162 => intro wz hSw; (try dsimp only at hSw); go_simp; try with_reducible rfl
    simp only [Act.put, List.setIfInBounds_toArray, List.set_cons_zero, List.set_cons_succ]
    refine takeF 13 181 ?v163 rfl (Or.inl ⟨by rfl, ?hy163⟩) ?rest163
    case hy163 => intro wz hSw; (try dsimp only at hSw); go_simp; try with_reducible rfl
    simp only [Act.put, List.setIfInBounds_toArray, List.set_cons_zero, List.set_cons_succ]
    refine takeF 14 182 ?v164 rfl (Or.inl ⟨by rfl, ?hy164⟩) ?rest164
    case hy164 => intro wz hSw; (try dsimp only at hSw); go_simp; try with_reducible rfl
    simp only [Act.put, List.setIfInBounds_toArray, List.set_cons_zero, List.set_cons_succ]
    refine takeF 15 183 ?v165 rfl (Or.inl ⟨by rfl, ?hy165⟩) ?rest165
    case hy165 => intro wz hSw; (try dsimp only at hSw); go_simp; try with_reducible rfl
    simp only [Act.put, List.setIfInBounds_toArray, List.set_cons_zero, List.set_cons_succ]
    refine takeF 16 184 (.pointer (some ⟨g, i * 2, none⟩)) rfl (Or.inl ⟨by rfl, ?hy166⟩) ?rest166
    case hy166 => intro wz hSw; (try dsimp only at hSw); go_simp; try simp [hui, hu0, hu4, hI, I0, hin, hi]
    simp only [Act.put, List.setIfInBounds_toArray, List.set_cons_zero, List.set_cons_succ]
    refine takeF 17 185 ?v167 rfl (Or.inl ⟨by rfl, ?hy167⟩) ?rest167
    case hy167 => intro wz hSw; (try dsimp only at hSw); go_simp; try with_reducible rfl
    simp only [Act.put, List.setIfInBounds_toArray, List.set_cons_zero, List.set_cons_succ]
    refine takeF 18 186 ?v168 rfl (Or.inl ⟨by rfl, ?hy168⟩) ?rest168
    case hy168 => intro wz hSw; (try dsimp only at hSw); go_simp; try with_reducible rfl
    simp only [Act.put, List.setIfInBounds_toArray, List.set_cons_zero, List.set_cons_succ]
    refine takeF 19 187 ?v169 rfl (Or.inl ⟨by rfl, ?hy169⟩) ?rest169
    case hy169 => intro wz hSw; (try dsimp only at hSw); go_simp; try with_reducible rfl
    simp only [Act.put, List.setIfInBounds_toArray, List.set_cons_zero, List.set_cons_succ]
    refine takeF 20 188 ?v170 rfl (Or.inl ⟨by rfl, ?hy170⟩) ?rest170
    case hy170 => intro wz hSw; (try dsimp only at hSw); go_simp; try with_reducible rfl
    simp only [Act.put, List.setIfInBounds_toArray, List.set_cons_zero, List.set_cons_succ]
    refine takeF 21 189 ?v171 rfl (Or.inl ⟨by rfl, ?hy171⟩) ?rest171
    case hy171 => intro wz hSw; (try dsimp only at hSw); go_simp; try with_reducible rfl
    simp only [Act.put, List.setIfInBounds_toArray, List.set_cons_zero, List.set_cons_succ]
    refine takeF 22 190 ?v172 rfl (Or.inl ⟨by rfl, ?hy172⟩) ?rest172
    case hy172 => intro wz hSw; (try dsimp only at hSw); go_simp; try with_reducible rfl
    simp only [Act.put, List.setIfInBounds_toArray, List.set_cons_zero, List.set_cons_succ]
    refine wpAnyH_ready (rs := [23]) (by as_aux_lemma => kernel_rfl) (by simp) ?_
    refine (AllReadyH.cons rfl (fun K' hK => ?_) AllReadyH.nil)
    go_simp
    go_wp2_with (go_at_call 27; refine (hfl _ (by first | exact Below.refl _ _ | exact (Below.refl _ _).drew)).mono ?_; rintro e w3 ⟨rfl, hwd⟩)
    have hw3 : Below wc.heap.size wc w3 := (by first | exact hwd | exact kundrew hwd)
    clear hwd
    refine hK.out _ _ (HS.out _ hw3) (fun _ => ?_)
    clear hK K'
    refine takeF 24 192 ?v173 rfl (Or.inl ⟨by rfl, ?hy173⟩) ?rest173
    case hy173 => intro wz hSw; (try dsimp only at hSw); go_simp; try with_reducible rfl
    simp only [Act.put, List.setIfInBounds_toArray, List.set_cons_zero, List.set_cons_succ]
    refine wpAnyH_done (by as_aux_lemma => kernel_rfl) ?_ _
    go_wp2_with (go_at_call 39; refine (Qw _ _).mono ?_; rintro e w9 ⟨rfl, hwd⟩; have hw9 : Below w3.heap.size w3 w9 := (by first | exact hwd | exact kundrew hwd); have HR9 := hid (Qc (Qc HRC.out hw3) hw9); have HW9 := hid hw9; clear hw9 hwd; have g0 := Qa HR9.out 0; have g1 := Qa HR9.out 1; have g2 := Qa HR9.out 2; have gf0 := Qf HR9.out 0; have gf1 := Qf HR9.out 1; have gf2 := Qf HR9.out 2)
    have hend := Qt (w := w) (B := w.heap.size + 1) 0 0 [] HR9.out (by omega) (by simp) ((RKC.out.below hw3).below HW9.out) ((RSC.out.trans (RStep.below hw3)).trans (RStep.below HW9.out))
    rw [HT.out]
    exact bodyPost_ret (results_cell_row rfl _ _ (w.heap.size + 1) 52 _ (0, 0) _ rfl hend.1 Try.underlying52 rfl (by kernel_rfl)) rfl ⟨rfl, _, _, hend.2.1, hend.2.2⟩
  | true =>
   as_aux_lemma =>
    obtain ⟨u, i, hcu, hci, huK, hi, rfl⟩ := Qap hO
    have hTG := hg.ths _ (List.getElem_mem h2)
    have hUG := hg.ths _ (List.getElem_mem huK)
    have hwf : WfL K.ths[t].label := QO ((Qx _).2 hTG.label)
    have hwo : WfL K.ths[u].objs[i].label := QO ((Qx _).2 (hUG.obj _ (List.getElem_mem hi)).2)
    have hxl := hTG.text
    have hol := (hUG.obj _ (List.getElem_mem hi)).1
    have hu4 : u < 4 := by have := h.lenK; omega
    have h1u : u < V.length := by have := h.len; omega
    have hget := hid (show getT K c.t = some K.ths[u] by rw [hcu]; exact Qa4 huK)
    have hso : (objAt K c.t c.n).isSome = true := by rw [hO]; rfl
    have x0 : wc.cell? ⟨rb, 1 + t * 5, none⟩ = some V[t].vl := by rw [Qa hC, d0]
    have x1 : wc.cell? ⟨rb, 1 + t * 5 + 1, none⟩ = some V[t].vo := by rw [Qa hC, d1]
    have x3 : wc.cell? ⟨rb, 1 + u * 5 + 3, none⟩ = some V[u].vj := by rw [Qa hC, (hcc u h1u huK).2.2.2.1]
    obtain ⟨hrl, hro, _, _⟩ := RKC.out.thr t h1 h2
    obtain ⟨_, _, hrj, _⟩ := RKC.out.thr u h1u huK
    obtain ⟨p0, c0, e0, _⟩ := id hrl.1
    obtain ⟨p1, c1, e1, _⟩ := id hro.1
    obtain ⟨g, cap, ul, ev, kl, kt, kf, hul⟩ := hrj.cell i hi
    obtain ⟨_, _, hjo, _⟩ := id hrj
    obtain ⟨p8, c8, rfl, _⟩ := id hul.1
    have hLA := hrl.1
    have hOA := hro.1
    have hUA := hul.1
    rw [e0] at x0 hLA
    rw [e1] at x1 hOA
    rw [ev] at x3
    have a2 : wc.cell? ⟨w.heap.size, 2, none⟩ = some (.int .i64 u) := by rw [Qa HBC.out, ← hcu]; rfl
    have a3 : wc.cell? ⟨w.heap.size, 3, none⟩ = some (.int .i64 i) := by rw [Qa HBC.out, ← hci]; rfl
    have HGR : Hid (g ≠ w.heap.size + 1) := hid (fun e => Qn hjo HRC.out (by decide) (by rw [ev, e]; rfl))
    have HBG : Hid (w.heap.size ≠ g) := hid (fun e => Qn hjo HBC.out (by decide) (by rw [ev, ← e]; rfl))
    have HRG : Hid (rb ≠ g) := hid (fun e => Qn hjo hC (by decide) (by rw [ev, ← e]; rfl))
    have EV := hid ev
    have hui : (u : Int) < 4 := by omega
    have hu0 : ¬ ((u : Int) < 0) := by omega
    have hI : (i : Int) < (K.ths[u].objs.length : Int) := by omega
    have I0 : (0 : Int) ≤ i := by omega
    have hin : ¬ ((i : Int) < 0) := by omega
    have HS : Hid (∀ w', Below wc.heap.size wc w' → w'.cell? ⟨rb, 1 + t * 5, none⟩ = some (.slice p0 K.ths[t].label.length c0) ∧ w'.cell? ⟨rb, 1 + t * 5 + 1, none⟩ = some (.slice p1 K.ths[t].own.length c1) ∧ w'.cell? ⟨rb, 1 + t * 5 + 2, none⟩ = some (.string ⟨K.ths[t].text.toArray⟩) ∧ w'.cell? ⟨w.heap.size, 2, none⟩ = some (.int .i64 u) ∧ w'.cell? ⟨w.heap.size, 3, none⟩ = some (.int .i64 i) ∧ w'.cell? ⟨w.heap.size, 7, none⟩ = some (.string ⟨c.text.toArray⟩) ∧ w'.cell? ⟨rb, 1 + u * 5 + 3, none⟩ = some (.slice (some ⟨g, 0, none⟩) K.ths[u].objs.length cap) ∧ w'.cell? ⟨g, i * 2, none⟩ = some (.slice p8 K.ths[u].objs[i].label.length c8) ∧ w'.cell? ⟨g, i * 2 + 1, none⟩ = some (.string ⟨K.ths[u].objs[i].text.toArray⟩)) := hid (fun w' hb => ⟨by rw [hb.cell (Qb x0), x0], by rw [hb.cell (Qb x1), x1], by rw [hb.cell (Qb x2), x2], by rw [hb.cell (Qb a2), a2], by rw [hb.cell (Qb a3), a3], by rw [hb.cell (Qb a7), a7], by rw [hb.cell (Qb x3), x3], by rw [hb.cell (Qb kl), kl], by rw [hb.cell (Qb kt), kt]⟩)
    simp only [Option.isSome_none, Option.isSome_some]
    have HT : Hid (callT K t K.ths[t] c = ({ K with ths := K.ths.set u (putO K.ths[u] i (lastL (K.ths[t].text ++ c.text))) }, code 0)) := hid (by unfold callT putL; rw [if_neg (by omega), hk, hget.out, hO]; simp [hF]; rw [hcu, hci]; exact QC K u _)
    clear hC hc0 hc21 hcc d0 d1 d2 d3 d4 x2 xf2 hrl hro hrj hjo e0 e1 ev kl kt kf hul x0 x1 x3 a2 a3 a7 hso hcu hci hO hTG hUG hg
    have hfl := fun wx (hb : Below wc.heap.size wc wx) => QF (.slice p0 K.ths[t].label.length c0) (.slice p8 K.ths[u].objs[i].label.length c8) (.slice p1 K.ths[t].own.length c1) K.ths[t].label K.ths[u].objs[i].label K.ths[t].own wx (hLA.below hb) (hUA.below hb) (hOA.below hb) hwf hwo
    rw [hF] at hfl
    clear hF
    go_wp2
    refine wp_region_held_drew (S := (fun w' => w'.cell? ⟨rb, 1 + t * 5, none⟩ = some (.slice p0 K.ths[t].label.length c0) ∧ w'.cell? ⟨rb, 1 + t * 5 + 1, none⟩ = some (.slice p1 K.ths[t].own.length c1) ∧ w'.cell? ⟨rb, 1 + t * 5 + 2, none⟩ = some (.string ⟨K.ths[t].text.toArray⟩) ∧ w'.cell? ⟨w.heap.size, 2, none⟩ = some (.int .i64 u) ∧ w'.cell? ⟨w.heap.size, 3, none⟩ = some (.int .i64 i) ∧ w'.cell? ⟨w.heap.size, 7, none⟩ = some (.string ⟨c.text.toArray⟩) ∧ w'.cell? ⟨rb, 1 + u * 5 + 3, none⟩ = some (.slice (some ⟨g, 0, none⟩) K.ths[u].objs.length cap) ∧ w'.cell? ⟨g, i * 2, none⟩ = some (.slice p8 K.ths[u].objs[i].label.length c8) ∧ w'.cell? ⟨g, i * 2 + 1, none⟩ = some (.string ⟨K.ths[u].objs[i].text.toArray⟩))) (by as_aux_lemma => kernel_rfl) (HS.out _ (Below.refl _ _).drew) (fun _ => ?_)
    refine takeF 0 168 ?v174 rfl (Or.inl ⟨by rfl, ?hy174⟩) ?rest174
    case hy174 => intro wz hSw; (try dsimp only at hSw); go_simp; try with_reducible rfl
    simp only [Act.put, List.setIfInBounds_toArray, List.set_cons_zero, List.set_cons_succ]
    refine takeF 1 169 ?v175 rfl (Or.inl ⟨by rfl, ?hy175⟩) ?rest175
    case hy175 => intro wz hSw; (try dsimp only at hSw); go_simp; try with_reducible rfl
    simp only [Act.put, List.setIfInBounds_toArray, List.set_cons_zero, List.set_cons_succ]
    refine takeF 2 170 ?v176 rfl (Or.inl ⟨by rfl, ?hy176⟩) ?rest176
    case hy176 => intro wz hSw; (try dsimp only at hSw); go_simp; try with_reducible rfl
    simp only [Act.put, List.setIfInBounds_toArray, List.set_cons_zero, List.set_cons_succ]
    refine takeF 3 171 ?v177 rfl (Or.inl ⟨by rfl, ?hy177⟩) ?rest177
    case hy177 => intro wz hSw; (try dsimp only at hSw); go_simp; try with_reducible rfl
    simp only [Act.put, List.setIfInBounds_toArray, List.set_cons_zero, List.set_cons_succ]
    refine takeF 4 172 ?v178 rfl (Or.inl ⟨by rfl, ?hy178⟩) ?rest178
    case hy178 => intro wz hSw; (try dsimp only at hSw); go_simp; try with_reducible rfl
    simp only [Act.put, List.setIfInBounds_toArray, List.set_cons_zero, List.set_cons_succ]
    refine takeF 5 173 ?v179 rfl (Or.inl ⟨by rfl, ?hy179⟩) ?rest179
    case hy179 => intro wz hSw; (try dsimp only at hSw); go_simp; try with_reducible rfl
    simp only [Act.put, List.setIfInBounds_toArray, List.set_cons_zero, List.set_cons_succ]
    refine takeF 6 174 ?v180 rfl (Or.inl ⟨by rfl, ?hy180⟩) ?rest180
    case hy180 => intro wz hSw; (try dsimp only at hSw); go_simp; try with_reducible rfl
    simp only [Act.put, List.setIfInBounds_toArray, List.set_cons_zero, List.set_cons_succ]
    refine takeF 7 175 ?v181 rfl (Or.inl ⟨by rfl, ?hy181⟩) ?rest181
    case hy181 => intro wz hSw; (try dsimp only at hSw); go_simp; try with_reducible rfl
    simp only [Act.put, List.setIfInBounds_toArray, List.set_cons_zero, List.set_cons_succ]
    refine takeF 8 176 ?v182 rfl (Or.inl ⟨by rfl, ?hy182⟩) ?rest182
    case hy182 => intro wz hSw; (try dsimp only at hSw); go_simp; try with_reducible rfl
    simp only [Act.put, List.setIfInBounds_toArray, List.set_cons_zero, List.set_cons_succ]
    refine takeF 9 177 ?v183 rfl (Or.inl ⟨by rfl, ?hy183⟩) ?rest183
    case hy183 => intro wz hSw; (try dsimp only at hSw); go_simp; try with_reducible rfl
    simp only [Act.put, List.setIfInBounds_toArray, List.set_cons_zero, List.set_cons_succ]
    refine takeF 10 178 ?v184 rfl (Or.inl ⟨by rfl, ?hy184⟩) ?rest184
    case hy184 => intro wz hSw; (try dsimp only at hSw); go_simp; try with_reducible rfl
    simp only [Act.put, List.setIfInBounds_toArray, List.set_cons_zero, List.set_cons_succ]
    refine takeF 11 179 (.pointer (some ⟨rb, 1 + u * 5, none⟩)) rfl (Or.inl ⟨by rfl, ?hy185⟩) ?rest185
    case hy185 => intro wz hSw; (try dsimp only at hSw); go_simp; try simp [hui, hu0, hu4, hI, I0, hin, hi]
    simp only [Act.put, List.setIfInBounds_toArray, List.set_cons_zero, List.set_cons_succ]
    refine takeF 12 180 ?v186 rfl (Or.inl ⟨by rfl, ?hy186⟩) ?rest186
    case hy186 => intro wz hSw; (try dsimp only at hSw); go_simp; try with_reducible rfl
    simp only [Act.put, List.setIfInBounds_toArray, List.set_cons_zero, List.set_cons_succ]
    refine takeF 13 181 ?v187 rfl (Or.inl ⟨by rfl, ?hy187⟩) ?rest187
    case hy187 => intro wz hSw; (try dsimp only at hSw); go_simp; try with_reducible rfl
    simp only [Act.put, List.setIfInBounds_toArray, List.set_cons_zero, List.set_cons_succ]
    refine takeF 14 182 ?v188 rfl (Or.inl ⟨by rfl, ?hy188⟩) ?rest188
    case hy188 => intro wz hSw; (try dsimp only at hSw); go_simp; try with_reducible rfl
    simp only [Act.put, List.setIfInBounds_toArray, List.set_cons_zero, List.set_cons_succ]
    refine takeF 15 183 ?v189 rfl (Or.inl ⟨by rfl, ?hy189⟩) ?rest189
    case hy189 => intro wz hSw; (try dsimp only at hSw); go_simp; try with_reducible rfl
    simp only [Act.put, List.setIfInBounds_toArray, List.set_cons_zero, List.set_cons_succ]
    refine takeF 16 184 (.pointer (some ⟨g, i * 2, none⟩)) rfl (Or.inl ⟨by rfl, ?hy190⟩) ?rest190
    case hy190 => intro wz hSw; (try dsimp only at hSw); go_simp; try simp [hui, hu0, hu4, hI, I0, hin, hi]
    simp only [Act.put, List.setIfInBounds_toArray, List.set_cons_zero, List.set_cons_succ]
    refine takeF 17 185 ?v191 rfl (Or.inl ⟨by rfl, ?hy191⟩) ?rest191
    case hy191 => intro wz hSw; (try dsimp only at hSw); go_simp; try with_reducible rfl
    simp only [Act.put, List.setIfInBounds_toArray, List.set_cons_zero, List.set_cons_succ]
    refine takeF 18 186 ?v192 rfl (Or.inl ⟨by rfl, ?hy192⟩) ?rest192
    case hy192 => intro wz hSw; (try dsimp only at hSw); go_simp; try with_reducible rfl
    simp only [Act.put, List.setIfInBounds_toArray, List.set_cons_zero, List.set_cons_succ]
    refine takeF 19 187 ?v193 rfl (Or.inl ⟨by rfl, ?hy193⟩) ?rest193
    case hy193 => intro wz hSw; (try dsimp only at hSw); go_simp; try with_reducible rfl
    simp only [Act.put, List.setIfInBounds_toArray, List.set_cons_zero, List.set_cons_succ]
    refine takeF 20 188 ?v194 rfl (Or.inl ⟨by rfl, ?hy194⟩) ?rest194
    case hy194 => intro wz hSw; (try dsimp only at hSw); go_simp; try with_reducible rfl
    simp only [Act.put, List.setIfInBounds_toArray, List.set_cons_zero, List.set_cons_succ]
    refine takeF 21 189 ?v195 rfl (Or.inl ⟨by rfl, ?hy195⟩) ?rest195
    case hy195 => intro wz hSw; (try dsimp only at hSw); go_simp; try with_reducible rfl
    simp only [Act.put, List.setIfInBounds_toArray, List.set_cons_zero, List.set_cons_succ]
    refine takeF 22 190 ?v196 rfl (Or.inl ⟨by rfl, ?hy196⟩) ?rest196
    case hy196 => intro wz hSw; (try dsimp only at hSw); go_simp; try with_reducible rfl
    simp only [Act.put, List.setIfInBounds_toArray, List.set_cons_zero, List.set_cons_succ]
    refine wpAnyH_ready (rs := [23]) (by as_aux_lemma => kernel_rfl) (by simp) ?_
    refine (AllReadyH.cons rfl (fun K' hK => ?_) AllReadyH.nil)
    go_simp
    go_wp2_with (go_at_call 27; refine (hfl _ (by first | exact Below.refl _ _ | exact (Below.refl _ _).drew)).mono ?_; rintro e w3 ⟨rfl, hwd⟩)
    have hw3 : Below wc.heap.size wc w3 := (by first | exact hwd | exact kundrew hwd)
    clear hwd
    refine hK.out _ _ (HS.out _ hw3) (fun _ => ?_)
    clear hK K'
    refine takeF 24 192 ?v197 rfl (Or.inl ⟨by rfl, ?hy197⟩) ?rest197
    case hy197 => intro wz hSw; (try dsimp only at hSw); go_simp; try with_reducible rfl
    simp only [Act.put, List.setIfInBounds_toArray, List.set_cons_zero, List.set_cons_succ]
    refine wpAnyH_done (by as_aux_lemma => kernel_rfl) ?_ _
    have hstr : ∀ a b : List UInt8, (⟨a.toArray⟩ : ByteArray) ++ ⟨b.toArray⟩ = ⟨(a ++ b).toArray⟩ := fun a b => ByteArray.mk_append_mk a b
    have hnl : ¬ 9223372036854775807 < K.ths[t].text.length + c.text.length := by omega
    have hlast := fun wx => QaQ (K.ths[t].text ++ c.text) wx (by rw [List.length_append]; omega)
    have Hw3 := hid hw3
    obtain ⟨y0, y1, y2, y3, y4, y5, y6, y7, y8⟩ := HS.out _ hw3
    clear hw3 hfl
    go_wp2
    go_region_held3 (fun w' => w'.cell? ⟨rb, 1 + t * 5 + 2, none⟩ = some (.string ⟨K.ths[t].text.toArray⟩) ∧ w'.cell? ⟨w.heap.size, 7, none⟩ = some (.string ⟨c.text.toArray⟩)) (go_keep) ((go_at_call 24; refine (hlast _).mono ?_; rintro e w4 ⟨rfl, hwq⟩; have hw4 : Below w3.heap.size w3 w4 := (by rw [hwq]; first | exact Below.refl _ _ | exact (Below.refl _ _).drew); have Hw4 := hid hw4; obtain ⟨z0, z1, z2, z3, z4, z5, z6, z7, z8⟩ := HS.out _ (Qd Hw3.out hw4); clear hw4 hwq))
    all_goals
     clear y0 y1 y2 y3 y4 y5 y6 y7 y8
     have hb4 := Qd Hw3.out Hw4.out
     have HST := hid ((RKC.out.below hb4).put h1u huK EV.out hi (lastL (K.ths[t].text ++ c.text)))
     have HBX := hid (QU (Qc HRC.out hb4) (Ne.symm HGR.out) (i * 2 + 1) (.string ⟨(lastL (K.ths[t].text ++ c.text)).toArray⟩))
     have zf8 : w4.frozen? ⟨g, i * 2 + 1, none⟩ = false := by
      obtain ⟨_, _, hrj4, _⟩ := (RKC.out.below hb4).thr u h1u huK
      obtain ⟨g', cap', ul', ev', _, _, kf', _⟩ := hrj4.cell i hi
      rw [EV.out] at ev'
      injection ev' with e1 _ _
      injection e1 with e1
      injection e1 with e1 _ _
      rw [e1]
      exact kf'
     have v3 := (World.cell?_setCell_other w4 ⟨g, i * 2 + 1, none⟩ ⟨w.heap.size, 2, none⟩ (.string ⟨(lastL (K.ths[t].text ++ c.text)).toArray⟩) (by intro e; simp only [Addr.mk.injEq] at e; first | exact HBG.out e.1 | exact HBG.out e.1.symm)).trans z3
     have v4 := (World.cell?_setCell_other w4 ⟨g, i * 2 + 1, none⟩ ⟨w.heap.size, 3, none⟩ (.string ⟨(lastL (K.ths[t].text ++ c.text)).toArray⟩) (by intro e; simp only [Addr.mk.injEq] at e; first | exact HBG.out e.1 | exact HBG.out e.1.symm)).trans z4
     have v6 := (World.cell?_setCell_other w4 ⟨g, i * 2 + 1, none⟩ ⟨rb, 1 + u * 5 + 3, none⟩ (.string ⟨(lastL (K.ths[t].text ++ c.text)).toArray⟩) (by intro e; simp only [Addr.mk.injEq] at e; first | exact HRG.out e.1 | exact HRG.out e.1.symm)).trans z6
     clear hstr hnl
     go_wp2
     go_region_held3 (fun w' => w'.cell? ⟨w.heap.size, 2, none⟩ = some (.int .i64 u) ∧ w'.cell? ⟨w.heap.size, 3, none⟩ = some (.int .i64 i) ∧ w'.cell? ⟨rb, 1 + u * 5 + 3, none⟩ = some (.slice (some ⟨g, 0, none⟩) K.ths[u].objs.length cap)) (go_keep) (fail)
     all_goals
      go_wp2_with (go_at_call 39; refine (Qw _ _).mono ?_; rintro e w9 ⟨rfl, hwd⟩; have hw9 : Below (w4.setCell ⟨g, i * 2 + 1, none⟩ (.string ⟨(lastL (K.ths[t].text ++ c.text)).toArray⟩)).heap.size (w4.setCell ⟨g, i * 2 + 1, none⟩ (.string ⟨(lastL (K.ths[t].text ++ c.text)).toArray⟩)) w9 := (by first | exact hwd | exact kundrew hwd); have HR9 := hid (Qc HBX.out hw9); have HW9 := hid hw9; clear hw9 hwd; have g0 := Qa HR9.out 0; have g1 := Qa HR9.out 1; have g2 := Qa HR9.out 2; have gf0 := Qf HR9.out 0; have gf1 := Qf HR9.out 1; have gf2 := Qf HR9.out 2)
      have hend := Qt (w := w) (B := w.heap.size + 1) 0 0 [] HR9.out (by omega) (by simp) (HST.out.1.below HW9.out) (((RSC.out.trans (RStep.below hb4)).trans HST.out.2).trans (RStep.below HW9.out))
      rw [HT.out]
      exact bodyPost_ret (results_cell_row rfl _ _ (w.heap.size + 1) 52 _ (0, 0) _ rfl hend.1 Try.underlying52 rfl (by kernel_rfl)) rfl ⟨rfl, _, _, hend.2.1, hend.2.2⟩
end Go.Proofs.Ytpdijobakfpnbaa
