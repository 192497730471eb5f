/- The reference's Call: KRK2 (written by genrcall.py). -/
import Derived.Test.YtpdijobakfpnbaaQKRCallL
namespace Go.Proofs.Ytpdijobakfpnbaa
open Go.RowKit Go.Proofs.Parclose
theorem QeI {w w1 : World} {rb : Nat} {F : List Nat} {V : List ThrV} {K : Ker} {t : Nat} (h : RKerAt w rb F V K) (h1 : t < V.length) (h2 : t < K.ths.length) (hg : w.grownBy w1 V[t].vj.ownBlock) : w1.cell? ⟨rb, 1 + t * 5 + 3, none⟩ = some V[t].vj ∧ w1.frozen? ⟨rb, 1 + t * 5 + 3, none⟩ = false := by
 obtain ⟨C, hC, _, _, _, hc⟩ := h.box
 obtain ⟨_, _, ⟨_, _, h3, _⟩, _⟩ := h.thr t h1 h2
 have hC1 : w1.heap[rb]? = some (.cells C 38 (0, 0)) := by
  rw [hg.block rb (QJ hC) (fun e => Qn h3 hC (by decide) e.symm), hC]
 exact ⟨by rw [Qa hC1, (hc t h1 h2).2.2.2.1], Qf hC1 _⟩
set_option linter.unusedSimpArgs false in
set_option maxRecDepth 100000 in
set_option maxHeartbeats 6400000 in
theorem QgR (rb t : Nat) (F : List Nat) (V : List ThrV) (K : Ker) (v : Value) (c : Cal) (w : World) (h : RKerAt w rb F V K) (h1 : t < V.length) (h2 : t < K.ths.length) (hv : CalAt w v c) (hx : c.text.length ≤ 64) (hk : c.kind = 2) (hg : GoodK K) :
 Calls Try.prog 14 #[.pointer (some ⟨rb, 0, none⟩), .int .i64 t, v] w fun e w' => e = .returned (repV (callT K t K.ths[t] c).2) ∧ ∃ G V', RKerAt w' rb G V' (callT K t K.ths[t] c).1 ∧ RStep rb w F V w' G V' := by
 have ht : t < 4 := by have := h.len; omega
 have hf : hostB t = true := by unfold hostB; simp; omega
 have hfour := Qj t
 rw [hf] at hfour
 have hx1 : ¬ ((64 : Int) < (c.text.length : Int)) := by omega
 have hti : (t : Int) < 4 := by omega
 obtain ⟨vl, vg, rfl, hvl, hvg⟩ := hv
 obtain ⟨pl, cl, rfl, _⟩ := id hvl
 obtain ⟨pg, cg, rfl, _⟩ := id hvg
 have HVL := hid hvl
 have HVG := hid hvg
 unfold calV
 clear hvl hvg
 rw [hk]
 go_enter Try.func14, Try.ntmps14
 go_upto_region 2 with fail
 have hb0 : Below w.heap.size w ((w.alloc (.cells #[.int .i64 2, .int .i64 c.h, .int .i64 c.t, .int .i64 c.n, .int .i64 c.c, .slice pl c.label.length cl, .slice pg c.grants.length cg, .string ⟨c.text.toArray⟩] 40)).alloc (.cells #[.int .i64 0, .int .i64 0, .string ⟨#[]⟩] 52)) := (Qe w _).alloc (by simp) _
 have HB0 : Hid (((w.alloc (.cells #[.int .i64 2, .int .i64 c.h, .int .i64 c.t, .int .i64 c.n, .int .i64 c.c, .slice pl c.label.length cl, .slice pg c.grants.length cg, .string ⟨c.text.toArray⟩] 40)).alloc (.cells #[.int .i64 0, .int .i64 0, .string ⟨#[]⟩] 52)).heap[w.heap.size]? = some (.cells #[.int .i64 2, .int .i64 c.h, .int .i64 c.t, .int .i64 c.n, .int .i64 c.c, .slice pl c.label.length cl, .slice pg c.grants.length cg, .string ⟨c.text.toArray⟩] 40 (0, 0))) := hid (QI (heap_alloc_new w _) _)
 have HR0 : Hid (((w.alloc (.cells #[.int .i64 2, .int .i64 c.h, .int .i64 c.t, .int .i64 c.n, .int .i64 c.c, .slice pl c.label.length cl, .slice pg c.grants.length cg, .string ⟨c.text.toArray⟩] 40)).alloc (.cells #[.int .i64 0, .int .i64 0, .string ⟨#[]⟩] 52)).heap[w.heap.size + 1]? = some (.cells #[.int .i64 0, .int .i64 0, .string ⟨#[]⟩] 52 (0, 0))) := hid (by have := heap_alloc_new (w.alloc (.cells #[.int .i64 2, .int .i64 c.h, .int .i64 c.t, .int .i64 c.n, .int .i64 c.c, .slice pl c.label.length cl, .slice pg c.grants.length cg, .string ⟨c.text.toArray⟩] 40)) (.cells #[.int .i64 0, .int .i64 0, .string ⟨#[]⟩] 52); simpa using this)
 have RK0 : Hid (RKerAt ((w.alloc (.cells #[.int .i64 2, .int .i64 c.h, .int .i64 c.t, .int .i64 c.n, .int .i64 c.c, .slice pl c.label.length cl, .slice pg c.grants.length cg, .string ⟨c.text.toArray⟩] 40)).alloc (.cells #[.int .i64 0, .int .i64 0, .string ⟨#[]⟩] 52)) rb (F ++ [w.heap.size + 1]) V K) := hid (by have := (h.below (Qe w (.cells #[.int .i64 2, .int .i64 c.h, .int .i64 c.t, .int .i64 c.n, .int .i64 c.c, .slice pl c.label.length cl, .slice pg c.grants.length cg, .string ⟨c.text.toArray⟩] 40))).reserve (.cells #[.int .i64 0, .int .i64 0, .string ⟨#[]⟩] 52); simpa using this)
 have RS0 : Hid (RStep rb w F V ((w.alloc (.cells #[.int .i64 2, .int .i64 c.h, .int .i64 c.t, .int .i64 c.n, .int .i64 c.c, .slice pl c.label.length cl, .slice pg c.grants.length cg, .string ⟨c.text.toArray⟩] 40)).alloc (.cells #[.int .i64 0, .int .i64 0, .string ⟨#[]⟩] 52)) (F ++ [w.heap.size + 1]) V) := hid (by have := (RStep.below (rb := rb) (F := F) (V := V) (Qe w (.cells #[.int .i64 2, .int .i64 c.h, .int .i64 c.t, .int .i64 c.n, .int .i64 c.c, .slice pl c.label.length cl, .slice pg c.grants.length cg, .string ⟨c.text.toArray⟩] 40))).trans (RStep.reserve rb (w.alloc (.cells #[.int .i64 2, .int .i64 c.h, .int .i64 c.t, .int .i64 c.n, .int .i64 c.c, .slice pl c.label.length cl, .slice pg c.grants.length cg, .string ⟨c.text.toArray⟩] 40)) F V (.cells #[.int .i64 0, .int .i64 0, .string ⟨#[]⟩] 52)); simpa using this)
 generalize ((w.alloc (.cells #[.int .i64 2, .int .i64 c.h, .int .i64 c.t, .int .i64 c.n, .int .i64 c.c, .slice pl c.label.length cl, .slice pg c.grants.length cg, .string ⟨c.text.toArray⟩] 40)).alloc (.cells #[.int .i64 0, .int .i64 0, .string ⟨#[]⟩] 52)) = w0 at *
 have b7 : w0.cell? ⟨w.heap.size, 7, none⟩ = some (.string ⟨c.text.toArray⟩) := by rw [Qa HB0.out]; rfl
 go_upto_region 7 with (go_at_call 23; refine (hfour _).mono ?_; rintro e w1 ⟨rfl, hw1⟩; rw [hw1]; clear hw1 w1)
 go_cut [9] (fun v9 wx => v9 = .bool (objAt K c.t c.n).isSome ∧ Below w0.heap.size w0 wx)
 case first =>
  as_aux_lemma =>
   cases hct : hostB c.t with
   | false =>
    have hob := hid (QP (n := c.n) h.lenK hct)
    have hfc := Qj c.t
    rw [hct] at hfc
    have HS : Hid (∀ w', Below w0.heap.size w0 w' → w'.cell? ⟨w.heap.size, 2, none⟩ = some (.int .i64 c.t) ∧ w'.cell? ⟨w.heap.size, 3, none⟩ = some (.int .i64 c.n)) := hid (fun w' hb => ⟨by rw [Qa (Qc HB0.out hb)]; rfl, by rw [Qa (Qc HB0.out hb)]; rfl⟩)
    refine wp_region_held_drew (S := (fun w' => w'.cell? ⟨w.heap.size, 2, none⟩ = some (.int .i64 c.t) ∧ w'.cell? ⟨w.heap.size, 3, none⟩ = some (.int .i64 c.n))) (by as_aux_lemma => kernel_rfl) (HS.out _ (Below.refl _ _).drew) (fun _ => ?_)
    refine takeF 0 37 ?v41 rfl (Or.inl ⟨by rfl, ?hy41⟩) ?rest41
    case hy41 => intro wz hSw; (try dsimp only at hSw); go_simp; try with_reducible rfl
    simp only [Act.put, List.setIfInBounds_toArray, List.set_cons_zero, List.set_cons_succ]
    refine takeF 1 38 ?v42 rfl (Or.inl ⟨by rfl, ?hy42⟩) ?rest42
    case hy42 => intro wz hSw; (try dsimp only at hSw); go_simp; try with_reducible rfl
    simp only [Act.put, List.setIfInBounds_toArray, List.set_cons_zero, List.set_cons_succ]
    refine wpAnyH_ready (rs := [2]) (by as_aux_lemma => kernel_rfl) (by simp) ?_
    refine (AllReadyH.cons rfl (fun K' hK => ?_) AllReadyH.nil)
    go_simp
    go_wp2_with (go_at_call 23; refine (hfc _).mono ?_; rintro e w1 ⟨rfl, hwl⟩; have hb1 : Below w0.heap.size w0 w1 := (by rw [hwl]; first | exact Below.refl _ _ | exact (Below.refl _ _).drew); clear hwl)
    refine hK.out _ _ (HS.out _ hb1) (fun _ => ?_)
    clear hK K'
    refine takeF 3 40 ?v43 rfl (Or.inl ⟨by rfl, ?hy43⟩) ?rest43
    case hy43 => intro wz hSw; (try dsimp only at hSw); go_simp; try with_reducible rfl
    simp only [Act.put, List.setIfInBounds_toArray, List.set_cons_zero, List.set_cons_succ]
    refine skipF 4 41 rfl ?_
    simp only [Act.put, List.setIfInBounds_toArray, List.set_cons_zero, List.set_cons_succ]
    refine skipF 5 42 rfl ?_
    simp only [Act.put, List.setIfInBounds_toArray, List.set_cons_zero, List.set_cons_succ]
    refine skipF 6 43 rfl ?_
    simp only [Act.put, List.setIfInBounds_toArray, List.set_cons_zero, List.set_cons_succ]
    refine takeF 7 44 ?v44 rfl (Or.inl ⟨by rfl, ?hy44⟩) ?rest44
    case hy44 => intro wz hSw; (try dsimp only at hSw); go_simp; try with_reducible rfl
    simp only [Act.put, List.setIfInBounds_toArray, List.set_cons_zero, List.set_cons_succ]
    refine takeF 8 45 ?v45 rfl (Or.inl ⟨by rfl, ?hy45⟩) ?rest45
    case hy45 => intro wz hSw; (try dsimp only at hSw); go_simp; try with_reducible rfl
    simp only [Act.put, List.setIfInBounds_toArray, List.set_cons_zero, List.set_cons_succ]
    refine skipF 9 46 rfl ?_
    simp only [Act.put, List.setIfInBounds_toArray, List.set_cons_zero, List.set_cons_succ]
    refine skipF 10 47 rfl ?_
    simp only [Act.put, List.setIfInBounds_toArray, List.set_cons_zero, List.set_cons_succ]
    refine skipF 11 48 rfl ?_
    simp only [Act.put, List.setIfInBounds_toArray, List.set_cons_zero, List.set_cons_succ]
    refine skipF 12 49 rfl ?_
    simp only [Act.put, List.setIfInBounds_toArray, List.set_cons_zero, List.set_cons_succ]
    refine skipF 13 50 rfl ?_
    simp only [Act.put, List.setIfInBounds_toArray, List.set_cons_zero, List.set_cons_succ]
    refine skipF 14 51 rfl ?_
    simp only [Act.put, List.setIfInBounds_toArray, List.set_cons_zero, List.set_cons_succ]
    refine skipF 15 52 rfl ?_
    simp only [Act.put, List.setIfInBounds_toArray, List.set_cons_zero, List.set_cons_succ]
    refine skipF 16 53 rfl ?_
    simp only [Act.put, List.setIfInBounds_toArray, List.set_cons_zero, List.set_cons_succ]
    refine skipF 17 54 rfl ?_
    simp only [Act.put, List.setIfInBounds_toArray, List.set_cons_zero, List.set_cons_succ]
    refine skipF 18 55 rfl ?_
    simp only [Act.put, List.setIfInBounds_toArray, List.set_cons_zero, List.set_cons_succ]
    refine skipF 19 56 rfl ?_
    simp only [Act.put, List.setIfInBounds_toArray, List.set_cons_zero, List.set_cons_succ]
    refine skipF 20 57 rfl ?_
    simp only [Act.put, List.setIfInBounds_toArray, List.set_cons_zero, List.set_cons_succ]
    refine skipF 21 58 rfl ?_
    simp only [Act.put, List.setIfInBounds_toArray, List.set_cons_zero, List.set_cons_succ]
    refine takeF 22 59 ?v46 rfl (Or.inl ⟨by rfl, ?hy46⟩) ?rest46
    case hy46 => intro wz hSw; (try dsimp only at hSw); go_simp; try with_reducible rfl
    simp only [Act.put, List.setIfInBounds_toArray, List.set_cons_zero, List.set_cons_succ]
    refine takeF 23 9 ?v47 rfl (Or.inl ⟨by rfl, ?hy47⟩) ?rest47
    case hy47 => intro wz hSw; (try dsimp only at hSw); go_simp; try with_reducible rfl
    simp only [Act.put, List.setIfInBounds_toArray, List.set_cons_zero, List.set_cons_succ]
    refine wpAnyH_done (by as_aux_lemma => kernel_rfl) ?_ _
    go_wp2_with fail
    go_meet
    exact ⟨by rw [hob.out]; rfl, hb1⟩
   | true =>
    have hfc := Qj c.t
    rw [hct] at hfc
    by_cases hn : 0 ≤ c.n
    · skip
      obtain ⟨u, hu⟩ : ∃ u : Nat, c.t = u := ⟨c.t.toNat, by unfold hostB at hct; simp at hct; omega⟩
      have hu4 : u < 4 := by unfold hostB at hct; simp at hct; omega
      have huV : u < V.length := by rw [h.len]; exact hu4
      have huK : u < K.ths.length := by rw [h.lenK]; exact hu4
      have hob : (objAt K c.t c.n).isSome = decide (c.n < (K.ths[u].objs.length : Int)) := Q2 huK hu hn
      have HOB := hid hob
      rw [hu] at hfc
      clear hob
      obtain ⟨C, hC, _, _, _, hcc⟩ := RK0.out.box
      obtain ⟨_, _, _, q3, _⟩ := hcc u huV huK
      obtain ⟨_, _, ⟨_, _, hoj, _⟩, _⟩ := RK0.out.thr u huV huK
      obtain ⟨pu, cu, eu⟩ := Qi hoj
      have hu3 : w0.cell? ⟨rb, 1 + u * 5 + 3, none⟩ = some (.slice pu K.ths[u].objs.length cu) := by rw [Qa hC, q3, eu]
      have hand : bits .and .i64 (u : Int) 3 = (u : Int) := and3 hu4
      have hui : (u : Int) < 4 := by omega
      have hu0 : ¬ ((u : Int) < 0) := by omega
      have HS : Hid (∀ w', Below w0.heap.size w0 w' → w'.cell? ⟨w.heap.size, 2, none⟩ = some (.int .i64 u) ∧ w'.cell? ⟨w.heap.size, 3, none⟩ = some (.int .i64 c.n) ∧ w'.cell? ⟨rb, 1 + u * 5 + 3, none⟩ = some (.slice pu K.ths[u].objs.length cu)) := hid (fun w' hb => ⟨by rw [Qa (Qc HB0.out hb)]; show some (Value.int .i64 c.t) = _; rw [hu], by rw [Qa (Qc HB0.out hb)]; rfl, by rw [hb.cell (Qb hu3), hu3]⟩)
      clear hC hcc q3 hoj eu hu
      refine wp_region_held_drew (S := (fun w' => w'.cell? ⟨w.heap.size, 2, none⟩ = some (.int .i64 u) ∧ w'.cell? ⟨w.heap.size, 3, none⟩ = some (.int .i64 c.n) ∧ w'.cell? ⟨rb, 1 + u * 5 + 3, none⟩ = some (.slice pu K.ths[u].objs.length cu))) (by as_aux_lemma => kernel_rfl) (HS.out _ (Below.refl _ _).drew) (fun _ => ?_)
      refine takeF 0 37 ?v48 rfl (Or.inl ⟨by rfl, ?hy48⟩) ?rest48
      case hy48 => intro wz hSw; (try dsimp only at hSw); go_simp; try with_reducible rfl
      simp only [Act.put, List.setIfInBounds_toArray, List.set_cons_zero, List.set_cons_succ]
      refine takeF 1 38 ?v49 rfl (Or.inl ⟨by rfl, ?hy49⟩) ?rest49
      case hy49 => intro wz hSw; (try dsimp only at hSw); go_simp; try with_reducible rfl
      simp only [Act.put, List.setIfInBounds_toArray, List.set_cons_zero, List.set_cons_succ]
      refine wpAnyH_ready (rs := [2]) (by as_aux_lemma => kernel_rfl) (by simp) ?_
      refine (AllReadyH.cons rfl (fun K' hK => ?_) AllReadyH.nil)
      go_simp
      go_wp2_with (go_at_call 23; refine (hfc _).mono ?_; rintro e w1 ⟨rfl, hwl⟩; have hb1 : Below w0.heap.size w0 w1 := (by rw [hwl]; first | exact Below.refl _ _ | exact (Below.refl _ _).drew); clear hwl)
      refine hK.out _ _ (HS.out _ hb1) (fun _ => ?_)
      clear hK K'
      refine takeF 3 40 ?v50 rfl (Or.inl ⟨by rfl, ?hy50⟩) ?rest50
      case hy50 => intro wz hSw; (try dsimp only at hSw); go_simp; try with_reducible rfl
      simp only [Act.put, List.setIfInBounds_toArray, List.set_cons_zero, List.set_cons_succ]
      refine takeF 4 41 ?v51 rfl (Or.inl ⟨by rfl, ?hy51⟩) ?rest51
      case hy51 => intro wz hSw; (try dsimp only at hSw); go_simp; try with_reducible rfl
      simp only [Act.put, List.setIfInBounds_toArray, List.set_cons_zero, List.set_cons_succ]
      refine takeF 5 42 ?v52 rfl (Or.inl ⟨by rfl, ?hy52⟩) ?rest52
      case hy52 => intro wz hSw; (try dsimp only at hSw); go_simp; try with_reducible rfl
      simp only [Act.put, List.setIfInBounds_toArray, List.set_cons_zero, List.set_cons_succ]
      refine takeF 6 43 (.bool true) rfl (Or.inl ⟨by rfl, ?hy53⟩) ?rest53
      case hy53 => intro wz hSw; (try dsimp only at hSw); go_simp; try simp [hn]
      simp only [Act.put, List.setIfInBounds_toArray, List.set_cons_zero, List.set_cons_succ]
      refine takeF 7 44 ?v54 rfl (Or.inl ⟨by rfl, ?hy54⟩) ?rest54
      case hy54 => intro wz hSw; (try dsimp only at hSw); go_simp; try with_reducible rfl
      simp only [Act.put, List.setIfInBounds_toArray, List.set_cons_zero, List.set_cons_succ]
      refine takeF 8 45 ?v55 rfl (Or.inl ⟨by rfl, ?hy55⟩) ?rest55
      case hy55 => intro wz hSw; (try dsimp only at hSw); go_simp; try with_reducible rfl
      simp only [Act.put, List.setIfInBounds_toArray, List.set_cons_zero, List.set_cons_succ]
      refine takeF 9 46 ?v56 rfl (Or.inl ⟨by rfl, ?hy56⟩) ?rest56
      case hy56 => intro wz hSw; (try dsimp only at hSw); go_simp; try with_reducible rfl
      simp only [Act.put, List.setIfInBounds_toArray, List.set_cons_zero, List.set_cons_succ]
      refine takeF 10 47 ?v57 rfl (Or.inl ⟨by rfl, ?hy57⟩) ?rest57
      case hy57 => intro wz hSw; (try dsimp only at hSw); go_simp; try with_reducible rfl
      simp only [Act.put, List.setIfInBounds_toArray, List.set_cons_zero, List.set_cons_succ]
      refine takeF 11 48 ?v58 rfl (Or.inl ⟨by rfl, ?hy58⟩) ?rest58
      case hy58 => intro wz hSw; (try dsimp only at hSw); go_simp; try with_reducible rfl
      simp only [Act.put, List.setIfInBounds_toArray, List.set_cons_zero, List.set_cons_succ]
      refine takeF 12 49 ?v59 rfl (Or.inl ⟨by rfl, ?hy59⟩) ?rest59
      case hy59 => intro wz hSw; (try dsimp only at hSw); go_simp; try with_reducible rfl
      simp only [Act.put, List.setIfInBounds_toArray, List.set_cons_zero, List.set_cons_succ]
      refine takeF 13 50 ?v60 rfl (Or.inl ⟨by rfl, ?hy60⟩) ?rest60
      case hy60 => intro wz hSw; (try dsimp only at hSw); go_simp; try with_reducible rfl
      simp only [Act.put, List.setIfInBounds_toArray, List.set_cons_zero, List.set_cons_succ]
      refine takeF 14 51 (.int .i64 u) rfl (Or.inl ⟨by rfl, ?hy61⟩) ?rest61
      case hy61 => intro wz hSw; (try dsimp only at hSw); go_simp; try simp [hand]
      simp only [Act.put, List.setIfInBounds_toArray, List.set_cons_zero, List.set_cons_succ]
      refine takeF 15 52 ?v62 rfl (Or.inl ⟨by rfl, ?hy62⟩) ?rest62
      case hy62 => intro wz hSw; (try dsimp only at hSw); go_simp; try with_reducible rfl
      simp only [Act.put, List.setIfInBounds_toArray, List.set_cons_zero, List.set_cons_succ]
      refine takeF 16 53 ?v63 rfl (Or.inl ⟨by rfl, ?hy63⟩) ?rest63
      case hy63 => intro wz hSw; (try dsimp only at hSw); go_simp; try with_reducible rfl
      simp only [Act.put, List.setIfInBounds_toArray, List.set_cons_zero, List.set_cons_succ]
      refine takeF 17 54 (.pointer (some ⟨rb, 1 + u * 5, none⟩)) rfl (Or.inl ⟨by rfl, ?hy64⟩) ?rest64
      case hy64 => intro wz hSw; (try dsimp only at hSw); go_simp; try simp [hui, hu0, hu4]
      simp only [Act.put, List.setIfInBounds_toArray, List.set_cons_zero, List.set_cons_succ]
      refine takeF 18 55 ?v65 rfl (Or.inl ⟨by rfl, ?hy65⟩) ?rest65
      case hy65 => intro wz hSw; (try dsimp only at hSw); go_simp; try with_reducible rfl
      simp only [Act.put, List.setIfInBounds_toArray, List.set_cons_zero, List.set_cons_succ]
      refine takeF 19 56 ?v66 rfl (Or.inl ⟨by rfl, ?hy66⟩) ?rest66
      case hy66 => intro wz hSw; (try dsimp only at hSw); go_simp; try with_reducible rfl
      simp only [Act.put, List.setIfInBounds_toArray, List.set_cons_zero, List.set_cons_succ]
      refine takeF 20 57 ?v67 rfl (Or.inl ⟨by rfl, ?hy67⟩) ?rest67
      case hy67 => intro wz hSw; (try dsimp only at hSw); go_simp; try with_reducible rfl
      simp only [Act.put, List.setIfInBounds_toArray, List.set_cons_zero, List.set_cons_succ]
      refine takeF 21 58 ?v68 rfl (Or.inl ⟨by rfl, ?hy68⟩) ?rest68
      case hy68 => intro wz hSw; (try dsimp only at hSw); go_simp; try with_reducible rfl
      simp only [Act.put, List.setIfInBounds_toArray, List.set_cons_zero, List.set_cons_succ]
      refine takeF 22 59 ?v69 rfl (Or.inl ⟨by rfl, ?hy69⟩) ?rest69
      case hy69 => intro wz hSw; (try dsimp only at hSw); go_simp; try with_reducible rfl
      simp only [Act.put, List.setIfInBounds_toArray, List.set_cons_zero, List.set_cons_succ]
      refine takeF 23 9 ?v70 rfl (Or.inl ⟨by rfl, ?hy70⟩) ?rest70
      case hy70 => intro wz hSw; (try dsimp only at hSw); go_simp; try with_reducible rfl
      simp only [Act.put, List.setIfInBounds_toArray, List.set_cons_zero, List.set_cons_succ]
      refine wpAnyH_done (by as_aux_lemma => kernel_rfl) ?_ _
      go_wp2_with fail
      go_meet
      exact ⟨by rw [HOB.out], hb1⟩
    · skip
      have hob := hid (QQ (K := K) (t := c.t) hn)
      have HS : Hid (∀ w', Below w0.heap.size w0 w' → w'.cell? ⟨w.heap.size, 2, none⟩ = some (.int .i64 c.t) ∧ w'.cell? ⟨w.heap.size, 3, none⟩ = some (.int .i64 c.n)) := hid (fun w' hb => ⟨by rw [Qa (Qc HB0.out hb)]; rfl, by rw [Qa (Qc HB0.out hb)]; rfl⟩)
      refine wp_region_held_drew (S := (fun w' => w'.cell? ⟨w.heap.size, 2, none⟩ = some (.int .i64 c.t) ∧ w'.cell? ⟨w.heap.size, 3, none⟩ = some (.int .i64 c.n))) (by as_aux_lemma => kernel_rfl) (HS.out _ (Below.refl _ _).drew) (fun _ => ?_)
      refine takeF 0 37 ?v71 rfl (Or.inl ⟨by rfl, ?hy71⟩) ?rest71
      case hy71 => intro wz hSw; (try dsimp only at hSw); go_simp; try with_reducible rfl
      simp only [Act.put, List.setIfInBounds_toArray, List.set_cons_zero, List.set_cons_succ]
      refine takeF 1 38 ?v72 rfl (Or.inl ⟨by rfl, ?hy72⟩) ?rest72
      case hy72 => intro wz hSw; (try dsimp only at hSw); go_simp; try with_reducible rfl
      simp only [Act.put, List.setIfInBounds_toArray, List.set_cons_zero, List.set_cons_succ]
      refine wpAnyH_ready (rs := [2]) (by as_aux_lemma => kernel_rfl) (by simp) ?_
      refine (AllReadyH.cons rfl (fun K' hK => ?_) AllReadyH.nil)
      go_simp
      go_wp2_with (go_at_call 23; refine (hfc _).mono ?_; rintro e w1 ⟨rfl, hwl⟩; have hb1 : Below w0.heap.size w0 w1 := (by rw [hwl]; first | exact Below.refl _ _ | exact (Below.refl _ _).drew); clear hwl)
      refine hK.out _ _ (HS.out _ hb1) (fun _ => ?_)
      clear hK K'
      refine takeF 3 40 ?v73 rfl (Or.inl ⟨by rfl, ?hy73⟩) ?rest73
      case hy73 => intro wz hSw; (try dsimp only at hSw); go_simp; try with_reducible rfl
      simp only [Act.put, List.setIfInBounds_toArray, List.set_cons_zero, List.set_cons_succ]
      refine takeF 4 41 ?v74 rfl (Or.inl ⟨by rfl, ?hy74⟩) ?rest74
      case hy74 => intro wz hSw; (try dsimp only at hSw); go_simp; try with_reducible rfl
      simp only [Act.put, List.setIfInBounds_toArray, List.set_cons_zero, List.set_cons_succ]
      refine takeF 5 42 ?v75 rfl (Or.inl ⟨by rfl, ?hy75⟩) ?rest75
      case hy75 => intro wz hSw; (try dsimp only at hSw); go_simp; try with_reducible rfl
      simp only [Act.put, List.setIfInBounds_toArray, List.set_cons_zero, List.set_cons_succ]
      refine takeF 6 43 (.bool false) rfl (Or.inl ⟨by rfl, ?hy76⟩) ?rest76
      case hy76 => intro wz hSw; (try dsimp only at hSw); go_simp; try simp [hn]; try omega
      simp only [Act.put, List.setIfInBounds_toArray, List.set_cons_zero, List.set_cons_succ]
      refine takeF 7 44 ?v77 rfl (Or.inl ⟨by rfl, ?hy77⟩) ?rest77
      case hy77 => intro wz hSw; (try dsimp only at hSw); go_simp; try with_reducible rfl
      simp only [Act.put, List.setIfInBounds_toArray, List.set_cons_zero, List.set_cons_succ]
      refine takeF 8 45 ?v78 rfl (Or.inl ⟨by rfl, ?hy78⟩) ?rest78
      case hy78 => intro wz hSw; (try dsimp only at hSw); go_simp; try with_reducible rfl
      simp only [Act.put, List.setIfInBounds_toArray, List.set_cons_zero, List.set_cons_succ]
      refine skipF 9 46 rfl ?_
      simp only [Act.put, List.setIfInBounds_toArray, List.set_cons_zero, List.set_cons_succ]
      refine skipF 10 47 rfl ?_
      simp only [Act.put, List.setIfInBounds_toArray, List.set_cons_zero, List.set_cons_succ]
      refine skipF 11 48 rfl ?_
      simp only [Act.put, List.setIfInBounds_toArray, List.set_cons_zero, List.set_cons_succ]
      refine skipF 12 49 rfl ?_
      simp only [Act.put, List.setIfInBounds_toArray, List.set_cons_zero, List.set_cons_succ]
      refine skipF 13 50 rfl ?_
      simp only [Act.put, List.setIfInBounds_toArray, List.set_cons_zero, List.set_cons_succ]
      refine skipF 14 51 rfl ?_
      simp only [Act.put, List.setIfInBounds_toArray, List.set_cons_zero, List.set_cons_succ]
      refine skipF 15 52 rfl ?_
      simp only [Act.put, List.setIfInBounds_toArray, List.set_cons_zero, List.set_cons_succ]
      refine skipF 16 53 rfl ?_
      simp only [Act.put, List.setIfInBounds_toArray, List.set_cons_zero, List.set_cons_succ]
      refine skipF 17 54 rfl ?_
      simp only [Act.put, List.setIfInBounds_toArray, List.set_cons_zero, List.set_cons_succ]
      refine skipF 18 55 rfl ?_
      simp only [Act.put, List.setIfInBounds_toArray, List.set_cons_zero, List.set_cons_succ]
      refine skipF 19 56 rfl ?_
      simp only [Act.put, List.setIfInBounds_toArray, List.set_cons_zero, List.set_cons_succ]
      refine skipF 20 57 rfl ?_
      simp only [Act.put, List.setIfInBounds_toArray, List.set_cons_zero, List.set_cons_succ]
      refine skipF 21 58 rfl ?_
      simp only [Act.put, List.setIfInBounds_toArray, List.set_cons_zero, List.set_cons_succ]
      refine takeF 22 59 ?v79 rfl (Or.inl ⟨by rfl, ?hy79⟩) ?rest79
      case hy79 => intro wz hSw; (try dsimp only at hSw); go_simp; try with_reducible rfl
      simp only [Act.put, List.setIfInBounds_toArray, List.set_cons_zero, List.set_cons_succ]
      refine takeF 23 9 ?v80 rfl (Or.inl ⟨by rfl, ?hy80⟩) ?rest80
      case hy80 => intro wz hSw; (try dsimp only at hSw); go_simp; try with_reducible rfl
      simp only [Act.put, List.setIfInBounds_toArray, List.set_cons_zero, List.set_cons_succ]
      refine wpAnyH_done (by as_aux_lemma => kernel_rfl) ?_ _
      go_wp2_with fail
      go_meet
      exact ⟨by rw [hob.out]; rfl, hb1⟩
 case rest =>
  obtain ⟨rfl, hbc⟩ := hcut
  have HBC := hid (Qc HB0.out hbc)
  have HRC := hid (Qc HR0.out hbc)
  have RKC := hid (RK0.out.below hbc)
  have RSC := hid (RS0.out.trans (RStep.below hbc))
  have hbw := Qd hb0 hbc
  have a0 : wc.cell? ⟨w.heap.size, 0, none⟩ = some (.int .i64 2) := by rw [Qa HBC.out]; rfl
  have a7 : wc.cell? ⟨w.heap.size, 7, none⟩ = some (.string ⟨c.text.toArray⟩) := by rw [Qa HBC.out]; rfl
  obtain ⟨C, hC, _, hc0, hc21, hcc⟩ := RKC.out.box
  obtain ⟨d0, d1, d2, d3, d4⟩ := hcc t h1 h2
  have x2 : wc.cell? ⟨rb, 1 + t * 5 + 2, none⟩ = some (.string ⟨K.ths[t].text.toArray⟩) := by rw [Qa hC, d2]
  have xf2 := Qf hC (1 + t * 5 + 2)
  have HRB := hid hC
  clear hfour b7
  have hTG := hg.ths _ (List.getElem_mem h2)
  have hwf : WfL K.ths[t].label := QO ((Qx _).2 hTG.label)
  have hob := hTG.objs
  have a5 : wc.cell? ⟨w.heap.size, 5, none⟩ = some (.slice pl c.label.length cl) := by rw [Qa HBC.out]; rfl
  have x0 : wc.cell? ⟨rb, 1 + t * 5, none⟩ = some V[t].vl := by rw [Qa hC, d0]
  have x1 : wc.cell? ⟨rb, 1 + t * 5 + 1, none⟩ = some V[t].vo := by rw [Qa hC, d1]
  have x3 : wc.cell? ⟨rb, 1 + t * 5 + 3, none⟩ = some V[t].vj := by rw [Qa hC, d3]
  obtain ⟨hrl, hro, hrj, _⟩ := RKC.out.thr t h1 h2
  obtain ⟨p0, c0, e0, _⟩ := id hrl.1
  obtain ⟨p1, c1, e1, _⟩ := id hro.1
  obtain ⟨vs, hvs, hown, hros⟩ := hrj
  obtain ⟨p3, c3, e3⟩ := Qi hown
  have hLA := hrl.1
  have hOA := hro.1
  rw [e0] at x0 hLA
  rw [e1] at x1 hOA
  rw [e3] at x3
  have hCL := HVL.out.below hbw
  have hgood := fun wx (hb : Below wc.heap.size wc wx) => Qbd (.slice pl c.label.length cl) c.label wx (hCL.below hb)
  have X0 := hid x0
  have X1 := hid x1
  have X3 := hid x3
  have A5 := hid a5
  have HOWN := hid hown
  have HVS := hid hvs
  have HROS := hid hros
  have E3 := hid e3
  clear hC hc0 hc21 hcc d0 d1 d2 d3 d4 x2 xf2 hrl hro e0 e1 e3 hTG hg hown hvs hros
  cases hG : goodB c.label with
  | false =>
   as_aux_lemma =>
    have HT : Hid (callT K t K.ths[t] c = (K, code 2)) := hid (by unfold callT objectL; rw [if_neg (by omega), hk]; simp [hG]; rw [QC]; exact Q1 h2)
    rw [hG] at hgood
    clear hG
    go_wp2_with (first | (go_at_call 41; refine (hgood _ (Below.refl _ _)).mono ?_; rintro e w2 ⟨rfl, hw2⟩; have Hw2 := hid hw2; have X0_w2 := hw2.cell (Qb X0.out); rw [X0.out] at X0_w2; have X1_w2 := hw2.cell (Qb X1.out); rw [X1.out] at X1_w2; have X3_w2 := hw2.cell (Qb X3.out); rw [X3.out] at X3_w2; have A5_w2 := hw2.cell (Qb A5.out); rw [A5.out] at A5_w2; clear hw2) | (go_at_call 39; refine (Qw _ _).mono ?_; rintro e w9 ⟨rfl, hwd⟩; have hw9 : Below w2.heap.size w2 w9 := (by first | exact hwd | exact kundrew hwd); have HR9 := hid (Qc (Qc HRC.out Hw2.out) hw9); have HW9 := hid hw9; clear hw9 hwd; have g0 := Qa HR9.out 0; have g1 := Qa HR9.out 1; have g2 := Qa HR9.out 2; have gf0 := Qf HR9.out 0; have gf1 := Qf HR9.out 1; have gf2 := Qf HR9.out 2))
    have hend := Qt (w := w) (B := w.heap.size + 1) 2 0 [] HR9.out (by omega) (by simp) ((RKC.out.below Hw2.out).below HW9.out) ((RSC.out.trans (RStep.below Hw2.out)).trans (RStep.below HW9.out))
    rw [HT.out]
    exact bodyPost_ret (results_cell_row rfl _ _ (w.heap.size + 1) 52 _ (0, 0) _ rfl hend.1 Try.underlying52 rfl (by kernel_rfl)) rfl ⟨rfl, _, _, hend.2.1, hend.2.2⟩
  | true =>
  cases hF : flowsL K.ths[t].label c.label K.ths[t].own with
  | false =>
   as_aux_lemma =>
    have HT : Hid (callT K t K.ths[t] c = (K, code 6)) := hid (by unfold callT objectL; rw [if_neg (by omega), hk]; simp [hG, hF]; rw [QC]; exact Q1 h2)
    rw [hG] at hgood
    go_wp2_with (go_at_call 41; refine (hgood _ (Below.refl _ _)).mono ?_; rintro e w2 ⟨rfl, hw2⟩; have Hw2 := hid hw2; have X0_w2 := hw2.cell (Qb X0.out); rw [X0.out] at X0_w2; have X1_w2 := hw2.cell (Qb X1.out); rw [X1.out] at X1_w2; have X3_w2 := hw2.cell (Qb X3.out); rw [X3.out] at X3_w2; have A5_w2 := hw2.cell (Qb A5.out); rw [A5.out] at A5_w2; clear hw2)
    have hfl := fun wx (hb : Below w2.heap.size w2 wx) => QF (.slice p0 K.ths[t].label.length c0) (.slice pl c.label.length cl) (.slice p1 K.ths[t].own.length c1) K.ths[t].label c.label K.ths[t].own wx ((hLA.below Hw2.out).below hb) ((hCL.below Hw2.out).below hb) ((hOA.below Hw2.out).below hb) hwf (QO hG)
    rw [hF] at hfl
    go_region_held3 (fun w' => w'.cell? ⟨rb, 1 + t * 5, none⟩ = some (.slice p0 K.ths[t].label.length c0) ∧ w'.cell? ⟨rb, 1 + t * 5 + 1, none⟩ = some (.slice p1 K.ths[t].own.length c1) ∧ w'.cell? ⟨w.heap.size, 5, none⟩ = some (.slice pl c.label.length cl)) (go_keep) ((go_at_call 27; refine (hfl _ (by first | exact Below.refl _ _ | exact (Below.refl _ _).drew)).mono ?_; rintro e w3 ⟨rfl, hwd⟩; have hw3 : Below w2.heap.size w2 w3 := (by first | exact hwd | exact kundrew hwd); have Hw3 := hid hw3; have X0_w3 := hw3.cell (Qb X0_w2); rw [X0_w2] at X0_w3; have X1_w3 := hw3.cell (Qb X1_w2); rw [X1_w2] at X1_w3; have X3_w3 := hw3.cell (Qb X3_w2); rw [X3_w2] at X3_w3; have A5_w3 := hw3.cell (Qb A5_w2); rw [A5_w2] at A5_w3; clear hw3 hwd))
    all_goals
     go_wp2_with (go_at_call 39; refine (Qw _ _).mono ?_; rintro e w9 ⟨rfl, hwd⟩; have hw9 : Below w3.heap.size w3 w9 := (by first | exact hwd | exact kundrew hwd); have HR9 := hid (Qc (Qc (Qc HRC.out Hw2.out) Hw3.out) hw9); have HW9 := hid hw9; clear hw9 hwd; have g0 := Qa HR9.out 0; have g1 := Qa HR9.out 1; have g2 := Qa HR9.out 2; have gf0 := Qf HR9.out 0; have gf1 := Qf HR9.out 1; have gf2 := Qf HR9.out 2)
     have hend := Qt (w := w) (B := w.heap.size + 1) 6 0 [] HR9.out (by omega) (by simp) (((RKC.out.below Hw2.out).below Hw3.out).below HW9.out) (((RSC.out.trans (RStep.below Hw2.out)).trans (RStep.below Hw3.out)).trans (RStep.below HW9.out))
     rw [HT.out]
     exact bodyPost_ret (results_cell_row rfl _ _ (w.heap.size + 1) 52 _ (0, 0) _ rfl hend.1 Try.underlying52 rfl (by kernel_rfl)) rfl ⟨rfl, _, _, hend.2.1, hend.2.2⟩
  | true =>
  by_cases h4 : 4 ≤ K.ths[t].objs.length
  · skip
    as_aux_lemma =>
     have HT : Hid (callT K t K.ths[t] c = (K, code 5)) := hid (by unfold callT objectL; rw [if_neg (by omega), hk]; simp [hG, hF, h4]; rw [QC]; exact Q1 h2)
     rw [hG] at hgood
     have h44 : ((K.ths[t].objs.length : Int) == 4) = true := by simp; omega
     go_wp2_with (go_at_call 41; refine (hgood _ (Below.refl _ _)).mono ?_; rintro e w2 ⟨rfl, hw2⟩; have Hw2 := hid hw2; have X0_w2 := hw2.cell (Qb X0.out); rw [X0.out] at X0_w2; have X1_w2 := hw2.cell (Qb X1.out); rw [X1.out] at X1_w2; have X3_w2 := hw2.cell (Qb X3.out); rw [X3.out] at X3_w2; have A5_w2 := hw2.cell (Qb A5.out); rw [A5.out] at A5_w2; clear hw2)
     have hfl := fun wx (hb : Below w2.heap.size w2 wx) => QF (.slice p0 K.ths[t].label.length c0) (.slice pl c.label.length cl) (.slice p1 K.ths[t].own.length c1) K.ths[t].label c.label K.ths[t].own wx ((hLA.below Hw2.out).below hb) ((hCL.below Hw2.out).below hb) ((hOA.below Hw2.out).below hb) hwf (QO hG)
     rw [hF] at hfl
     go_region_held3 (fun w' => w'.cell? ⟨rb, 1 + t * 5, none⟩ = some (.slice p0 K.ths[t].label.length c0) ∧ w'.cell? ⟨rb, 1 + t * 5 + 1, none⟩ = some (.slice p1 K.ths[t].own.length c1) ∧ w'.cell? ⟨w.heap.size, 5, none⟩ = some (.slice pl c.label.length cl)) (go_keep) ((go_at_call 27; refine (hfl _ (by first | exact Below.refl _ _ | exact (Below.refl _ _).drew)).mono ?_; rintro e w3 ⟨rfl, hwd⟩; have hw3 : Below w2.heap.size w2 w3 := (by first | exact hwd | exact kundrew hwd); have Hw3 := hid hw3; have X0_w3 := hw3.cell (Qb X0_w2); rw [X0_w2] at X0_w3; have X1_w3 := hw3.cell (Qb X1_w2); rw [X1_w2] at X1_w3; have X3_w3 := hw3.cell (Qb X3_w2); rw [X3_w2] at X3_w3; have A5_w3 := hw3.cell (Qb A5_w2); rw [A5_w2] at A5_w3; clear hw3 hwd))
     all_goals
      go_wp2_with (go_at_call 39; refine (Qw _ _).mono ?_; rintro e w9 ⟨rfl, hwd⟩; have hw9 : Below w3.heap.size w3 w9 := (by first | exact hwd | exact kundrew hwd); have HR9 := hid (Qc (Qc (Qc HRC.out Hw2.out) Hw3.out) hw9); have HW9 := hid hw9; clear hw9 hwd; have g0 := Qa HR9.out 0; have g1 := Qa HR9.out 1; have g2 := Qa HR9.out 2; have gf0 := Qf HR9.out 0; have gf1 := Qf HR9.out 1; have gf2 := Qf HR9.out 2)
      have hend := Qt (w := w) (B := w.heap.size + 1) 5 0 [] HR9.out (by omega) (by simp) (((RKC.out.below Hw2.out).below Hw3.out).below HW9.out) (((RSC.out.trans (RStep.below Hw2.out)).trans (RStep.below Hw3.out)).trans (RStep.below HW9.out))
      rw [HT.out]
      exact bodyPost_ret (results_cell_row rfl _ _ (w.heap.size + 1) 52 _ (0, 0) _ rfl hend.1 Try.underlying52 rfl (by kernel_rfl)) rfl ⟨rfl, _, _, hend.2.1, hend.2.2⟩
  · skip
    as_aux_lemma =>
     have HT : Hid (callT K t K.ths[t] c = ({ K with ths := K.ths.set t { K.ths[t] with objs := K.ths[t].objs ++ [⟨c.label, []⟩] } }, ⟨0, (K.ths[t].objs.length : Int), []⟩)) := hid (by unfold callT objectL; rw [if_neg (by omega), hk]; simp [hG, hF, h4]; exact QC K t _)
     rw [hG] at hgood
     have h44 : ((K.ths[t].objs.length : Int) == 4) = false := by simp; omega
     go_wp2_with (go_at_call 41; refine (hgood _ (Below.refl _ _)).mono ?_; rintro e w2 ⟨rfl, hw2⟩; have Hw2 := hid hw2; have X0_w2 := hw2.cell (Qb X0.out); rw [X0.out] at X0_w2; have X1_w2 := hw2.cell (Qb X1.out); rw [X1.out] at X1_w2; have X3_w2 := hw2.cell (Qb X3.out); rw [X3.out] at X3_w2; have A5_w2 := hw2.cell (Qb A5.out); rw [A5.out] at A5_w2; clear hw2)
     have hfl := fun wx (hb : Below w2.heap.size w2 wx) => QF (.slice p0 K.ths[t].label.length c0) (.slice pl c.label.length cl) (.slice p1 K.ths[t].own.length c1) K.ths[t].label c.label K.ths[t].own wx ((hLA.below Hw2.out).below hb) ((hCL.below Hw2.out).below hb) ((hOA.below Hw2.out).below hb) hwf (QO hG)
     rw [hF] at hfl
     go_region_held3 (fun w' => w'.cell? ⟨rb, 1 + t * 5, none⟩ = some (.slice p0 K.ths[t].label.length c0) ∧ w'.cell? ⟨rb, 1 + t * 5 + 1, none⟩ = some (.slice p1 K.ths[t].own.length c1) ∧ w'.cell? ⟨w.heap.size, 5, none⟩ = some (.slice pl c.label.length cl)) (go_keep) ((go_at_call 27; refine (hfl _ (by first | exact Below.refl _ _ | exact (Below.refl _ _).drew)).mono ?_; rintro e w3 ⟨rfl, hwd⟩; have hw3 : Below w2.heap.size w2 w3 := (by first | exact hwd | exact kundrew hwd); have Hw3 := hid hw3; have X0_w3 := hw3.cell (Qb X0_w2); rw [X0_w2] at X0_w3; have X1_w3 := hw3.cell (Qb X1_w2); rw [X1_w2] at X1_w3; have X3_w3 := hw3.cell (Qb X3_w2); rw [X3_w2] at X3_w3; have A5_w3 := hw3.cell (Qb A5_w2); rw [A5_w2] at A5_w3; clear hw3 hwd))
     all_goals
      have hb3 := Qd Hw2.out Hw3.out
      have hCL3 := hCL.below hb3
      have RK3 := hid (RKC.out.below hb3)
      clear hfl X0_w2 X1_w2 X3_w2 A5_w2 X0_w3 X1_w3
      go_wp2
      go_region_law ((first
       | (refine Qbm (by rfl) (.tmp 152) (by rfl) w3.heap.size (.slice pl c.label.length cl) c.label (by rfl) (by first | exact hCL3 | exact hCL3.below (Below.refl _ _).drew) (by first | exact Nat.le_refl _ | simp) ?_; intro v6 w6 hown6 hg6d; obtain ⟨p6, c6, rfl, _⟩ := QN hown6; have hg6 : w3.grownBy w6 none := (by first | exact hg6d | exact QaF hg6d); have hw6 := Qag hg6; have z3 := hw6.cell (Qb X3_w3); rw [X3_w3] at z3; have hlt6 : rb < w6.heap.size := Qb z3; have HOWN6 := hid hown6; have Hw6 := hid hw6; clear hown6 hg6 hg6d hw6)
       | (refine Qb0 (by rfl) (.tmp 150) (.tmp 155) (by rfl) (.slice p3 K.ths[t].objs.length c3) K.ths[t].objs.length (flatO vs K.ths[t].objs) (by rfl) (by rw [← E3.out]; exact Ql (Ql HOWN.out (Qd hb3 Hw6.out)) (Qe w6 _)) w6.heap.size (.slice p6 c.label.length c6) (.string ⟨#[]⟩) (by rfl) (laid2 w6 _ _ _) (by intro u hu; simp at hu; rcases hu with rfl | rfl <;> rfl) (by omega) ?_; intro v7 w7 hown7 hg7 hwh7; have HOWN7 := hid hown7; have HG7 := hid hg7; have HWH7 := hid hwh7; obtain ⟨p7, c7, e7⟩ := Qi hown7; subst e7; have hs37 := QeI (RKC.out.below (Qd (Qd hb3 Hw6.out) (Qe w6 (.cells #[.slice p6 c.label.length c6, .string ⟨#[]⟩] 80)))) h1 h2 (by rw [E3.out]; exact hg7); rw [E3.out] at hs37; obtain ⟨s3, sf3⟩ := hs37; clear hown7 hg7 hwh7)))
      all_goals
       have hbA := Qd (Qd hb3 Hw6.out) (Qe w6 (.cells #[.slice p6 c.label.length c6, .string ⟨#[]⟩] 80))
       have hobjs := Qc7 (l := c.label) HVS.out (Ql HOWN.out hbA) (fun j g1 g2 => (HROS.out j g1 g2).keep (Qk _ hbA) (More.refl _ _)) (fun k e => RKC.out.rows t h1 k (mem_rrows.2 (.inl e))) (Ql HOWN6.out (Qe w6 _)) hCL.len (fun k e => RK3.out.fin k e) HOWN7.out (by rw [E3.out]; exact HG7.out) (by rw [E3.out]; exact HWH7.out)
       have HST := hid ((RKC.out.below hbA).objs h1 h2 (by rw [E3.out]; exact HG7.out) hobjs (by rw [E3.out]; exact HWH7.out))
       have NE := Qcq HRB.out HRC.out (by decide)
       have HB7 := Qc HRC.out hbA
       have HBX7 : w7.heap[w.heap.size + 1]? = some (.cells #[.int .i64 0, .int .i64 0, .string ⟨#[]⟩] 52 (0, 0)) := by
        rw [HG7.out.block (w.heap.size + 1) (QJ HB7) (fun e => ?_), HB7]
        exact Qn (Ql HOWN.out hbA) HB7 (by decide) (by rw [E3.out]; exact e.symm)
       have HBX := hid (QU HBX7 NE (1 + t * 5 + 3) (.slice p7 (K.ths[t].objs.length + 1) c7))
       obtain ⟨C9, hC9, _, _, _, hc9⟩ := HST.out.1.box
       have u3 : (w7.setCell ⟨rb, 1 + t * 5 + 3, none⟩ (.slice p7 (K.ths[t].objs.length + 1) c7)).cell? ⟨rb, 1 + t * 5 + 3, none⟩ = some (.slice p7 (K.ths[t].objs.length + 1) c7) := by
        rw [Qa hC9, (hc9 t (by simpa using h1) (by simpa using h2)).2.2.2.1]
        simp
       have r0 := Qa HBX.out 0
       have r1 := Qa HBX.out 1
       have r2 := Qa HBX.out 2
       have rf0 := Qf HBX.out 0
       have rf1 := Qf HBX.out 1
       have rf2 := Qf HBX.out 2
       clear hC9 hc9 HB7 HBX7 hobjs hbA
       go_wp2
       have hend := Qt (w := w) (B := w.heap.size + 1) 0 (K.ths[t].objs.length : Int) [] HBX.out (by omega) (by simp) HST.out.1 ((RSC.out.trans (RStep.below (Qd (Qd hb3 Hw6.out) (Qe w6 (.cells #[.slice p6 c.label.length c6, .string ⟨#[]⟩] 80))))).trans HST.out.2)
       rw [HT.out]
       exact bodyPost_ret (results_cell_row rfl _ _ (w.heap.size + 1) 52 _ (0, 0) _ rfl hend.1 Try.underlying52 rfl (by kernel_rfl)) rfl ⟨rfl, _, _, hend.2.1, hend.2.2⟩
end Go.Proofs.Ytpdijobakfpnbaa
