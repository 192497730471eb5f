/- The reference's Call: KRK1 (written by genrcall.py). -/
import Derived.Test.YtpdijobakfpnbaaQKRCallL
namespace Go.Proofs.Ytpdijobakfpnbaa
open Go.RowKit Go.Proofs.Parclose
set_option linter.unusedSimpArgs false in
set_option maxRecDepth 100000 in
set_option maxHeartbeats 6400000 in
theorem QgS (rb t : Nat) (F : List Nat) (V : List ThrV) (K : Ker) (v : Value) (c : Cal) (w : World) (h : RKerAt w rb F V K) (h1 : t < V.length) (h2 : t < K.ths.length) (hv : CalAt w v c) (hx : c.text.length ≤ 64) (hk : c.kind = 1) (hg : GoodK K) :
 Calls Try.prog 14 #[.pointer (some ⟨rb, 0, none⟩), .int .i64 t, v] w fun e w' => e = .returned (repV (callT K t K.ths[t] c).2) ∧ ∃ G V', RKerAt w' rb G V' (callT K t K.ths[t] c).1 ∧ RStep rb w F V w' G V' := by
 have ht : t < 4 := by have := h.len; omega
 have hf : hostB t = true := by unfold hostB; simp; omega
 have hfour := Qj t
 rw [hf] at hfour
 have hx1 : ¬ ((64 : Int) < (c.text.length : Int)) := by omega
 have hti : (t : Int) < 4 := by omega
 obtain ⟨vl, vg, rfl, hvl, hvg⟩ := hv
 obtain ⟨pl, cl, rfl, _⟩ := id hvl
 obtain ⟨pg, cg, rfl, _⟩ := id hvg
 have HVL := hid hvl
 have HVG := hid hvg
 unfold calV
 clear hvl hvg
 rw [hk]
 go_enter Try.func14, Try.ntmps14
 go_upto_region 2 with fail
 have hb0 : Below w.heap.size w ((w.alloc (.cells #[.int .i64 1, .int .i64 c.h, .int .i64 c.t, .int .i64 c.n, .int .i64 c.c, .slice pl c.label.length cl, .slice pg c.grants.length cg, .string ⟨c.text.toArray⟩] 40)).alloc (.cells #[.int .i64 0, .int .i64 0, .string ⟨#[]⟩] 52)) := (Qe w _).alloc (by simp) _
 have HB0 : Hid (((w.alloc (.cells #[.int .i64 1, .int .i64 c.h, .int .i64 c.t, .int .i64 c.n, .int .i64 c.c, .slice pl c.label.length cl, .slice pg c.grants.length cg, .string ⟨c.text.toArray⟩] 40)).alloc (.cells #[.int .i64 0, .int .i64 0, .string ⟨#[]⟩] 52)).heap[w.heap.size]? = some (.cells #[.int .i64 1, .int .i64 c.h, .int .i64 c.t, .int .i64 c.n, .int .i64 c.c, .slice pl c.label.length cl, .slice pg c.grants.length cg, .string ⟨c.text.toArray⟩] 40 (0, 0))) := hid (QI (heap_alloc_new w _) _)
 have HR0 : Hid (((w.alloc (.cells #[.int .i64 1, .int .i64 c.h, .int .i64 c.t, .int .i64 c.n, .int .i64 c.c, .slice pl c.label.length cl, .slice pg c.grants.length cg, .string ⟨c.text.toArray⟩] 40)).alloc (.cells #[.int .i64 0, .int .i64 0, .string ⟨#[]⟩] 52)).heap[w.heap.size + 1]? = some (.cells #[.int .i64 0, .int .i64 0, .string ⟨#[]⟩] 52 (0, 0))) := hid (by have := heap_alloc_new (w.alloc (.cells #[.int .i64 1, .int .i64 c.h, .int .i64 c.t, .int .i64 c.n, .int .i64 c.c, .slice pl c.label.length cl, .slice pg c.grants.length cg, .string ⟨c.text.toArray⟩] 40)) (.cells #[.int .i64 0, .int .i64 0, .string ⟨#[]⟩] 52); simpa using this)
 have RK0 : Hid (RKerAt ((w.alloc (.cells #[.int .i64 1, .int .i64 c.h, .int .i64 c.t, .int .i64 c.n, .int .i64 c.c, .slice pl c.label.length cl, .slice pg c.grants.length cg, .string ⟨c.text.toArray⟩] 40)).alloc (.cells #[.int .i64 0, .int .i64 0, .string ⟨#[]⟩] 52)) rb (F ++ [w.heap.size + 1]) V K) := hid (by have := (h.below (Qe w (.cells #[.int .i64 1, .int .i64 c.h, .int .i64 c.t, .int .i64 c.n, .int .i64 c.c, .slice pl c.label.length cl, .slice pg c.grants.length cg, .string ⟨c.text.toArray⟩] 40))).reserve (.cells #[.int .i64 0, .int .i64 0, .string ⟨#[]⟩] 52); simpa using this)
 have RS0 : Hid (RStep rb w F V ((w.alloc (.cells #[.int .i64 1, .int .i64 c.h, .int .i64 c.t, .int .i64 c.n, .int .i64 c.c, .slice pl c.label.length cl, .slice pg c.grants.length cg, .string ⟨c.text.toArray⟩] 40)).alloc (.cells #[.int .i64 0, .int .i64 0, .string ⟨#[]⟩] 52)) (F ++ [w.heap.size + 1]) V) := hid (by have := (RStep.below (rb := rb) (F := F) (V := V) (Qe w (.cells #[.int .i64 1, .int .i64 c.h, .int .i64 c.t, .int .i64 c.n, .int .i64 c.c, .slice pl c.label.length cl, .slice pg c.grants.length cg, .string ⟨c.text.toArray⟩] 40))).trans (RStep.reserve rb (w.alloc (.cells #[.int .i64 1, .int .i64 c.h, .int .i64 c.t, .int .i64 c.n, .int .i64 c.c, .slice pl c.label.length cl, .slice pg c.grants.length cg, .string ⟨c.text.toArray⟩] 40)) F V (.cells #[.int .i64 0, .int .i64 0, .string ⟨#[]⟩] 52)); simpa using this)
 generalize ((w.alloc (.cells #[.int .i64 1, .int .i64 c.h, .int .i64 c.t, .int .i64 c.n, .int .i64 c.c, .slice pl c.label.length cl, .slice pg c.grants.length cg, .string ⟨c.text.toArray⟩] 40)).alloc (.cells #[.int .i64 0, .int .i64 0, .string ⟨#[]⟩] 52)) = w0 at *
 have b7 : w0.cell? ⟨w.heap.size, 7, none⟩ = some (.string ⟨c.text.toArray⟩) := by rw [Qa HB0.out]; rfl
 go_upto_region 7 with (go_at_call 23; refine (hfour _).mono ?_; rintro e w1 ⟨rfl, hw1⟩; rw [hw1]; clear hw1 w1)
 go_cut [9] (fun v9 wx => v9 = .bool (objAt K c.t c.n).isSome ∧ Below w0.heap.size w0 wx)
 case first =>
  as_aux_lemma =>
   cases hct : hostB c.t with
   | false =>
    have hob := hid (QP (n := c.n) h.lenK hct)
    have hfc := Qj c.t
    rw [hct] at hfc
    have HS : Hid (∀ w', Below w0.heap.size w0 w' → w'.cell? ⟨w.heap.size, 2, none⟩ = some (.int .i64 c.t) ∧ w'.cell? ⟨w.heap.size, 3, none⟩ = some (.int .i64 c.n)) := hid (fun w' hb => ⟨by rw [Qa (Qc HB0.out hb)]; rfl, by rw [Qa (Qc HB0.out hb)]; rfl⟩)
    refine wp_region_held_drew (S := (fun w' => w'.cell? ⟨w.heap.size, 2, none⟩ = some (.int .i64 c.t) ∧ w'.cell? ⟨w.heap.size, 3, none⟩ = some (.int .i64 c.n))) (by as_aux_lemma => kernel_rfl) (HS.out _ (Below.refl _ _).drew) (fun _ => ?_)
    refine takeF 0 37 ?v70 rfl (Or.inl ⟨by rfl, ?hy70⟩) ?rest70
    case hy70 => intro wz hSw; (try dsimp only at hSw); go_simp; try with_reducible rfl
    simp only [Act.put, List.setIfInBounds_toArray, List.set_cons_zero, List.set_cons_succ]
    refine takeF 1 38 ?v71 rfl (Or.inl ⟨by rfl, ?hy71⟩) ?rest71
    case hy71 => intro wz hSw; (try dsimp only at hSw); go_simp; try with_reducible rfl
    simp only [Act.put, List.setIfInBounds_toArray, List.set_cons_zero, List.set_cons_succ]
    refine wpAnyH_ready (rs := [2]) (by as_aux_lemma => kernel_rfl) (by simp) ?_
    refine (AllReadyH.cons rfl (fun K' hK => ?_) AllReadyH.nil)
    go_simp
    go_wp2_with (go_at_call 23; refine (hfc _).mono ?_; rintro e w1 ⟨rfl, hwl⟩; have hb1 : Below w0.heap.size w0 w1 := (by rw [hwl]; first | exact Below.refl _ _ | exact (Below.refl _ _).drew); clear hwl)
    refine hK.out _ _ (HS.out _ hb1) (fun _ => ?_)
    clear hK K'
    refine takeF 3 40 ?v72 rfl (Or.inl ⟨by rfl, ?hy72⟩) ?rest72
    case hy72 => intro wz hSw; (try dsimp only at hSw); go_simp; try with_reducible rfl
    simp only [Act.put, List.setIfInBounds_toArray, List.set_cons_zero, List.set_cons_succ]
    refine skipF 4 41 rfl ?_
    simp only [Act.put, List.setIfInBounds_toArray, List.set_cons_zero, List.set_cons_succ]
    refine skipF 5 42 rfl ?_
    simp only [Act.put, List.setIfInBounds_toArray, List.set_cons_zero, List.set_cons_succ]
    refine skipF 6 43 rfl ?_
    simp only [Act.put, List.setIfInBounds_toArray, List.set_cons_zero, List.set_cons_succ]
    refine takeF 7 44 ?v73 rfl (Or.inl ⟨by rfl, ?hy73⟩) ?rest73
    case hy73 => intro wz hSw; (try dsimp only at hSw); go_simp; try with_reducible rfl
    simp only [Act.put, List.setIfInBounds_toArray, List.set_cons_zero, List.set_cons_succ]
    refine takeF 8 45 ?v74 rfl (Or.inl ⟨by rfl, ?hy74⟩) ?rest74
    case hy74 => intro wz hSw; (try dsimp only at hSw); go_simp; try with_reducible rfl
    simp only [Act.put, List.setIfInBounds_toArray, List.set_cons_zero, List.set_cons_succ]
    refine skipF 9 46 rfl ?_
    simp only [Act.put, List.setIfInBounds_toArray, List.set_cons_zero, List.set_cons_succ]
    refine skipF 10 47 rfl ?_
    simp only [Act.put, List.setIfInBounds_toArray, List.set_cons_zero, List.set_cons_succ]
    refine skipF 11 48 rfl ?_
    simp only [Act.put, List.setIfInBounds_toArray, List.set_cons_zero, List.set_cons_succ]
    refine skipF 12 49 rfl ?_
    simp only [Act.put, List.setIfInBounds_toArray, List.set_cons_zero, List.set_cons_succ]
    refine skipF 13 50 rfl ?_
    simp only [Act.put, List.setIfInBounds_toArray, List.set_cons_zero, List.set_cons_succ]
    refine skipF 14 51 rfl ?_
    simp only [Act.put, List.setIfInBounds_toArray, List.set_cons_zero, List.set_cons_succ]
    refine skipF 15 52 rfl ?_
    simp only [Act.put, List.setIfInBounds_toArray, List.set_cons_zero, List.set_cons_succ]
    refine skipF 16 53 rfl ?_
    simp only [Act.put, List.setIfInBounds_toArray, List.set_cons_zero, List.set_cons_succ]
    refine skipF 17 54 rfl ?_
    simp only [Act.put, List.setIfInBounds_toArray, List.set_cons_zero, List.set_cons_succ]
    refine skipF 18 55 rfl ?_
    simp only [Act.put, List.setIfInBounds_toArray, List.set_cons_zero, List.set_cons_succ]
    refine skipF 19 56 rfl ?_
    simp only [Act.put, List.setIfInBounds_toArray, List.set_cons_zero, List.set_cons_succ]
    refine skipF 20 57 rfl ?_
    simp only [Act.put, List.setIfInBounds_toArray, List.set_cons_zero, List.set_cons_succ]
    refine skipF 21 58 rfl ?_
    simp only [Act.put, List.setIfInBounds_toArray, List.set_cons_zero, List.set_cons_succ]
    refine takeF 22 59 ?v75 rfl (Or.inl ⟨by rfl, ?hy75⟩) ?rest75
    case hy75 => intro wz hSw; (try dsimp only at hSw); go_simp; try with_reducible rfl
    simp only [Act.put, List.setIfInBounds_toArray, List.set_cons_zero, List.set_cons_succ]
    refine takeF 23 9 ?v76 rfl (Or.inl ⟨by rfl, ?hy76⟩) ?rest76
    case hy76 => intro wz hSw; (try dsimp only at hSw); go_simp; try with_reducible rfl
    simp only [Act.put, List.setIfInBounds_toArray, List.set_cons_zero, List.set_cons_succ]
    refine wpAnyH_done (by as_aux_lemma => kernel_rfl) ?_ _
    go_wp2_with fail
    go_meet
    exact ⟨by rw [hob.out]; rfl, hb1⟩
   | true =>
    have hfc := Qj c.t
    rw [hct] at hfc
    by_cases hn : 0 ≤ c.n
    · skip
      obtain ⟨u, hu⟩ : ∃ u : Nat, c.t = u := ⟨c.t.toNat, by unfold hostB at hct; simp at hct; omega⟩
      have hu4 : u < 4 := by unfold hostB at hct; simp at hct; omega
      have huV : u < V.length := by rw [h.len]; exact hu4
      have huK : u < K.ths.length := by rw [h.lenK]; exact hu4
      have hob : (objAt K c.t c.n).isSome = decide (c.n < (K.ths[u].objs.length : Int)) := Q2 huK hu hn
      have HOB := hid hob
      rw [hu] at hfc
      clear hob
      obtain ⟨C, hC, _, _, _, hcc⟩ := RK0.out.box
      obtain ⟨_, _, _, q3, _⟩ := hcc u huV huK
      obtain ⟨_, _, ⟨_, _, hoj, _⟩, _⟩ := RK0.out.thr u huV huK
      obtain ⟨pu, cu, eu⟩ := Qi hoj
      have hu3 : w0.cell? ⟨rb, 1 + u * 5 + 3, none⟩ = some (.slice pu K.ths[u].objs.length cu) := by rw [Qa hC, q3, eu]
      have hand : bits .and .i64 (u : Int) 3 = (u : Int) := and3 hu4
      have hui : (u : Int) < 4 := by omega
      have hu0 : ¬ ((u : Int) < 0) := by omega
      have HS : Hid (∀ w', Below w0.heap.size w0 w' → w'.cell? ⟨w.heap.size, 2, none⟩ = some (.int .i64 u) ∧ w'.cell? ⟨w.heap.size, 3, none⟩ = some (.int .i64 c.n) ∧ w'.cell? ⟨rb, 1 + u * 5 + 3, none⟩ = some (.slice pu K.ths[u].objs.length cu)) := hid (fun w' hb => ⟨by rw [Qa (Qc HB0.out hb)]; show some (Value.int .i64 c.t) = _; rw [hu], by rw [Qa (Qc HB0.out hb)]; rfl, by rw [hb.cell (Qb hu3), hu3]⟩)
      clear hC hcc q3 hoj eu hu
      refine wp_region_held_drew (S := (fun w' => w'.cell? ⟨w.heap.size, 2, none⟩ = some (.int .i64 u) ∧ w'.cell? ⟨w.heap.size, 3, none⟩ = some (.int .i64 c.n) ∧ w'.cell? ⟨rb, 1 + u * 5 + 3, none⟩ = some (.slice pu K.ths[u].objs.length cu))) (by as_aux_lemma => kernel_rfl) (HS.out _ (Below.refl _ _).drew) (fun _ => ?_)
      refine takeF 0 37 ?v77 rfl (Or.inl ⟨by rfl, ?hy77⟩) ?rest77
      case hy77 => intro wz hSw; (try dsimp only at hSw); go_simp; try with_reducible rfl
      simp only [Act.put, List.setIfInBounds_toArray, List.set_cons_zero, List.set_cons_succ]
      refine takeF 1 38 ?v78 rfl (Or.inl ⟨by rfl, ?hy78⟩) ?rest78
      case hy78 => intro wz hSw; (try dsimp only at hSw); go_simp; try with_reducible rfl
      simp only [Act.put, List.setIfInBounds_toArray, List.set_cons_zero, List.set_cons_succ]
      refine wpAnyH_ready (rs := [2]) (by as_aux_lemma => kernel_rfl) (by simp) ?_
      refine (AllReadyH.cons rfl (fun K' hK => ?_) AllReadyH.nil)
      go_simp
      go_wp2_with (go_at_call 23; refine (hfc _).mono ?_; rintro e w1 ⟨rfl, hwl⟩; have hb1 : Below w0.heap.size w0 w1 := (by rw [hwl]; first | exact Below.refl _ _ | exact (Below.refl _ _).drew); clear hwl)
      refine hK.out _ _ (HS.out _ hb1) (fun _ => ?_)
      clear hK K'
      refine takeF 3 40 ?v79 rfl (Or.inl ⟨by rfl, ?hy79⟩) ?rest79
      case hy79 => intro wz hSw; (try dsimp only at hSw); go_simp; try with_reducible rfl
      simp only [Act.put, List.setIfInBounds_toArray, List.set_cons_zero, List.set_cons_succ]
      refine takeF 4 41 ?v80 rfl (Or.inl ⟨by rfl, ?hy80⟩) ?rest80
      case hy80 => intro wz hSw; (try dsimp only at hSw); go_simp; try with_reducible rfl
      simp only [Act.put, List.setIfInBounds_toArray, List.set_cons_zero, List.set_cons_succ]
      refine takeF 5 42 ?v81 rfl (Or.inl ⟨by rfl, ?hy81⟩) ?rest81
      case hy81 => intro wz hSw; (try dsimp only at hSw); go_simp; try with_reducible rfl
      simp only [Act.put, List.setIfInBounds_toArray, List.set_cons_zero, List.set_cons_succ]
      refine takeF 6 43 (.bool true) rfl (Or.inl ⟨by rfl, ?hy82⟩) ?rest82
      case hy82 => intro wz hSw; (try dsimp only at hSw); go_simp; try simp [hn]
      simp only [Act.put, List.setIfInBounds_toArray, List.set_cons_zero, List.set_cons_succ]
      refine takeF 7 44 ?v83 rfl (Or.inl ⟨by rfl, ?hy83⟩) ?rest83
      case hy83 => intro wz hSw; (try dsimp only at hSw); go_simp; try with_reducible rfl
      simp only [Act.put, List.setIfInBounds_toArray, List.set_cons_zero, List.set_cons_succ]
      refine takeF 8 45 ?v84 rfl (Or.inl ⟨by rfl, ?hy84⟩) ?rest84
      case hy84 => intro wz hSw; (try dsimp only at hSw); go_simp; try with_reducible rfl
      simp only [Act.put, List.setIfInBounds_toArray, List.set_cons_zero, List.set_cons_succ]
      refine takeF 9 46 ?v85 rfl (Or.inl ⟨by rfl, ?hy85⟩) ?rest85
      case hy85 => intro wz hSw; (try dsimp only at hSw); go_simp; try with_reducible rfl
      simp only [Act.put, List.setIfInBounds_toArray, List.set_cons_zero, List.set_cons_succ]
      refine takeF 10 47 ?v86 rfl (Or.inl ⟨by rfl, ?hy86⟩) ?rest86
      case hy86 => intro wz hSw; (try dsimp only at hSw); go_simp; try with_reducible rfl
      simp only [Act.put, List.setIfInBounds_toArray, List.set_cons_zero, List.set_cons_succ]
      refine takeF 11 48 ?v87 rfl (Or.inl ⟨by rfl, ?hy87⟩) ?rest87
      case hy87 => intro wz hSw; (try dsimp only at hSw); go_simp; try with_reducible rfl
      simp only [Act.put, List.setIfInBounds_toArray, List.set_cons_zero, List.set_cons_succ]
      refine takeF 12 49 ?v88 rfl (Or.inl ⟨by rfl, ?hy88⟩) ?rest88
      case hy88 => intro wz hSw; (try dsimp only at hSw); go_simp; try with_reducible rfl
      simp only [Act.put, List.setIfInBounds_toArray, List.set_cons_zero, List.set_cons_succ]
      refine takeF 13 50 ?v89 rfl (Or.inl ⟨by rfl, ?hy89⟩) ?rest89
      case hy89 => intro wz hSw; (try dsimp only at hSw); go_simp; try with_reducible rfl
      simp only [Act.put, List.setIfInBounds_toArray, List.set_cons_zero, List.set_cons_succ]
      refine takeF 14 51 (.int .i64 u) rfl (Or.inl ⟨by rfl, ?hy90⟩) ?rest90
      case hy90 => intro wz hSw; (try dsimp only at hSw); go_simp; try simp [hand]
      simp only [Act.put, List.setIfInBounds_toArray, List.set_cons_zero, List.set_cons_succ]
      refine takeF 15 52 ?v91 rfl (Or.inl ⟨by rfl, ?hy91⟩) ?rest91
      case hy91 => intro wz hSw; (try dsimp only at hSw); go_simp; try with_reducible rfl
      simp only [Act.put, List.setIfInBounds_toArray, List.set_cons_zero, List.set_cons_succ]
      refine takeF 16 53 ?v92 rfl (Or.inl ⟨by rfl, ?hy92⟩) ?rest92
      case hy92 => intro wz hSw; (try dsimp only at hSw); go_simp; try with_reducible rfl
      simp only [Act.put, List.setIfInBounds_toArray, List.set_cons_zero, List.set_cons_succ]
      refine takeF 17 54 (.pointer (some ⟨rb, 1 + u * 5, none⟩)) rfl (Or.inl ⟨by rfl, ?hy93⟩) ?rest93
      case hy93 => intro wz hSw; (try dsimp only at hSw); go_simp; try simp [hui, hu0, hu4]
      simp only [Act.put, List.setIfInBounds_toArray, List.set_cons_zero, List.set_cons_succ]
      refine takeF 18 55 ?v94 rfl (Or.inl ⟨by rfl, ?hy94⟩) ?rest94
      case hy94 => intro wz hSw; (try dsimp only at hSw); go_simp; try with_reducible rfl
      simp only [Act.put, List.setIfInBounds_toArray, List.set_cons_zero, List.set_cons_succ]
      refine takeF 19 56 ?v95 rfl (Or.inl ⟨by rfl, ?hy95⟩) ?rest95
      case hy95 => intro wz hSw; (try dsimp only at hSw); go_simp; try with_reducible rfl
      simp only [Act.put, List.setIfInBounds_toArray, List.set_cons_zero, List.set_cons_succ]
      refine takeF 20 57 ?v96 rfl (Or.inl ⟨by rfl, ?hy96⟩) ?rest96
      case hy96 => intro wz hSw; (try dsimp only at hSw); go_simp; try with_reducible rfl
      simp only [Act.put, List.setIfInBounds_toArray, List.set_cons_zero, List.set_cons_succ]
      refine takeF 21 58 ?v97 rfl (Or.inl ⟨by rfl, ?hy97⟩) ?rest97
      case hy97 => intro wz hSw; (try dsimp only at hSw); go_simp; try with_reducible rfl
      simp only [Act.put, List.setIfInBounds_toArray, List.set_cons_zero, List.set_cons_succ]
      refine takeF 22 59 ?v98 rfl (Or.inl ⟨by rfl, ?hy98⟩) ?rest98
      case hy98 => intro wz hSw; (try dsimp only at hSw); go_simp; try with_reducible rfl
      simp only [Act.put, List.setIfInBounds_toArray, List.set_cons_zero, List.set_cons_succ]
      refine takeF 23 9 ?v99 rfl (Or.inl ⟨by rfl, ?hy99⟩) ?rest99
      case hy99 => intro wz hSw; (try dsimp only at hSw); go_simp; try with_reducible rfl
      simp only [Act.put, List.setIfInBounds_toArray, List.set_cons_zero, List.set_cons_succ]
      refine wpAnyH_done (by as_aux_lemma => kernel_rfl) ?_ _
      go_wp2_with fail
      go_meet
      exact ⟨by rw [HOB.out], hb1⟩
    · skip
      have hob := hid (QQ (K := K) (t := c.t) hn)
      have HS : Hid (∀ w', Below w0.heap.size w0 w' → w'.cell? ⟨w.heap.size, 2, none⟩ = some (.int .i64 c.t) ∧ w'.cell? ⟨w.heap.size, 3, none⟩ = some (.int .i64 c.n)) := hid (fun w' hb => ⟨by rw [Qa (Qc HB0.out hb)]; rfl, by rw [Qa (Qc HB0.out hb)]; rfl⟩)
      refine wp_region_held_drew (S := (fun w' => w'.cell? ⟨w.heap.size, 2, none⟩ = some (.int .i64 c.t) ∧ w'.cell? ⟨w.heap.size, 3, none⟩ = some (.int .i64 c.n))) (by as_aux_lemma => kernel_rfl) (HS.out _ (Below.refl _ _).drew) (fun _ => ?_)
      refine takeF 0 37 ?v100 rfl (Or.inl ⟨by rfl, ?hy100⟩) ?rest100
      case hy100 => intro wz hSw; (try dsimp only at hSw); go_simp; try with_reducible rfl
      simp only [Act.put, List.setIfInBounds_toArray, List.set_cons_zero, List.set_cons_succ]
      refine takeF 1 38 ?v101 rfl (Or.inl ⟨by rfl, ?hy101⟩) ?rest101
      case hy101 => intro wz hSw; (try dsimp only at hSw); go_simp; try with_reducible rfl
      simp only [Act.put, List.setIfInBounds_toArray, List.set_cons_zero, List.set_cons_succ]
      refine wpAnyH_ready (rs := [2]) (by as_aux_lemma => kernel_rfl) (by simp) ?_
      refine (AllReadyH.cons rfl (fun K' hK => ?_) AllReadyH.nil)
      go_simp
      go_wp2_with (go_at_call 23; refine (hfc _).mono ?_; rintro e w1 ⟨rfl, hwl⟩; have hb1 : Below w0.heap.size w0 w1 := (by rw [hwl]; first | exact Below.refl _ _ | exact (Below.refl _ _).drew); clear hwl)
      refine hK.out _ _ (HS.out _ hb1) (fun _ => ?_)
      clear hK K'
      refine takeF 3 40 ?v102 rfl (Or.inl ⟨by rfl, ?hy102⟩) ?rest102
      case hy102 => intro wz hSw; (try dsimp only at hSw); go_simp; try with_reducible rfl
      simp only [Act.put, List.setIfInBounds_toArray, List.set_cons_zero, List.set_cons_succ]
      refine takeF 4 41 ?v103 rfl (Or.inl ⟨by rfl, ?hy103⟩) ?rest103
      case hy103 => intro wz hSw; (try dsimp only at hSw); go_simp; try with_reducible rfl
      simp only [Act.put, List.setIfInBounds_toArray, List.set_cons_zero, List.set_cons_succ]
      refine takeF 5 42 ?v104 rfl (Or.inl ⟨by rfl, ?hy104⟩) ?rest104
      case hy104 => intro wz hSw; (try dsimp only at hSw); go_simp; try with_reducible rfl
      simp only [Act.put, List.setIfInBounds_toArray, List.set_cons_zero, List.set_cons_succ]
      refine takeF 6 43 (.bool false) rfl (Or.inl ⟨by rfl, ?hy105⟩) ?rest105
      case hy105 => intro wz hSw; (try dsimp only at hSw); go_simp; try simp [hn]; try omega
      simp only [Act.put, List.setIfInBounds_toArray, List.set_cons_zero, List.set_cons_succ]
      refine takeF 7 44 ?v106 rfl (Or.inl ⟨by rfl, ?hy106⟩) ?rest106
      case hy106 => intro wz hSw; (try dsimp only at hSw); go_simp; try with_reducible rfl
      simp only [Act.put, List.setIfInBounds_toArray, List.set_cons_zero, List.set_cons_succ]
      refine takeF 8 45 ?v107 rfl (Or.inl ⟨by rfl, ?hy107⟩) ?rest107
      case hy107 => intro wz hSw; (try dsimp only at hSw); go_simp; try with_reducible rfl
      simp only [Act.put, List.setIfInBounds_toArray, List.set_cons_zero, List.set_cons_succ]
      refine skipF 9 46 rfl ?_
      simp only [Act.put, List.setIfInBounds_toArray, List.set_cons_zero, List.set_cons_succ]
      refine skipF 10 47 rfl ?_
      simp only [Act.put, List.setIfInBounds_toArray, List.set_cons_zero, List.set_cons_succ]
      refine skipF 11 48 rfl ?_
      simp only [Act.put, List.setIfInBounds_toArray, List.set_cons_zero, List.set_cons_succ]
      refine skipF 12 49 rfl ?_
      simp only [Act.put, List.setIfInBounds_toArray, List.set_cons_zero, List.set_cons_succ]
      refine skipF 13 50 rfl ?_
      simp only [Act.put, List.setIfInBounds_toArray, List.set_cons_zero, List.set_cons_succ]
      refine skipF 14 51 rfl ?_
      simp only [Act.put, List.setIfInBounds_toArray, List.set_cons_zero, List.set_cons_succ]
      refine skipF 15 52 rfl ?_
      simp only [Act.put, List.setIfInBounds_toArray, List.set_cons_zero, List.set_cons_succ]
      refine skipF 16 53 rfl ?_
      simp only [Act.put, List.setIfInBounds_toArray, List.set_cons_zero, List.set_cons_succ]
      refine skipF 17 54 rfl ?_
      simp only [Act.put, List.setIfInBounds_toArray, List.set_cons_zero, List.set_cons_succ]
      refine skipF 18 55 rfl ?_
      simp only [Act.put, List.setIfInBounds_toArray, List.set_cons_zero, List.set_cons_succ]
      refine skipF 19 56 rfl ?_
      simp only [Act.put, List.setIfInBounds_toArray, List.set_cons_zero, List.set_cons_succ]
      refine skipF 20 57 rfl ?_
      simp only [Act.put, List.setIfInBounds_toArray, List.set_cons_zero, List.set_cons_succ]
      refine skipF 21 58 rfl ?_
      simp only [Act.put, List.setIfInBounds_toArray, List.set_cons_zero, List.set_cons_succ]
      refine takeF 22 59 ?v108 rfl (Or.inl ⟨by rfl, ?hy108⟩) ?rest108
      case hy108 => intro wz hSw; (try dsimp only at hSw); go_simp; try with_reducible rfl
      simp only [Act.put, List.setIfInBounds_toArray, List.set_cons_zero, List.set_cons_succ]
      refine takeF 23 9 ?v109 rfl (Or.inl ⟨by rfl, ?hy109⟩) ?rest109
      case hy109 => intro wz hSw; (try dsimp only at hSw); go_simp; try with_reducible rfl
      simp only [Act.put, List.setIfInBounds_toArray, List.set_cons_zero, List.set_cons_succ]
      refine wpAnyH_done (by as_aux_lemma => kernel_rfl) ?_ _
      go_wp2_with fail
      go_meet
      exact ⟨by rw [hob.out]; rfl, hb1⟩
 case rest =>
  obtain ⟨rfl, hbc⟩ := hcut
  have HBC := hid (Qc HB0.out hbc)
  have HRC := hid (Qc HR0.out hbc)
  have RKC := hid (RK0.out.below hbc)
  have RSC := hid (RS0.out.trans (RStep.below hbc))
  have hbw := Qd hb0 hbc
  have a0 : wc.cell? ⟨w.heap.size, 0, none⟩ = some (.int .i64 1) := by rw [Qa HBC.out]; rfl
  have a7 : wc.cell? ⟨w.heap.size, 7, none⟩ = some (.string ⟨c.text.toArray⟩) := by rw [Qa HBC.out]; rfl
  obtain ⟨C, hC, _, hc0, hc21, hcc⟩ := RKC.out.box
  obtain ⟨d0, d1, d2, d3, d4⟩ := hcc t h1 h2
  have x2 : wc.cell? ⟨rb, 1 + t * 5 + 2, none⟩ = some (.string ⟨K.ths[t].text.toArray⟩) := by rw [Qa hC, d2]
  have xf2 := Qf hC (1 + t * 5 + 2)
  have HRB := hid hC
  clear hfour b7
  obtain ⟨hh0, hh4⟩ := hg.host
  obtain ⟨hm0, hm1⟩ := hg.made
  have hsO := (hg.ths _ (List.getElem_mem h2)).sorted
  have hlO := (hg.ths _ (List.getElem_mem h2)).own
  have k0 : wc.cell? ⟨rb, 0, none⟩ = some (.int .i64 K.host) := by rw [Qa hC, hc0]
  have k21 : wc.cell? ⟨rb, 21, none⟩ = some (.int .i64 K.made) := by rw [Qa hC, hc21]
  have x1 : wc.cell? ⟨rb, 1 + t * 5 + 1, none⟩ = some V[t].vo := by rw [Qa hC, d1]
  obtain ⟨_, hro, _, _⟩ := RKC.out.thr t h1 h2
  obtain ⟨p1, c1, e1, _⟩ := id hro.1
  rw [e1] at x1 hro
  have hown := fun wx (hb : Below wc.heap.size wc wx) => QdJ (F ++ [w.heap.size + 1]) (.slice p1 K.ths[t].own.length c1) K.ths[t].own (20 * K.host + K.made) wx (hro.keep (Qk _ hb) (More.refl _ _)) hsO hlO (fun k hk => by have := RKC.out.fin k hk; have := hb.size; omega)
  have e20 := hid (show K.host * 20 + K.made = 20 * K.host + K.made by omega)
  have X1 := hid x1
  have K0 := hid k0
  clear hC hc0 hc21 hcc d0 d1 d2 d3 d4 x2 xf2 hro e1 hsO hlO hg
  by_cases hmd : K.made = 20
  · have HT : Hid (callT K t K.ths[t] c = (K, code 5)) := hid (by unfold callT categoryL; rw [if_neg (by omega), hk, if_pos rfl, if_pos (by omega)])
    generalize ((ownL K.ths[t].own (20 * K.host + K.made)).1 == 0) = ok at hown
    rw [hmd] at k21 hown
    clear hmd
    as_aux_lemma =>
     have HS10 : Hid (∀ w', Below wc.heap.size wc w' → w'.cell? ⟨rb, 1 + t * 5 + 1, none⟩ = some (.slice p1 K.ths[t].own.length c1) ∧ w'.cell? ⟨rb, 0, none⟩ = some (.int .i64 K.host) ∧ w'.cell? ⟨rb, 21, none⟩ = some (.int .i64 20)) := hid (fun w' hb => ⟨by rw [hb.cell (Qb X1.out), X1.out], by rw [hb.cell (Qb K0.out), K0.out], by rw [hb.cell (Qb k21), k21]⟩)
     go_wp2
     refine wp_region_held_drew (S := (fun w' => w'.cell? ⟨rb, 1 + t * 5 + 1, none⟩ = some (.slice p1 K.ths[t].own.length c1) ∧ w'.cell? ⟨rb, 0, none⟩ = some (.int .i64 K.host) ∧ w'.cell? ⟨rb, 21, none⟩ = some (.int .i64 20))) (by as_aux_lemma => kernel_rfl) (HS10.out _ (Below.refl _ _).drew) (fun _ => ?_)
     refine takeF 0 65 ?v32 rfl (Or.inl ⟨by rfl, ?hy32⟩) ?rest32
     case hy32 => intro wz hSw; (try dsimp only at hSw); go_simp; try with_reducible rfl
     simp only [Act.put, List.setIfInBounds_toArray, List.set_cons_zero, List.set_cons_succ]
     refine takeF 1 66 ?v33 rfl (Or.inl ⟨by rfl, ?hy33⟩) ?rest33
     case hy33 => intro wz hSw; (try dsimp only at hSw); go_simp; try with_reducible rfl
     simp only [Act.put, List.setIfInBounds_toArray, List.set_cons_zero, List.set_cons_succ]
     refine takeF 2 67 ?v34 rfl (Or.inl ⟨by rfl, ?hy34⟩) ?rest34
     case hy34 => intro wz hSw; (try dsimp only at hSw); go_simp; try with_reducible rfl
     simp only [Act.put, List.setIfInBounds_toArray, List.set_cons_zero, List.set_cons_succ]
     refine takeF 3 68 ?v35 rfl (Or.inl ⟨by rfl, ?hy35⟩) ?rest35
     case hy35 => intro wz hSw; (try dsimp only at hSw); go_simp; try with_reducible rfl
     simp only [Act.put, List.setIfInBounds_toArray, List.set_cons_zero, List.set_cons_succ]
     refine takeF 4 69 ?v36 rfl (Or.inl ⟨by rfl, ?hy36⟩) ?rest36
     case hy36 => intro wz hSw; (try dsimp only at hSw); go_simp; try with_reducible rfl
     simp only [Act.put, List.setIfInBounds_toArray, List.set_cons_zero, List.set_cons_succ]
     refine takeF 5 70 ?v37 rfl (Or.inl ⟨by rfl, ?hy37⟩) ?rest37
     case hy37 => intro wz hSw; (try dsimp only at hSw); go_simp; try with_reducible rfl
     simp only [Act.put, List.setIfInBounds_toArray, List.set_cons_zero, List.set_cons_succ]
     refine takeF 6 71 ?v38 rfl (Or.inl ⟨by rfl, ?hy38⟩) ?rest38
     case hy38 => intro wz hSw; (try dsimp only at hSw); go_simp; try with_reducible rfl
     simp only [Act.put, List.setIfInBounds_toArray, List.set_cons_zero, List.set_cons_succ]
     refine takeF 7 72 ?v39 rfl (Or.inl ⟨by rfl, ?hy39⟩) ?rest39
     case hy39 => intro wz hSw; (try dsimp only at hSw); go_simp; try with_reducible rfl
     simp only [Act.put, List.setIfInBounds_toArray, List.set_cons_zero, List.set_cons_succ]
     refine takeF 8 73 (.int .i64 (20 * K.host)) rfl (Or.inl ⟨by rfl, ?hy40⟩) ?rest40
     case hy40 => intro wz hSw; (try dsimp only at hSw); go_simp; first | done | with_reducible rfl | exact Go.wrap_small _ (by omega) (by omega) | (rw [Go.wrap_small _ (by omega) (by omega)]; omega)
     simp only [Act.put, List.setIfInBounds_toArray, List.set_cons_zero, List.set_cons_succ]
     refine takeF 9 74 ?v41 rfl (Or.inl ⟨by rfl, ?hy41⟩) ?rest41
     case hy41 => intro wz hSw; (try dsimp only at hSw); go_simp; try with_reducible rfl
     simp only [Act.put, List.setIfInBounds_toArray, List.set_cons_zero, List.set_cons_succ]
     refine takeF 10 75 ?v42 rfl (Or.inl ⟨by rfl, ?hy42⟩) ?rest42
     case hy42 => intro wz hSw; (try dsimp only at hSw); go_simp; try with_reducible rfl
     simp only [Act.put, List.setIfInBounds_toArray, List.set_cons_zero, List.set_cons_succ]
     refine takeF 11 76 ?v43 rfl (Or.inl ⟨by rfl, ?hy43⟩) ?rest43
     case hy43 => intro wz hSw; (try dsimp only at hSw); go_simp; try with_reducible rfl
     simp only [Act.put, List.setIfInBounds_toArray, List.set_cons_zero, List.set_cons_succ]
     refine takeF 12 77 ?v44 rfl (Or.inl ⟨by rfl, ?hy44⟩) ?rest44
     case hy44 => intro wz hSw; (try dsimp only at hSw); go_simp; try with_reducible rfl
     simp only [Act.put, List.setIfInBounds_toArray, List.set_cons_zero, List.set_cons_succ]
     refine takeF 13 78 (.int .i64 (20 * K.host + 20)) rfl (Or.inl ⟨by rfl, ?hy45⟩) ?rest45
     case hy45 => intro wz hSw; (try dsimp only at hSw); go_simp; first | done | with_reducible rfl | exact Go.wrap_small _ (by omega) (by omega) | (rw [Go.wrap_small _ (by omega) (by omega)]; omega)
     simp only [Act.put, List.setIfInBounds_toArray, List.set_cons_zero, List.set_cons_succ]
     refine wpAnyH_ready (rs := [14]) (by as_aux_lemma => kernel_rfl) (by simp) ?_
     refine (AllReadyH.cons rfl (fun K' hK => ?_) AllReadyH.nil)
     go_simp
     go_wp2_with (go_at_call 40; refine (hown _ (by first | exact Below.refl _ _ | exact (Below.refl _ _).drew)).mono ?_; rintro e w2 ⟨p5, c5, rfl, hro5, hwd⟩)
     have hw2 : Below wc.heap.size wc w2 := (by first | exact hwd | exact kundrew hwd)
     clear hwd
     refine hK.out _ _ (HS10.out _ hw2) (fun _ => ?_)
     clear hK K'
     refine takeF 15 64 ?v46 rfl (Or.inl ⟨by rfl, ?hy46⟩) ?rest46
     case hy46 => intro wz hSw; (try dsimp only at hSw); go_simp; try with_reducible rfl
     simp only [Act.put, List.setIfInBounds_toArray, List.set_cons_zero, List.set_cons_succ]
     refine takeF 16 80 ?v47 rfl (Or.inl ⟨by rfl, ?hy47⟩) ?rest47
     case hy47 => intro wz hSw; (try dsimp only at hSw); go_simp; try with_reducible rfl
     simp only [Act.put, List.setIfInBounds_toArray, List.set_cons_zero, List.set_cons_succ]
     refine takeF 17 81 ?v48 rfl (Or.inl ⟨by rfl, ?hy48⟩) ?rest48
     case hy48 => intro wz hSw; (try dsimp only at hSw); go_simp; try with_reducible rfl
     simp only [Act.put, List.setIfInBounds_toArray, List.set_cons_zero, List.set_cons_succ]
     refine takeF 18 10 ?v49 rfl (Or.inl ⟨by rfl, ?hy49⟩) ?rest49
     case hy49 => intro wz hSw; (try dsimp only at hSw); go_simp; try with_reducible rfl
     simp only [Act.put, List.setIfInBounds_toArray, List.set_cons_zero, List.set_cons_succ]
     refine takeF 19 11 ?v50 rfl (Or.inl ⟨by rfl, ?hy50⟩) ?rest50
     case hy50 => intro wz hSw; (try dsimp only at hSw); go_simp; try with_reducible rfl
     simp only [Act.put, List.setIfInBounds_toArray, List.set_cons_zero, List.set_cons_succ]
     refine wpAnyH_done (by as_aux_lemma => kernel_rfl) ?_ _
     have Hw2 := hid hw2
     have HRO5 := hid hro5
     obtain ⟨y1, y0, y21⟩ := HS10.out _ hw2
     clear hw2 hro5 hown HS10
     go_wp2_with (go_at_call 39; refine (Qw _ _).mono ?_; rintro e w9 ⟨rfl, hwd⟩; have hw9 : Below w2.heap.size w2 w9 := (by first | exact hwd | exact kundrew hwd); have HR9 := hid (Qc (Qc HRC.out Hw2.out) hw9); have HW9 := hid hw9; clear hw9 hwd; have g0 := Qa HR9.out 0; have g1 := Qa HR9.out 1; have g2 := Qa HR9.out 2; have gf0 := Qf HR9.out 0; have gf1 := Qf HR9.out 1; have gf2 := Qf HR9.out 2)
     have hend := Qt (w := w) (B := w.heap.size + 1) 5 0 [] HR9.out (by omega) (by simp) ((RKC.out.below Hw2.out).below HW9.out) ((RSC.out.trans (RStep.below Hw2.out)).trans (RStep.below HW9.out))
     rw [HT.out]
     exact bodyPost_ret (results_cell_row rfl _ _ (w.heap.size + 1) 52 _ (0, 0) _ rfl hend.1 Try.underlying52 rfl (by kernel_rfl)) rfl ⟨rfl, _, _, hend.2.1, hend.2.2⟩
  by_cases hO : (ownL K.ths[t].own (20 * K.host + K.made)).1 = 0
  · have HT : Hid (callT K t K.ths[t] c = ({ K with made := K.made + 1, ths := K.ths.set t { K.ths[t] with own := (ownL K.ths[t].own (20 * K.host + K.made)).2 } }, ⟨0, 20 * K.host + K.made, []⟩)) := hid (by unfold callT categoryL; rw [if_neg (by omega), hk, if_pos rfl, if_neg (by omega), e20.out, if_pos hO, QC])
    have hob : ((ownL K.ths[t].own (20 * K.host + K.made)).1 == 0) = true := by simp [hO]
    rw [hob] at hown
    have hm20 : (K.made == 20) = false := by simp [hmd]
    have hlt : K.made < 20 := by omega
    clear hO hob hmd
    as_aux_lemma =>
     have HS10 : Hid (∀ w', Below wc.heap.size wc w' → w'.cell? ⟨rb, 1 + t * 5 + 1, none⟩ = some (.slice p1 K.ths[t].own.length c1) ∧ w'.cell? ⟨rb, 0, none⟩ = some (.int .i64 K.host) ∧ w'.cell? ⟨rb, 21, none⟩ = some (.int .i64 K.made)) := hid (fun w' hb => ⟨by rw [hb.cell (Qb X1.out), X1.out], by rw [hb.cell (Qb K0.out), K0.out], by rw [hb.cell (Qb k21), k21]⟩)
     go_wp2
     refine wp_region_held_drew (S := (fun w' => w'.cell? ⟨rb, 1 + t * 5 + 1, none⟩ = some (.slice p1 K.ths[t].own.length c1) ∧ w'.cell? ⟨rb, 0, none⟩ = some (.int .i64 K.host) ∧ w'.cell? ⟨rb, 21, none⟩ = some (.int .i64 K.made))) (by as_aux_lemma => kernel_rfl) (HS10.out _ (Below.refl _ _).drew) (fun _ => ?_)
     refine takeF 0 65 ?v13 rfl (Or.inl ⟨by rfl, ?hy13⟩) ?rest13
     case hy13 => intro wz hSw; (try dsimp only at hSw); go_simp; try with_reducible rfl
     simp only [Act.put, List.setIfInBounds_toArray, List.set_cons_zero, List.set_cons_succ]
     refine takeF 1 66 ?v14 rfl (Or.inl ⟨by rfl, ?hy14⟩) ?rest14
     case hy14 => intro wz hSw; (try dsimp only at hSw); go_simp; try with_reducible rfl
     simp only [Act.put, List.setIfInBounds_toArray, List.set_cons_zero, List.set_cons_succ]
     refine takeF 2 67 ?v15 rfl (Or.inl ⟨by rfl, ?hy15⟩) ?rest15
     case hy15 => intro wz hSw; (try dsimp only at hSw); go_simp; try with_reducible rfl
     simp only [Act.put, List.setIfInBounds_toArray, List.set_cons_zero, List.set_cons_succ]
     refine takeF 3 68 ?v16 rfl (Or.inl ⟨by rfl, ?hy16⟩) ?rest16
     case hy16 => intro wz hSw; (try dsimp only at hSw); go_simp; try with_reducible rfl
     simp only [Act.put, List.setIfInBounds_toArray, List.set_cons_zero, List.set_cons_succ]
     refine takeF 4 69 ?v17 rfl (Or.inl ⟨by rfl, ?hy17⟩) ?rest17
     case hy17 => intro wz hSw; (try dsimp only at hSw); go_simp; try with_reducible rfl
     simp only [Act.put, List.setIfInBounds_toArray, List.set_cons_zero, List.set_cons_succ]
     refine takeF 5 70 ?v18 rfl (Or.inl ⟨by rfl, ?hy18⟩) ?rest18
     case hy18 => intro wz hSw; (try dsimp only at hSw); go_simp; try with_reducible rfl
     simp only [Act.put, List.setIfInBounds_toArray, List.set_cons_zero, List.set_cons_succ]
     refine takeF 6 71 ?v19 rfl (Or.inl ⟨by rfl, ?hy19⟩) ?rest19
     case hy19 => intro wz hSw; (try dsimp only at hSw); go_simp; try with_reducible rfl
     simp only [Act.put, List.setIfInBounds_toArray, List.set_cons_zero, List.set_cons_succ]
     refine takeF 7 72 ?v20 rfl (Or.inl ⟨by rfl, ?hy20⟩) ?rest20
     case hy20 => intro wz hSw; (try dsimp only at hSw); go_simp; try with_reducible rfl
     simp only [Act.put, List.setIfInBounds_toArray, List.set_cons_zero, List.set_cons_succ]
     refine takeF 8 73 (.int .i64 (20 * K.host)) rfl (Or.inl ⟨by rfl, ?hy21⟩) ?rest21
     case hy21 => intro wz hSw; (try dsimp only at hSw); go_simp; first | done | with_reducible rfl | exact Go.wrap_small _ (by omega) (by omega) | (rw [Go.wrap_small _ (by omega) (by omega)]; omega)
     simp only [Act.put, List.setIfInBounds_toArray, List.set_cons_zero, List.set_cons_succ]
     refine takeF 9 74 ?v22 rfl (Or.inl ⟨by rfl, ?hy22⟩) ?rest22
     case hy22 => intro wz hSw; (try dsimp only at hSw); go_simp; try with_reducible rfl
     simp only [Act.put, List.setIfInBounds_toArray, List.set_cons_zero, List.set_cons_succ]
     refine takeF 10 75 ?v23 rfl (Or.inl ⟨by rfl, ?hy23⟩) ?rest23
     case hy23 => intro wz hSw; (try dsimp only at hSw); go_simp; try with_reducible rfl
     simp only [Act.put, List.setIfInBounds_toArray, List.set_cons_zero, List.set_cons_succ]
     refine takeF 11 76 ?v24 rfl (Or.inl ⟨by rfl, ?hy24⟩) ?rest24
     case hy24 => intro wz hSw; (try dsimp only at hSw); go_simp; try with_reducible rfl
     simp only [Act.put, List.setIfInBounds_toArray, List.set_cons_zero, List.set_cons_succ]
     refine takeF 12 77 ?v25 rfl (Or.inl ⟨by rfl, ?hy25⟩) ?rest25
     case hy25 => intro wz hSw; (try dsimp only at hSw); go_simp; try with_reducible rfl
     simp only [Act.put, List.setIfInBounds_toArray, List.set_cons_zero, List.set_cons_succ]
     refine takeF 13 78 (.int .i64 (20 * K.host + K.made)) rfl (Or.inl ⟨by rfl, ?hy26⟩) ?rest26
     case hy26 => intro wz hSw; (try dsimp only at hSw); go_simp; first | done | with_reducible rfl | exact Go.wrap_small _ (by omega) (by omega) | (rw [Go.wrap_small _ (by omega) (by omega)]; omega)
     simp only [Act.put, List.setIfInBounds_toArray, List.set_cons_zero, List.set_cons_succ]
     refine wpAnyH_ready (rs := [14]) (by as_aux_lemma => kernel_rfl) (by simp) ?_
     refine (AllReadyH.cons rfl (fun K' hK => ?_) AllReadyH.nil)
     go_simp
     go_wp2_with (go_at_call 40; refine (hown _ (by first | exact Below.refl _ _ | exact (Below.refl _ _).drew)).mono ?_; rintro e w2 ⟨p5, c5, rfl, hro5, hwd⟩)
     have hw2 : Below wc.heap.size wc w2 := (by first | exact hwd | exact kundrew hwd)
     clear hwd
     refine hK.out _ _ (HS10.out _ hw2) (fun _ => ?_)
     clear hK K'
     refine takeF 15 64 ?v27 rfl (Or.inl ⟨by rfl, ?hy27⟩) ?rest27
     case hy27 => intro wz hSw; (try dsimp only at hSw); go_simp; try with_reducible rfl
     simp only [Act.put, List.setIfInBounds_toArray, List.set_cons_zero, List.set_cons_succ]
     refine takeF 16 80 ?v28 rfl (Or.inl ⟨by rfl, ?hy28⟩) ?rest28
     case hy28 => intro wz hSw; (try dsimp only at hSw); go_simp; try with_reducible rfl
     simp only [Act.put, List.setIfInBounds_toArray, List.set_cons_zero, List.set_cons_succ]
     refine takeF 17 81 ?v29 rfl (Or.inl ⟨by rfl, ?hy29⟩) ?rest29
     case hy29 => intro wz hSw; (try dsimp only at hSw); go_simp; try with_reducible rfl
     simp only [Act.put, List.setIfInBounds_toArray, List.set_cons_zero, List.set_cons_succ]
     refine takeF 18 10 ?v30 rfl (Or.inl ⟨by rfl, ?hy30⟩) ?rest30
     case hy30 => intro wz hSw; (try dsimp only at hSw); go_simp; try with_reducible rfl
     simp only [Act.put, List.setIfInBounds_toArray, List.set_cons_zero, List.set_cons_succ]
     refine takeF 19 11 ?v31 rfl (Or.inl ⟨by rfl, ?hy31⟩) ?rest31
     case hy31 => intro wz hSw; (try dsimp only at hSw); go_simp; try with_reducible rfl
     simp only [Act.put, List.setIfInBounds_toArray, List.set_cons_zero, List.set_cons_succ]
     refine wpAnyH_done (by as_aux_lemma => kernel_rfl) ?_ _
     have Hw2 := hid hw2
     have HRO5 := hid hro5
     obtain ⟨y1, y0, y21⟩ := HS10.out _ hw2
     clear hw2 hro5 hown HS10
     have RK2 := hid (RKC.out.below Hw2.out)
     have HS1 := hid (RK2.out.own h1 h2 HRO5.out)
     have yf1 := Qf (Qc HRB.out Hw2.out) (1 + t * 5 + 1)
     have NE := hid (Qcq HRB.out HRC.out (by decide))
     have HBA := hid (QU (Qc HRC.out Hw2.out) NE.out (1 + t * 5 + 1) (.slice p5 (ownL K.ths[t].own (20 * K.host + K.made)).2.length c5))
     clear y0
     go_upto_region 14 with fail
     generalize (w2.setCell ⟨rb, 1 + t * 5 + 1, none⟩ (.slice p5 (ownL K.ths[t].own (20 * K.host + K.made)).2.length c5)) = wa at *
     obtain ⟨C1, hC1, _, b0, b21, _⟩ := HS1.out.1.box
     have q21 : wa.cell? ⟨rb, 21, none⟩ = some (.int .i64 K.made) := by rw [Qa hC1]; exact b21
     have qf21 := Qf hC1 21
     have HS2 := hid (HS1.out.1.made (K.made + 1))
     have HBB := hid (QU HBA.out NE.out 21 (.int .i64 (K.made + 1)))
     clear hC1 b0 b21 yf1 y1 y21
     go_upto_region 15 with fail
     generalize wa.setCell ⟨rb, 21, none⟩ (.int .i64 (K.made + 1)) = wb at *
     obtain ⟨C2, hC2, _, b02, b212, _⟩ := HS2.out.1.box
     have s0 : wb.cell? ⟨rb, 0, none⟩ = some (.int .i64 K.host) := by rw [Qa hC2]; exact b02
     have s21 : wb.cell? ⟨rb, 21, none⟩ = some (.int .i64 (K.made + 1)) := by rw [Qa hC2]; exact b212
     have HSS : Hid (∀ w', Below wb.heap.size wb w' → w'.cell? ⟨rb, 0, none⟩ = some (.int .i64 K.host) ∧ w'.cell? ⟨rb, 21, none⟩ = some (.int .i64 (K.made + 1))) := hid (fun w' hb => ⟨(hb.cell (Qb s0)).trans s0, (hb.cell (Qb s21)).trans s21⟩)
     have r0 := Qa HBB.out 0
     have r1 := Qa HBB.out 1
     have r2 := Qa HBB.out 2
     have rf0 := Qf HBB.out 0
     have rf1 := Qf HBB.out 1
     have rf2 := Qf HBB.out 2
     have HBD := hid (Below.refl wb.heap.size wb).drew
     have HEND := hid (Qt (w := w) (w1 := wb.drew) (B := w.heap.size + 1) 0 (20 * K.host + K.made) [] (Qc HBB.out HBD.out) (by omega) (by simp) (HS2.out.1.below HBD.out) ((((RSC.out.trans (RStep.below Hw2.out)).trans HS1.out.2).trans HS2.out.2).trans (RStep.below HBD.out)))
     clear hC2 b02 b212 s0 s21 q21 qf21
     refine wp_region_held_drew (S := (fun w' => w'.cell? ⟨rb, 0, none⟩ = some (.int .i64 K.host) ∧ w'.cell? ⟨rb, 21, none⟩ = some (.int .i64 (K.made + 1)))) (by as_aux_lemma => kernel_rfl) (HSS.out _ (Below.refl _ _).drew) (fun _ => ?_)
     refine takeF 0 104 ?v1 rfl (Or.inl ⟨by rfl, ?hy1⟩) ?rest1
     case hy1 => intro wz hSw; (try dsimp only at hSw); go_simp; try with_reducible rfl
     simp only [Act.put, List.setIfInBounds_toArray, List.set_cons_zero, List.set_cons_succ]
     refine takeF 1 105 ?v2 rfl (Or.inl ⟨by rfl, ?hy2⟩) ?rest2
     case hy2 => intro wz hSw; (try dsimp only at hSw); go_simp; try with_reducible rfl
     simp only [Act.put, List.setIfInBounds_toArray, List.set_cons_zero, List.set_cons_succ]
     refine takeF 2 106 ?v3 rfl (Or.inl ⟨by rfl, ?hy3⟩) ?rest3
     case hy3 => intro wz hSw; (try dsimp only at hSw); go_simp; try with_reducible rfl
     simp only [Act.put, List.setIfInBounds_toArray, List.set_cons_zero, List.set_cons_succ]
     refine takeF 3 107 ?v4 rfl (Or.inl ⟨by rfl, ?hy4⟩) ?rest4
     case hy4 => intro wz hSw; (try dsimp only at hSw); go_simp; try with_reducible rfl
     simp only [Act.put, List.setIfInBounds_toArray, List.set_cons_zero, List.set_cons_succ]
     refine takeF 4 108 (.int .i64 (20 * K.host)) rfl (Or.inl ⟨by rfl, ?hy5⟩) ?rest5
     case hy5 => intro wz hSw; (try dsimp only at hSw); go_simp; first | done | with_reducible rfl | exact Go.wrap_small _ (by omega) (by omega) | (rw [Go.wrap_small _ (by omega) (by omega)]; omega)
     simp only [Act.put, List.setIfInBounds_toArray, List.set_cons_zero, List.set_cons_succ]
     refine takeF 5 109 ?v6 rfl (Or.inl ⟨by rfl, ?hy6⟩) ?rest6
     case hy6 => intro wz hSw; (try dsimp only at hSw); go_simp; try with_reducible rfl
     simp only [Act.put, List.setIfInBounds_toArray, List.set_cons_zero, List.set_cons_succ]
     refine takeF 6 110 ?v7 rfl (Or.inl ⟨by rfl, ?hy7⟩) ?rest7
     case hy7 => intro wz hSw; (try dsimp only at hSw); go_simp; try with_reducible rfl
     simp only [Act.put, List.setIfInBounds_toArray, List.set_cons_zero, List.set_cons_succ]
     refine takeF 7 111 ?v8 rfl (Or.inl ⟨by rfl, ?hy8⟩) ?rest8
     case hy8 => intro wz hSw; (try dsimp only at hSw); go_simp; try with_reducible rfl
     simp only [Act.put, List.setIfInBounds_toArray, List.set_cons_zero, List.set_cons_succ]
     refine takeF 8 112 ?v9 rfl (Or.inl ⟨by rfl, ?hy9⟩) ?rest9
     case hy9 => intro wz hSw; (try dsimp only at hSw); go_simp; try with_reducible rfl
     simp only [Act.put, List.setIfInBounds_toArray, List.set_cons_zero, List.set_cons_succ]
     refine takeF 9 113 (.int .i64 (20 * K.host + (K.made + 1))) rfl (Or.inl ⟨by rfl, ?hy10⟩) ?rest10
     case hy10 => intro wz hSw; (try dsimp only at hSw); go_simp; first | done | with_reducible rfl | exact Go.wrap_small _ (by omega) (by omega) | (rw [Go.wrap_small _ (by omega) (by omega)]; omega)
     simp only [Act.put, List.setIfInBounds_toArray, List.set_cons_zero, List.set_cons_succ]
     refine takeF 10 114 (.int .i64 (20 * K.host + K.made)) rfl (Or.inl ⟨by rfl, ?hy11⟩) ?rest11
     case hy11 => intro wz hSw; (try dsimp only at hSw); go_simp; first | done | with_reducible rfl | exact Go.wrap_small _ (by omega) (by omega) | (rw [Go.wrap_small _ (by omega) (by omega)]; omega)
     simp only [Act.put, List.setIfInBounds_toArray, List.set_cons_zero, List.set_cons_succ]
     refine takeF 11 115 ?v12 rfl (Or.inl ⟨by rfl, ?hy12⟩) ?rest12
     case hy12 => intro wz hSw; (try dsimp only at hSw); go_simp; try with_reducible rfl
     simp only [Act.put, List.setIfInBounds_toArray, List.set_cons_zero, List.set_cons_succ]
     refine wpAnyH_ready (rs := [12]) (by as_aux_lemma => kernel_rfl) (by simp) ?_
     refine (AllReadyH.cons rfl (fun K' hK => ?_) AllReadyH.nil)
     go_simp
     refine hK.out _ _ (by obtain ⟨C3, hC3, _, b03, b213, _⟩ := HEND.out.2.1.box; exact ⟨(Qa hC3 0).trans b03, (Qa hC3 21).trans b213⟩) (fun _ => ?_)
     clear hK K'
     refine wpAnyH_done (by as_aux_lemma => kernel_rfl) ?_ _
     go_wp2
     rw [HT.out]
     exact bodyPost_ret (results_cell_row rfl _ _ (w.heap.size + 1) 52 _ (0, 0) _ rfl HEND.out.1 Try.underlying52 rfl (by kernel_rfl)) rfl ⟨rfl, _, _, HEND.out.2.1, HEND.out.2.2⟩
  · have HT : Hid (callT K t K.ths[t] c = (K, code 5)) := hid (by unfold callT categoryL; rw [if_neg (by omega), hk, if_pos rfl, if_neg (by omega), e20.out, if_neg hO, QfS _ _ hO])
    have hob : ((ownL K.ths[t].own (20 * K.host + K.made)).1 == 0) = false := by simp [hO]
    rw [hob] at hown
    have hm20 : (K.made == 20) = false := by simp [hmd]
    clear hO hob hmd
    as_aux_lemma =>
     have HS10 : Hid (∀ w', Below wc.heap.size wc w' → w'.cell? ⟨rb, 1 + t * 5 + 1, none⟩ = some (.slice p1 K.ths[t].own.length c1) ∧ w'.cell? ⟨rb, 0, none⟩ = some (.int .i64 K.host) ∧ w'.cell? ⟨rb, 21, none⟩ = some (.int .i64 K.made)) := hid (fun w' hb => ⟨by rw [hb.cell (Qb X1.out), X1.out], by rw [hb.cell (Qb K0.out), K0.out], by rw [hb.cell (Qb k21), k21]⟩)
     go_wp2
     refine wp_region_held_drew (S := (fun w' => w'.cell? ⟨rb, 1 + t * 5 + 1, none⟩ = some (.slice p1 K.ths[t].own.length c1) ∧ w'.cell? ⟨rb, 0, none⟩ = some (.int .i64 K.host) ∧ w'.cell? ⟨rb, 21, none⟩ = some (.int .i64 K.made))) (by as_aux_lemma => kernel_rfl) (HS10.out _ (Below.refl _ _).drew) (fun _ => ?_)
     refine takeF 0 65 ?v51 rfl (Or.inl ⟨by rfl, ?hy51⟩) ?rest51
     case hy51 => intro wz hSw; (try dsimp only at hSw); go_simp; try with_reducible rfl
     simp only [Act.put, List.setIfInBounds_toArray, List.set_cons_zero, List.set_cons_succ]
     refine takeF 1 66 ?v52 rfl (Or.inl ⟨by rfl, ?hy52⟩) ?rest52
     case hy52 => intro wz hSw; (try dsimp only at hSw); go_simp; try with_reducible rfl
     simp only [Act.put, List.setIfInBounds_toArray, List.set_cons_zero, List.set_cons_succ]
     refine takeF 2 67 ?v53 rfl (Or.inl ⟨by rfl, ?hy53⟩) ?rest53
     case hy53 => intro wz hSw; (try dsimp only at hSw); go_simp; try with_reducible rfl
     simp only [Act.put, List.setIfInBounds_toArray, List.set_cons_zero, List.set_cons_succ]
     refine takeF 3 68 ?v54 rfl (Or.inl ⟨by rfl, ?hy54⟩) ?rest54
     case hy54 => intro wz hSw; (try dsimp only at hSw); go_simp; try with_reducible rfl
     simp only [Act.put, List.setIfInBounds_toArray, List.set_cons_zero, List.set_cons_succ]
     refine takeF 4 69 ?v55 rfl (Or.inl ⟨by rfl, ?hy55⟩) ?rest55
     case hy55 => intro wz hSw; (try dsimp only at hSw); go_simp; try with_reducible rfl
     simp only [Act.put, List.setIfInBounds_toArray, List.set_cons_zero, List.set_cons_succ]
     refine takeF 5 70 ?v56 rfl (Or.inl ⟨by rfl, ?hy56⟩) ?rest56
     case hy56 => intro wz hSw; (try dsimp only at hSw); go_simp; try with_reducible rfl
     simp only [Act.put, List.setIfInBounds_toArray, List.set_cons_zero, List.set_cons_succ]
     refine takeF 6 71 ?v57 rfl (Or.inl ⟨by rfl, ?hy57⟩) ?rest57
     case hy57 => intro wz hSw; (try dsimp only at hSw); go_simp; try with_reducible rfl
     simp only [Act.put, List.setIfInBounds_toArray, List.set_cons_zero, List.set_cons_succ]
     refine takeF 7 72 ?v58 rfl (Or.inl ⟨by rfl, ?hy58⟩) ?rest58
     case hy58 => intro wz hSw; (try dsimp only at hSw); go_simp; try with_reducible rfl
     simp only [Act.put, List.setIfInBounds_toArray, List.set_cons_zero, List.set_cons_succ]
     refine takeF 8 73 (.int .i64 (20 * K.host)) rfl (Or.inl ⟨by rfl, ?hy59⟩) ?rest59
     case hy59 => intro wz hSw; (try dsimp only at hSw); go_simp; first | done | with_reducible rfl | exact Go.wrap_small _ (by omega) (by omega) | (rw [Go.wrap_small _ (by omega) (by omega)]; omega)
     simp only [Act.put, List.setIfInBounds_toArray, List.set_cons_zero, List.set_cons_succ]
     refine takeF 9 74 ?v60 rfl (Or.inl ⟨by rfl, ?hy60⟩) ?rest60
     case hy60 => intro wz hSw; (try dsimp only at hSw); go_simp; try with_reducible rfl
     simp only [Act.put, List.setIfInBounds_toArray, List.set_cons_zero, List.set_cons_succ]
     refine takeF 10 75 ?v61 rfl (Or.inl ⟨by rfl, ?hy61⟩) ?rest61
     case hy61 => intro wz hSw; (try dsimp only at hSw); go_simp; try with_reducible rfl
     simp only [Act.put, List.setIfInBounds_toArray, List.set_cons_zero, List.set_cons_succ]
     refine takeF 11 76 ?v62 rfl (Or.inl ⟨by rfl, ?hy62⟩) ?rest62
     case hy62 => intro wz hSw; (try dsimp only at hSw); go_simp; try with_reducible rfl
     simp only [Act.put, List.setIfInBounds_toArray, List.set_cons_zero, List.set_cons_succ]
     refine takeF 12 77 ?v63 rfl (Or.inl ⟨by rfl, ?hy63⟩) ?rest63
     case hy63 => intro wz hSw; (try dsimp only at hSw); go_simp; try with_reducible rfl
     simp only [Act.put, List.setIfInBounds_toArray, List.set_cons_zero, List.set_cons_succ]
     refine takeF 13 78 (.int .i64 (20 * K.host + K.made)) rfl (Or.inl ⟨by rfl, ?hy64⟩) ?rest64
     case hy64 => intro wz hSw; (try dsimp only at hSw); go_simp; first | done | with_reducible rfl | exact Go.wrap_small _ (by omega) (by omega) | (rw [Go.wrap_small _ (by omega) (by omega)]; omega)
     simp only [Act.put, List.setIfInBounds_toArray, List.set_cons_zero, List.set_cons_succ]
     refine wpAnyH_ready (rs := [14]) (by as_aux_lemma => kernel_rfl) (by simp) ?_
     refine (AllReadyH.cons rfl (fun K' hK => ?_) AllReadyH.nil)
     go_simp
     go_wp2_with (go_at_call 40; refine (hown _ (by first | exact Below.refl _ _ | exact (Below.refl _ _).drew)).mono ?_; rintro e w2 ⟨p5, c5, rfl, hro5, hwd⟩)
     have hw2 : Below wc.heap.size wc w2 := (by first | exact hwd | exact kundrew hwd)
     clear hwd
     refine hK.out _ _ (HS10.out _ hw2) (fun _ => ?_)
     clear hK K'
     refine takeF 15 64 ?v65 rfl (Or.inl ⟨by rfl, ?hy65⟩) ?rest65
     case hy65 => intro wz hSw; (try dsimp only at hSw); go_simp; try with_reducible rfl
     simp only [Act.put, List.setIfInBounds_toArray, List.set_cons_zero, List.set_cons_succ]
     refine takeF 16 80 ?v66 rfl (Or.inl ⟨by rfl, ?hy66⟩) ?rest66
     case hy66 => intro wz hSw; (try dsimp only at hSw); go_simp; try with_reducible rfl
     simp only [Act.put, List.setIfInBounds_toArray, List.set_cons_zero, List.set_cons_succ]
     refine takeF 17 81 ?v67 rfl (Or.inl ⟨by rfl, ?hy67⟩) ?rest67
     case hy67 => intro wz hSw; (try dsimp only at hSw); go_simp; try with_reducible rfl
     simp only [Act.put, List.setIfInBounds_toArray, List.set_cons_zero, List.set_cons_succ]
     refine takeF 18 10 ?v68 rfl (Or.inl ⟨by rfl, ?hy68⟩) ?rest68
     case hy68 => intro wz hSw; (try dsimp only at hSw); go_simp; try with_reducible rfl
     simp only [Act.put, List.setIfInBounds_toArray, List.set_cons_zero, List.set_cons_succ]
     refine takeF 19 11 ?v69 rfl (Or.inl ⟨by rfl, ?hy69⟩) ?rest69
     case hy69 => intro wz hSw; (try dsimp only at hSw); go_simp; try with_reducible rfl
     simp only [Act.put, List.setIfInBounds_toArray, List.set_cons_zero, List.set_cons_succ]
     refine wpAnyH_done (by as_aux_lemma => kernel_rfl) ?_ _
     have Hw2 := hid hw2
     have HRO5 := hid hro5
     obtain ⟨y1, y0, y21⟩ := HS10.out _ hw2
     clear hw2 hro5 hown HS10
     go_wp2_with (go_at_call 39; refine (Qw _ _).mono ?_; rintro e w9 ⟨rfl, hwd⟩; have hw9 : Below w2.heap.size w2 w9 := (by first | exact hwd | exact kundrew hwd); have HR9 := hid (Qc (Qc HRC.out Hw2.out) hw9); have HW9 := hid hw9; clear hw9 hwd; have g0 := Qa HR9.out 0; have g1 := Qa HR9.out 1; have g2 := Qa HR9.out 2; have gf0 := Qf HR9.out 0; have gf1 := Qf HR9.out 1; have gf2 := Qf HR9.out 2)
     have hend := Qt (w := w) (B := w.heap.size + 1) 5 0 [] HR9.out (by omega) (by simp) ((RKC.out.below Hw2.out).below HW9.out) ((RSC.out.trans (RStep.below Hw2.out)).trans (RStep.below HW9.out))
     rw [HT.out]
     exact bodyPost_ret (results_cell_row rfl _ _ (w.heap.size + 1) 52 _ (0, 0) _ rfl hend.1 Try.underlying52 rfl (by kernel_rfl)) rfl ⟨rfl, _, _, hend.2.1, hend.2.2⟩
end Go.Proofs.Ytpdijobakfpnbaa
