/- kernel.makeObject. -/
import Derived.Test.YtgpldlbmjakjhaaGreatQKMail
namespace Go.Proofs.YtgpldlbmjakjhaaGreat
open Go.RowKit Go.Proofs.Parclose

theorem TAt.lt {w : World} {kb o : Nat} {F : List Nat} {v : ThrV} {th : Thr} (h : TAt w kb o F v th) : kb < w.heap.size := h.fin kb h.kbF

theorem objs_snoc {w w1 : World} {G : List Nat} {B : Nat} {v v7 u : Value} {vs : List Value} {os : List Obt} {l : List (Int × Int)} (h1 : vs.length = os.length) (hold : w.ownsRow 0 76 2 v os.length (flatO vs os)) (h3 : ∀ j (g1 : j < vs.length) (g2 : j < os.length), RoLab w G vs[j] os[j].label)
    (hv : ∀ k, v.ownBlock = some k → k ∈ G) (hl : w.ownsRow B 74 2 u l.length (flat2 l)) (hlen : l.length ≤ 8796093022208) (hB : ∀ k ∈ G, k < B) (hown : w1.ownsRow 0 76 2 v7 (os.length + 1) (flatO vs os ++ [u, .string ⟨#[]⟩])) (hg : w.grownBy w1 v.ownBlock)
    (hwh : ∀ k, v7.ownBlock = some k → v.ownBlock = some k ∨ w.heap.size ≤ k) : ObjsAt w1 (G ++ v7.ownBlock.toList) v7 (os ++ [⟨l, []⟩]) := by
  have hk : KeptF v.ownBlock.toList w w1 := kept_grown hg fun k e => .inl (by rw [e]; simp)
  have hm := more_row w G hv hwh
  have hl1 := own_own hl hold (by decide) hg
  refine ⟨vs ++ [u], by simp [h1], ?_, fun j g1 g2 => ?_⟩
  · rw [flatO_snoc vs os h1, List.length_append]
    exact hown
  · by_cases hj : j < vs.length
    · rw [List.getElem_append_left hj, List.getElem_append_left (by omega)]
      exact (h3 j hj (by omega)).keep (hk.sub fun k e => .inl (hv k (list_row e))) hm
    · have ej : j = vs.length := by simp at g1; omega
      subst ej
      rw [List.getElem_append_right (Nat.le_refl _), List.getElem_append_right (by omega)]
      simp only [h1, Nat.sub_self, List.getElem_cons_zero]
      refine ⟨labs_of_own hl1 hlen, fun _ k e hF => ?_⟩
      have hb := own_base hl1 e
      rcases List.mem_append.1 hF with g | g
      · have := hB k g; omega
      · exact own_ne hl1 hown (by decide) e (list_row g)

set_option maxRecDepth 100000 in
set_option maxHeartbeats 3200000 in
theorem makeObject_any (kb o : Nat) (F : List Nat) (v : ThrV) (th : Thr) (vl : Value) (l : List (Int × Int)) (w : World) (h : TAt w kb o F v th) (hl : th.own.length ≤ 1000) (hob : th.objs.length ≤ 1000) (hv : LabAt w vl l) :
    Calls Tryz.prog 89 #[.pointer (some ⟨kb, o, none⟩), vl] w fun e w' => e = .returned (repV (objectL th l).2) ∧ ∃ G v', TAt w' kb o G v' (objectL th l).1 ∧ TStep kb o w F v w' G v' := by
  have HL : Hid (objectL th l = if goodB l then (if flowsL th.label l th.own then (if 4 ≤ th.objs.length then (th, code 5) else ({ th with objs := th.objs ++ [⟨l, []⟩] }, ⟨0, (th.objs.length : Int), []⟩)) else (th, code 6)) else (th, code 2)) := hid rfl
  have hkb := h.lt
  have HKB := hid hkb
  have hr := h.reserve (.cells #[.int .i64 0, .int .i64 0, .string ⟨#[]⟩] 35)
  have HR := hid hr
  have hbx := zero_box w
  have HBX := hid hbx
  have hmem : w.heap.size ∈ F ++ [w.heap.size] := by simp
  have HMEM := hid hmem
  have hgood := fun wx (hb : Below w.heap.size w wx) => good_any vl l wx (hv.below hb)
  have HV := hid hv
  obtain ⟨p, cp, rfl, _⟩ := id hv
  obtain ⟨t0, t1, _, t3, _⟩ := h.cells
  obtain ⟨ptl, ctl, hvl, _⟩ := id h.thr.1.1
  obtain ⟨po, co, hvo⟩ := ownV h.thr.2.1
  obtain ⟨vs, hvs, hown, hros⟩ := h.thr.2.2.1
  obtain ⟨pj, cj, hvj⟩ := own_slice hown
  have HOB := hid hown
  have HVS := hid hvs
  have HVJ := hid hvj
  have hfl := fun wx (hb : Below w.heap.size w wx) => flows_any _ _ _ th.label l th.own wx (h.thr.1.1.below hb) (hv.below hb) ((own_ints h.thr.2.1 hl).below hb)
  rw [hvl] at t0
  rw [hvo] at t1
  rw [hvl, hvo] at hfl
  rw [hvj] at t3
  have HT := hid h
  have HROS := hid hros
  clear hv hbx hmem hr h hkb hvl hvo hvj hown hvs hros
  cases hg : goodB l with
  | false =>
    have HL2 : Hid (objectL th l = (th, code 2)) := hid (by rw [HL.out, hg]; rfl)
    rw [hg] at hgood
    clear HL
    go_enter Tryz.func89, Tryz.ntmps89
    go_wp2_with (first
      | (go_at_call 14; refine (hgood _ (below_box _ _)).mono ?_; rintro e w1 ⟨rfl, hw1⟩; have HB1 := hid hw1; clear hw1)
      | (go_at_call 87; refine (answer_lit _ _).mono ?_; rintro e w2 ⟨rfl, hw2⟩; have HB2 := hid (below_then HB1.out hw2); have hb2 := heap_keep HBX.out HB2.out; obtain ⟨c0, c1, c2, f0, f1, f2⟩ := cells3 hb2; have HX2 := hid hb2; clear hb2 hw2))
    obtain ⟨e1, e2, e3⟩ := reply_end 2 0 [] HX2.out HMEM.out (HR.out.1.below HB2.out) (HR.out.2.trans (TStep.below HB2.out)) HKB.out
    refine bodyPost_ret (results_cell_row rfl _ _ w.heap.size 35 _ (0, 0) _ rfl e1 Tryz.underlying35 rfl (by kernel_rfl)) rfl ⟨?_, ?_⟩
    · rw [HL2.out]; rfl
    · rw [HL2.out]; exact ⟨_, _, e2, e3⟩
  | true =>
    rw [hg] at hgood
    cases hf : flowsL th.label l th.own with
    | false =>
      have HL2 : Hid (objectL th l = (th, code 6)) := hid (by rw [HL.out, hg, hf]; rfl)
      rw [hf] at hfl
      clear HL t3
      go_enter Tryz.func89, Tryz.ntmps89
      go_wp2_with (go_at_call 14; refine (hgood _ (below_box _ _)).mono ?_; rintro e w1 ⟨rfl, hw1⟩; have HB1 := hid hw1; have hb1 := below_then (below_box _ _) hw1; have s0 := hb1.cell (cell_block t0); rw [t0] at s0; have s1 := hb1.cell (cell_block t1); rw [t1] at s1; clear hw1)
      go_region_held3 (fun w' => w'.cell? ⟨kb, o, none⟩ = some (.slice ptl th.label.length ctl) ∧ w'.cell? ⟨kb, o + 1, none⟩ = some (.slice po th.own.length co)) (go_keep)
        (first | (go_at_call 23; refine (hfl _ hb1.drew).mono ?_; rintro e w5 ⟨rfl, hw5d⟩; have hw5 := kundrew hw5d; have HB5 := hid (below_then HB1.out hw5); have r0 := hw5.cell (cell_block s0); rw [s0] at r0; have r1 := hw5.cell (cell_block s1); rw [s1] at r1; clear hw5d hw5))
      all_goals
        go_wp2_with (go_at_call 87; refine (answer_lit _ _).mono ?_; rintro e w2 ⟨rfl, hw2⟩; have HB2 := hid (below_then HB5.out hw2); have hb2 := heap_keep HBX.out HB2.out; obtain ⟨c0, c1, c2, f0, f1, f2⟩ := cells3 hb2; have HX2 := hid hb2; clear hb2 hw2)
        obtain ⟨e1, e2, e3⟩ := reply_end 6 0 [] HX2.out HMEM.out (HR.out.1.below HB2.out) (HR.out.2.trans (TStep.below HB2.out)) HKB.out
        refine bodyPost_ret (results_cell_row rfl _ _ w.heap.size 35 _ (0, 0) _ rfl e1 Tryz.underlying35 rfl (by kernel_rfl)) rfl ⟨?_, ?_⟩
        · rw [HL2.out]; rfl
        · rw [HL2.out]; exact ⟨_, _, e2, e3⟩
    | true =>
      rw [hf] at hfl
      by_cases h4 : 4 ≤ th.objs.length
      · have HL2 : Hid (objectL th l = (th, code 5)) := hid (by rw [HL.out, hg, hf, if_pos h4]; rfl)
        clear HL
        go_enter Tryz.func89, Tryz.ntmps89
        go_wp2_with (go_at_call 14; refine (hgood _ (below_box _ _)).mono ?_; rintro e w1 ⟨rfl, hw1⟩; have HB1 := hid hw1; have hb1 := below_then (below_box _ _) hw1; have s0 := hb1.cell (cell_block t0); rw [t0] at s0; have s1 := hb1.cell (cell_block t1); rw [t1] at s1; clear hw1)
        go_region_held3 (fun w' => w'.cell? ⟨kb, o, none⟩ = some (.slice ptl th.label.length ctl) ∧ w'.cell? ⟨kb, o + 1, none⟩ = some (.slice po th.own.length co)) (go_keep)
          (first | (go_at_call 23; refine (hfl _ hb1.drew).mono ?_; rintro e w5 ⟨rfl, hw5d⟩; have hw5 := kundrew hw5d; have HB5 := hid (below_then HB1.out hw5); have r0 := hw5.cell (cell_block s0); rw [s0] at r0; have r1 := hw5.cell (cell_block s1); rw [s1] at r1; clear hw5d hw5))
        all_goals
          have q3 := (below_then (below_box w _) HB5.out).cell (cell_block t3)
          rw [t3] at q3
          go_wp2_with (go_at_call 87; refine (answer_lit _ _).mono ?_; rintro e w2 ⟨rfl, hw2⟩; have HB2 := hid (below_then HB5.out hw2); have hb2 := heap_keep HBX.out HB2.out; obtain ⟨c0, c1, c2, f0, f1, f2⟩ := cells3 hb2; have HX2 := hid hb2; clear hb2 hw2)
          obtain ⟨e1, e2, e3⟩ := reply_end 5 0 [] HX2.out HMEM.out (HR.out.1.below HB2.out) (HR.out.2.trans (TStep.below HB2.out)) HKB.out
          refine bodyPost_ret (results_cell_row rfl _ _ w.heap.size 35 _ (0, 0) _ rfl e1 Tryz.underlying35 rfl (by kernel_rfl)) rfl ⟨?_, ?_⟩
          · rw [HL2.out]; rfl
          · rw [HL2.out]; exact ⟨_, _, e2, e3⟩
      · have HL2 : Hid (objectL th l = ({ th with objs := th.objs ++ [⟨l, []⟩] }, ⟨0, (th.objs.length : Int), []⟩)) := hid (by rw [HL.out, hg, hf, if_neg h4]; rfl)
        clear HL
        go_enter Tryz.func89, Tryz.ntmps89
        go_wp2_with (go_at_call 14; refine (hgood _ (below_box _ _)).mono ?_; rintro e w1 ⟨rfl, hw1⟩; have HB1 := hid hw1; have hb1 := below_then (below_box _ _) hw1; have s0 := hb1.cell (cell_block t0); rw [t0] at s0; have s1 := hb1.cell (cell_block t1); rw [t1] at s1; clear hw1)
        go_region_held3 (fun w' => w'.cell? ⟨kb, o, none⟩ = some (.slice ptl th.label.length ctl) ∧ w'.cell? ⟨kb, o + 1, none⟩ = some (.slice po th.own.length co)) (go_keep)
          (first | (go_at_call 23; refine (hfl _ hb1.drew).mono ?_; rintro e w5 ⟨rfl, hw5d⟩; have hw5 := kundrew hw5d; have HB5 := hid (below_then HB1.out hw5); have r0 := hw5.cell (cell_block s0); rw [s0] at r0; have r1 := hw5.cell (cell_block s1); rw [s1] at r1; clear hw5d hw5))
        all_goals
          have q3 := (below_then (below_box w _) HB5.out).cell (cell_block t3)
          rw [t3] at q3
          clear r0 r1 s0 s1 hb1
          have hT5 := HR.out.1.below HB5.out
          have hb5 := below_then (below_box w _) HB5.out
          have HT5 := hid hT5
          have hlt5 := hb5.size
          have hdec : (74 : Nat) ≠ 76 := by decide
          clear hT5
          go_wp2
          go_region_law ((first
            | (refine step_cloneL (by rfl) (.tmp 35) #[27] (by rfl) (.slice p l.length cp) l (by rfl) (HV.out.below hb5.drew) ?_; intro v6 w6 hown6 hw6d; obtain ⟨p6, c6, rfl⟩ := own_slice hown6; have hw6 := kundrew hw6d; have z3 := hw6.cell (cell_block q3); rw [q3] at z3; have hlt6 : kb < w6.heap.size := cell_block z3; have HOWN6 := hid hown6; have HW6 := hid hw6; clear hown6 hw6d hw6)
            | (refine step_object (by rfl) (.tmp 34) (.tmp 38) (by rfl) (.slice pj th.objs.length cj) th.objs.length (flatO vs th.objs) (by rfl) (by rw [← HVJ.out]; exact own_later (own_later HOB.out (below_then hb5 HW6.out)) (below_box w6 _)) w6.heap.size (.slice p6 l.length c6) (.string ⟨#[]⟩) (by rfl) (laid2 w6 _ _ _) (by intro u hu; simp at hu; rcases hu with rfl | rfl <;> rfl) (by omega) ?_; intro v7 w7 hown7 hg7 hwh7; obtain ⟨p7, c7, rfl⟩ := own_slice hown7; have HT6 := hid ((HT5.out.below HW6.out).below (below_box w6 (.cells #[.slice p6 l.length c6, .string ⟨#[]⟩] 76))); have haf := HT6.out.after hg7 (fun k hk => mem_rows.2 (.inr (.inl (by rw [HVJ.out]; exact hk)))) HT6.out.cells.2.2.2.1; obtain ⟨y3, yf⟩ := haf; have HOWN7 := hid hown7; have HG7 := hid hg7; have HWH7 := hid hwh7; clear hown7 hg7 hwh7)))
          all_goals
            have hobjs := objs_snoc (l := l) HVS.out (own_later (own_later (own_later HOB.out hb5) HW6.out) (below_box w6 (.cells #[.slice p6 l.length c6, .string ⟨#[]⟩] 76))) (fun j g1 g2 => (HROS.out j g1 g2).keep (kept_below _ (below_then (below_then hb5 HW6.out) (below_box w6 _))) (more_new w F)) (fun k e => HT6.out.rows k (mem_rows.2 (.inr (.inl e)))) (own_later HOWN6.out (below_box w6 _)) HV.out.len (fun k e => HT5.out.fin k e) HOWN7.out (by rw [HVJ.out]; exact HG7.out) (by rw [HVJ.out]; exact HWH7.out)
            have hst := HT6.out.objs (by rw [HVJ.out]; exact HG7.out) hobjs (by rw [HVJ.out]; exact HWH7.out)
            have hbx7 : w7.heap[w.heap.size]? = some (.cells #[.int .i64 0, .int .i64 0, .string ⟨#[]⟩] 35 (0, 0)) := by
              have a1 := heap_keep (heap_keep (heap_keep HBX.out HB5.out) HW6.out) (below_box w6 (.cells #[.slice p6 l.length c6, .string ⟨#[]⟩] 76))
              rw [HG7.out.block w.heap.size (heap_lt a1) (fun e => ?_), a1]
              exact own_box (own_later (own_later (own_later HOB.out hb5) HW6.out) (below_box w6 (.cells #[.slice p6 l.length c6, .string ⟨#[]⟩] 76))) a1 (by decide) (by rw [HVJ.out]; exact e.symm)
            have hkne : w.heap.size ≠ kb := by have := HKB.out; omega
            have hbx8 := heap_store hbx7 hkne (o + 3) (.slice p7 (th.objs.length + 1) c7)
            have hbs8 : TStep kb o w F v _ _ _ := ((HR.out.2.trans (TStep.below HB5.out)).trans ((TStep.below HW6.out).trans (TStep.below (below_box w6 _)))).trans hst.2
            obtain ⟨e1, e2, e3⟩ := reply_end 0 (th.objs.length : Int) [] hbx8 (List.mem_append_left _ HMEM.out) hst.1 hbs8 HKB.out
            obtain ⟨c0, c1, c2, f0, f1, f2⟩ := cells3 hbx8
            have E1 := hid e1
            have E2 := hid e2
            have E3 := hid e3
            clear e1 e2 e3 hobjs hst hbx7 hbx8 hbs8
            go_wp2
            refine bodyPost_ret (results_cell_row rfl _ _ w.heap.size 35 _ (0, 0) _ rfl E1.out Tryz.underlying35 rfl (by kernel_rfl)) rfl ⟨?_, ?_⟩
            · rw [HL2.out]; rfl
            · rw [HL2.out]; exact ⟨_, _, E2.out, E3.out⟩
end Go.Proofs.YtgpldlbmjakjhaaGreat
