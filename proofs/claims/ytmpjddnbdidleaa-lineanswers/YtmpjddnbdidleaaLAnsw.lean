/- The statement LineAnswers. -/
import Derived.Test.YtmpjddnbdidleaaLAns
import Derived.Test.YtmpjddnbdidleaaLRefAg
import Derived.Test.YtmpjddnbdidleaaLRefS3
import Derived.Test.YtmpjddnbdidleaaLLines
import Derived.Test.YtmpjddnbdidleaaTakeD
namespace Go.Proofs.Ytmpjddnbdidleaa
open Go.RowKit Go.Proofs.Parclose

theorem LneAt.of {w : World} {v : Value} {nx hi : Int} {st : List Snt} {b0 b1 b2 b3 b4 b5 b6 b7 : Bool} (h : LneAt w v ⟨nx, st, hi, [b0, b1, b2, b3, b4, b5, b6, b7]⟩) : ∃ p cap, v = .agg #[.int .i64 nx, .slice p st.length cap, .int .i64 hi, .bool b0, .bool b1, .bool b2, .bool b3, .bool b4, .bool b5, .bool b6, .bool b7] ∧ SntsAt w (.slice p st.length cap) st := by
  obtain ⟨vs, rfl, _, hs⟩ := h
  obtain ⟨p, cap, rfl⟩ := hs.slice
  exact ⟨p, cap, rfl, hs⟩
theorem LneAt.parts {w : World} {v : Value} {l : Lne} (h : LneAt w v l) : l.seen.length = 8 := by
  obtain ⟨vs, _, h8, _⟩ := h
  exact h8
theorem FrmsAt.slice {w : World} {v : Value} {l : List Frm} (h : FrmsAt w v l) : ∃ p cap, v = .slice p l.length cap := by
  obtain ⟨q, rfl, _, p, cap, rfl, _⟩ := h
  exact ⟨p, cap, by simp⟩
theorem FrmsAt.len {w : World} {v : Value} {l : List Frm} (h : FrmsAt w v l) : l.length ≤ 879609302220 := by
  obtain ⟨q, rfl, _, p, cap, _, h3, _⟩ := h
  simpa using h3
theorem FrmsAt.get {w : World} {p : Option Addr} {n cap : Nat} {l : List Frm} (h : FrmsAt w (.slice p n cap) l) (j : Nat) (hj : j < l.length) :
    ∃ b pl cl pg cg pc cc, p = some ⟨b, 0, none⟩ ∧ FrmAt w (.agg #[.int .i64 (l[j]).fr, .int .i64 (l[j]).to, .int .i64 (l[j]).seq, .bool (l[j]).ack, .int .i64 (l[j]).thread, .int .i64 (l[j]).mail.host, .int .i64 (l[j]).mail.thread, .slice pl (l[j]).mail.label.length cl, .slice pg (l[j]).mail.grants.length cg, .string ⟨(l[j]).mail.text.toArray⟩, .slice pc (l[j]).certs.length cc]) l[j] ∧
      w.cell? ⟨b, j * 11, none⟩ = some (.int .i64 (l[j]).fr) ∧ w.cell? ⟨b, j * 11 + 1, none⟩ = some (.int .i64 (l[j]).to) ∧ w.cell? ⟨b, j * 11 + 2, none⟩ = some (.int .i64 (l[j]).seq) ∧ w.cell? ⟨b, j * 11 + 3, none⟩ = some (.bool (l[j]).ack) ∧ w.cell? ⟨b, j * 11 + 4, none⟩ = some (.int .i64 (l[j]).thread) ∧ w.cell? ⟨b, j * 11 + 5, none⟩ = some (.int .i64 (l[j]).mail.host) ∧ w.cell? ⟨b, j * 11 + 6, none⟩ = some (.int .i64 (l[j]).mail.thread) ∧ w.cell? ⟨b, j * 11 + 7, none⟩ = some (.slice pl (l[j]).mail.label.length cl) ∧ w.cell? ⟨b, j * 11 + 8, none⟩ = some (.slice pg (l[j]).mail.grants.length cg) ∧ w.cell? ⟨b, j * 11 + 9, none⟩ = some (.string ⟨(l[j]).mail.text.toArray⟩) ∧ w.cell? ⟨b, j * 11 + 10, none⟩ = some (.slice pc (l[j]).certs.length cc) := by
  obtain ⟨q, rfl, hok, p', cap', e, _, h4⟩ := h
  cases e
  have hjq : j < q.length := by simpa using hj
  obtain ⟨b, rfl, hc⟩ := h4 (by omega)
  have ho := hok _ (List.getElem_mem hjq)
  have g : ∀ i, i < 11 → ∀ u, (q[j]).cells[i]? = some u → w.cell? ⟨b, j * 11 + i, none⟩ = some u := fun i hi u hu => hc _ _ (by rw [flatF_get q j hjq i hi, hu])
  have e : (q.map (·.f))[j] = (q[j]).f := by simp
  rw [e]
  generalize q[j] = x at *
  obtain ⟨f, vl, vg, vc⟩ := x
  obtain ⟨h1, h2, h3⟩ := ho
  simp only at h1 h2 h3 ⊢
  obtain ⟨pl, cl, rfl, _⟩ := id h1
  obtain ⟨pg, cg, rfl, _⟩ := id h2
  obtain ⟨pc, cc, rfl, _⟩ := id h3
  exact ⟨b, pl, cl, pg, cg, pc, cc, rfl, ⟨_, _, _, rfl, h1, h2, h3⟩, g 0 (by omega) _ rfl, g 1 (by omega) _ rfl, g 2 (by omega) _ rfl, g 3 (by omega) _ rfl, g 4 (by omega) _ rfl, g 5 (by omega) _ rfl, g 6 (by omega) _ rfl, g 7 (by omega) _ rfl, g 8 (by omega) _ rfl, g 9 (by omega) _ rfl, g 10 (by omega) _ rfl⟩

set_option linter.unusedSimpArgs false in
set_option maxRecDepth 100000 in
set_option maxHeartbeats 6400000 in
theorem lineAnswers_any (v : Value) (L : Lne) (q now : Int) (w : World) (hv : LneAt w v L) :
    Calls Try.prog 4 #[v, .int .i64 q, .int .i64 now] w fun e w' => e = .returned (.bool true) ∧ Below w.heap.size w w' := by
  have HV := hid hv
  obtain ⟨nx, st, hi, b0, b1, b2, b3, b4, b5, b6, b7, p, cap, rfl, rfl, hs⟩ := hv.spell
  clear hv hs
  go_enter Try.func4, Try.ntmps4
  go_wp2_with fail
  refine (rcopyLine_any _ _ _ (HV.out.below (below_box w _))).mono ?_
  rintro e w1 ⟨v1, rfl, hn1, hw1⟩
  have hb1 := below_then (below_box w _) hw1
  have HX1 := hid (heap_keep (heap_alloc_new w _) hw1)
  obtain ⟨p1, cap1, rfl, hs1⟩ := hn1.at.of
  have HL1 := hid hn1.at
  clear hw1 hn1 hs1
  go_wp2_with fail
  refine (lans_any _ _ q _ (HL1.out.below (below_box w1 _))).mono ?_
  rintro e w2 ⟨v2, rfl, hn2, hw2⟩
  have hb12 := below_then (below_box w1 _) hw2
  have HB12 := hid hb12
  have hb2 := below_then hb1 hb12
  have HX2 := hid (heap_keep HX1.out hb12)
  have HY2 := hid (heap_keep (heap_alloc_new w1 _) hw2)
  obtain ⟨A, cA, hAc⟩ : ∃ A cA, ansLn ⟨nx, st, hi, [b0, b1, b2, b3, b4, b5, b6, b7]⟩ q = (A, cA) := ⟨_, _, rfl⟩
  rw [hAc] at hn2
  rw [hAc]
  simp only at hn2 ⊢
  have hRA := fun wx hb => ransweredOn_any _ _ q wx (HV.out.below hb)
  rw [hAc] at hRA
  simp only at hRA
  have HRA := hid hRA
  obtain ⟨nx2, st2, hi2, b02, b12, b22, b32, b42, b52, b62, b72, p2, cap2, sq2, e2, rfl, _, _, _⟩ := hn2.spell
  subst e2
  have HL2 := hid hn2.at
  clear hn2 hw2 hb12 hRA hAc
  have x0 := heap_cell (heap_new HX2.out (.cells #[.int .i64 nx2, .slice p2 st2.length cap2, .int .i64 hi2, .bool b02, .bool b12, .bool b22, .bool b32, .bool b42, .bool b52, .bool b62, .bool b72] 25)) 0
  have x1 := heap_cell (heap_new HX2.out (.cells #[.int .i64 nx2, .slice p2 st2.length cap2, .int .i64 hi2, .bool b02, .bool b12, .bool b22, .bool b32, .bool b42, .bool b52, .bool b62, .bool b72] 25)) 1
  have x2 := heap_cell (heap_new HX2.out (.cells #[.int .i64 nx2, .slice p2 st2.length cap2, .int .i64 hi2, .bool b02, .bool b12, .bool b22, .bool b32, .bool b42, .bool b52, .bool b62, .bool b72] 25)) 2
  have x3 := heap_cell (heap_new HX2.out (.cells #[.int .i64 nx2, .slice p2 st2.length cap2, .int .i64 hi2, .bool b02, .bool b12, .bool b22, .bool b32, .bool b42, .bool b52, .bool b62, .bool b72] 25)) 3
  have x4 := heap_cell (heap_new HX2.out (.cells #[.int .i64 nx2, .slice p2 st2.length cap2, .int .i64 hi2, .bool b02, .bool b12, .bool b22, .bool b32, .bool b42, .bool b52, .bool b62, .bool b72] 25)) 4
  have x5 := heap_cell (heap_new HX2.out (.cells #[.int .i64 nx2, .slice p2 st2.length cap2, .int .i64 hi2, .bool b02, .bool b12, .bool b22, .bool b32, .bool b42, .bool b52, .bool b62, .bool b72] 25)) 5
  have x6 := heap_cell (heap_new HX2.out (.cells #[.int .i64 nx2, .slice p2 st2.length cap2, .int .i64 hi2, .bool b02, .bool b12, .bool b22, .bool b32, .bool b42, .bool b52, .bool b62, .bool b72] 25)) 6
  have x7 := heap_cell (heap_new HX2.out (.cells #[.int .i64 nx2, .slice p2 st2.length cap2, .int .i64 hi2, .bool b02, .bool b12, .bool b22, .bool b32, .bool b42, .bool b52, .bool b62, .bool b72] 25)) 7
  have x8 := heap_cell (heap_new HX2.out (.cells #[.int .i64 nx2, .slice p2 st2.length cap2, .int .i64 hi2, .bool b02, .bool b12, .bool b22, .bool b32, .bool b42, .bool b52, .bool b62, .bool b72] 25)) 8
  have x9 := heap_cell (heap_new HX2.out (.cells #[.int .i64 nx2, .slice p2 st2.length cap2, .int .i64 hi2, .bool b02, .bool b12, .bool b22, .bool b32, .bool b42, .bool b52, .bool b62, .bool b72] 25)) 9
  have x10 := heap_cell (heap_new HX2.out (.cells #[.int .i64 nx2, .slice p2 st2.length cap2, .int .i64 hi2, .bool b02, .bool b12, .bool b22, .bool b32, .bool b42, .bool b52, .bool b62, .bool b72] 25)) 10
  have hlt1 : w.heap.size < w1.heap.size := heap_lt HX1.out
  have hlt2 : w1.heap.size < w2.heap.size := heap_lt HY2.out
  clear HX1
  go_wp2_with fail
  refine (HRA.out _ (hb2.alloc hb2.size _)).mono ?_
  rintro e w3 ⟨v3, rfl, hn3, hw3⟩
  have hb23 := below_then (below_box w2 _) hw3
  have hb3 := below_then hb2 hb23
  have HB13 := hid (below_then HB12.out hb23)
  have HX3 := hid (heap_keep HX2.out hb23)
  have HY3 := hid (heap_keep HY2.out hb23)
  have HZ3 := hid (heap_keep (heap_alloc_new w2 _) hw3)
  obtain ⟨p3, cap3, rfl, _⟩ := hn3.of
  have HL3 := hid hn3
  have HL23 := hid (HL2.out.below hb23)
  clear x0 x1 x2 x3 x4 x5 x6 x7 x8 x9 x10 HRA hn3 hw3 hb23 HX2 HY2 HL2
  have hlt3 : w2.heap.size < w3.heap.size := heap_lt HZ3.out
  have z0 := heap_cell (heap_new HZ3.out (.cells #[.int .i64 nx2, .slice p3 st2.length cap3, .int .i64 hi2, .bool b02, .bool b12, .bool b22, .bool b32, .bool b42, .bool b52, .bool b62, .bool b72] 25)) 0
  have z1 := heap_cell (heap_new HZ3.out (.cells #[.int .i64 nx2, .slice p3 st2.length cap3, .int .i64 hi2, .bool b02, .bool b12, .bool b22, .bool b32, .bool b42, .bool b52, .bool b62, .bool b72] 25)) 1
  have z2 := heap_cell (heap_new HZ3.out (.cells #[.int .i64 nx2, .slice p3 st2.length cap3, .int .i64 hi2, .bool b02, .bool b12, .bool b22, .bool b32, .bool b42, .bool b52, .bool b62, .bool b72] 25)) 2
  have z3 := heap_cell (heap_new HZ3.out (.cells #[.int .i64 nx2, .slice p3 st2.length cap3, .int .i64 hi2, .bool b02, .bool b12, .bool b22, .bool b32, .bool b42, .bool b52, .bool b62, .bool b72] 25)) 3
  have z4 := heap_cell (heap_new HZ3.out (.cells #[.int .i64 nx2, .slice p3 st2.length cap3, .int .i64 hi2, .bool b02, .bool b12, .bool b22, .bool b32, .bool b42, .bool b52, .bool b62, .bool b72] 25)) 4
  have z5 := heap_cell (heap_new HZ3.out (.cells #[.int .i64 nx2, .slice p3 st2.length cap3, .int .i64 hi2, .bool b02, .bool b12, .bool b22, .bool b32, .bool b42, .bool b52, .bool b62, .bool b72] 25)) 5
  have z6 := heap_cell (heap_new HZ3.out (.cells #[.int .i64 nx2, .slice p3 st2.length cap3, .int .i64 hi2, .bool b02, .bool b12, .bool b22, .bool b32, .bool b42, .bool b52, .bool b62, .bool b72] 25)) 6
  have z7 := heap_cell (heap_new HZ3.out (.cells #[.int .i64 nx2, .slice p3 st2.length cap3, .int .i64 hi2, .bool b02, .bool b12, .bool b22, .bool b32, .bool b42, .bool b52, .bool b62, .bool b72] 25)) 7
  have z8 := heap_cell (heap_new HZ3.out (.cells #[.int .i64 nx2, .slice p3 st2.length cap3, .int .i64 hi2, .bool b02, .bool b12, .bool b22, .bool b32, .bool b42, .bool b52, .bool b62, .bool b72] 25)) 8
  have z9 := heap_cell (heap_new HZ3.out (.cells #[.int .i64 nx2, .slice p3 st2.length cap3, .int .i64 hi2, .bool b02, .bool b12, .bool b22, .bool b32, .bool b42, .bool b52, .bool b62, .bool b72] 25)) 9
  have z10 := heap_cell (heap_new HZ3.out (.cells #[.int .i64 nx2, .slice p3 st2.length cap3, .int .i64 hi2, .bool b02, .bool b12, .bool b22, .bool b32, .bool b42, .bool b52, .bool b62, .bool b72] 25)) 10
  go_wp2_with fail
  refine (rsameLine_eq _ _ ⟨nx2, st2, hi2, [b02, b12, b22, b32, b42, b52, b62, b72]⟩ _ (HL23.out.below (below_box w3 _)) (HL3.out.below (below_box w3 _))).mono ?_
  rintro e w4 ⟨rfl, hw4⟩
  have hb34 := below_then (below_box w3 _) hw4
  have hb14 := below_then HB13.out hb34
  have hb4 := below_then hb3 hb34
  have HX4 := hid (heap_keep HX3.out hb34)
  have HY4 := hid (heap_keep HY3.out hb34)
  have HZ4 := hid (heap_keep HZ3.out hb34)
  have HT4 := hid (heap_keep (heap_alloc_new w3 _) hw4)
  clear z0 z1 z2 z3 z4 z5 z6 z7 z8 z9 z10 HX3 HY3 HZ3 HL23 HL3 hw4
  have x0 := heap_cell HX4.out 0
  have x1 := heap_cell HX4.out 1
  have x2 := heap_cell HX4.out 2
  have x3 := heap_cell HX4.out 3
  have x4 := heap_cell HX4.out 4
  have x5 := heap_cell HX4.out 5
  have x6 := heap_cell HX4.out 6
  have x7 := heap_cell HX4.out 7
  have x8 := heap_cell HX4.out 8
  have x9 := heap_cell HX4.out 9
  have x10 := heap_cell HX4.out 10
  have y0 := heap_cell HY4.out 0
  have y1 := heap_cell HY4.out 1
  have y2 := heap_cell HY4.out 2
  have y3 := heap_cell HY4.out 3
  have y4 := heap_cell HY4.out 4
  have y5 := heap_cell HY4.out 5
  have y6 := heap_cell HY4.out 6
  have y7 := heap_cell HY4.out 7
  have y8 := heap_cell HY4.out 8
  have y9 := heap_cell HY4.out 9
  have y10 := heap_cell HY4.out 10
  go_wp2_with fail
  refine (rsameLine_eq _ _ ⟨nx, st, hi, [b0, b1, b2, b3, b4, b5, b6, b7]⟩ _ (HL1.out.below hb14) (HV.out.below hb4)).mono ?_
  rintro e w5 ⟨rfl, hw5⟩
  have hb5 := below_then hb4 hw5
  have hb15 := below_then hb14 hw5
  have HX5 := hid (heap_keep HX4.out hw5)
  have HY5 := hid (heap_keep HY4.out hw5)
  have HZ5 := hid (heap_keep HZ4.out hw5)
  have HT5 := hid (heap_keep HT4.out hw5)
  clear x0 x1 x2 x3 x4 x5 x6 x7 x8 x9 x10 y0 y1 y2 y3 y4 y5 y6 y7 y8 y9 y10 HX4 HY4 HZ4 HT4 hw5 hb4 hb14
  have y0 := heap_cell HY5.out 0
  have y1 := heap_cell HY5.out 1
  have y2 := heap_cell HY5.out 2
  have y3 := heap_cell HY5.out 3
  have y4 := heap_cell HY5.out 4
  have y5 := heap_cell HY5.out 5
  have y6 := heap_cell HY5.out 6
  have y7 := heap_cell HY5.out 7
  have y8 := heap_cell HY5.out 8
  have y9 := heap_cell HY5.out 9
  have y10 := heap_cell HY5.out 10
  have hlt5 : w3.heap.size < w5.heap.size := heap_lt HT5.out
  go_wp2_with fail
  refine (lagain_any _ _ now _ (HL1.out.below hb15)).mono ?_
  rintro e w6 ⟨v6, vf, rfl, hn6, hf6, hw6⟩
  obtain ⟨G, fs, cG, hGc⟩ : ∃ G fs cG, againLn ⟨nx, st, hi, [b0, b1, b2, b3, b4, b5, b6, b7]⟩ now = (G, fs, cG) := ⟨_, _, _, rfl⟩
  rw [hGc] at hn6 hf6
  rw [hGc]
  simp only at hn6 hf6 ⊢
  have hRG := fun wx hb => ragainOn_any _ _ now w wx HV.out hb
  rw [hGc] at hRG
  simp only at hRG
  have HRG := hid hRG
  obtain ⟨nx6, st6, hi6, b06, b16, b26, b36, b46, b56, b66, b76, p6, cap6, sq6, e6, rfl, hm6, hl6, ho6⟩ := hn6.spell
  subst e6
  have HO6 := hid ho6
  have hb6 := below_then hb5 hw6
  have hb16 := below_then hb15 hw6
  have HX6 := hid (heap_keep HX5.out hw6)
  have HY6 := hid (heap_keep HY5.out hw6)
  have HZ6 := hid (heap_keep HZ5.out hw6)
  have HT6 := hid (heap_keep HT5.out hw6)
  have HF6 := hid hf6
  obtain ⟨pf, cf, hvf⟩ := (hf6 w6 (Since.refl _ _)).slice
  subst hvf
  have hlt6 := hw6.size
  clear y0 y1 y2 y3 y4 y5 y6 y7 y8 y9 y10 HX5 HY5 HZ5 HT5 hn6 hf6 hRG hGc ho6 hw6 hb5 hb15
  have z0 := heap_cell HZ6.out 0
  have zf0 := heap_frozen HZ6.out 0
  have z1 := heap_cell HZ6.out 1
  have zf1 := heap_frozen HZ6.out 1
  have z2 := heap_cell HZ6.out 2
  have zf2 := heap_frozen HZ6.out 2
  have z3 := heap_cell HZ6.out 3
  have zf3 := heap_frozen HZ6.out 3
  have z4 := heap_cell HZ6.out 4
  have zf4 := heap_frozen HZ6.out 4
  have z5 := heap_cell HZ6.out 5
  have zf5 := heap_frozen HZ6.out 5
  have z6 := heap_cell HZ6.out 6
  have zf6 := heap_frozen HZ6.out 6
  have z7 := heap_cell HZ6.out 7
  have zf7 := heap_frozen HZ6.out 7
  have z8 := heap_cell HZ6.out 8
  have zf8 := heap_frozen HZ6.out 8
  have z9 := heap_cell HZ6.out 9
  have zf9 := heap_frozen HZ6.out 9
  have z10 := heap_cell HZ6.out 10
  have zf10 := heap_frozen HZ6.out 10
  go_upto_region 7 with fail
  have hS7 := st11_grown w6 w2.heap.size (.int .i64 nx6) (.slice p6 st6.length cap6) (.int .i64 hi6) (.bool b06) (.bool b16) (.bool b26) (.bool b36) (.bool b46) (.bool b56) (.bool b66) (.bool b76)
  have hZ7 : (st11 w6 w2.heap.size (.int .i64 nx6) (.slice p6 st6.length cap6) (.int .i64 hi6) (.bool b06) (.bool b16) (.bool b26) (.bool b36) (.bool b46) (.bool b56) (.bool b66) (.bool b76)).heap[w2.heap.size]? = some (.cells #[.int .i64 nx6, .slice p6 st6.length cap6, .int .i64 hi6, .bool b06, .bool b16, .bool b26, .bool b36, .bool b46, .bool b56, .bool b66, .bool b76] 25 (0, 0)) := st11_heap (.int .i64 nx6) (.slice p6 st6.length cap6) (.int .i64 hi6) (.bool b06) (.bool b16) (.bool b26) (.bool b36) (.bool b46) (.bool b56) (.bool b66) (.bool b76) HZ6.out
  have HX7 := hid (heap_tk HX6.out (show w.heap.size ≠ w2.heap.size by omega) hS7)
  have HY7 := hid (heap_tk HY6.out (show w1.heap.size ≠ w2.heap.size by omega) hS7)
  have HT7 := hid (heap_tk HT6.out (show w3.heap.size ≠ w2.heap.size by omega) hS7)
  have HZ7 := hid hZ7
  have hb7 := hb6.grown hS7 hb6.size (fun k hk => by have := Option.some.inj hk; omega)
  have hb17 := hb16.grown hS7 hb16.size (fun k hk => by have := Option.some.inj hk; omega)
  have HO7 := hid (HO6.out.box hS7 (by omega))
  have HF7 : Hid (∀ w'', Since w5.heap.size (st11 w6 w2.heap.size (.int .i64 nx6) (.slice p6 st6.length cap6) (.int .i64 hi6) (.bool b06) (.bool b16) (.bool b26) (.bool b36) (.bool b46) (.bool b56) (.bool b66) (.bool b76)) w'' → FrmsAt w'' (.slice pf fs.length cf) fs) := hid (fun w'' ho => HF6.out w'' ((since_grown hS7 (by omega)).trans ho hS7.size))
  have hlt7 : w5.heap.size ≤ (st11 w6 w2.heap.size (.int .i64 nx6) (.slice p6 st6.length cap6) (.int .i64 hi6) (.bool b06) (.bool b16) (.bool b26) (.bool b36) (.bool b46) (.bool b56) (.bool b66) (.bool b76)).heap.size := Nat.le_trans hlt6 hS7.size
  clear z0 zf0 z1 zf1 z2 zf2 z3 zf3 z4 zf4 z5 zf5 z6 zf6 z7 zf7 z8 zf8 z9 zf9 z10 zf10 HX6 HY6 HZ6 HT6 HO6 HF6 hS7 hZ7 hb6 hb16 hlt6
  unfold st11 at *
  generalize (((((((((((w6.setCell ⟨w2.heap.size, 0, none⟩ (.int .i64 nx6)).setCell ⟨w2.heap.size, 1, none⟩ (.slice p6 st6.length cap6)).setCell ⟨w2.heap.size, 2, none⟩ (.int .i64 hi6)).setCell ⟨w2.heap.size, 3, none⟩ (.bool b06)).setCell ⟨w2.heap.size, 4, none⟩ (.bool b16)).setCell ⟨w2.heap.size, 5, none⟩ (.bool b26)).setCell ⟨w2.heap.size, 6, none⟩ (.bool b36)).setCell ⟨w2.heap.size, 7, none⟩ (.bool b46)).setCell ⟨w2.heap.size, 8, none⟩ (.bool b56)).setCell ⟨w2.heap.size, 9, none⟩ (.bool b66)).setCell ⟨w2.heap.size, 10, none⟩ (.bool b76)) = w7 at *
  have x0 := heap_cell HX7.out 0
  have x1 := heap_cell HX7.out 1
  have x2 := heap_cell HX7.out 2
  have x3 := heap_cell HX7.out 3
  have x4 := heap_cell HX7.out 4
  have x5 := heap_cell HX7.out 5
  have x6 := heap_cell HX7.out 6
  have x7 := heap_cell HX7.out 7
  have x8 := heap_cell HX7.out 8
  have x9 := heap_cell HX7.out 9
  have x10 := heap_cell HX7.out 10
  go_wp2_with fail
  refine (HRG.out _ hb7).mono ?_
  rintro e w8 ⟨v8, vg, rfl, hn8, hw8⟩
  have hb78 := below_then hb7 hw8
  have HN8 := hid hn8
  obtain ⟨p8, cap8, rfl, _⟩ := (hn8 w8 (Since.refl _ _) hb78).1.of
  obtain ⟨pg, cg, hvg⟩ := (hn8 w8 (Since.refl _ _) hb78).2.slice
  subst hvg
  have hb18 := below_then hb17 hw8
  have HX8 := hid (heap_keep HX7.out hw8)
  have HY8 := hid (heap_keep HY7.out hw8)
  have HZ8 := hid (heap_keep HZ7.out hw8)
  have HT8 := hid (heap_keep HT7.out hw8)
  have HO8 := hid (HO7.out.below hw8)
  have HF8 : Hid (∀ w'', Since w5.heap.size w8 w'' → FrmsAt w'' (.slice pf fs.length cf) fs) := hid (fun w'' ho => HF7.out w'' ((since_below hw8).trans ho hw8.size))
  have hlt8 := Nat.le_trans hlt7 hw8.size
  clear x0 x1 x2 x3 x4 x5 x6 x7 x8 x9 x10 HRG hn8 HX7 HY7 HZ7 HT7 HO7 HF7
  have t0 := heap_cell HT8.out 0
  have tf0 := heap_frozen HT8.out 0
  have t1 := heap_cell HT8.out 1
  have tf1 := heap_frozen HT8.out 1
  have t2 := heap_cell HT8.out 2
  have tf2 := heap_frozen HT8.out 2
  have t3 := heap_cell HT8.out 3
  have tf3 := heap_frozen HT8.out 3
  have t4 := heap_cell HT8.out 4
  have tf4 := heap_frozen HT8.out 4
  have t5 := heap_cell HT8.out 5
  have tf5 := heap_frozen HT8.out 5
  have t6 := heap_cell HT8.out 6
  have tf6 := heap_frozen HT8.out 6
  have t7 := heap_cell HT8.out 7
  have tf7 := heap_frozen HT8.out 7
  have t8 := heap_cell HT8.out 8
  have tf8 := heap_frozen HT8.out 8
  have t9 := heap_cell HT8.out 9
  have tf9 := heap_frozen HT8.out 9
  have t10 := heap_cell HT8.out 10
  have tf10 := heap_frozen HT8.out 10
  go_upto_region 8 with fail
  have hS9 := st11_grown w8 w3.heap.size (.int .i64 nx6) (.slice p8 st6.length cap8) (.int .i64 hi6) (.bool b06) (.bool b16) (.bool b26) (.bool b36) (.bool b46) (.bool b56) (.bool b66) (.bool b76)
  have hT9 : (st11 w8 w3.heap.size (.int .i64 nx6) (.slice p8 st6.length cap8) (.int .i64 hi6) (.bool b06) (.bool b16) (.bool b26) (.bool b36) (.bool b46) (.bool b56) (.bool b66) (.bool b76)).heap[w3.heap.size]? = some (.cells #[.int .i64 nx6, .slice p8 st6.length cap8, .int .i64 hi6, .bool b06, .bool b16, .bool b26, .bool b36, .bool b46, .bool b56, .bool b66, .bool b76] 25 (0, 0)) := st11_heap (.int .i64 nx6) (.slice p8 st6.length cap8) (.int .i64 hi6) (.bool b06) (.bool b16) (.bool b26) (.bool b36) (.bool b46) (.bool b56) (.bool b66) (.bool b76) HT8.out
  have HX9 := hid (heap_tk HX8.out (show w.heap.size ≠ w3.heap.size by omega) hS9)
  have HY9 := hid (heap_tk HY8.out (show w1.heap.size ≠ w3.heap.size by omega) hS9)
  have HZ9 := hid (heap_tk HZ8.out (show w2.heap.size ≠ w3.heap.size by omega) hS9)
  have HT9 := hid hT9
  have hb9 := hb78.grown hS9 hb78.size (fun k hk => by have := Option.some.inj hk; omega)
  have hb19 := hb18.grown hS9 hb18.size (fun k hk => by have := Option.some.inj hk; omega)
  have HO9 := hid (HO8.out.box hS9 (by omega))
  have HN9 : Hid (LneAt (st11 w8 w3.heap.size (.int .i64 nx6) (.slice p8 st6.length cap8) (.int .i64 hi6) (.bool b06) (.bool b16) (.bool b26) (.bool b36) (.bool b46) (.bool b56) (.bool b66) (.bool b76)) (.agg #[.int .i64 nx6, .slice p8 st6.length cap8, .int .i64 hi6, .bool b06, .bool b16, .bool b26, .bool b36, .bool b46, .bool b56, .bool b66, .bool b76]) ⟨nx6, st6, hi6, [b06, b16, b26, b36, b46, b56, b66, b76]⟩ ∧ FrmsAt (st11 w8 w3.heap.size (.int .i64 nx6) (.slice p8 st6.length cap8) (.int .i64 hi6) (.bool b06) (.bool b16) (.bool b26) (.bool b36) (.bool b46) (.bool b56) (.bool b66) (.bool b76)) (.slice pg fs.length cg) fs) := hid (HN8.out _ (since_grown hS9 (by omega)) hb9)
  have HFF9 : Hid (FrmsAt (st11 w8 w3.heap.size (.int .i64 nx6) (.slice p8 st6.length cap8) (.int .i64 hi6) (.bool b06) (.bool b16) (.bool b26) (.bool b36) (.bool b46) (.bool b56) (.bool b66) (.bool b76)) (.slice pf fs.length cf) fs) := hid (HF8.out _ (since_grown hS9 (by omega)))
  clear t0 tf0 t1 tf1 t2 tf2 t3 tf3 t4 tf4 t5 tf5 t6 tf6 t7 tf7 t8 tf8 t9 tf9 t10 tf10 HX8 HY8 HZ8 HT8 HO8 HF8 HN8 hS9 hT9 hb78 hb18 hb17 hb7 hw8
  unfold st11 at *
  generalize (((((((((((w8.setCell ⟨w3.heap.size, 0, none⟩ (.int .i64 nx6)).setCell ⟨w3.heap.size, 1, none⟩ (.slice p8 st6.length cap8)).setCell ⟨w3.heap.size, 2, none⟩ (.int .i64 hi6)).setCell ⟨w3.heap.size, 3, none⟩ (.bool b06)).setCell ⟨w3.heap.size, 4, none⟩ (.bool b16)).setCell ⟨w3.heap.size, 5, none⟩ (.bool b26)).setCell ⟨w3.heap.size, 6, none⟩ (.bool b36)).setCell ⟨w3.heap.size, 7, none⟩ (.bool b46)).setCell ⟨w3.heap.size, 8, none⟩ (.bool b56)).setCell ⟨w3.heap.size, 9, none⟩ (.bool b66)).setCell ⟨w3.heap.size, 10, none⟩ (.bool b76)) = w9 at *
  have z0 := heap_cell HZ9.out 0
  have z1 := heap_cell HZ9.out 1
  have z2 := heap_cell HZ9.out 2
  have z3 := heap_cell HZ9.out 3
  have z4 := heap_cell HZ9.out 4
  have z5 := heap_cell HZ9.out 5
  have z6 := heap_cell HZ9.out 6
  have z7 := heap_cell HZ9.out 7
  have z8 := heap_cell HZ9.out 8
  have z9 := heap_cell HZ9.out 9
  have z10 := heap_cell HZ9.out 10
  have t0 := heap_cell HT9.out 0
  have t1 := heap_cell HT9.out 1
  have t2 := heap_cell HT9.out 2
  have t3 := heap_cell HT9.out 3
  have t4 := heap_cell HT9.out 4
  have t5 := heap_cell HT9.out 5
  have t6 := heap_cell HT9.out 6
  have t7 := heap_cell HT9.out 7
  have t8 := heap_cell HT9.out 8
  have t9 := heap_cell HT9.out 9
  have t10 := heap_cell HT9.out 10
  have HLA : Hid (LneAt w9 (.agg #[.int .i64 nx6, .slice p6 st6.length cap6, .int .i64 hi6, .bool b06, .bool b16, .bool b26, .bool b36, .bool b46, .bool b56, .bool b66, .bool b76]) ⟨nx6, st6, hi6, [b06, b16, b26, b36, b46, b56, b66, b76]⟩) := hid (lne_of (by have := HO9.out.snts hl6; rwa [hm6] at this) nx6 hi6 b06 b16 b26 b36 b46 b56 b66 b76)
  go_wp2_with fail
  refine (rsameLine_eq _ _ ⟨nx6, st6, hi6, [b06, b16, b26, b36, b46, b56, b66, b76]⟩ _ HLA.out HN9.out.1).mono ?_
  rintro e w10 ⟨rfl, hw10⟩
  have hb10 := below_then hb9 hw10
  have hb110 := below_then hb19 hw10
  have HX10 := hid (heap_keep HX9.out hw10)
  have HY10 := hid (heap_keep HY9.out hw10)
  have HFA10 := hid (HFF9.out.below hw10)
  have HFB10 := hid (HN9.out.2.below hw10)
  clear z0 z1 z2 z3 z4 z5 z6 z7 z8 z9 z10 t0 t1 t2 t3 t4 t5 t6 t7 t8 t9 t10 HX9 HY9 HZ9 HT9 HO9 HN9 HFF9 HLA hw10 hb9 hb19
  have x0 := heap_cell HX10.out 0
  have x1 := heap_cell HX10.out 1
  have x2 := heap_cell HX10.out 2
  have x3 := heap_cell HX10.out 3
  have x4 := heap_cell HX10.out 4
  have x5 := heap_cell HX10.out 5
  have x6 := heap_cell HX10.out 6
  have x7 := heap_cell HX10.out 7
  have x8 := heap_cell HX10.out 8
  have x9 := heap_cell HX10.out 9
  have x10 := heap_cell HX10.out 10
  have y0 := heap_cell HY10.out 0
  have y1 := heap_cell HY10.out 1
  have y2 := heap_cell HY10.out 2
  have y3 := heap_cell HY10.out 3
  have y4 := heap_cell HY10.out 4
  have y5 := heap_cell HY10.out 5
  have y6 := heap_cell HY10.out 6
  have y7 := heap_cell HY10.out 7
  have y8 := heap_cell HY10.out 8
  have y9 := heap_cell HY10.out 9
  have y10 := heap_cell HY10.out 10
  go_wp2_with fail
  refine (rsameLine_eq _ _ ⟨nx, st, hi, [b0, b1, b2, b3, b4, b5, b6, b7]⟩ _ (HL1.out.below hb110) (HV.out.below hb10)).mono ?_
  rintro e w11 ⟨rfl, hw11⟩
  have hb11 := below_then hb10 hw11
  have HFA := hid (HFA10.out.below hw11)
  have HFB := hid (HFB10.out.below hw11)
  clear x0 x1 x2 x3 x4 x5 x6 x7 x8 x9 x10 y0 y1 y2 y3 y4 y5 y6 y7 y8 y9 y10 HX10 HY10 HFA10 HFB10 hw11 hb10 hb110
  go_wp2_with fail
  go_loopw [82] (fun i wr => ∃ k : Nat, k ≤ fs.length ∧ i = .int .i64 k ∧ FrmsAt wr (.slice pf fs.length cf) fs ∧ FrmsAt wr (.slice pg fs.length cg) fs ∧ Below w.heap.size w wr) (fun i _ => fs.length - (intOf i).toNat)
  case atStart => exact ⟨0, Nat.zero_le _, rfl, HFA.out, HFB.out, hb11⟩
  case round =>
    obtain ⟨k, hk, rfl, ha, hb, hbr⟩ := hrel
    have HA := hid ha
    have HB := hid hb
    have hfl := HA.out.len
    clear ha hb HFA HFB
    by_cases hlt : k < fs.length
    · have hI : (k : Int) < (fs.length : Int) := by omega
      obtain ⟨ba, pl, cl, pgl, cgl, pc, cc, rfl, hfa, hca⟩ := HA.out.get k hlt
      obtain ⟨bc, pl', cl', pgl', cgl', pc', cc', rfl, hfb, hcb⟩ := HB.out.get k hlt
      generalize fs[k] = f at *
      have HSF : Hid (∀ w', Below wr.heap.size wr w' → w'.cell? ⟨ba, k * 11, none⟩ = some (.int .i64 f.fr) ∧ w'.cell? ⟨ba, k * 11 + 1, none⟩ = some (.int .i64 f.to) ∧ w'.cell? ⟨ba, k * 11 + 2, none⟩ = some (.int .i64 f.seq) ∧ w'.cell? ⟨ba, k * 11 + 3, none⟩ = some (.bool f.ack) ∧ w'.cell? ⟨ba, k * 11 + 4, none⟩ = some (.int .i64 f.thread) ∧ w'.cell? ⟨ba, k * 11 + 5, none⟩ = some (.int .i64 f.mail.host) ∧ w'.cell? ⟨ba, k * 11 + 6, none⟩ = some (.int .i64 f.mail.thread) ∧ w'.cell? ⟨ba, k * 11 + 7, none⟩ = some (.slice pl f.mail.label.length cl) ∧ w'.cell? ⟨ba, k * 11 + 8, none⟩ = some (.slice pgl f.mail.grants.length cgl) ∧ w'.cell? ⟨ba, k * 11 + 9, none⟩ = some (.string ⟨f.mail.text.toArray⟩) ∧ w'.cell? ⟨ba, k * 11 + 10, none⟩ = some (.slice pc f.certs.length cc) ∧ w'.cell? ⟨bc, k * 11, none⟩ = some (.int .i64 f.fr) ∧ w'.cell? ⟨bc, k * 11 + 1, none⟩ = some (.int .i64 f.to) ∧ w'.cell? ⟨bc, k * 11 + 2, none⟩ = some (.int .i64 f.seq) ∧ w'.cell? ⟨bc, k * 11 + 3, none⟩ = some (.bool f.ack) ∧ w'.cell? ⟨bc, k * 11 + 4, none⟩ = some (.int .i64 f.thread) ∧ w'.cell? ⟨bc, k * 11 + 5, none⟩ = some (.int .i64 f.mail.host) ∧ w'.cell? ⟨bc, k * 11 + 6, none⟩ = some (.int .i64 f.mail.thread) ∧ w'.cell? ⟨bc, k * 11 + 7, none⟩ = some (.slice pl' f.mail.label.length cl') ∧ w'.cell? ⟨bc, k * 11 + 8, none⟩ = some (.slice pgl' f.mail.grants.length cgl') ∧ w'.cell? ⟨bc, k * 11 + 9, none⟩ = some (.string ⟨f.mail.text.toArray⟩) ∧ w'.cell? ⟨bc, k * 11 + 10, none⟩ = some (.slice pc' f.certs.length cc')) := hid (fun w' hw => by
        obtain ⟨a0, a1, a2, a3, a4, a5, a6, a7, a8, a9, a10⟩ := hca
        obtain ⟨e0, e1, e2, e3, e4, e5, e6, e7, e8, e9, e10⟩ := hcb
        exact ⟨(hw.cell (cell_block a0)).trans a0, (hw.cell (cell_block a1)).trans a1, (hw.cell (cell_block a2)).trans a2, (hw.cell (cell_block a3)).trans a3, (hw.cell (cell_block a4)).trans a4, (hw.cell (cell_block a5)).trans a5, (hw.cell (cell_block a6)).trans a6, (hw.cell (cell_block a7)).trans a7, (hw.cell (cell_block a8)).trans a8, (hw.cell (cell_block a9)).trans a9, (hw.cell (cell_block a10)).trans a10, (hw.cell (cell_block e0)).trans e0, (hw.cell (cell_block e1)).trans e1, (hw.cell (cell_block e2)).trans e2, (hw.cell (cell_block e3)).trans e3, (hw.cell (cell_block e4)).trans e4, (hw.cell (cell_block e5)).trans e5, (hw.cell (cell_block e6)).trans e6, (hw.cell (cell_block e7)).trans e7, (hw.cell (cell_block e8)).trans e8, (hw.cell (cell_block e9)).trans e9, (hw.cell (cell_block e10)).trans e10⟩)
      have HFA := hid hfa
      have HFB := hid hfb
      clear hca hcb hfa hfb
      go_upto_region 13 with fail
      refine wp_region_held_drew (S := (fun w' => w'.cell? ⟨ba, k * 11, none⟩ = some (.int .i64 f.fr) ∧ w'.cell? ⟨ba, k * 11 + 1, none⟩ = some (.int .i64 f.to) ∧ w'.cell? ⟨ba, k * 11 + 2, none⟩ = some (.int .i64 f.seq) ∧ w'.cell? ⟨ba, k * 11 + 3, none⟩ = some (.bool f.ack) ∧ w'.cell? ⟨ba, k * 11 + 4, none⟩ = some (.int .i64 f.thread) ∧ w'.cell? ⟨ba, k * 11 + 5, none⟩ = some (.int .i64 f.mail.host) ∧ w'.cell? ⟨ba, k * 11 + 6, none⟩ = some (.int .i64 f.mail.thread) ∧ w'.cell? ⟨ba, k * 11 + 7, none⟩ = some (.slice pl f.mail.label.length cl) ∧ w'.cell? ⟨ba, k * 11 + 8, none⟩ = some (.slice pgl f.mail.grants.length cgl) ∧ w'.cell? ⟨ba, k * 11 + 9, none⟩ = some (.string ⟨f.mail.text.toArray⟩) ∧ w'.cell? ⟨ba, k * 11 + 10, none⟩ = some (.slice pc f.certs.length cc) ∧ w'.cell? ⟨bc, k * 11, none⟩ = some (.int .i64 f.fr) ∧ w'.cell? ⟨bc, k * 11 + 1, none⟩ = some (.int .i64 f.to) ∧ w'.cell? ⟨bc, k * 11 + 2, none⟩ = some (.int .i64 f.seq) ∧ w'.cell? ⟨bc, k * 11 + 3, none⟩ = some (.bool f.ack) ∧ w'.cell? ⟨bc, k * 11 + 4, none⟩ = some (.int .i64 f.thread) ∧ w'.cell? ⟨bc, k * 11 + 5, none⟩ = some (.int .i64 f.mail.host) ∧ w'.cell? ⟨bc, k * 11 + 6, none⟩ = some (.int .i64 f.mail.thread) ∧ w'.cell? ⟨bc, k * 11 + 7, none⟩ = some (.slice pl' f.mail.label.length cl') ∧ w'.cell? ⟨bc, k * 11 + 8, none⟩ = some (.slice pgl' f.mail.grants.length cgl') ∧ w'.cell? ⟨bc, k * 11 + 9, none⟩ = some (.string ⟨f.mail.text.toArray⟩) ∧ w'.cell? ⟨bc, k * 11 + 10, none⟩ = some (.slice pc' f.certs.length cc'))) (by as_aux_lemma => kernel_rfl) (HSF.out _ (Below.refl _ _).drew) (fun hHeld => ?_)
      refine takeD 0 85 ?v1 rfl (by as_aux_lemma => kernel_rfl) (by as_aux_lemma => kernel_rfl) (by as_aux_lemma => kernel_rfl) (by as_aux_lemma => kernel_rfl) (fun _ _ _ h => h) (Or.inl ⟨by rfl, ?hy1⟩) (by assumption) ?rest1
      case hy1 => intro wz hSw; (try dsimp only at hSw); go_simp; try with_reducible rfl
      simp only [Act.put, List.setIfInBounds_toArray, List.set_cons_zero, List.set_cons_succ]
      refine takeD 1 86 ?v2 rfl (by as_aux_lemma => kernel_rfl) (by as_aux_lemma => kernel_rfl) (by as_aux_lemma => kernel_rfl) (by as_aux_lemma => kernel_rfl) (fun _ _ _ h => h) (Or.inl ⟨by rfl, ?hy2⟩) (by assumption) ?rest2
      case hy2 => intro wz hSw; (try dsimp only at hSw); go_simp; try with_reducible rfl
      simp only [Act.put, List.setIfInBounds_toArray, List.set_cons_zero, List.set_cons_succ]
      refine takeD 2 87 ?v3 rfl (by as_aux_lemma => kernel_rfl) (by as_aux_lemma => kernel_rfl) (by as_aux_lemma => kernel_rfl) (by as_aux_lemma => kernel_rfl) (fun _ _ _ h => h) (Or.inl ⟨by rfl, ?hy3⟩) (by assumption) ?rest3
      case hy3 => intro wz hSw; (try dsimp only at hSw); go_simp; try with_reducible rfl
      simp only [Act.put, List.setIfInBounds_toArray, List.set_cons_zero, List.set_cons_succ]
      refine takeD 3 88 ?v4 rfl (by as_aux_lemma => kernel_rfl) (by as_aux_lemma => kernel_rfl) (by as_aux_lemma => kernel_rfl) (by as_aux_lemma => kernel_rfl) (fun _ _ _ h => h) (Or.inl ⟨by rfl, ?hy4⟩) (by assumption) ?rest4
      case hy4 => intro wz hSw; (try dsimp only at hSw); go_simp; try with_reducible rfl
      simp only [Act.put, List.setIfInBounds_toArray, List.set_cons_zero, List.set_cons_succ]
      refine takeD 4 89 ?v5 rfl (by as_aux_lemma => kernel_rfl) (by as_aux_lemma => kernel_rfl) (by as_aux_lemma => kernel_rfl) (by as_aux_lemma => kernel_rfl) (fun _ _ _ h => h) (Or.inl ⟨by rfl, ?hy5⟩) (by assumption) ?rest5
      case hy5 => intro wz hSw; (try dsimp only at hSw); go_simp; try with_reducible rfl
      simp only [Act.put, List.setIfInBounds_toArray, List.set_cons_zero, List.set_cons_succ]
      refine takeD 5 90 ?v6 rfl (by as_aux_lemma => kernel_rfl) (by as_aux_lemma => kernel_rfl) (by as_aux_lemma => kernel_rfl) (by as_aux_lemma => kernel_rfl) (fun _ _ _ h => h) (Or.inl ⟨by rfl, ?hy6⟩) (by assumption) ?rest6
      case hy6 => intro wz hSw; (try dsimp only at hSw); go_simp; try with_reducible rfl
      simp only [Act.put, List.setIfInBounds_toArray, List.set_cons_zero, List.set_cons_succ]
      refine takeD 6 91 ?v7 rfl (by as_aux_lemma => kernel_rfl) (by as_aux_lemma => kernel_rfl) (by as_aux_lemma => kernel_rfl) (by as_aux_lemma => kernel_rfl) (fun _ _ _ h => h) (Or.inl ⟨by rfl, ?hy7⟩) (by assumption) ?rest7
      case hy7 => intro wz hSw; (try dsimp only at hSw); go_simp; try with_reducible rfl
      simp only [Act.put, List.setIfInBounds_toArray, List.set_cons_zero, List.set_cons_succ]
      refine takeD 7 92 ?v8 rfl (by as_aux_lemma => kernel_rfl) (by as_aux_lemma => kernel_rfl) (by as_aux_lemma => kernel_rfl) (by as_aux_lemma => kernel_rfl) (fun _ _ _ h => h) (Or.inl ⟨by rfl, ?hy8⟩) (by assumption) ?rest8
      case hy8 => intro wz hSw; (try dsimp only at hSw); go_simp; try with_reducible rfl
      simp only [Act.put, List.setIfInBounds_toArray, List.set_cons_zero, List.set_cons_succ]
      refine wpAnyH_ready (rs := [8]) (by as_aux_lemma => kernel_rfl) (by simp) ?_
      refine AllReadyH.cons rfl (fun K' hK => ?_) AllReadyH.nil
      go_simp
      go_wp2_with (go_at_call 14; refine (rsameFrame_eq _ _ f _ (HFA.out.below (Below.refl _ _).drew) (HFB.out.below (Below.refl _ _).drew)).mono ?_; rintro e wz ⟨rfl, hwz⟩; have hwz2 : Below wr.heap.size wr wz := ⟨hwz.os, hwz.tape, hwz.output, hwz.size, hwz.block⟩)
      refine hK.out _ _ (HSF.out _ hwz2) (fun h2 => ?_)
      clear hK K'
      refine takeD 9 94 ?v9 rfl (by as_aux_lemma => kernel_rfl) (by as_aux_lemma => kernel_rfl) (by as_aux_lemma => kernel_rfl) (by as_aux_lemma => kernel_rfl) (fun _ _ _ h => h) (Or.inl ⟨by rfl, ?hy9⟩) (by assumption) ?rest9
      case hy9 => intro wz hSw; (try dsimp only at hSw); go_simp; try with_reducible rfl
      simp only [Act.put, List.setIfInBounds_toArray, List.set_cons_zero, List.set_cons_succ]
      refine wpAnyH_done (by as_aux_lemma => kernel_rfl) ?_ _
      go_wp2_with fail
      go_roundw
      case rel => exact ⟨k + 1, hlt, by go_num, HA.out.below hwz2, HB.out.below hwz2, below_then hbr hwz2⟩
      case measure => simp [intOf]; omega
    · have hI : ¬ (k : Int) < (fs.length : Int) := by omega
      go_wp2_with (go_at_call 17; refine (llines_any _).mono ?_; rintro e wz ⟨rfl, hwz⟩)
      go_ret
      exact ⟨rfl, below_then hbr hwz⟩
end Go.Proofs.Ytmpjddnbdidleaa
