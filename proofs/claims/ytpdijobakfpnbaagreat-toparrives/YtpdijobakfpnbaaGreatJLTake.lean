/- line.Take answers the line behind the coming of a number. -/
import Derived.Test.YtpdijobakfpnbaaGreatJLMem
import Derived.Test.YtpdijobakfpnbaaGreatJLCopyL
import Derived.Test.YtpdijobakfpnbaaGreatJLShift
namespace Go.Proofs.YtpdijobakfpnbaaGreat
open Go.RowKit Go.Proofs.Parclose
theorem Qv {fn : Func} {p u : Tmp} {ty : TypeId} (h : fn.results = #[.cell p ty, .tmp u]) (tmps : Array Value) (w : World) (g : Nat) (cs : Array Value)
 (hp : tmps.getD p undef = .pointer (some ⟨g, 0, none⟩)) (hl : (loadVar ty ⟨g, 0, none⟩).run Tryz.prog w = .ok (.agg cs) w) :
 (results fn tmps).run Tryz.prog w = .ok (.tuple #[.agg cs, tmps.getD u undef]) w := by
 rw [results_cell_tmp h, hp]
 simp [asAddr, hl]
theorem Qu {w : World} {g : Nat} {cs : Array Value} (hc : cs.size = 11) (hg : w.heap[g]? = some (.cells cs 71 (0, 0))) : (loadVar 71 ⟨g, 0, none⟩).run Tryz.prog w = .ok (.agg cs) w :=
 run_loadVar_row w g 71 71 cs (0, 0) _ hg Tryz.underlying71 rfl (by rw [hc]; kernel_rfl)
def LneNew (B : Nat) (w : World) (v : Value) (l : Lne) : Prop := ∃ vs q, v = lneV l vs ∧ l.seen.length = 8 ∧ q.map (·.s) = l.sent ∧ q.length ≤ 879609302220 ∧ OwnRow B w vs q
theorem QC {B : Nat} {w : World} {vs : Value} {q : List SntV} {st : List Snt} (h : OwnRow B w vs q) (hm : q.map (·.s) = st) (hl : q.length ≤ 879609302220) (nx hi : Int) (b0 b1 b2 b3 b4 b5 b6 b7 : Bool) : LneNew B w (.agg #[.int .i64 nx, vs, .int .i64 hi, .bool b0, .bool b1, .bool b2, .bool b3, .bool b4, .bool b5, .bool b6, .bool b7]) ⟨nx, st, hi, [b0, b1, b2, b3, b4, b5, b6, b7]⟩ := ⟨vs, q, rfl, rfl, hm, hl, h⟩
theorem LneNew.at {B : Nat} {w : World} {v : Value} {l : Lne} (h : LneNew B w v l) : LneAt w v l := by
 obtain ⟨vs, q, h1, h2, h3, h4, h5⟩ := h
 exact ⟨vs, h1, h2, by rw [← h3]; exact h5.snts h4⟩
theorem LneNew.spell {B : Nat} {w : World} {v : Value} {l : Lne} (h : LneNew B w v l) : ∃ nx st hi b0 b1 b2 b3 b4 b5 b6 b7 p cap q, l = ⟨nx, st, hi, [b0, b1, b2, b3, b4, b5, b6, b7]⟩ ∧ v = .agg #[.int .i64 nx, .slice p st.length cap, .int .i64 hi, .bool b0, .bool b1, .bool b2, .bool b3, .bool b4, .bool b5, .bool b6, .bool b7] ∧ q.map (·.s) = st ∧ q.length ≤ 879609302220 ∧ OwnRow B w (.slice p st.length cap) q := by
 obtain ⟨vs, q, rfl, h8, hm, hl, ho⟩ := h
 obtain ⟨nx, st, hi, sn⟩ := l
 obtain ⟨b0, b1, b2, b3, b4, b5, b6, b7, e⟩ := list8 h8
 replace e : sn = [b0, b1, b2, b3, b4, b5, b6, b7] := e
 subst e
 replace hm : q.map (·.s) = st := hm
 obtain ⟨p, cap, rfl⟩ := Qo ho.own
 have hq : q.length = st.length := by rw [← hm, List.length_map]
 rw [hq] at ho ⊢
 exact ⟨nx, st, hi, b0, b1, b2, b3, b4, b5, b6, b7, p, cap, q, rfl, rfl, hm, hl, ho⟩
set_option maxRecDepth 100000 in
set_option maxHeartbeats 6400000 in
theorem QjR (v : Value) (L : Lne) (q : Int) (w : World) (hv : LneAt w v L) :
 Calls Tryz.prog 100 #[v, .int .i64 q] w fun e w' => ∃ v', e = .returned (.tuple #[v', .int .i64 (takeLn L q).2]) ∧ LneNew w.heap.size w' v' (takeLn L q).1 ∧ Below w.heap.size w w' := by
 obtain ⟨nx, st, hi, b0, b1, b2, b3, b4, b5, b6, b7, p, cap, rfl, rfl, hs⟩ := hv.spell
 have hlen := hs.len
 have HV := hid hv
 clear hv hs
 have hb0 : Below w.heap.size w ((w.alloc (.cells #[.int .i64 nx, .slice p st.length cap, .int .i64 hi, .bool b0, .bool b1, .bool b2, .bool b3, .bool b4, .bool b5, .bool b6, .bool b7] 71)).alloc (.cells #[.int .i64 0, .slice none 0 0, .int .i64 0, .bool false, .bool false, .bool false, .bool false, .bool false, .bool false, .bool false, .bool false] 71)) := (Qd w _).alloc (by simp) _
 go_enter Tryz.func100, Tryz.ntmps100
 go_wp2_with fail
 refine (QaJ _ _ _ (HV.out.below hb0)).mono ?_
 rintro e w1 ⟨vs, sq, rfl, hmap, hown, hw1⟩
 have hql : sq.length = st.length := by
  have := congrArg List.length hmap
  simpa using this
 obtain ⟨p1, c1, hvs⟩ := Qo hown.own
 rw [hql] at hvs
 subst hvs
 unfold lneV
 have hbx1 := Qe (heap_alloc2_old w _ _) hw1
 have hrs1 := Qe (heap_alloc2_new w _ _) hw1
 have hbw1 := Qc hb0 hw1
 have hB : ((w.alloc (.cells #[.int .i64 nx, .slice p st.length cap, .int .i64 hi, .bool b0, .bool b1, .bool b2, .bool b3, .bool b4, .bool b5, .bool b6, .bool b7] 71)).alloc (.cells #[.int .i64 0, .slice none 0 0, .int .i64 0, .bool false, .bool false, .bool false, .bool false, .bool false, .bool false, .bool false, .bool false] 71)).heap.size = w.heap.size + 2 := by simp
 rw [hB] at hown
 have x0 := Qa hbx1 0
 have y0 := Qb hbx1 0
 have x1 := Qa hbx1 1
 have y1 := Qb hbx1 1
 have x2 := Qa hbx1 2
 have y2 := Qb hbx1 2
 have x3 := Qa hbx1 3
 have y3 := Qb hbx1 3
 have x4 := Qa hbx1 4
 have y4 := Qb hbx1 4
 have x5 := Qa hbx1 5
 have y5 := Qb hbx1 5
 have x6 := Qa hbx1 6
 have y6 := Qb hbx1 6
 have x7 := Qa hbx1 7
 have y7 := Qb hbx1 7
 have x8 := Qa hbx1 8
 have y8 := Qb hbx1 8
 have x9 := Qa hbx1 9
 have y9 := Qb hbx1 9
 have x10 := Qa hbx1 10
 have y10 := Qb hbx1 10
 clear hw1 hb0 HV
 go_wp2_with fail
 have hbx2 : (((((((((((w1.setCell ⟨w.heap.size, 0, none⟩ (.int .i64 nx)).setCell ⟨w.heap.size, 1, none⟩ (.slice p1 st.length c1)).setCell ⟨w.heap.size, 2, none⟩ (.int .i64 hi)).setCell ⟨w.heap.size, 3, none⟩ (.bool b0)).setCell ⟨w.heap.size, 4, none⟩ (.bool b1)).setCell ⟨w.heap.size, 5, none⟩ (.bool b2)).setCell ⟨w.heap.size, 6, none⟩ (.bool b3)).setCell ⟨w.heap.size, 7, none⟩ (.bool b4)).setCell ⟨w.heap.size, 8, none⟩ (.bool b5)).setCell ⟨w.heap.size, 9, none⟩ (.bool b6)).setCell ⟨w.heap.size, 10, none⟩ (.bool b7)).heap[w.heap.size]? = some (.cells #[.int .i64 nx, .slice p1 st.length c1, .int .i64 hi, .bool b0, .bool b1, .bool b2, .bool b3, .bool b4, .bool b5, .bool b6, .bool b7] 71 (0, 0)) := Ql (.int .i64 nx) (.slice p1 st.length c1) (.int .i64 hi) (.bool b0) (.bool b1) (.bool b2) (.bool b3) (.bool b4) (.bool b5) (.bool b6) (.bool b7) hbx1
 have hS1 : w1.grownBy (((((((((((w1.setCell ⟨w.heap.size, 0, none⟩ (.int .i64 nx)).setCell ⟨w.heap.size, 1, none⟩ (.slice p1 st.length c1)).setCell ⟨w.heap.size, 2, none⟩ (.int .i64 hi)).setCell ⟨w.heap.size, 3, none⟩ (.bool b0)).setCell ⟨w.heap.size, 4, none⟩ (.bool b1)).setCell ⟨w.heap.size, 5, none⟩ (.bool b2)).setCell ⟨w.heap.size, 6, none⟩ (.bool b3)).setCell ⟨w.heap.size, 7, none⟩ (.bool b4)).setCell ⟨w.heap.size, 8, none⟩ (.bool b5)).setCell ⟨w.heap.size, 9, none⟩ (.bool b6)).setCell ⟨w.heap.size, 10, none⟩ (.bool b7)) (some w.heap.size) := Qj w1 w.heap.size (.int .i64 nx) (.slice p1 st.length c1) (.int .i64 hi) (.bool b0) (.bool b1) (.bool b2) (.bool b3) (.bool b4) (.bool b5) (.bool b6) (.bool b7)
 have hrs2 := Qn hrs1 (show w.heap.size + 1 ≠ w.heap.size by omega) hS1
 have hown2 := hown.box hS1 (by omega)
 have hbw2 := hbw1.grown hS1 hbw1.size (fun k hk => by have := Option.some.inj hk; omega)
 clear hbx1 hrs1 hown hbw1 hS1 x0 y0 x1 y1 x2 y2 x3 y3 x4 y4 x5 y5 x6 y6 x7 y7 x8 y8 x9 y9 x10 y10
 generalize (((((((((((w1.setCell ⟨w.heap.size, 0, none⟩ (.int .i64 nx)).setCell ⟨w.heap.size, 1, none⟩ (.slice p1 st.length c1)).setCell ⟨w.heap.size, 2, none⟩ (.int .i64 hi)).setCell ⟨w.heap.size, 3, none⟩ (.bool b0)).setCell ⟨w.heap.size, 4, none⟩ (.bool b1)).setCell ⟨w.heap.size, 5, none⟩ (.bool b2)).setCell ⟨w.heap.size, 6, none⟩ (.bool b3)).setCell ⟨w.heap.size, 7, none⟩ (.bool b4)).setCell ⟨w.heap.size, 8, none⟩ (.bool b5)).setCell ⟨w.heap.size, 9, none⟩ (.bool b6)).setCell ⟨w.heap.size, 10, none⟩ (.bool b7)) = w2 at *
 have hl2 : LneAt w2 (.agg #[.int .i64 nx, .slice p1 st.length c1, .int .i64 hi, .bool b0, .bool b1, .bool b2, .bool b3, .bool b4, .bool b5, .bool b6, .bool b7]) ⟨nx, st, hi, [b0, b1, b2, b3, b4, b5, b6, b7]⟩ := Qfp (by have := hown2.snts (by omega); rwa [hmap] at this) nx hi b0 b1 b2 b3 b4 b5 b6 b7
 refine (Qcb _ _ _ hl2).mono ?_
 rintro e w3 ⟨rfl, hw3⟩
 have HX := hid (Qe hbx2 hw3)
 have HR := hid (Qe hrs2 hw3)
 have HO := hid (hown2.below hw3)
 have hbw3 := Qc hbw2 hw3
 clear hbx2 hrs2 hown2 hbw2 hl2 hw3 hB
 have x0 := Qa HX.out 0
 have y0 := Qb HX.out 0
 have d0 := Qa HR.out 0
 have g0 := Qb HR.out 0
 have x1 := Qa HX.out 1
 have y1 := Qb HX.out 1
 have d1 := Qa HR.out 1
 have g1 := Qb HR.out 1
 have x2 := Qa HX.out 2
 have y2 := Qb HX.out 2
 have d2 := Qa HR.out 2
 have g2 := Qb HR.out 2
 have x3 := Qa HX.out 3
 have y3 := Qb HX.out 3
 have d3 := Qa HR.out 3
 have g3 := Qb HR.out 3
 have x4 := Qa HX.out 4
 have y4 := Qb HX.out 4
 have d4 := Qa HR.out 4
 have g4 := Qb HR.out 4
 have x5 := Qa HX.out 5
 have y5 := Qb HX.out 5
 have d5 := Qa HR.out 5
 have g5 := Qb HR.out 5
 have x6 := Qa HX.out 6
 have y6 := Qb HX.out 6
 have d6 := Qa HR.out 6
 have g6 := Qb HR.out 6
 have x7 := Qa HX.out 7
 have y7 := Qb HX.out 7
 have d7 := Qa HR.out 7
 have g7 := Qb HR.out 7
 have x8 := Qa HX.out 8
 have y8 := Qb HX.out 8
 have d8 := Qa HR.out 8
 have g8 := Qb HR.out 8
 have x9 := Qa HX.out 9
 have y9 := Qb HX.out 9
 have d9 := Qa HR.out 9
 have g9 := Qb HR.out 9
 have x10 := Qa HX.out 10
 have y10 := Qb HX.out 10
 have d10 := Qa HR.out 10
 have g10 := Qb HR.out 10
 have hne : w.heap.size ≠ w.heap.size + 1 := by omega
 have hne2 : w.heap.size + 1 ≠ w.heap.size := by omega
 by_cases hgq : (goodLn ⟨nx, st, hi, [b0, b1, b2, b3, b4, b5, b6, b7]⟩ && decide (1 ≤ q ∧ q ≤ 1099511627776)) = true
 · have hgq2 := hgq
   rw [Bool.and_eq_true, decide_eq_true_eq] at hgq2
   obtain ⟨hg, hq1, hq2⟩ := hgq2
   have hh := Qaa hg
   rw [QQ] at hh
   obtain ⟨_, _, h3, h4, _⟩ := hh
   simp only at h3 h4
   rw [hg]
   by_cases ho : q ≤ hi - 8
   · have htk : takeLn ⟨nx, st, hi, [b0, b1, b2, b3, b4, b5, b6, b7]⟩ q = (⟨nx, st, hi, [b0, b1, b2, b3, b4, b5, b6, b7]⟩, 11) := by unfold takeLn; rw [if_pos hgq, if_pos ho]
     have HTK := hid htk
     clear htk
     go_wp2
     have hS := Qj (w3) (w.heap.size + 1) (.int .i64 nx) (.slice p1 st.length c1) (.int .i64 hi) (.bool b0) (.bool b1) (.bool b2) (.bool b3) (.bool b4) (.bool b5) (.bool b6) (.bool b7)
     have hW := Ql (.int .i64 nx) (.slice p1 st.length c1) (.int .i64 hi) (.bool b0) (.bool b1) (.bool b2) (.bool b3) (.bool b4) (.bool b5) (.bool b6) (.bool b7) (HR.out)
     have hO := (HO.out).box hS (by omega)
     have hb := (hbw3).grown hS (hbw3).size (fun k hk => by have := Option.some.inj hk; omega)
     refine bodyPost_ret (Qv rfl _ _ (w.heap.size + 1) _ rfl (Qu rfl hW)) rfl ⟨_, by rw [HTK.out]; rfl, by rw [HTK.out]; exact QC (hO.low (by omega)) hmap (by omega) nx hi b0 b1 b2 b3 b4 b5 b6 b7, hb⟩
   · by_cases hhi : hi < q
     · have hn1 : 1 ≤ q - hi := by omega
       have hsh := fun wx => Qh4 b0 b1 b2 b3 b4 b5 b6 b7 (q - hi) hn1 wx
       go_wp2_with fail
       refine (hsh _).mono ?_
       rintro e w4 ⟨c0, c1', c2, c3, c4, c5, c6, c7, hc, rfl, hw4⟩
       have HX4 := hid (Qe HX.out hw4)
       have HR4 := hid (Qe HR.out hw4)
       have HO4 := hid (HO.out.below hw4)
       have hbw4 := Qc hbw3 hw4
       have htk : takeLn ⟨nx, st, hi, [b0, b1, b2, b3, b4, b5, b6, b7]⟩ q = (⟨nx, st, q, [true, c1', c2, c3, c4, c5, c6, c7]⟩, 0) := by
        unfold takeLn
        rw [if_pos hgq, if_neg (show ¬ q ≤ hi - 8 by omega), if_pos hhi]
        show (Lne.mk nx st q ((shiftL (q - hi).toNat [b0, b1, b2, b3, b4, b5, b6, b7]).set 0 true), (0 : Int)) = _
        rw [hc]
        rfl
       have hc0 : c0 = false := by
        have h0 := Qco (s := [b0, b1, b2, b3, b4, b5, b6, b7]) (q - hi).toNat 0 (by omega)
        rw [if_pos (by omega), hc] at h0
        simpa using h0
       subst hc0
       have HTK := hid htk
       clear hsh hw4 hgq htk x0 y0 d0 g0 x1 y1 d1 g1 x2 y2 d2 g2 x3 y3 d3 g3 x4 y4 d4 g4 x5 y5 d5 g5 x6 y6 d6 g6 x7 y7 d7 g7 x8 y8 d8 g8 x9 y9 d9 g9 x10 y10 d10 g10
       have x0 := Qa HX4.out 0
       have y0 := Qb HX4.out 0
       have d0 := Qa HR4.out 0
       have g0 := Qb HR4.out 0
       have x1 := Qa HX4.out 1
       have y1 := Qb HX4.out 1
       have d1 := Qa HR4.out 1
       have g1 := Qb HR4.out 1
       have x2 := Qa HX4.out 2
       have y2 := Qb HX4.out 2
       have d2 := Qa HR4.out 2
       have g2 := Qb HR4.out 2
       have x3 := Qa HX4.out 3
       have y3 := Qb HX4.out 3
       have d3 := Qa HR4.out 3
       have g3 := Qb HR4.out 3
       have x4 := Qa HX4.out 4
       have y4 := Qb HX4.out 4
       have d4 := Qa HR4.out 4
       have g4 := Qb HR4.out 4
       have x5 := Qa HX4.out 5
       have y5 := Qb HX4.out 5
       have d5 := Qa HR4.out 5
       have g5 := Qb HR4.out 5
       have x6 := Qa HX4.out 6
       have y6 := Qb HX4.out 6
       have d6 := Qa HR4.out 6
       have g6 := Qb HR4.out 6
       have x7 := Qa HX4.out 7
       have y7 := Qb HX4.out 7
       have d7 := Qa HR4.out 7
       have g7 := Qb HR4.out 7
       have x8 := Qa HX4.out 8
       have y8 := Qb HX4.out 8
       have d8 := Qa HR4.out 8
       have g8 := Qb HR4.out 8
       have x9 := Qa HX4.out 9
       have y9 := Qb HX4.out 9
       have d9 := Qa HR4.out 9
       have g9 := Qb HR4.out 9
       have x10 := Qa HX4.out 10
       have y10 := Qb HX4.out 10
       have d10 := Qa HR4.out 10
       have g10 := Qb HR4.out 10
       have hSb : w4.grownBy ((((((((((w4.setCell ⟨w.heap.size, 3, none⟩ (.bool false)).setCell ⟨w.heap.size, 4, none⟩ (.bool c1')).setCell ⟨w.heap.size, 5, none⟩ (.bool c2)).setCell ⟨w.heap.size, 6, none⟩ (.bool c3)).setCell ⟨w.heap.size, 7, none⟩ (.bool c4)).setCell ⟨w.heap.size, 8, none⟩ (.bool c5)).setCell ⟨w.heap.size, 9, none⟩ (.bool c6)).setCell ⟨w.heap.size, 10, none⟩ (.bool c7)).setCell ⟨w.heap.size, 2, none⟩ (.int .i64 q)).setCell ⟨w.heap.size, 3, none⟩ (.bool true)) (some w.heap.size) := (Qh (Qh (Qh (Qh (Qh (Qh (Qh (Qh (Qh (Qg w4 w.heap.size 3 (.bool false)) (Qg _ w.heap.size 4 (.bool c1'))) (Qg _ w.heap.size 5 (.bool c2))) (Qg _ w.heap.size 6 (.bool c3))) (Qg _ w.heap.size 7 (.bool c4))) (Qg _ w.heap.size 8 (.bool c5))) (Qg _ w.heap.size 9 (.bool c6))) (Qg _ w.heap.size 10 (.bool c7))) (Qg _ w.heap.size 2 (.int .i64 q))) (Qg _ w.heap.size 3 (.bool true)))
       have HSB := hid hSb
       clear hSb
       go_wp2
       have hS := Qj (((((((((((w4.setCell ⟨w.heap.size, 3, none⟩ (.bool false)).setCell ⟨w.heap.size, 4, none⟩ (.bool c1')).setCell ⟨w.heap.size, 5, none⟩ (.bool c2)).setCell ⟨w.heap.size, 6, none⟩ (.bool c3)).setCell ⟨w.heap.size, 7, none⟩ (.bool c4)).setCell ⟨w.heap.size, 8, none⟩ (.bool c5)).setCell ⟨w.heap.size, 9, none⟩ (.bool c6)).setCell ⟨w.heap.size, 10, none⟩ (.bool c7)).setCell ⟨w.heap.size, 2, none⟩ (.int .i64 q)).setCell ⟨w.heap.size, 3, none⟩ (.bool true))) (w.heap.size + 1) (.int .i64 nx) (.slice p1 st.length c1) (.int .i64 q) (.bool true) (.bool c1') (.bool c2) (.bool c3) (.bool c4) (.bool c5) (.bool c6) (.bool c7)
       have hW := Ql (.int .i64 nx) (.slice p1 st.length c1) (.int .i64 q) (.bool true) (.bool c1') (.bool c2) (.bool c3) (.bool c4) (.bool c5) (.bool c6) (.bool c7) (Qn HR4.out hne2 HSB.out)
       have hO := (HO4.out.box HSB.out (by omega)).box hS (by omega)
       have hb := (hbw4.grown HSB.out hbw4.size (fun k hk => by have := Option.some.inj hk; omega)).grown hS (hbw4.grown HSB.out hbw4.size (fun k hk => by have := Option.some.inj hk; omega)).size (fun k hk => by have := Option.some.inj hk; omega)
       refine bodyPost_ret (Qv rfl _ _ (w.heap.size + 1) _ rfl (Qu rfl hW)) rfl ⟨_, by rw [HTK.out]; rfl, by rw [HTK.out]; exact QC (hO.low (by omega)) hmap (by omega) nx q true c1' c2 c3 c4 c5 c6 c7, hb⟩
     · have hix : hi - q = 0 ∨ hi - q = 1 ∨ hi - q = 2 ∨ hi - q = 3 ∨ hi - q = 4 ∨ hi - q = 5 ∨ hi - q = 6 ∨ hi - q = 7 := by omega
       rcases hix with hix | hix | hix | hix | hix | hix | hix | hix
       · have htn : (hi - q).toNat = 0 := by omega
         cases hbk : b0 with
         | true =>
          subst hbk
          have HTK : Hid (takeLn ⟨nx, st, hi, [true, b1, b2, b3, b4, b5, b6, b7]⟩ q = (⟨nx, st, hi, [true, b1, b2, b3, b4, b5, b6, b7]⟩, 10)) := hid (by
           unfold takeLn
           rw [if_pos hgq, if_neg ho, if_neg hhi]
           simp only
           rw [htn]
           exact if_pos rfl)
          clear hgq htn
          go_wp2
          have hS := Qj (w3) (w.heap.size + 1) (.int .i64 nx) (.slice p1 st.length c1) (.int .i64 hi) (.bool true) (.bool b1) (.bool b2) (.bool b3) (.bool b4) (.bool b5) (.bool b6) (.bool b7)
          have hW := Ql (.int .i64 nx) (.slice p1 st.length c1) (.int .i64 hi) (.bool true) (.bool b1) (.bool b2) (.bool b3) (.bool b4) (.bool b5) (.bool b6) (.bool b7) (HR.out)
          have hO := (HO.out).box hS (by omega)
          have hb := (hbw3).grown hS (hbw3).size (fun k hk => by have := Option.some.inj hk; omega)
          refine bodyPost_ret (Qv rfl _ _ (w.heap.size + 1) _ rfl (Qu rfl hW)) rfl ⟨_, by rw [HTK.out]; rfl, by rw [HTK.out]; exact QC (hO.low (by omega)) hmap (by omega) nx hi true b1 b2 b3 b4 b5 b6 b7, hb⟩
         | false =>
          subst hbk
          have HTK : Hid (takeLn ⟨nx, st, hi, [false, b1, b2, b3, b4, b5, b6, b7]⟩ q = (⟨nx, st, hi, [true, b1, b2, b3, b4, b5, b6, b7]⟩, 0)) := hid (by
           unfold takeLn
           rw [if_pos hgq, if_neg ho, if_neg hhi]
           simp only
           rw [htn, if_neg (by simp)]
           rfl)
          clear hgq htn
          have hSb := Qg w3 w.heap.size 3 (.bool true)
          have HSB := hid hSb
          clear hSb
          go_wp2
          have hS := Qj (w3.setCell ⟨w.heap.size, 3, none⟩ (.bool true)) (w.heap.size + 1) (.int .i64 nx) (.slice p1 st.length c1) (.int .i64 hi) (.bool true) (.bool b1) (.bool b2) (.bool b3) (.bool b4) (.bool b5) (.bool b6) (.bool b7)
          have hW := Ql (.int .i64 nx) (.slice p1 st.length c1) (.int .i64 hi) (.bool true) (.bool b1) (.bool b2) (.bool b3) (.bool b4) (.bool b5) (.bool b6) (.bool b7) (Qn HR.out hne2 HSB.out)
          have hO := (HO.out.box HSB.out (by omega)).box hS (by omega)
          have hb := (hbw3.grown HSB.out hbw3.size (fun k hk => by have := Option.some.inj hk; omega)).grown hS (hbw3.grown HSB.out hbw3.size (fun k hk => by have := Option.some.inj hk; omega)).size (fun k hk => by have := Option.some.inj hk; omega)
          refine bodyPost_ret (Qv rfl _ _ (w.heap.size + 1) _ rfl (Qu rfl hW)) rfl ⟨_, by rw [HTK.out]; rfl, by rw [HTK.out]; exact QC (hO.low (by omega)) hmap (by omega) nx hi true b1 b2 b3 b4 b5 b6 b7, hb⟩
       · have htn : (hi - q).toNat = 1 := by omega
         cases hbk : b1 with
         | true =>
          subst hbk
          have HTK : Hid (takeLn ⟨nx, st, hi, [b0, true, b2, b3, b4, b5, b6, b7]⟩ q = (⟨nx, st, hi, [b0, true, b2, b3, b4, b5, b6, b7]⟩, 10)) := hid (by
           unfold takeLn
           rw [if_pos hgq, if_neg ho, if_neg hhi]
           simp only
           rw [htn]
           exact if_pos rfl)
          clear hgq htn
          go_wp2
          have hS := Qj (w3) (w.heap.size + 1) (.int .i64 nx) (.slice p1 st.length c1) (.int .i64 hi) (.bool b0) (.bool true) (.bool b2) (.bool b3) (.bool b4) (.bool b5) (.bool b6) (.bool b7)
          have hW := Ql (.int .i64 nx) (.slice p1 st.length c1) (.int .i64 hi) (.bool b0) (.bool true) (.bool b2) (.bool b3) (.bool b4) (.bool b5) (.bool b6) (.bool b7) (HR.out)
          have hO := (HO.out).box hS (by omega)
          have hb := (hbw3).grown hS (hbw3).size (fun k hk => by have := Option.some.inj hk; omega)
          refine bodyPost_ret (Qv rfl _ _ (w.heap.size + 1) _ rfl (Qu rfl hW)) rfl ⟨_, by rw [HTK.out]; rfl, by rw [HTK.out]; exact QC (hO.low (by omega)) hmap (by omega) nx hi b0 true b2 b3 b4 b5 b6 b7, hb⟩
         | false =>
          subst hbk
          have HTK : Hid (takeLn ⟨nx, st, hi, [b0, false, b2, b3, b4, b5, b6, b7]⟩ q = (⟨nx, st, hi, [b0, true, b2, b3, b4, b5, b6, b7]⟩, 0)) := hid (by
           unfold takeLn
           rw [if_pos hgq, if_neg ho, if_neg hhi]
           simp only
           rw [htn, if_neg (by simp)]
           rfl)
          clear hgq htn
          have hSb := Qg w3 w.heap.size 4 (.bool true)
          have HSB := hid hSb
          clear hSb
          go_wp2
          have hS := Qj (w3.setCell ⟨w.heap.size, 4, none⟩ (.bool true)) (w.heap.size + 1) (.int .i64 nx) (.slice p1 st.length c1) (.int .i64 hi) (.bool b0) (.bool true) (.bool b2) (.bool b3) (.bool b4) (.bool b5) (.bool b6) (.bool b7)
          have hW := Ql (.int .i64 nx) (.slice p1 st.length c1) (.int .i64 hi) (.bool b0) (.bool true) (.bool b2) (.bool b3) (.bool b4) (.bool b5) (.bool b6) (.bool b7) (Qn HR.out hne2 HSB.out)
          have hO := (HO.out.box HSB.out (by omega)).box hS (by omega)
          have hb := (hbw3.grown HSB.out hbw3.size (fun k hk => by have := Option.some.inj hk; omega)).grown hS (hbw3.grown HSB.out hbw3.size (fun k hk => by have := Option.some.inj hk; omega)).size (fun k hk => by have := Option.some.inj hk; omega)
          refine bodyPost_ret (Qv rfl _ _ (w.heap.size + 1) _ rfl (Qu rfl hW)) rfl ⟨_, by rw [HTK.out]; rfl, by rw [HTK.out]; exact QC (hO.low (by omega)) hmap (by omega) nx hi b0 true b2 b3 b4 b5 b6 b7, hb⟩
       · have htn : (hi - q).toNat = 2 := by omega
         cases hbk : b2 with
         | true =>
          subst hbk
          have HTK : Hid (takeLn ⟨nx, st, hi, [b0, b1, true, b3, b4, b5, b6, b7]⟩ q = (⟨nx, st, hi, [b0, b1, true, b3, b4, b5, b6, b7]⟩, 10)) := hid (by
           unfold takeLn
           rw [if_pos hgq, if_neg ho, if_neg hhi]
           simp only
           rw [htn]
           exact if_pos rfl)
          clear hgq htn
          go_wp2
          have hS := Qj (w3) (w.heap.size + 1) (.int .i64 nx) (.slice p1 st.length c1) (.int .i64 hi) (.bool b0) (.bool b1) (.bool true) (.bool b3) (.bool b4) (.bool b5) (.bool b6) (.bool b7)
          have hW := Ql (.int .i64 nx) (.slice p1 st.length c1) (.int .i64 hi) (.bool b0) (.bool b1) (.bool true) (.bool b3) (.bool b4) (.bool b5) (.bool b6) (.bool b7) (HR.out)
          have hO := (HO.out).box hS (by omega)
          have hb := (hbw3).grown hS (hbw3).size (fun k hk => by have := Option.some.inj hk; omega)
          refine bodyPost_ret (Qv rfl _ _ (w.heap.size + 1) _ rfl (Qu rfl hW)) rfl ⟨_, by rw [HTK.out]; rfl, by rw [HTK.out]; exact QC (hO.low (by omega)) hmap (by omega) nx hi b0 b1 true b3 b4 b5 b6 b7, hb⟩
         | false =>
          subst hbk
          have HTK : Hid (takeLn ⟨nx, st, hi, [b0, b1, false, b3, b4, b5, b6, b7]⟩ q = (⟨nx, st, hi, [b0, b1, true, b3, b4, b5, b6, b7]⟩, 0)) := hid (by
           unfold takeLn
           rw [if_pos hgq, if_neg ho, if_neg hhi]
           simp only
           rw [htn, if_neg (by simp)]
           rfl)
          clear hgq htn
          have hSb := Qg w3 w.heap.size 5 (.bool true)
          have HSB := hid hSb
          clear hSb
          go_wp2
          have hS := Qj (w3.setCell ⟨w.heap.size, 5, none⟩ (.bool true)) (w.heap.size + 1) (.int .i64 nx) (.slice p1 st.length c1) (.int .i64 hi) (.bool b0) (.bool b1) (.bool true) (.bool b3) (.bool b4) (.bool b5) (.bool b6) (.bool b7)
          have hW := Ql (.int .i64 nx) (.slice p1 st.length c1) (.int .i64 hi) (.bool b0) (.bool b1) (.bool true) (.bool b3) (.bool b4) (.bool b5) (.bool b6) (.bool b7) (Qn HR.out hne2 HSB.out)
          have hO := (HO.out.box HSB.out (by omega)).box hS (by omega)
          have hb := (hbw3.grown HSB.out hbw3.size (fun k hk => by have := Option.some.inj hk; omega)).grown hS (hbw3.grown HSB.out hbw3.size (fun k hk => by have := Option.some.inj hk; omega)).size (fun k hk => by have := Option.some.inj hk; omega)
          refine bodyPost_ret (Qv rfl _ _ (w.heap.size + 1) _ rfl (Qu rfl hW)) rfl ⟨_, by rw [HTK.out]; rfl, by rw [HTK.out]; exact QC (hO.low (by omega)) hmap (by omega) nx hi b0 b1 true b3 b4 b5 b6 b7, hb⟩
       · have htn : (hi - q).toNat = 3 := by omega
         cases hbk : b3 with
         | true =>
          subst hbk
          have HTK : Hid (takeLn ⟨nx, st, hi, [b0, b1, b2, true, b4, b5, b6, b7]⟩ q = (⟨nx, st, hi, [b0, b1, b2, true, b4, b5, b6, b7]⟩, 10)) := hid (by
           unfold takeLn
           rw [if_pos hgq, if_neg ho, if_neg hhi]
           simp only
           rw [htn]
           exact if_pos rfl)
          clear hgq htn
          go_wp2
          have hS := Qj (w3) (w.heap.size + 1) (.int .i64 nx) (.slice p1 st.length c1) (.int .i64 hi) (.bool b0) (.bool b1) (.bool b2) (.bool true) (.bool b4) (.bool b5) (.bool b6) (.bool b7)
          have hW := Ql (.int .i64 nx) (.slice p1 st.length c1) (.int .i64 hi) (.bool b0) (.bool b1) (.bool b2) (.bool true) (.bool b4) (.bool b5) (.bool b6) (.bool b7) (HR.out)
          have hO := (HO.out).box hS (by omega)
          have hb := (hbw3).grown hS (hbw3).size (fun k hk => by have := Option.some.inj hk; omega)
          refine bodyPost_ret (Qv rfl _ _ (w.heap.size + 1) _ rfl (Qu rfl hW)) rfl ⟨_, by rw [HTK.out]; rfl, by rw [HTK.out]; exact QC (hO.low (by omega)) hmap (by omega) nx hi b0 b1 b2 true b4 b5 b6 b7, hb⟩
         | false =>
          subst hbk
          have HTK : Hid (takeLn ⟨nx, st, hi, [b0, b1, b2, false, b4, b5, b6, b7]⟩ q = (⟨nx, st, hi, [b0, b1, b2, true, b4, b5, b6, b7]⟩, 0)) := hid (by
           unfold takeLn
           rw [if_pos hgq, if_neg ho, if_neg hhi]
           simp only
           rw [htn, if_neg (by simp)]
           rfl)
          clear hgq htn
          have hSb := Qg w3 w.heap.size 6 (.bool true)
          have HSB := hid hSb
          clear hSb
          go_wp2
          have hS := Qj (w3.setCell ⟨w.heap.size, 6, none⟩ (.bool true)) (w.heap.size + 1) (.int .i64 nx) (.slice p1 st.length c1) (.int .i64 hi) (.bool b0) (.bool b1) (.bool b2) (.bool true) (.bool b4) (.bool b5) (.bool b6) (.bool b7)
          have hW := Ql (.int .i64 nx) (.slice p1 st.length c1) (.int .i64 hi) (.bool b0) (.bool b1) (.bool b2) (.bool true) (.bool b4) (.bool b5) (.bool b6) (.bool b7) (Qn HR.out hne2 HSB.out)
          have hO := (HO.out.box HSB.out (by omega)).box hS (by omega)
          have hb := (hbw3.grown HSB.out hbw3.size (fun k hk => by have := Option.some.inj hk; omega)).grown hS (hbw3.grown HSB.out hbw3.size (fun k hk => by have := Option.some.inj hk; omega)).size (fun k hk => by have := Option.some.inj hk; omega)
          refine bodyPost_ret (Qv rfl _ _ (w.heap.size + 1) _ rfl (Qu rfl hW)) rfl ⟨_, by rw [HTK.out]; rfl, by rw [HTK.out]; exact QC (hO.low (by omega)) hmap (by omega) nx hi b0 b1 b2 true b4 b5 b6 b7, hb⟩
       · have htn : (hi - q).toNat = 4 := by omega
         cases hbk : b4 with
         | true =>
          subst hbk
          have HTK : Hid (takeLn ⟨nx, st, hi, [b0, b1, b2, b3, true, b5, b6, b7]⟩ q = (⟨nx, st, hi, [b0, b1, b2, b3, true, b5, b6, b7]⟩, 10)) := hid (by
           unfold takeLn
           rw [if_pos hgq, if_neg ho, if_neg hhi]
           simp only
           rw [htn]
           exact if_pos rfl)
          clear hgq htn
          go_wp2
          have hS := Qj (w3) (w.heap.size + 1) (.int .i64 nx) (.slice p1 st.length c1) (.int .i64 hi) (.bool b0) (.bool b1) (.bool b2) (.bool b3) (.bool true) (.bool b5) (.bool b6) (.bool b7)
          have hW := Ql (.int .i64 nx) (.slice p1 st.length c1) (.int .i64 hi) (.bool b0) (.bool b1) (.bool b2) (.bool b3) (.bool true) (.bool b5) (.bool b6) (.bool b7) (HR.out)
          have hO := (HO.out).box hS (by omega)
          have hb := (hbw3).grown hS (hbw3).size (fun k hk => by have := Option.some.inj hk; omega)
          refine bodyPost_ret (Qv rfl _ _ (w.heap.size + 1) _ rfl (Qu rfl hW)) rfl ⟨_, by rw [HTK.out]; rfl, by rw [HTK.out]; exact QC (hO.low (by omega)) hmap (by omega) nx hi b0 b1 b2 b3 true b5 b6 b7, hb⟩
         | false =>
          subst hbk
          have HTK : Hid (takeLn ⟨nx, st, hi, [b0, b1, b2, b3, false, b5, b6, b7]⟩ q = (⟨nx, st, hi, [b0, b1, b2, b3, true, b5, b6, b7]⟩, 0)) := hid (by
           unfold takeLn
           rw [if_pos hgq, if_neg ho, if_neg hhi]
           simp only
           rw [htn, if_neg (by simp)]
           rfl)
          clear hgq htn
          have hSb := Qg w3 w.heap.size 7 (.bool true)
          have HSB := hid hSb
          clear hSb
          go_wp2
          have hS := Qj (w3.setCell ⟨w.heap.size, 7, none⟩ (.bool true)) (w.heap.size + 1) (.int .i64 nx) (.slice p1 st.length c1) (.int .i64 hi) (.bool b0) (.bool b1) (.bool b2) (.bool b3) (.bool true) (.bool b5) (.bool b6) (.bool b7)
          have hW := Ql (.int .i64 nx) (.slice p1 st.length c1) (.int .i64 hi) (.bool b0) (.bool b1) (.bool b2) (.bool b3) (.bool true) (.bool b5) (.bool b6) (.bool b7) (Qn HR.out hne2 HSB.out)
          have hO := (HO.out.box HSB.out (by omega)).box hS (by omega)
          have hb := (hbw3.grown HSB.out hbw3.size (fun k hk => by have := Option.some.inj hk; omega)).grown hS (hbw3.grown HSB.out hbw3.size (fun k hk => by have := Option.some.inj hk; omega)).size (fun k hk => by have := Option.some.inj hk; omega)
          refine bodyPost_ret (Qv rfl _ _ (w.heap.size + 1) _ rfl (Qu rfl hW)) rfl ⟨_, by rw [HTK.out]; rfl, by rw [HTK.out]; exact QC (hO.low (by omega)) hmap (by omega) nx hi b0 b1 b2 b3 true b5 b6 b7, hb⟩
       · have htn : (hi - q).toNat = 5 := by omega
         cases hbk : b5 with
         | true =>
          subst hbk
          have HTK : Hid (takeLn ⟨nx, st, hi, [b0, b1, b2, b3, b4, true, b6, b7]⟩ q = (⟨nx, st, hi, [b0, b1, b2, b3, b4, true, b6, b7]⟩, 10)) := hid (by
           unfold takeLn
           rw [if_pos hgq, if_neg ho, if_neg hhi]
           simp only
           rw [htn]
           exact if_pos rfl)
          clear hgq htn
          go_wp2
          have hS := Qj (w3) (w.heap.size + 1) (.int .i64 nx) (.slice p1 st.length c1) (.int .i64 hi) (.bool b0) (.bool b1) (.bool b2) (.bool b3) (.bool b4) (.bool true) (.bool b6) (.bool b7)
          have hW := Ql (.int .i64 nx) (.slice p1 st.length c1) (.int .i64 hi) (.bool b0) (.bool b1) (.bool b2) (.bool b3) (.bool b4) (.bool true) (.bool b6) (.bool b7) (HR.out)
          have hO := (HO.out).box hS (by omega)
          have hb := (hbw3).grown hS (hbw3).size (fun k hk => by have := Option.some.inj hk; omega)
          refine bodyPost_ret (Qv rfl _ _ (w.heap.size + 1) _ rfl (Qu rfl hW)) rfl ⟨_, by rw [HTK.out]; rfl, by rw [HTK.out]; exact QC (hO.low (by omega)) hmap (by omega) nx hi b0 b1 b2 b3 b4 true b6 b7, hb⟩
         | false =>
          subst hbk
          have HTK : Hid (takeLn ⟨nx, st, hi, [b0, b1, b2, b3, b4, false, b6, b7]⟩ q = (⟨nx, st, hi, [b0, b1, b2, b3, b4, true, b6, b7]⟩, 0)) := hid (by
           unfold takeLn
           rw [if_pos hgq, if_neg ho, if_neg hhi]
           simp only
           rw [htn, if_neg (by simp)]
           rfl)
          clear hgq htn
          have hSb := Qg w3 w.heap.size 8 (.bool true)
          have HSB := hid hSb
          clear hSb
          go_wp2
          have hS := Qj (w3.setCell ⟨w.heap.size, 8, none⟩ (.bool true)) (w.heap.size + 1) (.int .i64 nx) (.slice p1 st.length c1) (.int .i64 hi) (.bool b0) (.bool b1) (.bool b2) (.bool b3) (.bool b4) (.bool true) (.bool b6) (.bool b7)
          have hW := Ql (.int .i64 nx) (.slice p1 st.length c1) (.int .i64 hi) (.bool b0) (.bool b1) (.bool b2) (.bool b3) (.bool b4) (.bool true) (.bool b6) (.bool b7) (Qn HR.out hne2 HSB.out)
          have hO := (HO.out.box HSB.out (by omega)).box hS (by omega)
          have hb := (hbw3.grown HSB.out hbw3.size (fun k hk => by have := Option.some.inj hk; omega)).grown hS (hbw3.grown HSB.out hbw3.size (fun k hk => by have := Option.some.inj hk; omega)).size (fun k hk => by have := Option.some.inj hk; omega)
          refine bodyPost_ret (Qv rfl _ _ (w.heap.size + 1) _ rfl (Qu rfl hW)) rfl ⟨_, by rw [HTK.out]; rfl, by rw [HTK.out]; exact QC (hO.low (by omega)) hmap (by omega) nx hi b0 b1 b2 b3 b4 true b6 b7, hb⟩
       · have htn : (hi - q).toNat = 6 := by omega
         cases hbk : b6 with
         | true =>
          subst hbk
          have HTK : Hid (takeLn ⟨nx, st, hi, [b0, b1, b2, b3, b4, b5, true, b7]⟩ q = (⟨nx, st, hi, [b0, b1, b2, b3, b4, b5, true, b7]⟩, 10)) := hid (by
           unfold takeLn
           rw [if_pos hgq, if_neg ho, if_neg hhi]
           simp only
           rw [htn]
           exact if_pos rfl)
          clear hgq htn
          go_wp2
          have hS := Qj (w3) (w.heap.size + 1) (.int .i64 nx) (.slice p1 st.length c1) (.int .i64 hi) (.bool b0) (.bool b1) (.bool b2) (.bool b3) (.bool b4) (.bool b5) (.bool true) (.bool b7)
          have hW := Ql (.int .i64 nx) (.slice p1 st.length c1) (.int .i64 hi) (.bool b0) (.bool b1) (.bool b2) (.bool b3) (.bool b4) (.bool b5) (.bool true) (.bool b7) (HR.out)
          have hO := (HO.out).box hS (by omega)
          have hb := (hbw3).grown hS (hbw3).size (fun k hk => by have := Option.some.inj hk; omega)
          refine bodyPost_ret (Qv rfl _ _ (w.heap.size + 1) _ rfl (Qu rfl hW)) rfl ⟨_, by rw [HTK.out]; rfl, by rw [HTK.out]; exact QC (hO.low (by omega)) hmap (by omega) nx hi b0 b1 b2 b3 b4 b5 true b7, hb⟩
         | false =>
          subst hbk
          have HTK : Hid (takeLn ⟨nx, st, hi, [b0, b1, b2, b3, b4, b5, false, b7]⟩ q = (⟨nx, st, hi, [b0, b1, b2, b3, b4, b5, true, b7]⟩, 0)) := hid (by
           unfold takeLn
           rw [if_pos hgq, if_neg ho, if_neg hhi]
           simp only
           rw [htn, if_neg (by simp)]
           rfl)
          clear hgq htn
          have hSb := Qg w3 w.heap.size 9 (.bool true)
          have HSB := hid hSb
          clear hSb
          go_wp2
          have hS := Qj (w3.setCell ⟨w.heap.size, 9, none⟩ (.bool true)) (w.heap.size + 1) (.int .i64 nx) (.slice p1 st.length c1) (.int .i64 hi) (.bool b0) (.bool b1) (.bool b2) (.bool b3) (.bool b4) (.bool b5) (.bool true) (.bool b7)
          have hW := Ql (.int .i64 nx) (.slice p1 st.length c1) (.int .i64 hi) (.bool b0) (.bool b1) (.bool b2) (.bool b3) (.bool b4) (.bool b5) (.bool true) (.bool b7) (Qn HR.out hne2 HSB.out)
          have hO := (HO.out.box HSB.out (by omega)).box hS (by omega)
          have hb := (hbw3.grown HSB.out hbw3.size (fun k hk => by have := Option.some.inj hk; omega)).grown hS (hbw3.grown HSB.out hbw3.size (fun k hk => by have := Option.some.inj hk; omega)).size (fun k hk => by have := Option.some.inj hk; omega)
          refine bodyPost_ret (Qv rfl _ _ (w.heap.size + 1) _ rfl (Qu rfl hW)) rfl ⟨_, by rw [HTK.out]; rfl, by rw [HTK.out]; exact QC (hO.low (by omega)) hmap (by omega) nx hi b0 b1 b2 b3 b4 b5 true b7, hb⟩
       · have htn : (hi - q).toNat = 7 := by omega
         cases hbk : b7 with
         | true =>
          subst hbk
          have HTK : Hid (takeLn ⟨nx, st, hi, [b0, b1, b2, b3, b4, b5, b6, true]⟩ q = (⟨nx, st, hi, [b0, b1, b2, b3, b4, b5, b6, true]⟩, 10)) := hid (by
           unfold takeLn
           rw [if_pos hgq, if_neg ho, if_neg hhi]
           simp only
           rw [htn]
           exact if_pos rfl)
          clear hgq htn
          go_wp2
          have hS := Qj (w3) (w.heap.size + 1) (.int .i64 nx) (.slice p1 st.length c1) (.int .i64 hi) (.bool b0) (.bool b1) (.bool b2) (.bool b3) (.bool b4) (.bool b5) (.bool b6) (.bool true)
          have hW := Ql (.int .i64 nx) (.slice p1 st.length c1) (.int .i64 hi) (.bool b0) (.bool b1) (.bool b2) (.bool b3) (.bool b4) (.bool b5) (.bool b6) (.bool true) (HR.out)
          have hO := (HO.out).box hS (by omega)
          have hb := (hbw3).grown hS (hbw3).size (fun k hk => by have := Option.some.inj hk; omega)
          refine bodyPost_ret (Qv rfl _ _ (w.heap.size + 1) _ rfl (Qu rfl hW)) rfl ⟨_, by rw [HTK.out]; rfl, by rw [HTK.out]; exact QC (hO.low (by omega)) hmap (by omega) nx hi b0 b1 b2 b3 b4 b5 b6 true, hb⟩
         | false =>
          subst hbk
          have HTK : Hid (takeLn ⟨nx, st, hi, [b0, b1, b2, b3, b4, b5, b6, false]⟩ q = (⟨nx, st, hi, [b0, b1, b2, b3, b4, b5, b6, true]⟩, 0)) := hid (by
           unfold takeLn
           rw [if_pos hgq, if_neg ho, if_neg hhi]
           simp only
           rw [htn, if_neg (by simp)]
           rfl)
          clear hgq htn
          have hSb := Qg w3 w.heap.size 10 (.bool true)
          have HSB := hid hSb
          clear hSb
          go_wp2
          have hS := Qj (w3.setCell ⟨w.heap.size, 10, none⟩ (.bool true)) (w.heap.size + 1) (.int .i64 nx) (.slice p1 st.length c1) (.int .i64 hi) (.bool b0) (.bool b1) (.bool b2) (.bool b3) (.bool b4) (.bool b5) (.bool b6) (.bool true)
          have hW := Ql (.int .i64 nx) (.slice p1 st.length c1) (.int .i64 hi) (.bool b0) (.bool b1) (.bool b2) (.bool b3) (.bool b4) (.bool b5) (.bool b6) (.bool true) (Qn HR.out hne2 HSB.out)
          have hO := (HO.out.box HSB.out (by omega)).box hS (by omega)
          have hb := (hbw3.grown HSB.out hbw3.size (fun k hk => by have := Option.some.inj hk; omega)).grown hS (hbw3.grown HSB.out hbw3.size (fun k hk => by have := Option.some.inj hk; omega)).size (fun k hk => by have := Option.some.inj hk; omega)
          refine bodyPost_ret (Qv rfl _ _ (w.heap.size + 1) _ rfl (Qu rfl hW)) rfl ⟨_, by rw [HTK.out]; rfl, by rw [HTK.out]; exact QC (hO.low (by omega)) hmap (by omega) nx hi b0 b1 b2 b3 b4 b5 b6 true, hb⟩
 · have HTK : Hid (takeLn ⟨nx, st, hi, [b0, b1, b2, b3, b4, b5, b6, b7]⟩ q = (⟨nx, st, hi, [b0, b1, b2, b3, b4, b5, b6, b7]⟩, 2)) := hid (by unfold takeLn; rw [if_neg hgq])
   cases hg : goodLn ⟨nx, st, hi, [b0, b1, b2, b3, b4, b5, b6, b7]⟩ with
   | false =>
    clear hgq
    go_wp2
    have hS := Qj (w3) (w.heap.size + 1) (.int .i64 nx) (.slice p1 st.length c1) (.int .i64 hi) (.bool b0) (.bool b1) (.bool b2) (.bool b3) (.bool b4) (.bool b5) (.bool b6) (.bool b7)
    have hW := Ql (.int .i64 nx) (.slice p1 st.length c1) (.int .i64 hi) (.bool b0) (.bool b1) (.bool b2) (.bool b3) (.bool b4) (.bool b5) (.bool b6) (.bool b7) (HR.out)
    have hO := (HO.out).box hS (by omega)
    have hb := (hbw3).grown hS (hbw3).size (fun k hk => by have := Option.some.inj hk; omega)
    refine bodyPost_ret (Qv rfl _ _ (w.heap.size + 1) _ rfl (Qu rfl hW)) rfl ⟨_, by rw [HTK.out]; rfl, by rw [HTK.out]; exact QC (hO.low (by omega)) hmap (by omega) nx hi b0 b1 b2 b3 b4 b5 b6 b7, hb⟩
   | true =>
    rw [hg, Bool.true_and, decide_eq_true_eq] at hgq
    by_cases hq1 : 1 ≤ q
    · have hq2 : 1099511627776 < q := by omega
      clear hgq
      go_wp2
      have hS := Qj (w3) (w.heap.size + 1) (.int .i64 nx) (.slice p1 st.length c1) (.int .i64 hi) (.bool b0) (.bool b1) (.bool b2) (.bool b3) (.bool b4) (.bool b5) (.bool b6) (.bool b7)
      have hW := Ql (.int .i64 nx) (.slice p1 st.length c1) (.int .i64 hi) (.bool b0) (.bool b1) (.bool b2) (.bool b3) (.bool b4) (.bool b5) (.bool b6) (.bool b7) (HR.out)
      have hO := (HO.out).box hS (by omega)
      have hb := (hbw3).grown hS (hbw3).size (fun k hk => by have := Option.some.inj hk; omega)
      refine bodyPost_ret (Qv rfl _ _ (w.heap.size + 1) _ rfl (Qu rfl hW)) rfl ⟨_, by rw [HTK.out]; rfl, by rw [HTK.out]; exact QC (hO.low (by omega)) hmap (by omega) nx hi b0 b1 b2 b3 b4 b5 b6 b7, hb⟩
    · clear hgq
      go_wp2
      have hS := Qj (w3) (w.heap.size + 1) (.int .i64 nx) (.slice p1 st.length c1) (.int .i64 hi) (.bool b0) (.bool b1) (.bool b2) (.bool b3) (.bool b4) (.bool b5) (.bool b6) (.bool b7)
      have hW := Ql (.int .i64 nx) (.slice p1 st.length c1) (.int .i64 hi) (.bool b0) (.bool b1) (.bool b2) (.bool b3) (.bool b4) (.bool b5) (.bool b6) (.bool b7) (HR.out)
      have hO := (HO.out).box hS (by omega)
      have hb := (hbw3).grown hS (hbw3).size (fun k hk => by have := Option.some.inj hk; omega)
      refine bodyPost_ret (Qv rfl _ _ (w.heap.size + 1) _ rfl (Qu rfl hW)) rfl ⟨_, by rw [HTK.out]; rfl, by rw [HTK.out]; exact QC (hO.low (by omega)) hmap (by omega) nx hi b0 b1 b2 b3 b4 b5 b6 b7, hb⟩
end Go.Proofs.YtpdijobakfpnbaaGreat
