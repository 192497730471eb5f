/- line.Answered answers the line behind the answer to a number. -/
import Derived.Test.YtpdijobakfpnbaaGreatJLTake
import Derived.Test.YtpdijobakfpnbaaGreatJLAppend
import Derived.Test.YtpdijobakfpnbaaGreatJLMem
import Derived.Test.YtpdijobakfpnbaaGreatJLConcat
import Derived.Test.YtpdijobakfpnbaaGreatJKTake
import Derived.Deep.DeepCutAuto
import Derived.Deep.RegionHeld3
namespace Go.Proofs.YtpdijobakfpnbaaGreat
open Go.RowKit Go.Proofs.Parclose
set_option linter.unusedSimpArgs false in
set_option maxRecDepth 100000 in
set_option maxHeartbeats 6400000 in
theorem QlA (v : Value) (L : Lne) (q : Int) (w : World) (hv : LneAt w v L) :
 Calls Tryz.prog 99 #[v, .int .i64 q] w fun e w' => ∃ v', e = .returned (.tuple #[v', .int .i64 (ansLn L q).2]) ∧ LneNew w.heap.size w' v' (ansLn L q).1 ∧ Below w.heap.size w w' := by
 obtain ⟨nx, st, hi, b0, b1, b2, b3, b4, b5, b6, b7, p, cap, rfl, rfl, hs⟩ := hv.spell
 have hlen := hs.len
 have HV := hid hv
 clear hv hs
 have hmf : ∀ (fn : Fn) (first cap : Array Value) (w : World), (Instr.makeFunc fn first cap).run Tryz.prog w = .ok (.func fn first cap) w := fun _ _ _ _ => rfl
 have hb0 : Below w.heap.size w (((w.alloc (.cells #[.int .i64 nx, .slice p st.length cap, .int .i64 hi, .bool b0, .bool b1, .bool b2, .bool b3, .bool b4, .bool b5, .bool b6, .bool b7] 71)).alloc (.cells #[.int .i64 q] 3)).alloc (.cells #[.int .i64 0, .slice none 0 0, .int .i64 0, .bool false, .bool false, .bool false, .bool false, .bool false, .bool false, .bool false, .bool false] 71)) := ((Qd w _).alloc (by simp) _).alloc (by simp; omega) _
 have hB : (((w.alloc (.cells #[.int .i64 nx, .slice p st.length cap, .int .i64 hi, .bool b0, .bool b1, .bool b2, .bool b3, .bool b4, .bool b5, .bool b6, .bool b7] 71)).alloc (.cells #[.int .i64 q] 3)).alloc (.cells #[.int .i64 0, .slice none 0 0, .int .i64 0, .bool false, .bool false, .bool false, .bool false, .bool false, .bool false, .bool false, .bool false] 71)).heap.size = w.heap.size + 3 := by simp
 have h40 : (((w.alloc (.cells #[.int .i64 nx, .slice p st.length cap, .int .i64 hi, .bool b0, .bool b1, .bool b2, .bool b3, .bool b4, .bool b5, .bool b6, .bool b7] 71)).alloc (.cells #[.int .i64 q] 3)).alloc (.cells #[.int .i64 0, .slice none 0 0, .int .i64 0, .bool false, .bool false, .bool false, .bool false, .bool false, .bool false, .bool false, .bool false] 71)).heap[w.heap.size]? = some (.cells #[.int .i64 nx, .slice p st.length cap, .int .i64 hi, .bool b0, .bool b1, .bool b2, .bool b3, .bool b4, .bool b5, .bool b6, .bool b7] 71 (0, 0)) := Qz (heap_alloc2_old w _ _) _
 have h41 : (((w.alloc (.cells #[.int .i64 nx, .slice p st.length cap, .int .i64 hi, .bool b0, .bool b1, .bool b2, .bool b3, .bool b4, .bool b5, .bool b6, .bool b7] 71)).alloc (.cells #[.int .i64 q] 3)).alloc (.cells #[.int .i64 0, .slice none 0 0, .int .i64 0, .bool false, .bool false, .bool false, .bool false, .bool false, .bool false, .bool false, .bool false] 71)).heap[w.heap.size + 1]? = some (.cells #[.int .i64 q] 3 (0, 0)) := Qz (heap_alloc2_new w _ _) _
 have h42 : (((w.alloc (.cells #[.int .i64 nx, .slice p st.length cap, .int .i64 hi, .bool b0, .bool b1, .bool b2, .bool b3, .bool b4, .bool b5, .bool b6, .bool b7] 71)).alloc (.cells #[.int .i64 q] 3)).alloc (.cells #[.int .i64 0, .slice none 0 0, .int .i64 0, .bool false, .bool false, .bool false, .bool false, .bool false, .bool false, .bool false, .bool false] 71)).heap[w.heap.size + 1 + 1]? = some (.cells #[.int .i64 0, .slice none 0 0, .int .i64 0, .bool false, .bool false, .bool false, .bool false, .bool false, .bool false, .bool false, .bool false] 71 (0, 0)) := by
  have := heap_alloc_new ((w.alloc (.cells #[.int .i64 nx, .slice p st.length cap, .int .i64 hi, .bool b0, .bool b1, .bool b2, .bool b3, .bool b4, .bool b5, .bool b6, .bool b7] 71)).alloc (.cells #[.int .i64 q] 3)) (.cells #[.int .i64 0, .slice none 0 0, .int .i64 0, .bool false, .bool false, .bool false, .bool false, .bool false, .bool false, .bool false, .bool false] 71)
  simpa using this
 go_enter Tryz.func99, Tryz.ntmps99
 go_wp2_with fail
 refine (QaJ _ _ _ (HV.out.below hb0)).mono ?_
 rintro e w1 ⟨vs, sq, rfl, hmap, hown, hw1⟩
 have hql : sq.length = st.length := by
  have := congrArg List.length hmap
  simpa using this
 obtain ⟨p1, c1, hvs⟩ := Qo hown.own
 rw [hql] at hvs
 subst hvs
 unfold lneV
 have hbx1 := Qe h40 hw1
 have hsb1 := Qe h41 hw1
 have hrs1 := Qe h42 hw1
 have hbw1 := Qc hb0 hw1
 rw [hB] at hown
 have x0 := Qa hbx1 0
 have xf0 := Qb hbx1 0
 have x1 := Qa hbx1 1
 have xf1 := Qb hbx1 1
 have x2 := Qa hbx1 2
 have xf2 := Qb hbx1 2
 have x3 := Qa hbx1 3
 have xf3 := Qb hbx1 3
 have x4 := Qa hbx1 4
 have xf4 := Qb hbx1 4
 have x5 := Qa hbx1 5
 have xf5 := Qb hbx1 5
 have x6 := Qa hbx1 6
 have xf6 := Qb hbx1 6
 have x7 := Qa hbx1 7
 have xf7 := Qb hbx1 7
 have x8 := Qa hbx1 8
 have xf8 := Qb hbx1 8
 have x9 := Qa hbx1 9
 have xf9 := Qb hbx1 9
 have x10 := Qa hbx1 10
 have xf10 := Qb hbx1 10
 clear hw1 hb0 HV h40 h41 h42 hB
 go_wp2_with fail
 have hbx2 : (((((((((((w1.setCell ⟨w.heap.size, 0, none⟩ (.int .i64 nx)).setCell ⟨w.heap.size, 1, none⟩ (.slice p1 st.length c1)).setCell ⟨w.heap.size, 2, none⟩ (.int .i64 hi)).setCell ⟨w.heap.size, 3, none⟩ (.bool b0)).setCell ⟨w.heap.size, 4, none⟩ (.bool b1)).setCell ⟨w.heap.size, 5, none⟩ (.bool b2)).setCell ⟨w.heap.size, 6, none⟩ (.bool b3)).setCell ⟨w.heap.size, 7, none⟩ (.bool b4)).setCell ⟨w.heap.size, 8, none⟩ (.bool b5)).setCell ⟨w.heap.size, 9, none⟩ (.bool b6)).setCell ⟨w.heap.size, 10, none⟩ (.bool b7)).heap[w.heap.size]? = some (.cells #[.int .i64 nx, .slice p1 st.length c1, .int .i64 hi, .bool b0, .bool b1, .bool b2, .bool b3, .bool b4, .bool b5, .bool b6, .bool b7] 71 (0, 0)) := Ql (.int .i64 nx) (.slice p1 st.length c1) (.int .i64 hi) (.bool b0) (.bool b1) (.bool b2) (.bool b3) (.bool b4) (.bool b5) (.bool b6) (.bool b7) hbx1
 have hS1 : w1.grownBy (((((((((((w1.setCell ⟨w.heap.size, 0, none⟩ (.int .i64 nx)).setCell ⟨w.heap.size, 1, none⟩ (.slice p1 st.length c1)).setCell ⟨w.heap.size, 2, none⟩ (.int .i64 hi)).setCell ⟨w.heap.size, 3, none⟩ (.bool b0)).setCell ⟨w.heap.size, 4, none⟩ (.bool b1)).setCell ⟨w.heap.size, 5, none⟩ (.bool b2)).setCell ⟨w.heap.size, 6, none⟩ (.bool b3)).setCell ⟨w.heap.size, 7, none⟩ (.bool b4)).setCell ⟨w.heap.size, 8, none⟩ (.bool b5)).setCell ⟨w.heap.size, 9, none⟩ (.bool b6)).setCell ⟨w.heap.size, 10, none⟩ (.bool b7)) (some w.heap.size) := Qj w1 w.heap.size (.int .i64 nx) (.slice p1 st.length c1) (.int .i64 hi) (.bool b0) (.bool b1) (.bool b2) (.bool b3) (.bool b4) (.bool b5) (.bool b6) (.bool b7)
 have hsb2 := Qn hsb1 (show w.heap.size + 1 ≠ w.heap.size by omega) hS1
 have hrs2 := Qn hrs1 (show w.heap.size + 1 + 1 ≠ w.heap.size by omega) hS1
 have hown2 := hown.box hS1 (by omega)
 have hbw2 := hbw1.grown hS1 hbw1.size (fun k hk => by have := Option.some.inj hk; omega)
 clear hbx1 hsb1 hrs1 hown hbw1 hS1 x0 xf0 x1 xf1 x2 xf2 x3 xf3 x4 xf4 x5 xf5 x6 xf6 x7 xf7 x8 xf8 x9 xf9 x10 xf10
 generalize (((((((((((w1.setCell ⟨w.heap.size, 0, none⟩ (.int .i64 nx)).setCell ⟨w.heap.size, 1, none⟩ (.slice p1 st.length c1)).setCell ⟨w.heap.size, 2, none⟩ (.int .i64 hi)).setCell ⟨w.heap.size, 3, none⟩ (.bool b0)).setCell ⟨w.heap.size, 4, none⟩ (.bool b1)).setCell ⟨w.heap.size, 5, none⟩ (.bool b2)).setCell ⟨w.heap.size, 6, none⟩ (.bool b3)).setCell ⟨w.heap.size, 7, none⟩ (.bool b4)).setCell ⟨w.heap.size, 8, none⟩ (.bool b5)).setCell ⟨w.heap.size, 9, none⟩ (.bool b6)).setCell ⟨w.heap.size, 10, none⟩ (.bool b7)) = w2 at *
 have hl2 : LneAt w2 (.agg #[.int .i64 nx, .slice p1 st.length c1, .int .i64 hi, .bool b0, .bool b1, .bool b2, .bool b3, .bool b4, .bool b5, .bool b6, .bool b7]) ⟨nx, st, hi, [b0, b1, b2, b3, b4, b5, b6, b7]⟩ := Qfp (by have := hown2.snts (by omega); rwa [hmap] at this) nx hi b0 b1 b2 b3 b4 b5 b6 b7
 refine (Qcb _ _ _ hl2).mono ?_
 rintro e w3 ⟨rfl, hw3⟩
 have HX := hid (Qe hbx2 hw3)
 have HSB := hid (Qe hsb2 hw3)
 have HR := hid (Qe hrs2 hw3)
 have HO := hid (hown2.below hw3)
 have hbw3 := Qc hbw2 hw3
 clear hbx2 hsb2 hrs2 hown2 hbw2 hl2 hw3
 have x0 := Qa HX.out 0
 have x1 := Qa HX.out 1
 have x2 := Qa HX.out 2
 have x3 := Qa HX.out 3
 have x4 := Qa HX.out 4
 have x5 := Qa HX.out 5
 have x6 := Qa HX.out 6
 have x7 := Qa HX.out 7
 have x8 := Qa HX.out 8
 have x9 := Qa HX.out 9
 have x10 := Qa HX.out 10
 have d0 := Qa HR.out 0
 have df0 := Qb HR.out 0
 have d1 := Qa HR.out 1
 have df1 := Qb HR.out 1
 have d2 := Qa HR.out 2
 have df2 := Qb HR.out 2
 have d3 := Qa HR.out 3
 have df3 := Qb HR.out 3
 have d4 := Qa HR.out 4
 have df4 := Qb HR.out 4
 have d5 := Qa HR.out 5
 have df5 := Qb HR.out 5
 have d6 := Qa HR.out 6
 have df6 := Qb HR.out 6
 have d7 := Qa HR.out 7
 have df7 := Qb HR.out 7
 have d8 := Qa HR.out 8
 have df8 := Qb HR.out 8
 have d9 := Qa HR.out 9
 have df9 := Qb HR.out 9
 have d10 := Qa HR.out 10
 have df10 := Qb HR.out 10
 have n02 : w.heap.size ≠ w.heap.size + 1 + 1 := by omega
 have n20 : w.heap.size + 1 + 1 ≠ w.heap.size := by omega
 cases hg : goodLn ⟨nx, st, hi, [b0, b1, b2, b3, b4, b5, b6, b7]⟩ with
 | false =>
  have HTK : Hid (ansLn ⟨nx, st, hi, [b0, b1, b2, b3, b4, b5, b6, b7]⟩ q = (⟨nx, st, hi, [b0, b1, b2, b3, b4, b5, b6, b7]⟩, 2)) := hid (Qmw hg)
  go_wp2
  have hS := Qj w3 (w.heap.size + 1 + 1) (.int .i64 nx) (.slice p1 st.length c1) (.int .i64 hi) (.bool b0) (.bool b1) (.bool b2) (.bool b3) (.bool b4) (.bool b5) (.bool b6) (.bool b7)
  have hW := Ql (.int .i64 nx) (.slice p1 st.length c1) (.int .i64 hi) (.bool b0) (.bool b1) (.bool b2) (.bool b3) (.bool b4) (.bool b5) (.bool b6) (.bool b7) (HR.out)
  have hO := (HO.out).box hS (by omega)
  have hbE := (hbw3).grown hS (hbw3).size (fun k hk => by have := Option.some.inj hk; omega)
  exact bodyPost_ret (Qv rfl _ _ (w.heap.size + 1 + 1) _ rfl (Qu rfl hW)) rfl ⟨_, by rw [HTK.out]; rfl, by rw [HTK.out]; exact QC (hO.low (by omega)) hmap (by omega) nx hi b0 b1 b2 b3 b4 b5 b6 b7, hbE⟩
 | true =>
  have cq : w3.cell? ⟨w.heap.size + 1, 0, none⟩ = some (.int .i64 q) := Qa HSB.out 0
  have hsn : SntsAt w3 (.slice p1 st.length c1) st := by have := HO.out.snts (by omega); rwa [hmap] at this
  have HIX := hid (Qh6 _ st (w.heap.size + 1) q w3 hsn cq)
  clear cq hsn
  rcases firstN_or q st 0 with ⟨hf, hno⟩ | ⟨i, hi8, hf, hyes⟩
  · have HTK : Hid (ansLn ⟨nx, st, hi, [b0, b1, b2, b3, b4, b5, b6, b7]⟩ q = (⟨nx, st, hi, [b0, b1, b2, b3, b4, b5, b6, b7]⟩, 4)) := hid (Ql8 hg hno)
    rw [hf] at HIX
    go_wp2_with (go_at_call 144; refine HIX.out.mono ?_; rintro e w4 ⟨rfl, hw4⟩; have HR4 := hid (Qe HR.out hw4); have HX4 := hid (Qe HX.out hw4); have y0 := Qa HX4.out 0; have e0 := Qa HR4.out 0; have ef0 := Qb HR4.out 0; have y1 := Qa HX4.out 1; have e1 := Qa HR4.out 1; have ef1 := Qb HR4.out 1; have y2 := Qa HX4.out 2; have e2 := Qa HR4.out 2; have ef2 := Qb HR4.out 2; have y3 := Qa HX4.out 3; have e3 := Qa HR4.out 3; have ef3 := Qb HR4.out 3; have y4 := Qa HX4.out 4; have e4 := Qa HR4.out 4; have ef4 := Qb HR4.out 4; have y5 := Qa HX4.out 5; have e5 := Qa HR4.out 5; have ef5 := Qb HR4.out 5; have y6 := Qa HX4.out 6; have e6 := Qa HR4.out 6; have ef6 := Qb HR4.out 6; have y7 := Qa HX4.out 7; have e7 := Qa HR4.out 7; have ef7 := Qb HR4.out 7; have y8 := Qa HX4.out 8; have e8 := Qa HR4.out 8; have ef8 := Qb HR4.out 8; have y9 := Qa HX4.out 9; have e9 := Qa HR4.out 9; have ef9 := Qb HR4.out 9; have y10 := Qa HX4.out 10; have e10 := Qa HR4.out 10; have ef10 := Qb HR4.out 10)
    have hS := Qj w4 (w.heap.size + 1 + 1) (.int .i64 nx) (.slice p1 st.length c1) (.int .i64 hi) (.bool b0) (.bool b1) (.bool b2) (.bool b3) (.bool b4) (.bool b5) (.bool b6) (.bool b7)
    have hW := Ql (.int .i64 nx) (.slice p1 st.length c1) (.int .i64 hi) (.bool b0) (.bool b1) (.bool b2) (.bool b3) (.bool b4) (.bool b5) (.bool b6) (.bool b7) (HR4.out)
    have hO := (HO.out.below hw4).box hS (by omega)
    have hbE := (Qc hbw3 hw4).grown hS (Qc hbw3 hw4).size (fun k hk => by have := Option.some.inj hk; omega)
    exact bodyPost_ret (Qv rfl _ _ (w.heap.size + 1 + 1) _ rfl (Qu rfl hW)) rfl ⟨_, by rw [HTK.out]; rfl, by rw [HTK.out]; exact QC (hO.low (by omega)) hmap (by omega) nx hi b0 b1 b2 b3 b4 b5 b6 b7, hbE⟩
  · rw [Nat.zero_add] at hf
    rw [hf] at HIX
    have HTK : Hid (ansLn ⟨nx, st, hi, [b0, b1, b2, b3, b4, b5, b6, b7]⟩ q = (⟨nx, st.take i ++ st.drop (i + 1), hi, [b0, b1, b2, b3, b4, b5, b6, b7]⟩, 0)) := hid (Ql6 hg i hi8 hyes)
    have hII : ¬ ((i : Int) < 0) := by omega
    have hI3 : (i : Int) ≤ (st.length : Int) := by omega
    obtain ⟨g, hp, hnc⟩ : ∃ g, p1 = some ⟨g, 0, none⟩ ∧ st.length ≤ c1 := by
     have ho := HO.out.own
     rw [hql] at ho
     rcases ho.2 with ⟨_, hn⟩ | ⟨g, cap, cur, e, _, _, hnc, _⟩
     · omega
     · cases e; exact ⟨g, rfl, hnc⟩
    subst hp
    have hic : i ≤ c1 := by omega
    obtain ⟨J, hJ⟩ : ∃ J : Nat, J = i + 1 := ⟨_, rfl⟩
    have hwJ : IntKind.i64.wrap ((i : Int) + 1) = (J : Int) := by
     have h1 : IntKind.i64.wrap ((i : Int) + 1) = (i : Int) + 1 := Go.wrap_small _ (by omega) (by omega)
     rw [h1, hJ]
     omega
    have hJl : (J : Int) ≤ (st.length : Int) := by omega
    have HJ := hid hJ
    clear hf hyes hJ d0 df0 d1 df1 d2 df2 d3 df3 d4 df4 d5 df5 d6 df6 d7 df7 d8 df8 d9 df9 d10 df10
    go_upto_region 7 with (go_at_call 144; refine HIX.out.mono ?_; rintro e w4 ⟨rfl, hw4⟩)
    have HX4 := hid (Qe HX.out hw4)
    have HR4 := hid (Qe HR.out hw4)
    have HO4 := hid (HO.out.below hw4)
    have hbw4 := Qc hbw3 hw4
    have hsz4 : w.heap.size + 3 ≤ w4.heap.size := by have := Qw HR4.out; omega
    have c4 : w4.cell? ⟨w.heap.size, 1, none⟩ = some (.slice (some ⟨g, 0, none⟩) st.length c1) := Qa HX4.out 1
    have hrow : RowAt w4 (.slice (some ⟨g, 0, none⟩) sq.length c1) sq := Qi5 (by have := HO4.out.own; rwa [← hql] at this) (by omega)
    have hJs : J ≤ sq.length := by have := HJ.out; omega
    have hg8 := Qaa hg
    rw [QQ] at hg8
    have hl8 : sq.length ≤ 8 := by rw [hql]; exact hg8.2.2.2.2
    have hoks : ∀ x ∈ sq, x.Ok w4 := fun x hx => HO4.out.ok x hx w4 (Off.refl _ _ _)
    by_cases hcJ : c1 = J
    · subst hcJ
      have hrD := hrow.drop c1 hJs
      rw [hql, Nat.zero_add, if_pos rfl, Nat.sub_self, show st.length - c1 = 0 by omega] at hrD
      have HCON := hid (Qdx (.slice (some ⟨w4.heap.size, 0, none⟩) 2 2) [sq.take i, sq.drop c1] (w4.alloc (.cells #[.slice (some ⟨g, 0, none⟩) i c1, .slice (some ⟨g, 0, none⟩) (0) (0)] 68)).drew ⟨w4.heap.size, 0, 2, rfl, fun j hj => by
       match j, hj with
       | 0, _ => exact ⟨_, Qa (heap_alloc_new w4 _) 0, (hrow.take i (by omega)).below (Qd w4 _).drew⟩
       | 1, _ => exact ⟨_, Qa (heap_alloc_new w4 _) 1, hrD.below (Qd w4 _).drew⟩⟩ (by simp) (by simp; omega) (fun l hl u hu => by
       rcases List.mem_cons.1 hl with e | hl
       · exact QaD (fun x hx => hoks x (List.mem_of_mem_take hx)) u (by rw [e] at hu; exact hu)
       · rw [List.mem_singleton] at hl
         exact QaD (fun x hx => hoks x (List.mem_of_mem_drop hx)) u (by rw [hl] at hu; exact hu)))
      have HFL : Hid ([sq.take i, sq.drop c1].flatten = sq.take i ++ sq.drop c1) := hid (by simp)
      have HQN : Hid ((sq.take i ++ sq.drop c1).length = st.length - 1) := hid (by have := HJ.out; rw [List.length_append, List.length_take, List.length_drop]; omega)
      have HMP : Hid ((sq.take i ++ sq.drop c1).map (·.s) = st.take i ++ st.drop (i + 1)) := hid (by rw [List.map_append, List.map_take, List.map_drop, hmap, HJ.out])
      clear hw4 x0 x1 x2 x3 x4 x5 x6 x7 x8 x9 x10 HIX hrow hrD hoks hg8
      refine wp_region_held_drew (S := (fun w' => True)) (by as_aux_lemma => kernel_rfl) trivial (fun _hHeld => ?_)
      refine takeF 0 20 ?v1 rfl (Or.inl ⟨by rfl, ?hy1⟩) ?rest1
      case hy1 => intro wz hSw; (try dsimp only at hSw); go_simp; try with_reducible rfl
      simp only [Act.put, List.setIfInBounds_toArray, List.set_cons_zero, List.set_cons_succ]
      refine takeF 2 22 ?v2 rfl (Or.inl ⟨by rfl, ?hy2⟩) ?rest2
      case hy2 => intro wz hSw; (try dsimp only at hSw); go_simp; try with_reducible rfl
      simp only [Act.put, List.setIfInBounds_toArray, List.set_cons_zero, List.set_cons_succ]
      refine takeF 4 24 ?v3 rfl (Or.inl ⟨by rfl, ?hy3⟩) ?rest3
      case hy3 => intro wz hSw; (try dsimp only at hSw); go_simp; try with_reducible rfl
      simp only [Act.put, List.setIfInBounds_toArray, List.set_cons_zero, List.set_cons_succ]
      refine takeF 6 26 ?v4 rfl (Or.inl ⟨by rfl, ?hy4⟩) ?rest4
      case hy4 => intro wz hSw; (try dsimp only at hSw); go_simp; try with_reducible rfl
      simp only [Act.put, List.setIfInBounds_toArray, List.set_cons_zero, List.set_cons_succ]
      refine takeF 7 27 ?v5 rfl (Or.inl ⟨by rfl, ?hy5⟩) ?rest5
      case hy5 => intro wz hSw; (try dsimp only at hSw); go_simp; try with_reducible rfl
      simp only [Act.put, List.setIfInBounds_toArray, List.set_cons_zero, List.set_cons_succ]
      refine wpAnyH_ready (rs := [1, 5]) (by as_aux_lemma => kernel_rfl) (by simp) ?_
      refine AllReadyH.cons rfl (fun K' hK => ?_) (AllReadyH.cons rfl (fun K' hK => ?_) AllReadyH.nil)
      · go_simp
        refine hK.out _ _ trivial (fun _ => ?_)
        clear hK K'
        refine takeF 3 23 ?v6 rfl (Or.inl ⟨by rfl, ?hy6⟩) ?rest6
        case hy6 => intro wz hSw; (try dsimp only at hSw); go_simp; try with_reducible rfl
        simp only [Act.put, List.setIfInBounds_toArray, List.set_cons_zero, List.set_cons_succ]
        refine wpAnyH_ready (rs := [5]) (by as_aux_lemma => kernel_rfl) (by simp) ?_
        refine AllReadyH.cons rfl (fun K' hK => ?_) AllReadyH.nil
        go_simp
        refine hK.out _ _ trivial (fun _ => ?_)
        clear hK K'
        refine takeF 8 28 ?v7 rfl (Or.inl ⟨by rfl, ?hy7⟩) ?rest7
        case hy7 => intro wz hSw; (try dsimp only at hSw); go_simp; try with_reducible rfl
        simp only [Act.put, List.setIfInBounds_toArray, List.set_cons_zero, List.set_cons_succ]
        refine wpAnyH_ready (rs := [9]) (by as_aux_lemma => kernel_rfl) (by simp) ?_
        refine AllReadyH.cons rfl (fun K' hK => ?_) AllReadyH.nil
        go_simp
        refine hK.out _ _ trivial (fun _ => ?_)
        clear hK K'
        refine wpAnyH_ready (rs := [10]) (by as_aux_lemma => kernel_rfl) (by simp) ?_
        refine AllReadyH.cons rfl (fun K' hK => ?_) AllReadyH.nil
        go_simp
        go_wp2_with (go_at_call 146; refine HCON.out.mono ?_; rintro e w6 ⟨v6, rfl, hown6, hw6⟩; have hw46 : Below w4.heap.size w4 w6 := Qc (Qd w4 _) ⟨hw6.os, hw6.tape, hw6.output, hw6.size, hw6.block⟩; rw [HFL.out] at hown6; have hown7 := Qp hown6 (show w4.heap.size ≤ _ from (Qd w4 _).drew.size); obtain ⟨p6, c6, hv6⟩ := Qo hown6; rw [HQN.out] at hv6; subst hv6)
        refine hK.out _ _ trivial (fun _ => ?_)
        clear hK K'
        refine takeF 11 31 ?v8 rfl (Or.inl ⟨by rfl, ?hy8⟩) ?rest8
        case hy8 => intro wz hSw; (try dsimp only at hSw); go_simp; try with_reducible rfl
        simp only [Act.put, List.setIfInBounds_toArray, List.set_cons_zero, List.set_cons_succ]
        have HX6 := hid (Qe HX4.out hw46)
        have z1 := Qa HX6.out 1
        have zf1 := Qb HX6.out 1
        refine wpAnyH_ready (rs := [12]) (by as_aux_lemma => kernel_rfl) (by simp) ?_
        refine AllReadyH.cons rfl (fun K' hK => ?_) AllReadyH.nil
        go_simp
        refine hK.out _ _ trivial (fun _ => ?_)
        clear hK K'
        refine wpAnyH_done (by as_aux_lemma => kernel_rfl) ?_ _
        clear z1 zf1 hown6 hw6 HCON
        have hOw6 : OwnRow (w.heap.size + 3) w6 (.slice p6 (st.length - 1) c6) (sq.take i ++ sq.drop c1) := ⟨Qak hown7 (fun k hk => by have := Qs hown7 hk; omega), fun x hx w' ho => HO4.out.ok x ((List.mem_append.1 hx).elim List.mem_of_mem_take List.mem_of_mem_drop) w' (fun k h1 h2 _ => by rw [ho k h1 (Nat.lt_of_lt_of_le h2 hw46.size) (fun e => by have := Qs hown7 e; omega), hw46.block k h2])⟩
        have HX7 : Hid ((w6.setCell ⟨w.heap.size, 1, none⟩ (.slice p6 (st.length - 1) c6)).heap[w.heap.size]? = some (.cells #[.int .i64 nx, .slice p6 (st.length - 1) c6, .int .i64 hi, .bool b0, .bool b1, .bool b2, .bool b3, .bool b4, .bool b5, .bool b6, .bool b7] 71 (0, 0))) := hid (heap_setCell (j := 1) HX6.out (.slice p6 (st.length - 1) c6))
        have HR7 := hid (Qr (Qe HR4.out hw46) n20 1 (.slice p6 (st.length - 1) c6))
        have gS := Qg w6 w.heap.size 1 (.slice p6 (st.length - 1) c6)
        have HO7 := hid (hOw6.box gS (by omega))
        have hb46 := Qc hbw4 hw46
        have hb7 := hb46.grown gS hb46.size (fun k hk => by have := Option.some.inj hk; omega)
        clear gS hb46 hOw6 HX6 hown7 c4 HX4 HR4 HO4
        generalize w6.setCell ⟨w.heap.size, 1, none⟩ (.slice p6 (st.length - 1) c6) = w7 at *
        have x0 := Qa HX7.out 0
        have d0 := Qa HR7.out 0
        have df0 := Qb HR7.out 0
        have x1 := Qa HX7.out 1
        have d1 := Qa HR7.out 1
        have df1 := Qb HR7.out 1
        have x2 := Qa HX7.out 2
        have d2 := Qa HR7.out 2
        have df2 := Qb HR7.out 2
        have x3 := Qa HX7.out 3
        have d3 := Qa HR7.out 3
        have df3 := Qb HR7.out 3
        have x4 := Qa HX7.out 4
        have d4 := Qa HR7.out 4
        have df4 := Qb HR7.out 4
        have x5 := Qa HX7.out 5
        have d5 := Qa HR7.out 5
        have df5 := Qb HR7.out 5
        have x6 := Qa HX7.out 6
        have d6 := Qa HR7.out 6
        have df6 := Qb HR7.out 6
        have x7 := Qa HX7.out 7
        have d7 := Qa HR7.out 7
        have df7 := Qb HR7.out 7
        have x8 := Qa HX7.out 8
        have d8 := Qa HR7.out 8
        have df8 := Qb HR7.out 8
        have x9 := Qa HX7.out 9
        have d9 := Qa HR7.out 9
        have df9 := Qb HR7.out 9
        have x10 := Qa HX7.out 10
        have d10 := Qa HR7.out 10
        have df10 := Qb HR7.out 10
        go_wp2
        have hS := Qj w7 (w.heap.size + 1 + 1) (.int .i64 nx) (.slice p6 (st.length - 1) c6) (.int .i64 hi) (.bool b0) (.bool b1) (.bool b2) (.bool b3) (.bool b4) (.bool b5) (.bool b6) (.bool b7)
        have hW := Ql (.int .i64 nx) (.slice p6 (st.length - 1) c6) (.int .i64 hi) (.bool b0) (.bool b1) (.bool b2) (.bool b3) (.bool b4) (.bool b5) (.bool b6) (.bool b7) (HR7.out)
        have hO := (HO7.out).box hS (by omega)
        have hbE := (hb7).grown hS (hb7).size (fun k hk => by have := Option.some.inj hk; omega)
        exact bodyPost_ret (Qv rfl _ _ (w.heap.size + 1 + 1) _ rfl (Qu rfl hW)) rfl ⟨_, by rw [HTK.out]; rfl, by rw [HTK.out]; exact QC (hO.low (by omega)) HMP.out (by rw [HQN.out]; omega) nx hi b0 b1 b2 b3 b4 b5 b6 b7, hbE⟩
      · go_simp
        refine hK.out _ _ trivial (fun _ => ?_)
        clear hK K'
        refine takeF 8 28 ?v9 rfl (Or.inl ⟨by rfl, ?hy9⟩) ?rest9
        case hy9 => intro wz hSw; (try dsimp only at hSw); go_simp; try with_reducible rfl
        simp only [Act.put, List.setIfInBounds_toArray, List.set_cons_zero, List.set_cons_succ]
        refine wpAnyH_ready (rs := [1]) (by as_aux_lemma => kernel_rfl) (by simp) ?_
        refine AllReadyH.cons rfl (fun K' hK => ?_) AllReadyH.nil
        go_simp
        refine hK.out _ _ trivial (fun _ => ?_)
        clear hK K'
        refine takeF 3 23 ?v10 rfl (Or.inl ⟨by rfl, ?hy10⟩) ?rest10
        case hy10 => intro wz hSw; (try dsimp only at hSw); go_simp; try with_reducible rfl
        simp only [Act.put, List.setIfInBounds_toArray, List.set_cons_zero, List.set_cons_succ]
        refine wpAnyH_ready (rs := [9]) (by as_aux_lemma => kernel_rfl) (by simp) ?_
        refine AllReadyH.cons rfl (fun K' hK => ?_) AllReadyH.nil
        go_simp
        refine hK.out _ _ trivial (fun _ => ?_)
        clear hK K'
        refine wpAnyH_ready (rs := [10]) (by as_aux_lemma => kernel_rfl) (by simp) ?_
        refine AllReadyH.cons rfl (fun K' hK => ?_) AllReadyH.nil
        go_simp
        go_wp2_with (go_at_call 146; refine HCON.out.mono ?_; rintro e w6 ⟨v6, rfl, hown6, hw6⟩; have hw46 : Below w4.heap.size w4 w6 := Qc (Qd w4 _) ⟨hw6.os, hw6.tape, hw6.output, hw6.size, hw6.block⟩; rw [HFL.out] at hown6; have hown7 := Qp hown6 (show w4.heap.size ≤ _ from (Qd w4 _).drew.size); obtain ⟨p6, c6, hv6⟩ := Qo hown6; rw [HQN.out] at hv6; subst hv6)
        refine hK.out _ _ trivial (fun _ => ?_)
        clear hK K'
        refine takeF 11 31 ?v11 rfl (Or.inl ⟨by rfl, ?hy11⟩) ?rest11
        case hy11 => intro wz hSw; (try dsimp only at hSw); go_simp; try with_reducible rfl
        simp only [Act.put, List.setIfInBounds_toArray, List.set_cons_zero, List.set_cons_succ]
        have HX6 := hid (Qe HX4.out hw46)
        have z1 := Qa HX6.out 1
        have zf1 := Qb HX6.out 1
        refine wpAnyH_ready (rs := [12]) (by as_aux_lemma => kernel_rfl) (by simp) ?_
        refine AllReadyH.cons rfl (fun K' hK => ?_) AllReadyH.nil
        go_simp
        refine hK.out _ _ trivial (fun _ => ?_)
        clear hK K'
        refine wpAnyH_done (by as_aux_lemma => kernel_rfl) ?_ _
        clear z1 zf1 hown6 hw6 HCON
        have hOw6 : OwnRow (w.heap.size + 3) w6 (.slice p6 (st.length - 1) c6) (sq.take i ++ sq.drop c1) := ⟨Qak hown7 (fun k hk => by have := Qs hown7 hk; omega), fun x hx w' ho => HO4.out.ok x ((List.mem_append.1 hx).elim List.mem_of_mem_take List.mem_of_mem_drop) w' (fun k h1 h2 _ => by rw [ho k h1 (Nat.lt_of_lt_of_le h2 hw46.size) (fun e => by have := Qs hown7 e; omega), hw46.block k h2])⟩
        have HX7 : Hid ((w6.setCell ⟨w.heap.size, 1, none⟩ (.slice p6 (st.length - 1) c6)).heap[w.heap.size]? = some (.cells #[.int .i64 nx, .slice p6 (st.length - 1) c6, .int .i64 hi, .bool b0, .bool b1, .bool b2, .bool b3, .bool b4, .bool b5, .bool b6, .bool b7] 71 (0, 0))) := hid (heap_setCell (j := 1) HX6.out (.slice p6 (st.length - 1) c6))
        have HR7 := hid (Qr (Qe HR4.out hw46) n20 1 (.slice p6 (st.length - 1) c6))
        have gS := Qg w6 w.heap.size 1 (.slice p6 (st.length - 1) c6)
        have HO7 := hid (hOw6.box gS (by omega))
        have hb46 := Qc hbw4 hw46
        have hb7 := hb46.grown gS hb46.size (fun k hk => by have := Option.some.inj hk; omega)
        clear gS hb46 hOw6 HX6 hown7 c4 HX4 HR4 HO4
        generalize w6.setCell ⟨w.heap.size, 1, none⟩ (.slice p6 (st.length - 1) c6) = w7 at *
        have x0 := Qa HX7.out 0
        have d0 := Qa HR7.out 0
        have df0 := Qb HR7.out 0
        have x1 := Qa HX7.out 1
        have d1 := Qa HR7.out 1
        have df1 := Qb HR7.out 1
        have x2 := Qa HX7.out 2
        have d2 := Qa HR7.out 2
        have df2 := Qb HR7.out 2
        have x3 := Qa HX7.out 3
        have d3 := Qa HR7.out 3
        have df3 := Qb HR7.out 3
        have x4 := Qa HX7.out 4
        have d4 := Qa HR7.out 4
        have df4 := Qb HR7.out 4
        have x5 := Qa HX7.out 5
        have d5 := Qa HR7.out 5
        have df5 := Qb HR7.out 5
        have x6 := Qa HX7.out 6
        have d6 := Qa HR7.out 6
        have df6 := Qb HR7.out 6
        have x7 := Qa HX7.out 7
        have d7 := Qa HR7.out 7
        have df7 := Qb HR7.out 7
        have x8 := Qa HX7.out 8
        have d8 := Qa HR7.out 8
        have df8 := Qb HR7.out 8
        have x9 := Qa HX7.out 9
        have d9 := Qa HR7.out 9
        have df9 := Qb HR7.out 9
        have x10 := Qa HX7.out 10
        have d10 := Qa HR7.out 10
        have df10 := Qb HR7.out 10
        go_wp2
        have hS := Qj w7 (w.heap.size + 1 + 1) (.int .i64 nx) (.slice p6 (st.length - 1) c6) (.int .i64 hi) (.bool b0) (.bool b1) (.bool b2) (.bool b3) (.bool b4) (.bool b5) (.bool b6) (.bool b7)
        have hW := Ql (.int .i64 nx) (.slice p6 (st.length - 1) c6) (.int .i64 hi) (.bool b0) (.bool b1) (.bool b2) (.bool b3) (.bool b4) (.bool b5) (.bool b6) (.bool b7) (HR7.out)
        have hO := (HO7.out).box hS (by omega)
        have hbE := (hb7).grown hS (hb7).size (fun k hk => by have := Option.some.inj hk; omega)
        exact bodyPost_ret (Qv rfl _ _ (w.heap.size + 1 + 1) _ rfl (Qu rfl hW)) rfl ⟨_, by rw [HTK.out]; rfl, by rw [HTK.out]; exact QC (hO.low (by omega)) HMP.out (by rw [HQN.out]; omega) nx hi b0 b1 b2 b3 b4 b5 b6 b7, hbE⟩
    · have hcJ2 := hcJ
      have hrD := hrow.drop J hJs
      rw [hql, Nat.zero_add, if_neg hcJ] at hrD
      have HCON := hid (Qdx (.slice (some ⟨w4.heap.size, 0, none⟩) 2 2) [sq.take i, sq.drop J] (w4.alloc (.cells #[.slice (some ⟨g, 0, none⟩) i c1, .slice (some ⟨g, J * 13, none⟩) (st.length - J) (c1 - J)] 68)).drew ⟨w4.heap.size, 0, 2, rfl, fun j hj => by
       match j, hj with
       | 0, _ => exact ⟨_, Qa (heap_alloc_new w4 _) 0, (hrow.take i (by omega)).below (Qd w4 _).drew⟩
       | 1, _ => exact ⟨_, Qa (heap_alloc_new w4 _) 1, hrD.below (Qd w4 _).drew⟩⟩ (by simp) (by simp; omega) (fun l hl u hu => by
       rcases List.mem_cons.1 hl with e | hl
       · exact QaD (fun x hx => hoks x (List.mem_of_mem_take hx)) u (by rw [e] at hu; exact hu)
       · rw [List.mem_singleton] at hl
         exact QaD (fun x hx => hoks x (List.mem_of_mem_drop hx)) u (by rw [hl] at hu; exact hu)))
      have HFL : Hid ([sq.take i, sq.drop J].flatten = sq.take i ++ sq.drop J) := hid (by simp)
      have HQN : Hid ((sq.take i ++ sq.drop J).length = st.length - 1) := hid (by have := HJ.out; rw [List.length_append, List.length_take, List.length_drop]; omega)
      have HMP : Hid ((sq.take i ++ sq.drop J).map (·.s) = st.take i ++ st.drop (i + 1)) := hid (by rw [List.map_append, List.map_take, List.map_drop, hmap, HJ.out])
      clear hw4 x0 x1 x2 x3 x4 x5 x6 x7 x8 x9 x10 HIX hrow hrD hoks hg8
      refine wp_region_held_drew (S := (fun w' => True)) (by as_aux_lemma => kernel_rfl) trivial (fun _hHeld => ?_)
      refine takeF 0 20 ?v12 rfl (Or.inl ⟨by rfl, ?hy12⟩) ?rest12
      case hy12 => intro wz hSw; (try dsimp only at hSw); go_simp; try with_reducible rfl
      simp only [Act.put, List.setIfInBounds_toArray, List.set_cons_zero, List.set_cons_succ]
      refine takeF 2 22 ?v13 rfl (Or.inl ⟨by rfl, ?hy13⟩) ?rest13
      case hy13 => intro wz hSw; (try dsimp only at hSw); go_simp; try with_reducible rfl
      simp only [Act.put, List.setIfInBounds_toArray, List.set_cons_zero, List.set_cons_succ]
      refine takeF 4 24 ?v14 rfl (Or.inl ⟨by rfl, ?hy14⟩) ?rest14
      case hy14 => intro wz hSw; (try dsimp only at hSw); go_simp; try with_reducible rfl
      simp only [Act.put, List.setIfInBounds_toArray, List.set_cons_zero, List.set_cons_succ]
      refine takeF 6 26 ?v15 rfl (Or.inl ⟨by rfl, ?hy15⟩) ?rest15
      case hy15 => intro wz hSw; (try dsimp only at hSw); go_simp; try with_reducible rfl
      simp only [Act.put, List.setIfInBounds_toArray, List.set_cons_zero, List.set_cons_succ]
      refine takeF 7 27 ?v16 rfl (Or.inl ⟨by rfl, ?hy16⟩) ?rest16
      case hy16 => intro wz hSw; (try dsimp only at hSw); go_simp; try with_reducible rfl
      simp only [Act.put, List.setIfInBounds_toArray, List.set_cons_zero, List.set_cons_succ]
      refine wpAnyH_ready (rs := [1, 5]) (by as_aux_lemma => kernel_rfl) (by simp) ?_
      refine AllReadyH.cons rfl (fun K' hK => ?_) (AllReadyH.cons rfl (fun K' hK => ?_) AllReadyH.nil)
      · go_simp
        refine hK.out _ _ trivial (fun _ => ?_)
        clear hK K'
        refine takeF 3 23 ?v17 rfl (Or.inl ⟨by rfl, ?hy17⟩) ?rest17
        case hy17 => intro wz hSw; (try dsimp only at hSw); go_simp; try with_reducible rfl
        simp only [Act.put, List.setIfInBounds_toArray, List.set_cons_zero, List.set_cons_succ]
        refine wpAnyH_ready (rs := [5]) (by as_aux_lemma => kernel_rfl) (by simp) ?_
        refine AllReadyH.cons rfl (fun K' hK => ?_) AllReadyH.nil
        go_simp
        refine hK.out _ _ trivial (fun _ => ?_)
        clear hK K'
        refine takeF 8 28 ?v18 rfl (Or.inl ⟨by rfl, ?hy18⟩) ?rest18
        case hy18 => intro wz hSw; (try dsimp only at hSw); go_simp; try with_reducible rfl
        simp only [Act.put, List.setIfInBounds_toArray, List.set_cons_zero, List.set_cons_succ]
        refine wpAnyH_ready (rs := [9]) (by as_aux_lemma => kernel_rfl) (by simp) ?_
        refine AllReadyH.cons rfl (fun K' hK => ?_) AllReadyH.nil
        go_simp
        refine hK.out _ _ trivial (fun _ => ?_)
        clear hK K'
        refine wpAnyH_ready (rs := [10]) (by as_aux_lemma => kernel_rfl) (by simp) ?_
        refine AllReadyH.cons rfl (fun K' hK => ?_) AllReadyH.nil
        go_simp
        go_wp2_with (go_at_call 146; refine HCON.out.mono ?_; rintro e w6 ⟨v6, rfl, hown6, hw6⟩; have hw46 : Below w4.heap.size w4 w6 := Qc (Qd w4 _) ⟨hw6.os, hw6.tape, hw6.output, hw6.size, hw6.block⟩; rw [HFL.out] at hown6; have hown7 := Qp hown6 (show w4.heap.size ≤ _ from (Qd w4 _).drew.size); obtain ⟨p6, c6, hv6⟩ := Qo hown6; rw [HQN.out] at hv6; subst hv6)
        refine hK.out _ _ trivial (fun _ => ?_)
        clear hK K'
        refine takeF 11 31 ?v19 rfl (Or.inl ⟨by rfl, ?hy19⟩) ?rest19
        case hy19 => intro wz hSw; (try dsimp only at hSw); go_simp; try with_reducible rfl
        simp only [Act.put, List.setIfInBounds_toArray, List.set_cons_zero, List.set_cons_succ]
        have HX6 := hid (Qe HX4.out hw46)
        have z1 := Qa HX6.out 1
        have zf1 := Qb HX6.out 1
        refine wpAnyH_ready (rs := [12]) (by as_aux_lemma => kernel_rfl) (by simp) ?_
        refine AllReadyH.cons rfl (fun K' hK => ?_) AllReadyH.nil
        go_simp
        refine hK.out _ _ trivial (fun _ => ?_)
        clear hK K'
        refine wpAnyH_done (by as_aux_lemma => kernel_rfl) ?_ _
        clear z1 zf1 hown6 hw6 HCON
        have hOw6 : OwnRow (w.heap.size + 3) w6 (.slice p6 (st.length - 1) c6) (sq.take i ++ sq.drop J) := ⟨Qak hown7 (fun k hk => by have := Qs hown7 hk; omega), fun x hx w' ho => HO4.out.ok x ((List.mem_append.1 hx).elim List.mem_of_mem_take List.mem_of_mem_drop) w' (fun k h1 h2 _ => by rw [ho k h1 (Nat.lt_of_lt_of_le h2 hw46.size) (fun e => by have := Qs hown7 e; omega), hw46.block k h2])⟩
        have HX7 : Hid ((w6.setCell ⟨w.heap.size, 1, none⟩ (.slice p6 (st.length - 1) c6)).heap[w.heap.size]? = some (.cells #[.int .i64 nx, .slice p6 (st.length - 1) c6, .int .i64 hi, .bool b0, .bool b1, .bool b2, .bool b3, .bool b4, .bool b5, .bool b6, .bool b7] 71 (0, 0))) := hid (heap_setCell (j := 1) HX6.out (.slice p6 (st.length - 1) c6))
        have HR7 := hid (Qr (Qe HR4.out hw46) n20 1 (.slice p6 (st.length - 1) c6))
        have gS := Qg w6 w.heap.size 1 (.slice p6 (st.length - 1) c6)
        have HO7 := hid (hOw6.box gS (by omega))
        have hb46 := Qc hbw4 hw46
        have hb7 := hb46.grown gS hb46.size (fun k hk => by have := Option.some.inj hk; omega)
        clear gS hb46 hOw6 HX6 hown7 c4 HX4 HR4 HO4
        generalize w6.setCell ⟨w.heap.size, 1, none⟩ (.slice p6 (st.length - 1) c6) = w7 at *
        have x0 := Qa HX7.out 0
        have d0 := Qa HR7.out 0
        have df0 := Qb HR7.out 0
        have x1 := Qa HX7.out 1
        have d1 := Qa HR7.out 1
        have df1 := Qb HR7.out 1
        have x2 := Qa HX7.out 2
        have d2 := Qa HR7.out 2
        have df2 := Qb HR7.out 2
        have x3 := Qa HX7.out 3
        have d3 := Qa HR7.out 3
        have df3 := Qb HR7.out 3
        have x4 := Qa HX7.out 4
        have d4 := Qa HR7.out 4
        have df4 := Qb HR7.out 4
        have x5 := Qa HX7.out 5
        have d5 := Qa HR7.out 5
        have df5 := Qb HR7.out 5
        have x6 := Qa HX7.out 6
        have d6 := Qa HR7.out 6
        have df6 := Qb HR7.out 6
        have x7 := Qa HX7.out 7
        have d7 := Qa HR7.out 7
        have df7 := Qb HR7.out 7
        have x8 := Qa HX7.out 8
        have d8 := Qa HR7.out 8
        have df8 := Qb HR7.out 8
        have x9 := Qa HX7.out 9
        have d9 := Qa HR7.out 9
        have df9 := Qb HR7.out 9
        have x10 := Qa HX7.out 10
        have d10 := Qa HR7.out 10
        have df10 := Qb HR7.out 10
        go_wp2
        have hS := Qj w7 (w.heap.size + 1 + 1) (.int .i64 nx) (.slice p6 (st.length - 1) c6) (.int .i64 hi) (.bool b0) (.bool b1) (.bool b2) (.bool b3) (.bool b4) (.bool b5) (.bool b6) (.bool b7)
        have hW := Ql (.int .i64 nx) (.slice p6 (st.length - 1) c6) (.int .i64 hi) (.bool b0) (.bool b1) (.bool b2) (.bool b3) (.bool b4) (.bool b5) (.bool b6) (.bool b7) (HR7.out)
        have hO := (HO7.out).box hS (by omega)
        have hbE := (hb7).grown hS (hb7).size (fun k hk => by have := Option.some.inj hk; omega)
        exact bodyPost_ret (Qv rfl _ _ (w.heap.size + 1 + 1) _ rfl (Qu rfl hW)) rfl ⟨_, by rw [HTK.out]; rfl, by rw [HTK.out]; exact QC (hO.low (by omega)) HMP.out (by rw [HQN.out]; omega) nx hi b0 b1 b2 b3 b4 b5 b6 b7, hbE⟩
      · go_simp
        refine hK.out _ _ trivial (fun _ => ?_)
        clear hK K'
        refine takeF 8 28 ?v20 rfl (Or.inl ⟨by rfl, ?hy20⟩) ?rest20
        case hy20 => intro wz hSw; (try dsimp only at hSw); go_simp; try with_reducible rfl
        simp only [Act.put, List.setIfInBounds_toArray, List.set_cons_zero, List.set_cons_succ]
        refine wpAnyH_ready (rs := [1]) (by as_aux_lemma => kernel_rfl) (by simp) ?_
        refine AllReadyH.cons rfl (fun K' hK => ?_) AllReadyH.nil
        go_simp
        refine hK.out _ _ trivial (fun _ => ?_)
        clear hK K'
        refine takeF 3 23 ?v21 rfl (Or.inl ⟨by rfl, ?hy21⟩) ?rest21
        case hy21 => intro wz hSw; (try dsimp only at hSw); go_simp; try with_reducible rfl
        simp only [Act.put, List.setIfInBounds_toArray, List.set_cons_zero, List.set_cons_succ]
        refine wpAnyH_ready (rs := [9]) (by as_aux_lemma => kernel_rfl) (by simp) ?_
        refine AllReadyH.cons rfl (fun K' hK => ?_) AllReadyH.nil
        go_simp
        refine hK.out _ _ trivial (fun _ => ?_)
        clear hK K'
        refine wpAnyH_ready (rs := [10]) (by as_aux_lemma => kernel_rfl) (by simp) ?_
        refine AllReadyH.cons rfl (fun K' hK => ?_) AllReadyH.nil
        go_simp
        go_wp2_with (go_at_call 146; refine HCON.out.mono ?_; rintro e w6 ⟨v6, rfl, hown6, hw6⟩; have hw46 : Below w4.heap.size w4 w6 := Qc (Qd w4 _) ⟨hw6.os, hw6.tape, hw6.output, hw6.size, hw6.block⟩; rw [HFL.out] at hown6; have hown7 := Qp hown6 (show w4.heap.size ≤ _ from (Qd w4 _).drew.size); obtain ⟨p6, c6, hv6⟩ := Qo hown6; rw [HQN.out] at hv6; subst hv6)
        refine hK.out _ _ trivial (fun _ => ?_)
        clear hK K'
        refine takeF 11 31 ?v22 rfl (Or.inl ⟨by rfl, ?hy22⟩) ?rest22
        case hy22 => intro wz hSw; (try dsimp only at hSw); go_simp; try with_reducible rfl
        simp only [Act.put, List.setIfInBounds_toArray, List.set_cons_zero, List.set_cons_succ]
        have HX6 := hid (Qe HX4.out hw46)
        have z1 := Qa HX6.out 1
        have zf1 := Qb HX6.out 1
        refine wpAnyH_ready (rs := [12]) (by as_aux_lemma => kernel_rfl) (by simp) ?_
        refine AllReadyH.cons rfl (fun K' hK => ?_) AllReadyH.nil
        go_simp
        refine hK.out _ _ trivial (fun _ => ?_)
        clear hK K'
        refine wpAnyH_done (by as_aux_lemma => kernel_rfl) ?_ _
        clear z1 zf1 hown6 hw6 HCON
        have hOw6 : OwnRow (w.heap.size + 3) w6 (.slice p6 (st.length - 1) c6) (sq.take i ++ sq.drop J) := ⟨Qak hown7 (fun k hk => by have := Qs hown7 hk; omega), fun x hx w' ho => HO4.out.ok x ((List.mem_append.1 hx).elim List.mem_of_mem_take List.mem_of_mem_drop) w' (fun k h1 h2 _ => by rw [ho k h1 (Nat.lt_of_lt_of_le h2 hw46.size) (fun e => by have := Qs hown7 e; omega), hw46.block k h2])⟩
        have HX7 : Hid ((w6.setCell ⟨w.heap.size, 1, none⟩ (.slice p6 (st.length - 1) c6)).heap[w.heap.size]? = some (.cells #[.int .i64 nx, .slice p6 (st.length - 1) c6, .int .i64 hi, .bool b0, .bool b1, .bool b2, .bool b3, .bool b4, .bool b5, .bool b6, .bool b7] 71 (0, 0))) := hid (heap_setCell (j := 1) HX6.out (.slice p6 (st.length - 1) c6))
        have HR7 := hid (Qr (Qe HR4.out hw46) n20 1 (.slice p6 (st.length - 1) c6))
        have gS := Qg w6 w.heap.size 1 (.slice p6 (st.length - 1) c6)
        have HO7 := hid (hOw6.box gS (by omega))
        have hb46 := Qc hbw4 hw46
        have hb7 := hb46.grown gS hb46.size (fun k hk => by have := Option.some.inj hk; omega)
        clear gS hb46 hOw6 HX6 hown7 c4 HX4 HR4 HO4
        generalize w6.setCell ⟨w.heap.size, 1, none⟩ (.slice p6 (st.length - 1) c6) = w7 at *
        have x0 := Qa HX7.out 0
        have d0 := Qa HR7.out 0
        have df0 := Qb HR7.out 0
        have x1 := Qa HX7.out 1
        have d1 := Qa HR7.out 1
        have df1 := Qb HR7.out 1
        have x2 := Qa HX7.out 2
        have d2 := Qa HR7.out 2
        have df2 := Qb HR7.out 2
        have x3 := Qa HX7.out 3
        have d3 := Qa HR7.out 3
        have df3 := Qb HR7.out 3
        have x4 := Qa HX7.out 4
        have d4 := Qa HR7.out 4
        have df4 := Qb HR7.out 4
        have x5 := Qa HX7.out 5
        have d5 := Qa HR7.out 5
        have df5 := Qb HR7.out 5
        have x6 := Qa HX7.out 6
        have d6 := Qa HR7.out 6
        have df6 := Qb HR7.out 6
        have x7 := Qa HX7.out 7
        have d7 := Qa HR7.out 7
        have df7 := Qb HR7.out 7
        have x8 := Qa HX7.out 8
        have d8 := Qa HR7.out 8
        have df8 := Qb HR7.out 8
        have x9 := Qa HX7.out 9
        have d9 := Qa HR7.out 9
        have df9 := Qb HR7.out 9
        have x10 := Qa HX7.out 10
        have d10 := Qa HR7.out 10
        have df10 := Qb HR7.out 10
        go_wp2
        have hS := Qj w7 (w.heap.size + 1 + 1) (.int .i64 nx) (.slice p6 (st.length - 1) c6) (.int .i64 hi) (.bool b0) (.bool b1) (.bool b2) (.bool b3) (.bool b4) (.bool b5) (.bool b6) (.bool b7)
        have hW := Ql (.int .i64 nx) (.slice p6 (st.length - 1) c6) (.int .i64 hi) (.bool b0) (.bool b1) (.bool b2) (.bool b3) (.bool b4) (.bool b5) (.bool b6) (.bool b7) (HR7.out)
        have hO := (HO7.out).box hS (by omega)
        have hbE := (hb7).grown hS (hb7).size (fun k hk => by have := Option.some.inj hk; omega)
        exact bodyPost_ret (Qv rfl _ _ (w.heap.size + 1 + 1) _ rfl (Qu rfl hW)) rfl ⟨_, by rw [HTK.out]; rfl, by rw [HTK.out]; exact QC (hO.low (by omega)) HMP.out (by rw [HQN.out]; omega) nx hi b0 b1 b2 b3 b4 b5 b6 b7, hbE⟩
end Go.Proofs.YtpdijobakfpnbaaGreat
