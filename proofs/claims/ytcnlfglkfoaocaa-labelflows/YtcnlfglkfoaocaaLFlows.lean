/- parcloselaw.LabelFlows answers true at every two labels, whatever is owned and every number, and turns nothing that was there. -/
import Derived.Test.YtcnlfglkfoaocaaRefNames
import Derived.Test.YtcnlfglkfoaocaaCopies
namespace Go.Proofs.Ytcnlfglkfoaocaa
open Go.RowKit Go.Proofs.Parclose

set_option maxHeartbeats 2000000 in
theorem lawFlows_any (va vb vo : Value) (a b : List (Int × Int)) (own : List Int) (c : Int) (w : World) (ha : LabAt w va a) (hb : LabAt w vb b) (ho : IntsAt w vo own) (hwa : WfL a) (hwb : WfL b) :
    Calls Try.prog 3 #[va, vb, vo, .int .i64 c] w fun e w' => e = .returned (.bool true) ∧ Below w.heap.size w w' := by
  go_enter Try.func3, Try.ntmps3
  go_wp2_with fail
  refine (levels_any va a w ha).mono ?_
  rintro e w1 ⟨va1, rfl, la1, b1⟩
  go_wp2_with fail
  refine (levels_any vb b w1 (hb.below b1)).mono ?_
  rintro e w2 ⟨vb1, rfl, lb1, b2'⟩
  have b2 := below_then b1 b2'
  go_wp2_with fail
  refine (numbers_any vo own w2 (ho.below b2)).mono ?_
  rintro e w3 ⟨vo1, rfl, lo1, b3'⟩
  have b3 := below_then b2 b3'
  go_wp2_with fail
  refine (flows_any va1 vb1 vo1 a b own w3 (la1.below (below_then b2' b3')) (lb1.below b3') lo1).mono ?_
  rintro e w4 ⟨rfl, b4'⟩
  have b4 := below_then b3 b4'
  clear la1 lb1 lo1 b2' b3' b4' b1 b2 b3
  go_wp2_with fail
  refine (rflows_any va vb vo a b own w4 (ha.below b4) (hb.below b4) (ho.below b4) hwa hwb).mono ?_
  rintro e w5 ⟨rfl, b5'⟩
  have b5 := below_then b4 b5'
  clear b5' b4
  generalize flowsL a b own = f1
  have hf1 : (f1 == f1) = true := by simp
  go_wp2_with fail
  refine (levels_any va a w5 (ha.below b5)).mono ?_
  rintro e w6 ⟨va2, rfl, la2, b6'⟩
  have b6 := below_then b5 b6'
  go_wp2_with fail
  refine (good_any va2 a w6 la2).mono ?_
  rintro e w7 ⟨rfl, b7'⟩
  have b7 := below_then b6 b7'
  clear b6' b7' la2 b5 b6
  go_wp2_with fail
  refine (rgood_any va a w7 (ha.below b7)).mono ?_
  rintro e w8 ⟨rfl, b8'⟩
  have b8 := below_then b7 b8'
  clear b8' b7
  generalize goodB a = g1
  have hg1 : (g1 == g1) = true := by simp
  go_wp2_with fail
  refine (levels_any va a w8 (ha.below b8)).mono ?_
  rintro e w9 ⟨va3, rfl, la3, b9'⟩
  have b9 := below_then b8 b9'
  go_wp2_with fail
  refine (at_any va3 a c w9 la3).mono ?_
  rintro e w10 ⟨rfl, b10'⟩
  have b10 := below_then b9 b10'
  clear b9' b10' la3 b8 b9
  go_wp2_with fail
  refine (rat_any va a c w10 (ha.below b10)).mono ?_
  rintro e w11 ⟨rfl, b11'⟩
  have b11 := below_then b10 b11'
  clear b11' b10
  generalize atL a c = t1
  have ht1 : (t1 == t1) = true := by simp
  go_wp2_with fail
  refine (category_any c w11).mono ?_
  rintro e w11b ⟨rfl, rfl⟩
  go_wp2_with fail
  refine (rcat_any c w11b).mono ?_
  rintro e w11c ⟨rfl, rfl⟩
  generalize catB c = k1
  have hk1 : (k1 == k1) = true := by simp
  go_wp2_with fail
  refine (levels_any va a _ (ha.below b11)).mono ?_
  rintro e w12 ⟨va4, rfl, la4, b12'⟩
  have b12 := below_then b11 b12'
  go_wp2_with fail
  refine (levels_any vb b w12 (hb.below b12)).mono ?_
  rintro e w13 ⟨vb4, rfl, lb4, b13'⟩
  have b13 := below_then b12 b13'
  go_wp2_with fail
  refine (same_any va4 vb4 a b w13 (la4.below b13') lb4).mono ?_
  rintro e w14 ⟨rfl, b14'⟩
  have b14 := below_then b13 b14'
  clear la4 lb4 b12' b13' b14' b11 b12 b13
  go_wp2_with fail
  refine (rsame_any va vb a b w14 (ha.below b14) (hb.below b14)).mono ?_
  rintro e w15 ⟨rfl, b15'⟩
  have b15 := below_then b14 b15'
  generalize sameB a b = s1
  have hs1 : (s1 == s1) = true := by simp
  go_wp2_with fail
  refine (lflows_any w15).mono ?_
  rintro e w16 ⟨rfl, b16'⟩
  go_wp2
  go_ret
  exact ⟨rfl, below_then b15 b16'⟩
end Go.Proofs.Ytcnlfglkfoaocaa
