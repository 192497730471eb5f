/- parcloselaw.LabelJoins answers true at every two labels that are not too long, and turns nothing that was there. -/
import Derived.Test.YtcnlfglkfoaocaaRefJoin
import Derived.Test.YtcnlfglkfoaocaaCombine
namespace Go.Proofs.Ytcnlfglkfoaocaa
open Go.RowKit Go.Proofs.Parclose

set_option maxHeartbeats 2000000 in
theorem lawJoins_any (va vb : Value) (a b : List (Int × Int)) (w : World) (ha : LabAt w va a) (hb : LabAt w vb b) (hwa : WfL a) (hwb : WfL b) (hla : a.length ≤ 1048576) (hlb : b.length ≤ 1048576) :
    Calls Try.prog 4 #[va, vb] w fun e w' => e = .returned (.bool true) ∧ Below w.heap.size w w' := by
  have s1 : sameB (combL max a b) (combL max a b) = true := (sameB_iff _ _).2 rfl
  have s2 : sameB (combL min a b) (combL min a b) = true := (sameB_iff _ _).2 rfl
  go_enter Try.func4, Try.ntmps4
  go_wp2_with fail
  refine (levels_any va a w ha).mono ?_
  rintro e w1 ⟨va1, rfl, la1, b1⟩
  go_wp2_with fail
  refine (levels_any vb b w1 (hb.below b1)).mono ?_
  rintro e w2 ⟨vb1, rfl, lb1, b2'⟩
  have b2 := below_then b1 b2'
  go_wp2_with fail
  refine (join_any va1 vb1 a b w2 (la1.below b2') lb1 (by omega)).mono ?_
  rintro e w3 ⟨vj, rfl, lj, b3'⟩
  have b3 := below_then b2 b3'
  clear la1 lb1 b1 b2 b2' b3'
  go_wp2_with fail
  refine (rjoin_any va vb a b w3 (ha.below b3) (hb.below b3) hwa hwb (by omega)).mono ?_
  rintro e w4 ⟨vr, rfl, lr, b4'⟩
  have b4 := below_then b3 b4'
  go_wp2_with fail
  refine (rsame_any vj vr _ _ w4 (lj.below b4') lr).mono ?_
  rintro e w5 ⟨rfl, b5'⟩
  rw [s1]
  have b5 := below_then b4 b5'
  clear lj lr b3 b4 b4' b5'
  go_wp2_with fail
  refine (levels_any va a w5 (ha.below b5)).mono ?_
  rintro e w6 ⟨va2, rfl, la2, b6'⟩
  have b6 := below_then b5 b6'
  go_wp2_with fail
  refine (levels_any vb b w6 (hb.below b6)).mono ?_
  rintro e w7 ⟨vb2, rfl, lb2, b7'⟩
  have b7 := below_then b6 b7'
  go_wp2_with fail
  refine (meet_any va2 vb2 a b w7 (la2.below b7') lb2 (by omega)).mono ?_
  rintro e w8 ⟨vm, rfl, lm, b8'⟩
  have b8 := below_then b7 b8'
  clear la2 lb2 b5 b6 b7 b6' b7' b8'
  go_wp2_with fail
  refine (rmeet_any va vb a b w8 (ha.below b8) (hb.below b8) hwa hwb (by omega)).mono ?_
  rintro e w9 ⟨vq, rfl, lq, b9'⟩
  have b9 := below_then b8 b9'
  go_wp2_with fail
  refine (rsame_any vm vq _ _ w9 (lm.below b9') lq).mono ?_
  rintro e w10 ⟨rfl, b10'⟩
  rw [s2]
  have b10 := below_then b9 b10'
  go_wp2_with fail
  refine (lflows_any w10).mono ?_
  rintro e w11 ⟨rfl, b11⟩
  go_wp2
  go_ret
  exact ⟨rfl, below_then b10 b11⟩
end Go.Proofs.Ytcnlfglkfoaocaa
