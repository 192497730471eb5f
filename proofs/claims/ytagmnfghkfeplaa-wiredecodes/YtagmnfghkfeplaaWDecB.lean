/- The reference: DecodeFrame of bytes that are too few, and of an unknown kind. -/
import Derived.Test.YtagmnfghkfeplaaWDecA
import Derived.Deep.RegionHeld3
import Derived.Deep.DeepCutAuto
import Derived.Deep.RegionLaw
namespace Go.Proofs.Ytagmnfghkfeplaa
open Go.RowKit Go.Proofs.Parclose

theorem ix3 (a b c : UInt8) (q : List UInt8) : (∀ h : 0 < (⟨(a :: b :: c :: q).toArray⟩ : ByteArray).size, (⟨(a :: b :: c :: q).toArray⟩ : ByteArray)[0]'h = a) ∧ (∀ h : 1 < (⟨(a :: b :: c :: q).toArray⟩ : ByteArray).size, (⟨(a :: b :: c :: q).toArray⟩ : ByteArray)[1]'h = b) ∧ (∀ h : 2 < (⟨(a :: b :: c :: q).toArray⟩ : ByteArray).size, (⟨(a :: b :: c :: q).toArray⟩ : ByteArray)[2]'h = c) := ⟨fun _ => rfl, fun _ => rfl, fun _ => rfl⟩
theorem text_y (a b c : UInt8) (y r : List UInt8) (hy : y.length = 6) : (⟨(a :: b :: c :: (y ++ r)).toArray⟩ : ByteArray).extract 3 9 = ⟨y.toArray⟩ := by
  rw [ByteArray.extract_mk]
  simp only [List.drop_succ_cons, List.drop_zero]
  rw [List.take_append_of_le_length (by omega), List.take_of_length_le (by omega)]
theorem text_r (a b c : UInt8) (y r : List UInt8) (hy : y.length = 6) : (⟨(a :: b :: c :: (y ++ r)).toArray⟩ : ByteArray).extract 9 (6 + r.length + 1 + 1 + 1) = ⟨r.toArray⟩ := by
  rw [ByteArray.extract_mk]
  simp only [List.drop_succ_cons]
  rw [List.drop_append_of_le_length (by omega), List.drop_of_length_le (by omega), List.nil_append, List.take_of_length_le (by omega)]
theorem two_new (w : World) : TwoAt ((w.alloc (.cells zero11 29)).alloc (.cells zero11 29)) w.heap.size := ⟨heap_alloc2_old w _ _, heap_alloc2_new w _ _⟩
theorem below_two (w : World) : Below w.heap.size w ((w.alloc (.cells zero11 29)).alloc (.cells zero11 29)) := (below_box w _).alloc (by simp) _

set_option maxRecDepth 100000 in
set_option maxHeartbeats 3200000 in
theorem rdecode_short (s : List UInt8) (w : World) (h9 : s.length < 9) : Calls Try.prog 20 #[.string ⟨s.toArray⟩] w fun e w' => ∃ v', e = .returned (.tuple #[v', .int .i64 (refDec s).2]) ∧ FrmAt w' v' (refDec s).1 ∧ Below w.heap.size w w' := by
  have HD : Hid (refDec s = (zeroFrm, 1)) := hid (refDec_short h9)
  go_enter Try.func20, Try.ntmps20
  go_wp2
  refine bodyPost_ret (results_ct rfl _ _ w.heap.size _ rfl (load_frame rfl (heap_alloc2_old w _ _))) rfl ⟨.agg zero11, ?_, ?_, ?_⟩
  · rw [HD.out]; rfl
  · rw [HD.out]; exact zero_frm _
  · exact below_two w

set_option maxRecDepth 100000 in
set_option maxHeartbeats 3200000 in
theorem rdecode_bad (a b c : UInt8) (y r : List UInt8) (hy : y.length = 6) (h1 : 1 < a.toNat) (w : World) : Calls Try.prog 20 #[.string ⟨(a :: b :: c :: (y ++ r)).toArray⟩] w fun e w' => ∃ v', e = .returned (.tuple #[v', .int .i64 (refDec (a :: b :: c :: (y ++ r))).2]) ∧ FrmAt w' v' (refDec (a :: b :: c :: (y ++ r))).1 ∧ Below w.heap.size w w' := by
  have HD : Hid (refDec (a :: b :: c :: (y ++ r)) = (zeroFrm, 1)) := hid (by rw [refDec_head a b c y r hy, if_pos h1])
  generalize refDec (a :: b :: c :: (y ++ r)) = D at *
  obtain ⟨hx0, _, _⟩ := ix3 a b c (y ++ r)
  have h1i : (1 : Int) < (a.toNat : Int) := by omega
  go_enter Try.func20, Try.ntmps20
  go_wp2
  refine bodyPost_ret (results_ct rfl _ _ w.heap.size _ rfl (load_frame rfl (heap_alloc2_old w _ _))) rfl ⟨.agg zero11, ?_, ?_, ?_⟩
  · rw [HD.out]; rfl
  · rw [HD.out]; exact zero_frm _
  · exact below_two w

end Go.Proofs.Ytagmnfghkfeplaa
