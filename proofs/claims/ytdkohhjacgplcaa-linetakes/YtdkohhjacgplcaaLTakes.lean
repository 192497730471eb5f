/- The statement LineTakes. -/
import Derived.Test.YtdkohhjacgplcaaLRefT
import Derived.Test.YtdkohhjacgplcaaLRefC
import Derived.Test.YtdkohhjacgplcaaLRefS3
import Derived.Test.YtdkohhjacgplcaaLLines
namespace Go.Proofs.Ytdkohhjacgplcaa
open Go.RowKit Go.Proofs.Parclose

theorem LneAt.of {w : World} {v : Value} {nx hi : Int} {st : List Snt} {b0 b1 b2 b3 b4 b5 b6 b7 : Bool} (h : LneAt w v ⟨nx, st, hi, [b0, b1, b2, b3, b4, b5, b6, b7]⟩) : ∃ p cap, v = .agg #[.int .i64 nx, .slice p st.length cap, .int .i64 hi, .bool b0, .bool b1, .bool b2, .bool b3, .bool b4, .bool b5, .bool b6, .bool b7] ∧ SntsAt w (.slice p st.length cap) st := by
  obtain ⟨vs, rfl, _, hs⟩ := h
  obtain ⟨p, cap, rfl⟩ := hs.slice
  exact ⟨p, cap, rfl, hs⟩

set_option maxRecDepth 100000 in
set_option maxHeartbeats 6400000 in
theorem lineTakes_any (v : Value) (L : Lne) (q : Int) (w : World) (hv : LneAt w v L) :
    Calls Try.prog 5 #[v, .int .i64 q] w fun e w' => e = .returned (.bool true) ∧ Below w.heap.size w w' := by
  have HV := hid hv
  obtain ⟨nx, st, hi, b0, b1, b2, b3, b4, b5, b6, b7, p, cap, rfl, rfl, hs⟩ := hv.spell
  clear hv hs
  go_enter Try.func5, Try.ntmps5
  go_wp2_with fail
  refine (rcopyLine_any _ _ _ (HV.out.below (below_box w _))).mono ?_
  rintro e w1 ⟨v1, rfl, hn1, hw1⟩
  have hb1 := below_then (below_box w _) hw1
  have HX1 := hid (heap_keep (heap_alloc_new w _) hw1)
  obtain ⟨p1, cap1, rfl, hs1⟩ := hn1.at.of
  have hL1 := hn1.at
  clear hw1 hn1 hs1
  go_wp2_with fail
  refine (ltake_any _ _ q _ hL1).mono ?_
  rintro e w2 ⟨v2, rfl, hn2, hw2⟩
  have hb2 := below_then hb1 hw2
  have HX2 := hid (heap_keep HX1.out hw2)
  have hE := takeRef_eq ⟨nx, st, hi, [b0, b1, b2, b3, b4, b5, b6, b7]⟩ q rfl
  obtain ⟨cd, hcd⟩ : ∃ cd, cd = (takeLn ⟨nx, st, hi, [b0, b1, b2, b3, b4, b5, b6, b7]⟩ q).2 := ⟨_, rfl⟩
  rw [← hcd]
  have hcd3 : (takeRef ⟨nx, st, hi, [b0, b1, b2, b3, b4, b5, b6, b7]⟩ q).2 = cd := by rw [hE, hcd]
  have hE1 : (takeRef ⟨nx, st, hi, [b0, b1, b2, b3, b4, b5, b6, b7]⟩ q).1 = (takeLn ⟨nx, st, hi, [b0, b1, b2, b3, b4, b5, b6, b7]⟩ q).1 := by rw [hE]
  obtain ⟨nx2, st2, hi2, b02, b12, b22, b32, b42, b52, b62, b72, p2, cap2, sq2, e2, rfl, hm2, hl2, ho2⟩ := hn2.spell
  rw [e2] at hE1
  have hL2 := hn2.at
  rw [e2] at hL2
  have HL2 := hid (hL2.below (below_box w2 (.cells #[.int .i64 nx2, .slice p2 st2.length cap2, .int .i64 hi2, .bool b02, .bool b12, .bool b22, .bool b32, .bool b42, .bool b52, .bool b62, .bool b72] 25)))
  have HXB := hid (heap_new HX2.out (.cells #[.int .i64 nx2, .slice p2 st2.length cap2, .int .i64 hi2, .bool b02, .bool b12, .bool b22, .bool b32, .bool b42, .bool b52, .bool b62, .bool b72] 25))
  have HXN := hid (heap_alloc_new w2 (.cells #[.int .i64 nx2, .slice p2 st2.length cap2, .int .i64 hi2, .bool b02, .bool b12, .bool b22, .bool b32, .bool b42, .bool b52, .bool b62, .bool b72] 25))
  have hb3 := below_then hb2 (below_box w2 (.cells #[.int .i64 nx2, .slice p2 st2.length cap2, .int .i64 hi2, .bool b02, .bool b12, .bool b22, .bool b32, .bool b42, .bool b52, .bool b62, .bool b72] 25))
  have hLV := HV.out.below hb3
  have HTO := hid (rtakeOn_any _ _ q _ hLV)
  rw [hcd3, hE1] at HTO
  have x0 := heap_cell HX2.out 0
  have x1 := heap_cell HX2.out 1
  have x2 := heap_cell HX2.out 2
  have x3 := heap_cell HX2.out 3
  have x4 := heap_cell HX2.out 4
  have x5 := heap_cell HX2.out 5
  have x6 := heap_cell HX2.out 6
  have x7 := heap_cell HX2.out 7
  have x8 := heap_cell HX2.out 8
  have x9 := heap_cell HX2.out 9
  have x10 := heap_cell HX2.out 10
  have hlt := heap_lt HX2.out
  have n1 : w.heap.size ≠ w2.heap.size := by omega
  have n2 : w2.heap.size ≠ w.heap.size := by omega
  clear hn2 hw2 hE hcd hcd3 hE1 e2 hm2 hl2 ho2 hL1 hL2 hLV HX1 hb1
  go_wp2_with fail
  refine HTO.out.mono ?_
  rintro e w5 ⟨v5, rfl, hn5, hw5⟩
  obtain ⟨p5, cap5, rfl, hs5⟩ := hn5.of
  have hb5 := below_then hb3 hw5
  have HXN5 := hid (heap_keep HXN.out hw5)
  have HL5 := hid (HL2.out.below (below_then hw5 (below_box w5 (.cells #[.int .i64 nx2, .slice p5 st2.length cap5, .int .i64 hi2, .bool b02, .bool b12, .bool b22, .bool b32, .bool b42, .bool b52, .bool b62, .bool b72] 25))))
  have HM5 := hid (hn5.below (below_box w5 (.cells #[.int .i64 nx2, .slice p5 st2.length cap5, .int .i64 hi2, .bool b02, .bool b12, .bool b22, .bool b32, .bool b42, .bool b52, .bool b62, .bool b72] 25)))
  have hb6 := below_then hb5 (below_box w5 (.cells #[.int .i64 nx2, .slice p5 st2.length cap5, .int .i64 hi2, .bool b02, .bool b12, .bool b22, .bool b32, .bool b42, .bool b52, .bool b62, .bool b72] 25))
  have HSL := hid (rsameLine_eq _ _ _ _ HL5.out HM5.out)
  have y0 := heap_cell HXN5.out 0
  have y1 := heap_cell HXN5.out 1
  have y2 := heap_cell HXN5.out 2
  have y3 := heap_cell HXN5.out 3
  have y4 := heap_cell HXN5.out 4
  have y5 := heap_cell HXN5.out 5
  have y6 := heap_cell HXN5.out 6
  have y7 := heap_cell HXN5.out 7
  have y8 := heap_cell HXN5.out 8
  have y9 := heap_cell HXN5.out 9
  have y10 := heap_cell HXN5.out 10
  have hlt5 := heap_lt HXN5.out
  have n3 : w2.heap.size ≠ w5.heap.size := by omega
  have n4 : w5.heap.size ≠ w2.heap.size := by omega
  clear hn5 hs5 hw5 x0 x1 x2 x3 x4 x5 x6 x7 x8 x9 x10 HTO
  go_wp2_with fail
  refine HSL.out.mono ?_
  rintro e w7 ⟨rfl, hw7⟩
  have hb7 := below_then hb6 hw7
  clear hw7
  go_wp2_with (go_at_call 17; refine (llines_any _).mono ?_; rintro e w8 ⟨rfl, hw8⟩)
  go_ret
  exact ⟨ret_bool (by simp), below_then hb7 hw8⟩
end Go.Proofs.Ytdkohhjacgplcaa
