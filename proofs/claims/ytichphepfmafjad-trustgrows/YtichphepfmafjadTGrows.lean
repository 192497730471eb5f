/- The statement TrustGrows: one cert more trusts no fewer, a later time no more, one of another category or out of its time nobody else. -/
import Derived.Test.YtichphepfmafjadTAsk
import Derived.Test.YtichphepfmafjadTAdd
namespace Go.Proofs.Ytichphepfmafjad
open Go.RowKit Go.Proofs.Parclose

set_option maxRecDepth 100000 in
set_option maxHeartbeats 3200000 in
theorem trustGrows_not (v : Value) (l : List Crt) (x : Crt) (c now later : Int) (w : World) (hv : CrtsAt w v l) (hne : (addL l x).2 ≠ 0) :
    Calls Try.prog 4 #[v, crtV x, .int .i64 c, .int .i64 now, .int .i64 later] w fun e w' => e = .returned (.bool true) ∧ Below w.heap.size w w' := by
  have hadd := fun wx (hb : Below w.heap.size w wx) => add_any v l x wx (hv.below hb)
  have hE : ((addL l x).2 != 0) = true := by simpa using hne
  rw [addL_len hne] at hadd
  generalize (addL l x).2 = E at *
  obtain ⟨p, cap, rfl, _⟩ := id hv
  unfold crtV at hadd ⊢
  clear hne hv
  go_enter Try.func4, Try.ntmps4
  go_wp2_with (first
    | (go_at_call 18; refine (hadd _ (below_box _ _)).mono ?_; rintro e w1 ⟨v1, rfl, hv1, hw1⟩; obtain ⟨p1, c1, rfl, _⟩ := id hv1; have HB1 := hid (below_then (below_box _ _) hw1); clear hw1)
    | (go_at_call 19; refine (ktrusts_any _).mono ?_; rintro e w2 ⟨rfl, hw2⟩))
  go_ret
  exact ⟨rfl, below_then HB1.out hw2⟩

/-- what the four hosts are asked for -/
structure Grown (a b d : Int → Bool) (x : Crt) (c now : Int) : Prop where
  ab : ∀ h, a h = true → b h = true
  da : ∀ h, d h = true → a h = true
  ba : ∀ h, b h = true → a h = false → x.c = c ∧ now ≤ x.u

set_option maxRecDepth 100000 in
set_option maxHeartbeats 6400000 in
theorem trustGrows_yes (v : Value) (l : List Crt) (x : Crt) (c now later : Int) (w : World) (hv : CrtsAt w v l) (h0 : (addL l x).2 = 0) :
    Calls Try.prog 4 #[v, crtV x, .int .i64 c, .int .i64 now, .int .i64 later] w fun e w' => e = .returned (.bool true) ∧ Below w.heap.size w w' := by
  have hadd := fun wx (hb : Below w.heap.size w wx) => add_any v l x wx (hv.below hb)
  have ht1 := fun wx (hb : Below w.heap.size w wx) => trusted_any v l c now wx (hv.below hb)
  have ht2 := fun v1 wx (h : CrtsAt wx v1 (addL l x).1) => trusted_any v1 (addL l x).1 c now wx h
  have ht3 := fun wx (hb : Below w.heap.size w wx) => trusted_any v l c (max now later) wx (hv.below hb)
  obtain ⟨g1, g2, g3, g4, g5⟩ := addL_good h0
  have HAG := hid (addL_again h0)
  have HGR : Hid (Grown (trB l c now) (trB (addL l x).1 c now) (trB l c (max now later)) x c now) := hid ⟨fun h => grow_no_fewer h0, fun h => later_no_more (Int.le_max_left _ _), fun h h1 h2 => by
    by_cases e : x.c = c ∧ now ≤ x.u
    · exact e
    · have := grow_other h0 (by
        by_cases e1 : x.c = c
        · exact Or.inr (by omega)
        · exact Or.inl e1) h1
      rw [h2] at this
      cases this⟩
  have HCS : Hid (csB (addL l x).1 = true) := hid (decide_eq_true g3)
  have HHOME : Hid (catB c = true → trB l c now (c / 20) = true) := hid (fun hc => home_trusted g1 hc)
  rw [h0] at hadd
  generalize (addL l x).1 = A at *
  generalize hta : trB l c now = a at *
  generalize htb : trB A c now = b at *
  generalize htd : trB l c (max now later) = d at *
  unfold trV at ht1 ht2 ht3
  rw [htb] at ht2
  rw [hta] at ht1
  rw [htd] at ht3
  obtain ⟨p, cap, rfl, _⟩ := id hv
  unfold crtV at hadd ⊢
  clear hv g1 g2 g3 g4 g5 h0
  go_enter Try.func4, Try.ntmps4
  go_wp2_with (first
    | (go_at_call 18; refine (hadd _ (below_box _ _)).mono ?_; rintro e w1 ⟨v1, rfl, hv1, hw1⟩; obtain ⟨p1, c1, rfl, _⟩ := id hv1; have HB1 := hid (below_then (below_box _ _) hw1); have HW1 := hid hw1; have HV1 := hid hv1; clear hw1 hv1)
    | (go_at_call 19; refine (ktrusts_any _).mono ?_; rintro e w2 ⟨rfl, hw2⟩; have HW2 := hid (below_then HW1.out hw2); have HB2 := hid (below_then HB1.out hw2); have HV2 := hid (HV1.out.below hw2); clear hw2)
    | (go_at_call_of 7 (Value.slice p1 A.length c1); refine (ht2 _ _ HV3.out).mono ?_; rintro e w4 ⟨rfl, hw4⟩; have HW4 := hid (below_then HW3.out hw4); have HB4 := hid (below_then HB3.out hw4); have HV4 := hid (HV3.out.below hw4); clear hw4)
    | (go_at_call_of 7 (Value.int IntKind.i64 (max now later)); refine (ht3 _ (below_then HB4.out (two_boxes _ _ _))).mono ?_; rintro e w6 ⟨rfl, hw6⟩; have HA6 := hid (heap_keep (heap_new (heap_alloc_new w4 _) _) hw6); have hB6 := heap_keep (heap_alloc_new (w4.alloc _) _) hw6; rw [size_box] at hB6; have HB6 := hid hB6; have HW6 := hid (below_then HW4.out (below_then (two_boxes _ _ _) hw6)); have HC6 := hid (below_then HB4.out (below_then (two_boxes _ _ _) hw6)); have HV6 := hid (HV4.out.below (below_then (two_boxes _ _ _) hw6)); clear hw6 hB6)
    | (go_at_call_of 7 (Value.int IntKind.i64 now); refine (ht1 _ HB2.out).mono ?_; rintro e w3 ⟨rfl, hw3⟩; have HW3 := hid (below_then HW2.out hw3); have HB3 := hid (below_then HB2.out hw3); have HV3 := hid (HV2.out.below hw3); clear hw3))
  have HA7 := hid (heap_new HA6.out (.cells #[.bool (d 0), .bool (d 1), .bool (d 2), .bool (d 3)] 28))
  have HB7 := hid (heap_new HB6.out (.cells #[.bool (d 0), .bool (d 1), .bool (d 2), .bool (d 3)] 28))
  have HD7 := hid (heap_alloc_new w6 (.cells #[.bool (d 0), .bool (d 1), .bool (d 2), .bool (d 3)] 28))
  have HX7 := hid (heap_new (heap_keep (heap_alloc_new w _) HW6.out) (.cells #[.bool (d 0), .bool (d 1), .bool (d 2), .bool (d 3)] 28))
  have HC7 := hid (below_then HC6.out (below_box w6 (.cells #[.bool (d 0), .bool (d 1), .bool (d 2), .bool (d 3)] 28)))
  have HV7 := hid (HV6.out.below (below_box w6 (.cells #[.bool (d 0), .bool (d 1), .bool (d 2), .bool (d 3)] 28)))
  clear HA6 HB6 HW6 HC6 HV6 ht1 ht2 ht3 hadd HW1 HW2 HW3 HW4 HB1 HB2 HB3 HB4 HV1 HV2 HV3 HV4 hta htb htd
  generalize w6.alloc (.cells #[.bool (d 0), .bool (d 1), .bool (d 2), .bool (d 3)] 28) = w7 at *
  go_loopw [51] (fun i wr => ∃ k : Nat, k ≤ 4 ∧ i = .int .i64 k ∧ w7 = wr) (fun i _ => 4 - (intOf i).toNat)
  case atStart => exact ⟨0, Nat.zero_le _, rfl, rfl⟩
  case round =>
    obtain ⟨k, hk, rfl, rfl⟩ := hrel
    have x0 : w7.cell? ⟨w.heap.size, 0, none⟩ = some (.int .i64 x.c) := heap_cell HX7.out 0
    have x3 : w7.cell? ⟨w.heap.size, 3, none⟩ = some (.int .i64 x.u) := heap_cell HX7.out 3
    by_cases hlt : k < 4
    · have ca : w7.cell? ⟨w4.heap.size, k, none⟩ = some (.bool (a k)) := by simpa using tr_cells HA7.out (h := (k : Int)) (by omega) (by omega)
      have cb : w7.cell? ⟨w4.heap.size + 1, k, none⟩ = some (.bool (b k)) := by simpa using tr_cells HB7.out (h := (k : Int)) (by omega) (by omega)
      have cd : w7.cell? ⟨w6.heap.size, k, none⟩ = some (.bool (d k)) := by simpa using tr_cells HD7.out (h := (k : Int)) (by omega) (by omega)
      have k1 := HGR.out.ab k
      have k2 := HGR.out.da k
      have k3 := HGR.out.ba k
      have hk4 : (k : Int) < 4 := by omega
      generalize a k = ak at *
      generalize b k = bk at *
      generalize d k = dk at *
      cases ak with
      | true =>
        have e := k1 rfl
        subst e
        clear k1 k2 k3
        cases dk with
        | true =>
          go_wp2
          go_roundw
          case rel => exact ⟨k + 1, hlt, by go_num, trivial⟩
          case measure => simp [intOf]; omega
        | false =>
          go_wp2
          go_roundw
          case rel => exact ⟨k + 1, hlt, by go_num, trivial⟩
          case measure => simp [intOf]; omega
      | false =>
        cases dk with
        | true => exact absurd (k2 rfl) (by simp)
        | false =>
          cases bk with
          | false =>
            clear k1 k2 k3
            go_wp2
            go_roundw
            case rel => exact ⟨k + 1, hlt, by go_num, trivial⟩
            case measure => simp [intOf]; omega
          | true =>
            obtain ⟨e1, e2⟩ := k3 rfl rfl
            have hne : (x.c != c) = false := by simpa using e1
            have hgt : ¬ (x.u < now) := by omega
            have hgd : decide (x.u < now) = false := by simpa using e2
            clear k1 k2 k3 e1
            go_wp2
            go_roundw
            case rel => exact ⟨k + 1, hlt, by go_num, trivial⟩
            case measure => simp [intOf]; omega
    · have hk4 : k = 4 := by omega
      subst hk4
      have x1 : w7.cell? ⟨w.heap.size, 1, none⟩ = some (.int .i64 x.b) := heap_cell HX7.out 1
      have x2 : w7.cell? ⟨w.heap.size, 2, none⟩ = some (.int .i64 x.h) := heap_cell HX7.out 2
      have hadd := add_any _ A x w7 HV7.out
      simp only [HAG.out] at hadd
      unfold crtV at hadd
      have hgood := fun wx (hb : Below w7.heap.size w7 wx) => tgood_any _ A wx (HV7.out.below hb)
      rw [HCS.out] at hgood
      cases hcat : catB c with
      | false =>
        go_wp2_with (first
          | (go_at_call 18; refine hadd.mono ?_; rintro e w8 ⟨v8, rfl, hv8, hw8⟩; obtain ⟨p8, c8, rfl, _⟩ := id hv8; have HB8 := hid hw8; clear hw8)
          | (go_at_call 20; refine (category_any _ _).mono ?_; rintro e w' ⟨rfl, hq⟩; have hq2 := hq.symm; clear hq; subst hq2)
          | (go_at_call 21; refine (hgood _ HB8.out).mono ?_; rintro e w9 ⟨rfl, hw9⟩))
        go_ret
        exact ⟨rfl, below_then HC7.out (below_then HB8.out hw9)⟩
      | true =>
        have hH := HHOME.out hcat
        have hc80 : 0 ≤ c ∧ c < 80 := of_decide_eq_true hcat
        have hhome := fun wx => home_any c wx hc80.1 (by omega)
        have hh0 : 0 ≤ c / 20 := by omega
        have hh1 : c / 20 < 4 := by omega
        have ca7 := tr_cells HA7.out (h := c / 20) hh0 hh1
        rw [hH] at ca7
        generalize c / 20 = H at *
        go_wp2_with (first
          | (go_at_call 18; refine hadd.mono ?_; rintro e w8 ⟨v8, rfl, hv8, hw8⟩; obtain ⟨p8, c8, rfl, _⟩ := id hv8; have HB8 := hid hw8; have ca8 := hw8.cell (cell_block ca7); rw [ca7] at ca8; clear hw8)
          | (go_at_call 20; refine (category_any _ _).mono ?_; rintro e w' ⟨rfl, hq⟩; have hq2 := hq.symm; clear hq; subst hq2)
          | (go_at_call 16; refine (hhome _).mono ?_; rintro e w' ⟨rfl, hq⟩; have hq2 := hq.symm; clear hq; subst hq2)
          | (go_at_call 21; refine (hgood _ HB8.out).mono ?_; rintro e w9 ⟨rfl, hw9⟩))
        go_ret
        exact ⟨rfl, below_then HC7.out (below_then HB8.out hw9)⟩

theorem trustGrows_any (v : Value) (l : List Crt) (x : Crt) (c now later : Int) (w : World) (hv : CrtsAt w v l) :
    Calls Try.prog 4 #[v, crtV x, .int .i64 c, .int .i64 now, .int .i64 later] w fun e w' => e = .returned (.bool true) ∧ Below w.heap.size w w' := by
  by_cases h : (addL l x).2 = 0
  · exact trustGrows_yes v l x c now later w hv h
  · exact trustGrows_not v l x c now later w hv h
end Go.Proofs.Ytichphepfmafjad
