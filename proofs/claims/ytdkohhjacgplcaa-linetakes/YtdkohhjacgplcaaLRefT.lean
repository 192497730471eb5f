/- The reference: TakeOn answers the line behind the coming of a number, as the document says it. -/
import Derived.Test.YtdkohhjacgplcaaLTake
import Derived.Test.YtdkohhjacgplcaaLRefG
import Derived.Deep.DeepCutAuto
namespace Go.Proofs.Ytdkohhjacgplcaa
open Go.RowKit Go.Proofs.Parclose

/-- what is set of Seen behind k rounds -/
def bitR (l : Lne) (q : Int) (k i : Nat) : Bool := decide (i < k) && seenRef l q i

theorem set_bit (l : Lne) (q : Int) (c0 c1 c2 : Value) (k : Nat) (hk : k < 8) : (#[c0, c1, c2, .bool (bitR l q k 0), .bool (bitR l q k 1), .bool (bitR l q k 2), .bool (bitR l q k 3), .bool (bitR l q k 4), .bool (bitR l q k 5), .bool (bitR l q k 6), .bool (bitR l q k 7)] : Array Value).setIfInBounds (3 + k) (.bool (seenRef l q k)) = #[c0, c1, c2, .bool (bitR l q (k + 1) 0), .bool (bitR l q (k + 1) 1), .bool (bitR l q (k + 1) 2), .bool (bitR l q (k + 1) 3), .bool (bitR l q (k + 1) 4), .bool (bitR l q (k + 1) 5), .bool (bitR l q (k + 1) 6), .bool (bitR l q (k + 1) 7)] := by
  have e : ∀ i j, bitR l q (i + 1) j = (decide (j < i + 1) && seenRef l q j) := fun _ _ => rfl
  match k, hk with
  | 0, _ => simp [bitR]
  | 1, _ => simp [bitR]
  | 2, _ => simp [bitR]
  | 3, _ => simp [bitR]
  | 4, _ => simp [bitR]
  | 5, _ => simp [bitR]
  | 6, _ => simp [bitR]
  | 7, _ => simp [bitR]
theorem bit_cell {w : World} {b : Nat} {c0 c1 c2 : Value} {t : TypeId} {b0 b1 b2 b3 b4 b5 b6 b7 : Bool} (h : w.heap[b]? = some (.cells #[c0, c1, c2, .bool b0, .bool b1, .bool b2, .bool b3, .bool b4, .bool b5, .bool b6, .bool b7] t (0, 0))) (i : Nat) (x : Bool) (hx : ([b0, b1, b2, b3, b4, b5, b6, b7] : List Bool)[i]? = some x) : w.cell? ⟨b, 3 + i, none⟩ = some (.bool x) := by
  rw [heap_cell h]
  have hi : i < 8 := (List.getElem?_eq_some_iff.1 hx).1
  match i, hi, hx with
  | 0, _, hx => cases hx; rfl
  | 1, _, hx => cases hx; rfl
  | 2, _, hx => cases hx; rfl
  | 3, _, hx => cases hx; rfl
  | 4, _, hx => cases hx; rfl
  | 5, _, hx => cases hx; rfl
  | 6, _, hx => cases hx; rfl
  | 7, _, hx => cases hx; rfl
theorem cell_there {w : World} {b : Nat} {y0 y1 y2 y3 y4 y5 y6 y7 y8 y9 y10 : Value} {t : TypeId} (h : w.heap[b]? = some (.cells #[y0, y1, y2, y3, y4, y5, y6, y7, y8, y9, y10] t (0, 0))) (k : Nat) (hk : k < 8) : ∃ u, w.cell? ⟨b, 3 + k, none⟩ = some u := by
  rw [heap_cell h]
  exact ⟨_, Array.getElem?_eq_getElem (show 3 + k < 11 by omega)⟩

set_option maxRecDepth 100000 in
set_option maxHeartbeats 6400000 in
theorem rtakeOn_any (v : Value) (L : Lne) (q : Int) (w : World) (hv : LneAt w v L) :
    Calls Try.prog 23 #[v, .int .i64 q] w fun e w' => ∃ v', e = .returned (.tuple #[v', .int .i64 (takeRef L q).2]) ∧ LneAt w' v' (takeRef L q).1 ∧ Below w.heap.size w w' := by
  obtain ⟨nx, st, hi, b0, b1, b2, b3, b4, b5, b6, b7, p, cap, rfl, rfl, hs⟩ := hv.spell
  have hlen := hs.len
  have HS := hid hs
  have HV := hid hv
  clear hv hs
  have hb0 : Below w.heap.size w ((w.alloc (.cells #[.int .i64 nx, .slice p st.length cap, .int .i64 hi, .bool b0, .bool b1, .bool b2, .bool b3, .bool b4, .bool b5, .bool b6, .bool b7] 25)).alloc (.cells #[.int .i64 0, .slice none 0 0, .int .i64 0, .bool false, .bool false, .bool false, .bool false, .bool false, .bool false, .bool false, .bool false] 25)) := (below_box w _).alloc (by simp) _
  go_enter Try.func23, Try.ntmps23
  go_wp2_with fail
  refine (rgoodLine_any _ _ _ (HV.out.below hb0)).mono ?_
  rintro e w3 ⟨rfl, hw3⟩
  have HX := hid (heap_keep (heap_alloc2_old w _ _) hw3)
  have HR := hid (heap_keep (heap_alloc2_new w _ _) hw3)
  have hbw3 := below_then hb0 hw3
  clear hw3 hb0 HV
  have x0 := heap_cell HX.out 0
  have x1 := heap_cell HX.out 1
  have x2 := heap_cell HX.out 2
  have x3 := heap_cell HX.out 3
  have x4 := heap_cell HX.out 4
  have x5 := heap_cell HX.out 5
  have x6 := heap_cell HX.out 6
  have x7 := heap_cell HX.out 7
  have x8 := heap_cell HX.out 8
  have x9 := heap_cell HX.out 9
  have x10 := heap_cell HX.out 10
  have d0 := heap_cell HR.out 0
  have df0 := heap_frozen HR.out 0
  have d1 := heap_cell HR.out 1
  have df1 := heap_frozen HR.out 1
  have d2 := heap_cell HR.out 2
  have df2 := heap_frozen HR.out 2
  have d3 := heap_cell HR.out 3
  have df3 := heap_frozen HR.out 3
  have d4 := heap_cell HR.out 4
  have df4 := heap_frozen HR.out 4
  have d5 := heap_cell HR.out 5
  have df5 := heap_frozen HR.out 5
  have d6 := heap_cell HR.out 6
  have df6 := heap_frozen HR.out 6
  have d7 := heap_cell HR.out 7
  have df7 := heap_frozen HR.out 7
  have d8 := heap_cell HR.out 8
  have df8 := heap_frozen HR.out 8
  have d9 := heap_cell HR.out 9
  have df9 := heap_frozen HR.out 9
  have d10 := heap_cell HR.out 10
  have df10 := heap_frozen HR.out 10
  have hne : w.heap.size ≠ w.heap.size + 1 := by omega
  have hne2 : w.heap.size + 1 ≠ w.heap.size := by omega
  by_cases hgq : (goodLn ⟨nx, st, hi, [b0, b1, b2, b3, b4, b5, b6, b7]⟩ && decide (1 ≤ q ∧ q ≤ 1099511627776)) = true
  · have hgq2 := hgq
    rw [Bool.and_eq_true, decide_eq_true_eq] at hgq2
    obtain ⟨hg, hq1, hq2⟩ := hgq2
    have hh := goodLn_head hg
    rw [headLn_iff] at hh
    obtain ⟨_, _, h3, h4, _⟩ := hh
    simp only at h3 h4
    rw [hg]
    by_cases ho : 8 ≤ hi - q
    · have HTK : Hid (takeRef ⟨nx, st, hi, [b0, b1, b2, b3, b4, b5, b6, b7]⟩ q = (⟨nx, st, hi, [b0, b1, b2, b3, b4, b5, b6, b7]⟩, 11)) := hid (by unfold takeRef; rw [if_pos hgq, if_pos (show hi - q ≥ 8 from ho)])
      clear hgq
      go_wp2
      have hS := st11_grown w3 (w.heap.size + 1) (.int .i64 nx) (.slice p st.length cap) (.int .i64 hi) (.bool b0) (.bool b1) (.bool b2) (.bool b3) (.bool b4) (.bool b5) (.bool b6) (.bool b7)
      have hW := st11_heap (.int .i64 nx) (.slice p st.length cap) (.int .i64 hi) (.bool b0) (.bool b1) (.bool b2) (.bool b3) (.bool b4) (.bool b5) (.bool b6) (.bool b7) (HR.out)
      have hbE := (hbw3).grown hS (hbw3).size (fun k hk => by have := Option.some.inj hk; omega)
      exact bodyPost_ret (lresults_ct rfl _ _ (w.heap.size + 1) _ rfl (load_line rfl hW)) rfl ⟨_, by rw [HTK.out]; rfl, by rw [HTK.out]; exact lne_of (HS.out.below hbE) nx hi b0 b1 b2 b3 b4 b5 b6 b7, hbE⟩
    · have HTK : Hid (takeRef ⟨nx, st, hi, [b0, b1, b2, b3, b4, b5, b6, b7]⟩ q = if q ≤ hi ∧ ([b0, b1, b2, b3, b4, b5, b6, b7] : List Bool)[(hi - q).toNat]? = some true then (⟨nx, st, hi, [b0, b1, b2, b3, b4, b5, b6, b7]⟩, 10) else (⟨nx, st, max hi q, (List.range 8).map (seenRef ⟨nx, st, hi, [b0, b1, b2, b3, b4, b5, b6, b7]⟩ q)⟩, 0)) := hid (by unfold takeRef; rw [if_pos hgq, if_neg (show ¬ hi - q ≥ 8 from ho)])
      clear hgq
      go_upto_region 5 with fail
      go_cut [39] (fun v39 wx => ∃ tw : Bool, v39 = .bool tw ∧ wx = w3 ∧ takeRef ⟨nx, st, hi, [b0, b1, b2, b3, b4, b5, b6, b7]⟩ q = if tw = true then (⟨nx, st, hi, [b0, b1, b2, b3, b4, b5, b6, b7]⟩, 10) else (⟨nx, st, max hi q, (List.range 8).map (seenRef ⟨nx, st, hi, [b0, b1, b2, b3, b4, b5, b6, b7]⟩ q)⟩, 0))
      case first =>
        by_cases hqh : q ≤ hi
        · have hix : hi - q = 0 ∨ hi - q = 1 ∨ hi - q = 2 ∨ hi - q = 3 ∨ hi - q = 4 ∨ hi - q = 5 ∨ hi - q = 6 ∨ hi - q = 7 := by omega
          rcases hix with hix | hix | hix | hix | hix | hix | hix | hix
          · have HTK2 : Hid (takeRef ⟨nx, st, hi, [b0, b1, b2, b3, b4, b5, b6, b7]⟩ q = if b0 = true then (⟨nx, st, hi, [b0, b1, b2, b3, b4, b5, b6, b7]⟩, 10) else (⟨nx, st, max hi q, (List.range 8).map (seenRef ⟨nx, st, hi, [b0, b1, b2, b3, b4, b5, b6, b7]⟩ q)⟩, 0)) := hid (by
              rw [HTK.out, show (hi - q).toNat = 0 by omega]
              simp only [hqh, true_and]
              cases b0 <;> rfl)
            go_wp2_with fail
            go_meet
            exact ⟨_, rfl, rfl, HTK2.out⟩
          · have HTK2 : Hid (takeRef ⟨nx, st, hi, [b0, b1, b2, b3, b4, b5, b6, b7]⟩ q = if b1 = true then (⟨nx, st, hi, [b0, b1, b2, b3, b4, b5, b6, b7]⟩, 10) else (⟨nx, st, max hi q, (List.range 8).map (seenRef ⟨nx, st, hi, [b0, b1, b2, b3, b4, b5, b6, b7]⟩ q)⟩, 0)) := hid (by
              rw [HTK.out, show (hi - q).toNat = 1 by omega]
              simp only [hqh, true_and]
              cases b1 <;> rfl)
            go_wp2_with fail
            go_meet
            exact ⟨_, rfl, rfl, HTK2.out⟩
          · have HTK2 : Hid (takeRef ⟨nx, st, hi, [b0, b1, b2, b3, b4, b5, b6, b7]⟩ q = if b2 = true then (⟨nx, st, hi, [b0, b1, b2, b3, b4, b5, b6, b7]⟩, 10) else (⟨nx, st, max hi q, (List.range 8).map (seenRef ⟨nx, st, hi, [b0, b1, b2, b3, b4, b5, b6, b7]⟩ q)⟩, 0)) := hid (by
              rw [HTK.out, show (hi - q).toNat = 2 by omega]
              simp only [hqh, true_and]
              cases b2 <;> rfl)
            go_wp2_with fail
            go_meet
            exact ⟨_, rfl, rfl, HTK2.out⟩
          · have HTK2 : Hid (takeRef ⟨nx, st, hi, [b0, b1, b2, b3, b4, b5, b6, b7]⟩ q = if b3 = true then (⟨nx, st, hi, [b0, b1, b2, b3, b4, b5, b6, b7]⟩, 10) else (⟨nx, st, max hi q, (List.range 8).map (seenRef ⟨nx, st, hi, [b0, b1, b2, b3, b4, b5, b6, b7]⟩ q)⟩, 0)) := hid (by
              rw [HTK.out, show (hi - q).toNat = 3 by omega]
              simp only [hqh, true_and]
              cases b3 <;> rfl)
            go_wp2_with fail
            go_meet
            exact ⟨_, rfl, rfl, HTK2.out⟩
          · have HTK2 : Hid (takeRef ⟨nx, st, hi, [b0, b1, b2, b3, b4, b5, b6, b7]⟩ q = if b4 = true then (⟨nx, st, hi, [b0, b1, b2, b3, b4, b5, b6, b7]⟩, 10) else (⟨nx, st, max hi q, (List.range 8).map (seenRef ⟨nx, st, hi, [b0, b1, b2, b3, b4, b5, b6, b7]⟩ q)⟩, 0)) := hid (by
              rw [HTK.out, show (hi - q).toNat = 4 by omega]
              simp only [hqh, true_and]
              cases b4 <;> rfl)
            go_wp2_with fail
            go_meet
            exact ⟨_, rfl, rfl, HTK2.out⟩
          · have HTK2 : Hid (takeRef ⟨nx, st, hi, [b0, b1, b2, b3, b4, b5, b6, b7]⟩ q = if b5 = true then (⟨nx, st, hi, [b0, b1, b2, b3, b4, b5, b6, b7]⟩, 10) else (⟨nx, st, max hi q, (List.range 8).map (seenRef ⟨nx, st, hi, [b0, b1, b2, b3, b4, b5, b6, b7]⟩ q)⟩, 0)) := hid (by
              rw [HTK.out, show (hi - q).toNat = 5 by omega]
              simp only [hqh, true_and]
              cases b5 <;> rfl)
            go_wp2_with fail
            go_meet
            exact ⟨_, rfl, rfl, HTK2.out⟩
          · have HTK2 : Hid (takeRef ⟨nx, st, hi, [b0, b1, b2, b3, b4, b5, b6, b7]⟩ q = if b6 = true then (⟨nx, st, hi, [b0, b1, b2, b3, b4, b5, b6, b7]⟩, 10) else (⟨nx, st, max hi q, (List.range 8).map (seenRef ⟨nx, st, hi, [b0, b1, b2, b3, b4, b5, b6, b7]⟩ q)⟩, 0)) := hid (by
              rw [HTK.out, show (hi - q).toNat = 6 by omega]
              simp only [hqh, true_and]
              cases b6 <;> rfl)
            go_wp2_with fail
            go_meet
            exact ⟨_, rfl, rfl, HTK2.out⟩
          · have HTK2 : Hid (takeRef ⟨nx, st, hi, [b0, b1, b2, b3, b4, b5, b6, b7]⟩ q = if b7 = true then (⟨nx, st, hi, [b0, b1, b2, b3, b4, b5, b6, b7]⟩, 10) else (⟨nx, st, max hi q, (List.range 8).map (seenRef ⟨nx, st, hi, [b0, b1, b2, b3, b4, b5, b6, b7]⟩ q)⟩, 0)) := hid (by
              rw [HTK.out, show (hi - q).toNat = 7 by omega]
              simp only [hqh, true_and]
              cases b7 <;> rfl)
            go_wp2_with fail
            go_meet
            exact ⟨_, rfl, rfl, HTK2.out⟩
        · have HTK2 := hid (HTK.out.trans (if_neg (fun h => hqh h.1)))
          go_wp2_with fail
          go_meet
          exact ⟨false, rfl, rfl, HTK2.out⟩
      case rest =>
        obtain ⟨tw, rfl, hwx, htk⟩ := hcut
        have hwy := hwx.symm
        subst hwy
        clear hwx HTK
        cases tw with
        | true =>
          have HTK : Hid (takeRef ⟨nx, st, hi, [b0, b1, b2, b3, b4, b5, b6, b7]⟩ q = (⟨nx, st, hi, [b0, b1, b2, b3, b4, b5, b6, b7]⟩, 10)) := hid htk
          clear htk
          go_wp2
          have hS := st11_grown w3 (w.heap.size + 1) (.int .i64 nx) (.slice p st.length cap) (.int .i64 hi) (.bool b0) (.bool b1) (.bool b2) (.bool b3) (.bool b4) (.bool b5) (.bool b6) (.bool b7)
          have hW := st11_heap (.int .i64 nx) (.slice p st.length cap) (.int .i64 hi) (.bool b0) (.bool b1) (.bool b2) (.bool b3) (.bool b4) (.bool b5) (.bool b6) (.bool b7) (HR.out)
          have hbE := (hbw3).grown hS (hbw3).size (fun k hk => by have := Option.some.inj hk; omega)
          exact bodyPost_ret (lresults_ct rfl _ _ (w.heap.size + 1) _ rfl (load_line rfl hW)) rfl ⟨_, by rw [HTK.out]; rfl, by rw [HTK.out]; exact lne_of (HS.out.below hbE) nx hi b0 b1 b2 b3 b4 b5 b6 b7, hbE⟩
        | false =>
          have HTK : Hid (takeRef ⟨nx, st, hi, [b0, b1, b2, b3, b4, b5, b6, b7]⟩ q = (⟨nx, st, max hi q, (List.range 8).map (seenRef ⟨nx, st, hi, [b0, b1, b2, b3, b4, b5, b6, b7]⟩ q)⟩, 0)) := hid htk
          clear htk
          by_cases hh : hi < q
          · have hlt3 : w.heap.size + 1 < w3.heap.size := heap_lt HR.out
            have hlt2 : w.heap.size < w3.heap.size := by omega
            have n1 : w.heap.size ≠ w3.heap.size := by omega
            have n2 : w3.heap.size ≠ w.heap.size := by omega
            have n3 : w.heap.size + 1 ≠ w3.heap.size := by omega
            have n4 : w3.heap.size ≠ w.heap.size + 1 := by omega
            go_wp2
            go_loopw [49] (fun i wr => ∃ k : Nat, k ≤ 8 ∧ i = .int .i64 k ∧ wr.heap[w3.heap.size]? = some (.cells #[.int .i64 nx, .slice p st.length cap, .int .i64 q, .bool (bitR ⟨nx, st, hi, [b0, b1, b2, b3, b4, b5, b6, b7]⟩ q k 0), .bool (bitR ⟨nx, st, hi, [b0, b1, b2, b3, b4, b5, b6, b7]⟩ q k 1), .bool (bitR ⟨nx, st, hi, [b0, b1, b2, b3, b4, b5, b6, b7]⟩ q k 2), .bool (bitR ⟨nx, st, hi, [b0, b1, b2, b3, b4, b5, b6, b7]⟩ q k 3), .bool (bitR ⟨nx, st, hi, [b0, b1, b2, b3, b4, b5, b6, b7]⟩ q k 4), .bool (bitR ⟨nx, st, hi, [b0, b1, b2, b3, b4, b5, b6, b7]⟩ q k 5), .bool (bitR ⟨nx, st, hi, [b0, b1, b2, b3, b4, b5, b6, b7]⟩ q k 6), .bool (bitR ⟨nx, st, hi, [b0, b1, b2, b3, b4, b5, b6, b7]⟩ q k 7)] 25 (0, 0)) ∧ wr.heap[w.heap.size]? = some (.cells #[.int .i64 nx, .slice p st.length cap, .int .i64 hi, .bool b0, .bool b1, .bool b2, .bool b3, .bool b4, .bool b5, .bool b6, .bool b7] 25 (0, 0)) ∧ wr.heap[w.heap.size + 1]? = some (.cells #[.int .i64 0, .slice none 0 0, .int .i64 0, .bool false, .bool false, .bool false, .bool false, .bool false, .bool false, .bool false, .bool false] 25 (0, 0)) ∧ Below w.heap.size w wr) (fun i _ => 8 - (intOf i).toNat)
            case atStart => exact ⟨0, Nat.zero_le _, rfl, heap_alloc_new w3 _, heap_new HX.out _, heap_new HR.out _, hbw3.alloc hbw3.size _⟩
            case round =>
              obtain ⟨k, hk, rfl, hO, hX, hR, hb⟩ := hrel
              have HO := hid hO
              have HX1 := hid hX
              have HR1 := hid hR
              by_cases hlt : k < 8
              · have hI : (k : Int) < 8 := by omega
                have y2 := heap_cell hO 2
                have z2 := heap_cell hX 2
                have hfO : wr.frozen? ⟨w3.heap.size, 3 + k, none⟩ = false := heap_frozen hO _
                obtain ⟨uO, hcO⟩ : ∃ u, wr.cell? ⟨w3.heap.size, 3 + k, none⟩ = some u := cell_there hO k hlt
                have hmx : max hi q = q := by omega
                have hsR : seenRef ⟨nx, st, hi, [b0, b1, b2, b3, b4, b5, b6, b7]⟩ q k = (decide (q - (k : Int) = q) || (decide (q - (k : Int) ≤ hi) && decide (hi - (q - (k : Int)) < 8) && (([b0, b1, b2, b3, b4, b5, b6, b7] : List Bool)[(hi - (q - (k : Int))).toNat]?.getD false))) := by
                  unfold seenRef
                  simp only
                  rw [hmx]
                have HSR := hid hsR
                have HSTEP : Hid (∀ x, x = seenRef ⟨nx, st, hi, [b0, b1, b2, b3, b4, b5, b6, b7]⟩ q k → (wr.setCell ⟨w3.heap.size, 3 + k, none⟩ (.bool x)).heap[w3.heap.size]? = some (.cells #[.int .i64 nx, .slice p st.length cap, .int .i64 q, .bool (bitR ⟨nx, st, hi, [b0, b1, b2, b3, b4, b5, b6, b7]⟩ q (k + 1) 0), .bool (bitR ⟨nx, st, hi, [b0, b1, b2, b3, b4, b5, b6, b7]⟩ q (k + 1) 1), .bool (bitR ⟨nx, st, hi, [b0, b1, b2, b3, b4, b5, b6, b7]⟩ q (k + 1) 2), .bool (bitR ⟨nx, st, hi, [b0, b1, b2, b3, b4, b5, b6, b7]⟩ q (k + 1) 3), .bool (bitR ⟨nx, st, hi, [b0, b1, b2, b3, b4, b5, b6, b7]⟩ q (k + 1) 4), .bool (bitR ⟨nx, st, hi, [b0, b1, b2, b3, b4, b5, b6, b7]⟩ q (k + 1) 5), .bool (bitR ⟨nx, st, hi, [b0, b1, b2, b3, b4, b5, b6, b7]⟩ q (k + 1) 6), .bool (bitR ⟨nx, st, hi, [b0, b1, b2, b3, b4, b5, b6, b7]⟩ q (k + 1) 7)] 25 (0, 0))) := hid (fun x hx => by
                  rw [heap_setCell HO.out, hx, set_bit _ _ _ _ _ k hlt])
                have HG := hid (grown_setCell wr w3.heap.size (3 + k))
                clear hO hX hR hsR hmx
                by_cases a1 : q - (k : Int) = q
                · have a1b : (q - (k : Int) == q) = true := beq_iff_eq.2 a1
                  go_wp2
                  go_roundw
                  case rel => exact ⟨k + 1, hlt, by go_num, HSTEP.out _ (by rw [HSR.out, decide_eq_true a1]; rfl), heap_tk HX1.out n1 (HG.out _), heap_tk HR1.out n3 (HG.out _), hb.grown (HG.out _) hb.size (fun i hi => by have := Option.some.inj hi; omega)⟩
                  case measure => simp [intOf]; omega
                · have a1b : (q - (k : Int) == q) = false := beq_eq_false_iff_ne.2 a1
                  by_cases a2 : q - (k : Int) ≤ hi
                  · by_cases a3 : hi - (q - (k : Int)) < 8
                    · have a4 : 0 ≤ hi - (q - (k : Int)) := by omega
                      obtain ⟨sx, hsx⟩ : ∃ sx, ([b0, b1, b2, b3, b4, b5, b6, b7] : List Bool)[(hi - (q - (k : Int))).toNat]? = some sx := ⟨_, List.getElem?_eq_getElem (show _ < 8 by omega)⟩
                      have hidx := bit_cell HX1.out _ sx hsx
                      have HSX := hid hsx
                      have a1' := a1
                      have a2' := a2
                      have a3' := a3
                      have A1 := hid a1'
                      have A2 := hid a2'
                      have A3 := hid a3'
                      clear a1' a2' a3'
                      clear hsx
                      go_wp2
                      go_roundw
                      case rel => exact ⟨k + 1, hlt, by go_num, HSTEP.out _ (by rw [HSR.out, decide_eq_false A1.out, decide_eq_true A2.out, decide_eq_true A3.out, HSX.out]; rfl), heap_tk HX1.out n1 (HG.out _), heap_tk HR1.out n3 (HG.out _), hb.grown (HG.out _) hb.size (fun i hi => by have := Option.some.inj hi; omega)⟩
                      case measure => simp [intOf]; omega
                    · exfalso
                      omega
                  · have HF : Hid (false = seenRef ⟨nx, st, hi, [b0, b1, b2, b3, b4, b5, b6, b7]⟩ q k) := hid (by rw [HSR.out, decide_eq_false a1, decide_eq_false a2]; rfl)
                    go_wp2
                    go_roundw
                    case rel => exact ⟨k + 1, hlt, by go_num, HSTEP.out _ HF.out, heap_tk HX1.out n1 (HG.out _), heap_tk HR1.out n3 (HG.out _), hb.grown (HG.out _) hb.size (fun i hi => by have := Option.some.inj hi; omega)⟩
                    case measure => simp [intOf]; omega
              · have hI : ¬ (k : Int) < 8 := by omega
                have hk8 : k = 8 := by omega
                subst hk8
                have hmx : max hi q = q := by omega
                have HE : Hid ((⟨nx, st, max hi q, (List.range 8).map (seenRef ⟨nx, st, hi, [b0, b1, b2, b3, b4, b5, b6, b7]⟩ q)⟩ : Lne) = ⟨nx, st, q, [bitR ⟨nx, st, hi, [b0, b1, b2, b3, b4, b5, b6, b7]⟩ q 8 0, bitR ⟨nx, st, hi, [b0, b1, b2, b3, b4, b5, b6, b7]⟩ q 8 1, bitR ⟨nx, st, hi, [b0, b1, b2, b3, b4, b5, b6, b7]⟩ q 8 2, bitR ⟨nx, st, hi, [b0, b1, b2, b3, b4, b5, b6, b7]⟩ q 8 3, bitR ⟨nx, st, hi, [b0, b1, b2, b3, b4, b5, b6, b7]⟩ q 8 4, bitR ⟨nx, st, hi, [b0, b1, b2, b3, b4, b5, b6, b7]⟩ q 8 5, bitR ⟨nx, st, hi, [b0, b1, b2, b3, b4, b5, b6, b7]⟩ q 8 6, bitR ⟨nx, st, hi, [b0, b1, b2, b3, b4, b5, b6, b7]⟩ q 8 7]⟩) := hid (by rw [hmx]; rfl)
                have y0 := heap_cell hO 0
                have y1 := heap_cell hO 1
                have y2 := heap_cell hO 2
                have y3 := heap_cell hO 3
                have y4 := heap_cell hO 4
                have y5 := heap_cell hO 5
                have y6 := heap_cell hO 6
                have y7 := heap_cell hO 7
                have y8 := heap_cell hO 8
                have y9 := heap_cell hO 9
                have y10 := heap_cell hO 10
                have r0 := heap_cell hR 0
                have rf0 := heap_frozen hR 0
                have r1 := heap_cell hR 1
                have rf1 := heap_frozen hR 1
                have r2 := heap_cell hR 2
                have rf2 := heap_frozen hR 2
                have r3 := heap_cell hR 3
                have rf3 := heap_frozen hR 3
                have r4 := heap_cell hR 4
                have rf4 := heap_frozen hR 4
                have r5 := heap_cell hR 5
                have rf5 := heap_frozen hR 5
                have r6 := heap_cell hR 6
                have rf6 := heap_frozen hR 6
                have r7 := heap_cell hR 7
                have rf7 := heap_frozen hR 7
                have r8 := heap_cell hR 8
                have rf8 := heap_frozen hR 8
                have r9 := heap_cell hR 9
                have rf9 := heap_frozen hR 9
                have r10 := heap_cell hR 10
                have rf10 := heap_frozen hR 10
                clear hO hX hR hmx
                go_wp2
                have hS := st11_grown wr (w.heap.size + 1) (.int .i64 nx) (.slice p st.length cap) (.int .i64 q) (.bool (bitR ⟨nx, st, hi, [b0, b1, b2, b3, b4, b5, b6, b7]⟩ q 8 0)) (.bool (bitR ⟨nx, st, hi, [b0, b1, b2, b3, b4, b5, b6, b7]⟩ q 8 1)) (.bool (bitR ⟨nx, st, hi, [b0, b1, b2, b3, b4, b5, b6, b7]⟩ q 8 2)) (.bool (bitR ⟨nx, st, hi, [b0, b1, b2, b3, b4, b5, b6, b7]⟩ q 8 3)) (.bool (bitR ⟨nx, st, hi, [b0, b1, b2, b3, b4, b5, b6, b7]⟩ q 8 4)) (.bool (bitR ⟨nx, st, hi, [b0, b1, b2, b3, b4, b5, b6, b7]⟩ q 8 5)) (.bool (bitR ⟨nx, st, hi, [b0, b1, b2, b3, b4, b5, b6, b7]⟩ q 8 6)) (.bool (bitR ⟨nx, st, hi, [b0, b1, b2, b3, b4, b5, b6, b7]⟩ q 8 7))
                have hW := st11_heap (.int .i64 nx) (.slice p st.length cap) (.int .i64 q) (.bool (bitR ⟨nx, st, hi, [b0, b1, b2, b3, b4, b5, b6, b7]⟩ q 8 0)) (.bool (bitR ⟨nx, st, hi, [b0, b1, b2, b3, b4, b5, b6, b7]⟩ q 8 1)) (.bool (bitR ⟨nx, st, hi, [b0, b1, b2, b3, b4, b5, b6, b7]⟩ q 8 2)) (.bool (bitR ⟨nx, st, hi, [b0, b1, b2, b3, b4, b5, b6, b7]⟩ q 8 3)) (.bool (bitR ⟨nx, st, hi, [b0, b1, b2, b3, b4, b5, b6, b7]⟩ q 8 4)) (.bool (bitR ⟨nx, st, hi, [b0, b1, b2, b3, b4, b5, b6, b7]⟩ q 8 5)) (.bool (bitR ⟨nx, st, hi, [b0, b1, b2, b3, b4, b5, b6, b7]⟩ q 8 6)) (.bool (bitR ⟨nx, st, hi, [b0, b1, b2, b3, b4, b5, b6, b7]⟩ q 8 7)) HR1.out
                have hbE := hb.grown hS hb.size (fun k hk => by have := Option.some.inj hk; omega)
                exact bodyPost_ret (lresults_ct rfl _ _ (w.heap.size + 1) _ rfl (load_line rfl hW)) rfl ⟨_, by rw [HTK.out]; rfl, by rw [HTK.out, HE.out]; exact lne_of (HS.out.below hbE) nx q (bitR ⟨nx, st, hi, [b0, b1, b2, b3, b4, b5, b6, b7]⟩ q 8 0) (bitR ⟨nx, st, hi, [b0, b1, b2, b3, b4, b5, b6, b7]⟩ q 8 1) (bitR ⟨nx, st, hi, [b0, b1, b2, b3, b4, b5, b6, b7]⟩ q 8 2) (bitR ⟨nx, st, hi, [b0, b1, b2, b3, b4, b5, b6, b7]⟩ q 8 3) (bitR ⟨nx, st, hi, [b0, b1, b2, b3, b4, b5, b6, b7]⟩ q 8 4) (bitR ⟨nx, st, hi, [b0, b1, b2, b3, b4, b5, b6, b7]⟩ q 8 5) (bitR ⟨nx, st, hi, [b0, b1, b2, b3, b4, b5, b6, b7]⟩ q 8 6) (bitR ⟨nx, st, hi, [b0, b1, b2, b3, b4, b5, b6, b7]⟩ q 8 7), hbE⟩
          · have hlt3 : w.heap.size + 1 < w3.heap.size := heap_lt HR.out
            have hlt2 : w.heap.size < w3.heap.size := by omega
            have n1 : w.heap.size ≠ w3.heap.size := by omega
            have n2 : w3.heap.size ≠ w.heap.size := by omega
            have n3 : w.heap.size + 1 ≠ w3.heap.size := by omega
            have n4 : w3.heap.size ≠ w.heap.size + 1 := by omega
            go_wp2
            go_loopw [49] (fun i wr => ∃ k : Nat, k ≤ 8 ∧ i = .int .i64 k ∧ wr.heap[w3.heap.size]? = some (.cells #[.int .i64 nx, .slice p st.length cap, .int .i64 hi, .bool (bitR ⟨nx, st, hi, [b0, b1, b2, b3, b4, b5, b6, b7]⟩ q k 0), .bool (bitR ⟨nx, st, hi, [b0, b1, b2, b3, b4, b5, b6, b7]⟩ q k 1), .bool (bitR ⟨nx, st, hi, [b0, b1, b2, b3, b4, b5, b6, b7]⟩ q k 2), .bool (bitR ⟨nx, st, hi, [b0, b1, b2, b3, b4, b5, b6, b7]⟩ q k 3), .bool (bitR ⟨nx, st, hi, [b0, b1, b2, b3, b4, b5, b6, b7]⟩ q k 4), .bool (bitR ⟨nx, st, hi, [b0, b1, b2, b3, b4, b5, b6, b7]⟩ q k 5), .bool (bitR ⟨nx, st, hi, [b0, b1, b2, b3, b4, b5, b6, b7]⟩ q k 6), .bool (bitR ⟨nx, st, hi, [b0, b1, b2, b3, b4, b5, b6, b7]⟩ q k 7)] 25 (0, 0)) ∧ wr.heap[w.heap.size]? = some (.cells #[.int .i64 nx, .slice p st.length cap, .int .i64 hi, .bool b0, .bool b1, .bool b2, .bool b3, .bool b4, .bool b5, .bool b6, .bool b7] 25 (0, 0)) ∧ wr.heap[w.heap.size + 1]? = some (.cells #[.int .i64 0, .slice none 0 0, .int .i64 0, .bool false, .bool false, .bool false, .bool false, .bool false, .bool false, .bool false, .bool false] 25 (0, 0)) ∧ Below w.heap.size w wr) (fun i _ => 8 - (intOf i).toNat)
            case atStart => exact ⟨0, Nat.zero_le _, rfl, heap_alloc_new w3 _, heap_new HX.out _, heap_new HR.out _, hbw3.alloc hbw3.size _⟩
            case round =>
              obtain ⟨k, hk, rfl, hO, hX, hR, hb⟩ := hrel
              have HO := hid hO
              have HX1 := hid hX
              have HR1 := hid hR
              by_cases hlt : k < 8
              · have hI : (k : Int) < 8 := by omega
                have y2 := heap_cell hO 2
                have z2 := heap_cell hX 2
                have hfO : wr.frozen? ⟨w3.heap.size, 3 + k, none⟩ = false := heap_frozen hO _
                obtain ⟨uO, hcO⟩ : ∃ u, wr.cell? ⟨w3.heap.size, 3 + k, none⟩ = some u := cell_there hO k hlt
                have hmx : max hi q = hi := by omega
                have hsR : seenRef ⟨nx, st, hi, [b0, b1, b2, b3, b4, b5, b6, b7]⟩ q k = (decide (hi - (k : Int) = q) || (decide (hi - (k : Int) ≤ hi) && decide (hi - (hi - (k : Int)) < 8) && (([b0, b1, b2, b3, b4, b5, b6, b7] : List Bool)[(hi - (hi - (k : Int))).toNat]?.getD false))) := by
                  unfold seenRef
                  simp only
                  rw [hmx]
                have HSR := hid hsR
                have HSTEP : Hid (∀ x, x = seenRef ⟨nx, st, hi, [b0, b1, b2, b3, b4, b5, b6, b7]⟩ q k → (wr.setCell ⟨w3.heap.size, 3 + k, none⟩ (.bool x)).heap[w3.heap.size]? = some (.cells #[.int .i64 nx, .slice p st.length cap, .int .i64 hi, .bool (bitR ⟨nx, st, hi, [b0, b1, b2, b3, b4, b5, b6, b7]⟩ q (k + 1) 0), .bool (bitR ⟨nx, st, hi, [b0, b1, b2, b3, b4, b5, b6, b7]⟩ q (k + 1) 1), .bool (bitR ⟨nx, st, hi, [b0, b1, b2, b3, b4, b5, b6, b7]⟩ q (k + 1) 2), .bool (bitR ⟨nx, st, hi, [b0, b1, b2, b3, b4, b5, b6, b7]⟩ q (k + 1) 3), .bool (bitR ⟨nx, st, hi, [b0, b1, b2, b3, b4, b5, b6, b7]⟩ q (k + 1) 4), .bool (bitR ⟨nx, st, hi, [b0, b1, b2, b3, b4, b5, b6, b7]⟩ q (k + 1) 5), .bool (bitR ⟨nx, st, hi, [b0, b1, b2, b3, b4, b5, b6, b7]⟩ q (k + 1) 6), .bool (bitR ⟨nx, st, hi, [b0, b1, b2, b3, b4, b5, b6, b7]⟩ q (k + 1) 7)] 25 (0, 0))) := hid (fun x hx => by
                  rw [heap_setCell HO.out, hx, set_bit _ _ _ _ _ k hlt])
                have HG := hid (grown_setCell wr w3.heap.size (3 + k))
                clear hO hX hR hsR hmx
                by_cases a1 : hi - (k : Int) = q
                · have a1b : (hi - (k : Int) == q) = true := beq_iff_eq.2 a1
                  go_wp2
                  go_roundw
                  case rel => exact ⟨k + 1, hlt, by go_num, HSTEP.out _ (by rw [HSR.out, decide_eq_true a1]; rfl), heap_tk HX1.out n1 (HG.out _), heap_tk HR1.out n3 (HG.out _), hb.grown (HG.out _) hb.size (fun i hi => by have := Option.some.inj hi; omega)⟩
                  case measure => simp [intOf]; omega
                · have a1b : (hi - (k : Int) == q) = false := beq_eq_false_iff_ne.2 a1
                  by_cases a2 : hi - (k : Int) ≤ hi
                  · by_cases a3 : hi - (hi - (k : Int)) < 8
                    · have a4 : 0 ≤ hi - (hi - (k : Int)) := by omega
                      obtain ⟨sx, hsx⟩ : ∃ sx, ([b0, b1, b2, b3, b4, b5, b6, b7] : List Bool)[(hi - (hi - (k : Int))).toNat]? = some sx := ⟨_, List.getElem?_eq_getElem (show _ < 8 by omega)⟩
                      have hidx := bit_cell HX1.out _ sx hsx
                      have HSX := hid hsx
                      have a1' := a1
                      have a2' := a2
                      have a3' := a3
                      have A1 := hid a1'
                      have A2 := hid a2'
                      have A3 := hid a3'
                      clear a1' a2' a3'
                      clear hsx
                      have hix2 := hidx
                      rw [show (hi - (hi - (k : Int))).toNat = k by omega] at hix2
                      go_wp2
                      go_roundw
                      case rel => exact ⟨k + 1, hlt, by go_num, HSTEP.out _ (by rw [HSR.out, decide_eq_false A1.out, decide_eq_true A2.out, decide_eq_true A3.out, HSX.out]; rfl), heap_tk HX1.out n1 (HG.out _), heap_tk HR1.out n3 (HG.out _), hb.grown (HG.out _) hb.size (fun i hi => by have := Option.some.inj hi; omega)⟩
                      case measure => simp [intOf]; omega
                    · exfalso
                      omega
                  · exfalso
                    omega
              · have hI : ¬ (k : Int) < 8 := by omega
                have hk8 : k = 8 := by omega
                subst hk8
                have hmx : max hi q = hi := by omega
                have HE : Hid ((⟨nx, st, max hi q, (List.range 8).map (seenRef ⟨nx, st, hi, [b0, b1, b2, b3, b4, b5, b6, b7]⟩ q)⟩ : Lne) = ⟨nx, st, hi, [bitR ⟨nx, st, hi, [b0, b1, b2, b3, b4, b5, b6, b7]⟩ q 8 0, bitR ⟨nx, st, hi, [b0, b1, b2, b3, b4, b5, b6, b7]⟩ q 8 1, bitR ⟨nx, st, hi, [b0, b1, b2, b3, b4, b5, b6, b7]⟩ q 8 2, bitR ⟨nx, st, hi, [b0, b1, b2, b3, b4, b5, b6, b7]⟩ q 8 3, bitR ⟨nx, st, hi, [b0, b1, b2, b3, b4, b5, b6, b7]⟩ q 8 4, bitR ⟨nx, st, hi, [b0, b1, b2, b3, b4, b5, b6, b7]⟩ q 8 5, bitR ⟨nx, st, hi, [b0, b1, b2, b3, b4, b5, b6, b7]⟩ q 8 6, bitR ⟨nx, st, hi, [b0, b1, b2, b3, b4, b5, b6, b7]⟩ q 8 7]⟩) := hid (by rw [hmx]; rfl)
                have y0 := heap_cell hO 0
                have y1 := heap_cell hO 1
                have y2 := heap_cell hO 2
                have y3 := heap_cell hO 3
                have y4 := heap_cell hO 4
                have y5 := heap_cell hO 5
                have y6 := heap_cell hO 6
                have y7 := heap_cell hO 7
                have y8 := heap_cell hO 8
                have y9 := heap_cell hO 9
                have y10 := heap_cell hO 10
                have r0 := heap_cell hR 0
                have rf0 := heap_frozen hR 0
                have r1 := heap_cell hR 1
                have rf1 := heap_frozen hR 1
                have r2 := heap_cell hR 2
                have rf2 := heap_frozen hR 2
                have r3 := heap_cell hR 3
                have rf3 := heap_frozen hR 3
                have r4 := heap_cell hR 4
                have rf4 := heap_frozen hR 4
                have r5 := heap_cell hR 5
                have rf5 := heap_frozen hR 5
                have r6 := heap_cell hR 6
                have rf6 := heap_frozen hR 6
                have r7 := heap_cell hR 7
                have rf7 := heap_frozen hR 7
                have r8 := heap_cell hR 8
                have rf8 := heap_frozen hR 8
                have r9 := heap_cell hR 9
                have rf9 := heap_frozen hR 9
                have r10 := heap_cell hR 10
                have rf10 := heap_frozen hR 10
                clear hO hX hR hmx
                go_wp2
                have hS := st11_grown wr (w.heap.size + 1) (.int .i64 nx) (.slice p st.length cap) (.int .i64 hi) (.bool (bitR ⟨nx, st, hi, [b0, b1, b2, b3, b4, b5, b6, b7]⟩ q 8 0)) (.bool (bitR ⟨nx, st, hi, [b0, b1, b2, b3, b4, b5, b6, b7]⟩ q 8 1)) (.bool (bitR ⟨nx, st, hi, [b0, b1, b2, b3, b4, b5, b6, b7]⟩ q 8 2)) (.bool (bitR ⟨nx, st, hi, [b0, b1, b2, b3, b4, b5, b6, b7]⟩ q 8 3)) (.bool (bitR ⟨nx, st, hi, [b0, b1, b2, b3, b4, b5, b6, b7]⟩ q 8 4)) (.bool (bitR ⟨nx, st, hi, [b0, b1, b2, b3, b4, b5, b6, b7]⟩ q 8 5)) (.bool (bitR ⟨nx, st, hi, [b0, b1, b2, b3, b4, b5, b6, b7]⟩ q 8 6)) (.bool (bitR ⟨nx, st, hi, [b0, b1, b2, b3, b4, b5, b6, b7]⟩ q 8 7))
                have hW := st11_heap (.int .i64 nx) (.slice p st.length cap) (.int .i64 hi) (.bool (bitR ⟨nx, st, hi, [b0, b1, b2, b3, b4, b5, b6, b7]⟩ q 8 0)) (.bool (bitR ⟨nx, st, hi, [b0, b1, b2, b3, b4, b5, b6, b7]⟩ q 8 1)) (.bool (bitR ⟨nx, st, hi, [b0, b1, b2, b3, b4, b5, b6, b7]⟩ q 8 2)) (.bool (bitR ⟨nx, st, hi, [b0, b1, b2, b3, b4, b5, b6, b7]⟩ q 8 3)) (.bool (bitR ⟨nx, st, hi, [b0, b1, b2, b3, b4, b5, b6, b7]⟩ q 8 4)) (.bool (bitR ⟨nx, st, hi, [b0, b1, b2, b3, b4, b5, b6, b7]⟩ q 8 5)) (.bool (bitR ⟨nx, st, hi, [b0, b1, b2, b3, b4, b5, b6, b7]⟩ q 8 6)) (.bool (bitR ⟨nx, st, hi, [b0, b1, b2, b3, b4, b5, b6, b7]⟩ q 8 7)) HR1.out
                have hbE := hb.grown hS hb.size (fun k hk => by have := Option.some.inj hk; omega)
                exact bodyPost_ret (lresults_ct rfl _ _ (w.heap.size + 1) _ rfl (load_line rfl hW)) rfl ⟨_, by rw [HTK.out]; rfl, by rw [HTK.out, HE.out]; exact lne_of (HS.out.below hbE) nx hi (bitR ⟨nx, st, hi, [b0, b1, b2, b3, b4, b5, b6, b7]⟩ q 8 0) (bitR ⟨nx, st, hi, [b0, b1, b2, b3, b4, b5, b6, b7]⟩ q 8 1) (bitR ⟨nx, st, hi, [b0, b1, b2, b3, b4, b5, b6, b7]⟩ q 8 2) (bitR ⟨nx, st, hi, [b0, b1, b2, b3, b4, b5, b6, b7]⟩ q 8 3) (bitR ⟨nx, st, hi, [b0, b1, b2, b3, b4, b5, b6, b7]⟩ q 8 4) (bitR ⟨nx, st, hi, [b0, b1, b2, b3, b4, b5, b6, b7]⟩ q 8 5) (bitR ⟨nx, st, hi, [b0, b1, b2, b3, b4, b5, b6, b7]⟩ q 8 6) (bitR ⟨nx, st, hi, [b0, b1, b2, b3, b4, b5, b6, b7]⟩ q 8 7), hbE⟩
  · have HTK : Hid (takeRef ⟨nx, st, hi, [b0, b1, b2, b3, b4, b5, b6, b7]⟩ q = (⟨nx, st, hi, [b0, b1, b2, b3, b4, b5, b6, b7]⟩, 2)) := hid (by unfold takeRef; rw [if_neg hgq])
    cases hg : goodLn ⟨nx, st, hi, [b0, b1, b2, b3, b4, b5, b6, b7]⟩ with
    | false =>
      clear hgq
      go_wp2
      have hS := st11_grown w3 (w.heap.size + 1) (.int .i64 nx) (.slice p st.length cap) (.int .i64 hi) (.bool b0) (.bool b1) (.bool b2) (.bool b3) (.bool b4) (.bool b5) (.bool b6) (.bool b7)
      have hW := st11_heap (.int .i64 nx) (.slice p st.length cap) (.int .i64 hi) (.bool b0) (.bool b1) (.bool b2) (.bool b3) (.bool b4) (.bool b5) (.bool b6) (.bool b7) (HR.out)
      have hbE := (hbw3).grown hS (hbw3).size (fun k hk => by have := Option.some.inj hk; omega)
      exact bodyPost_ret (lresults_ct rfl _ _ (w.heap.size + 1) _ rfl (load_line rfl hW)) rfl ⟨_, by rw [HTK.out]; rfl, by rw [HTK.out]; exact lne_of (HS.out.below hbE) nx hi b0 b1 b2 b3 b4 b5 b6 b7, hbE⟩
    | true =>
      rw [hg, Bool.true_and, decide_eq_true_eq] at hgq
      by_cases hq1 : 1 ≤ q
      · have hq2 : 1099511627776 < q := by omega
        clear hgq
        go_wp2
        have hS := st11_grown w3 (w.heap.size + 1) (.int .i64 nx) (.slice p st.length cap) (.int .i64 hi) (.bool b0) (.bool b1) (.bool b2) (.bool b3) (.bool b4) (.bool b5) (.bool b6) (.bool b7)
        have hW := st11_heap (.int .i64 nx) (.slice p st.length cap) (.int .i64 hi) (.bool b0) (.bool b1) (.bool b2) (.bool b3) (.bool b4) (.bool b5) (.bool b6) (.bool b7) (HR.out)
        have hbE := (hbw3).grown hS (hbw3).size (fun k hk => by have := Option.some.inj hk; omega)
        exact bodyPost_ret (lresults_ct rfl _ _ (w.heap.size + 1) _ rfl (load_line rfl hW)) rfl ⟨_, by rw [HTK.out]; rfl, by rw [HTK.out]; exact lne_of (HS.out.below hbE) nx hi b0 b1 b2 b3 b4 b5 b6 b7, hbE⟩
      · clear hgq
        go_wp2
        have hS := st11_grown w3 (w.heap.size + 1) (.int .i64 nx) (.slice p st.length cap) (.int .i64 hi) (.bool b0) (.bool b1) (.bool b2) (.bool b3) (.bool b4) (.bool b5) (.bool b6) (.bool b7)
        have hW := st11_heap (.int .i64 nx) (.slice p st.length cap) (.int .i64 hi) (.bool b0) (.bool b1) (.bool b2) (.bool b3) (.bool b4) (.bool b5) (.bool b6) (.bool b7) (HR.out)
        have hbE := (hbw3).grown hS (hbw3).size (fun k hk => by have := Option.some.inj hk; omega)
        exact bodyPost_ret (lresults_ct rfl _ _ (w.heap.size + 1) _ rfl (load_line rfl hW)) rfl ⟨_, by rw [HTK.out]; rfl, by rw [HTK.out]; exact lne_of (HS.out.below hbE) nx hi b0 b1 b2 b3 b4 b5 b6 b7, hbE⟩
end Go.Proofs.Ytdkohhjacgplcaa
