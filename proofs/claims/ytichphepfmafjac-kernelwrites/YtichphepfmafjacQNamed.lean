/- label.named answers the categories that one of two labels names, rising, each once, in a list of its own. -/
import Derived.Test.YtichphepfmafjacQMem
import Derived.Test.YtichphepfmafjacQShelf
import Derived.Sort.OwnSortedInts
namespace Go.Proofs.Ytichphepfmafjac
open Go.RowKit Go.Proofs.Parclose Go.Sort

theorem info_int : (Try.prog.info? 3).map (fun i => (i.zero, i.size, i.bytes)) = some (some (.int .i64 0), 1, 8) := by kernel_rfl

/-- what a list of its own owns lies there as numbers -/
theorem ints_of_row {w : World} {base g n cap : Nat} {e : TypeId} {zs : List Int} (h : w.ownsRow base e 1 (.slice (some ⟨g, 0, none⟩) n cap) n (zs.map (Value.int .i64))) :
    ∃ cur, w.heap[g]? = some (.cells cur e (0, 0)) ∧ zs.length = n ∧ n ≤ cap ∧ cap ≤ maxLen ∧ cur.size = cap * 1 ∧ cur.toList.take zs.length = zs.map (Value.int .i64) ∧ base ≤ g := by
  obtain ⟨hl, h⟩ := h
  have hn : zs.length = n := by simpa using hl
  rcases h with ⟨h, _⟩ | ⟨g', cap', cur, hv, hb, hh, h1, h2, h3, h4⟩
  · cases h
  · cases hv
    exact ⟨cur, hh, hn, h1, h2, h3, by rw [hn]; simpa using h4, hb⟩

/-- behind the compacting the first cells are the compacted list -/
theorem cells_compact {w : World} {g q : Nat} {zs ys : List Int} (hH : Holds (Value.int .i64) w g 0 zs.toArray) (hy : ys.length ≤ zs.length) :
    Cells1 (putRow (Value.int .i64) (Sort.ahead w q) g 0 (ys ++ List.replicate (zs.length - ys.length) 0).toArray) g 0 ys := by
  intro j hj
  have h1 := cell?_putRow (Value.int .i64) (Sort.ahead w q) g 0 zs.toArray (ys ++ List.replicate (zs.length - ys.length) 0).toArray (holds_ahead _ _ _ _ _ _ hH) (by simp; omega) j (by simp; omega)
  rw [h1, getElem!_pos _ j (by simp; omega)]
  simp [List.getElem_append_left hj]

theorem below_putRow {w : World} {g q : Nat} {d : Array Int} {B : Nat} (hg : B ≤ g) : Below B w (putRow (Value.int .i64) (Sort.ahead w q) g 0 d) := by
  refine ⟨rfl, rfl, rfl, by simp, fun k hk => ?_⟩
  have : g ≠ k := by omega
  simp [putRow, mapBlock, Sort.ahead, Array.getElem?_modify, this]

theorem below_grow {w w1 : World} {B : Nat} (h : Below B w w1) (hB : B ≤ w1.heap.size) (os : Array Obj) : Below B w (grow w1 os) := by
  refine h.trans ⟨rfl, rfl, rfl, by simp [grow], fun k hk => ?_⟩
  exact heap_grow_old _ _ (by omega)

theorem sort_row (B g cap n : Nat) (zs : List Int) (w : World) (hn : zs.length = n) (hH : Holds (Value.int .i64) w g 0 zs.toArray) (hg : B ≤ g) (hlt : g < w.heap.size) (hsz : n < 4611686018427387904) :
    Calls Try.prog 81 #[.slice (some ⟨g, 0, none⟩) n cap] w fun e w' => e = .returned (.tuple #[]) ∧ Holds (Value.int .i64) w' g 0 (zs.mergeSort fun x y => decide (x ≤ y)).toArray ∧ Below B w w' := by
  subst hn
  refine (Try.slices_Sort_int g 0 cap zs w hH hlt hsz).mono ?_
  rintro e w' ⟨he, n, os, rfl⟩
  refine ⟨he, ?_, below_grow (below_putRow hg) (by simp; omega) os⟩
  exact holds_grow _ _ _ _ _ _ (by simpa using hlt) (holds_putRow (Value.int .i64) (Sort.ahead w n) g 0 zs.toArray (zs.mergeSort fun x y => decide (x ≤ y)).toArray (holds_ahead _ _ _ _ _ _ hH) (by simp))

theorem compact_row (B g cap n : Nat) (zs : List Int) (w : World) (hn : zs.length = n) (hH : Holds (Value.int .i64) w g 0 zs.toArray) (hg : B ≤ g) (hsz : n ≤ 9223372036854775807) (hcap : n ≤ cap) :
    Calls Try.prog 82 #[.slice (some ⟨g, 0, none⟩) n cap] w fun e w' => e = .returned (.slice (some ⟨g, 0, none⟩) (Lib.compact zs).length cap) ∧ Cells1 w' g 0 (Lib.compact zs) ∧ Below B w w' := by
  subst hn
  refine (Try.slices_Compact_int g 0 cap zs w hH hsz hcap).mono ?_
  rintro e w' ⟨he, q, rfl⟩
  refine ⟨he, cells_compact hH ?_, below_putRow hg⟩
  unfold Lib.compact Lib.compactUpTo
  have h1 := List.length_filter_le (Lib.keeps zs.toArray) (List.range zs.length)
  simp at h1 ⊢
  exact h1

set_option maxHeartbeats 1000000 in
theorem named_any (va vb : Value) (a b : List (Int × Int)) (w : World) (ha : LabAt w va a) (hb : LabAt w vb b) :
    Calls Try.prog 43 #[va, vb] w fun e w' => ∃ v, e = .returned v ∧ IntsAt w' v (catsL a b) ∧ Below w.heap.size w w' := by
  obtain ⟨p, cap, rfl, hlc, hcap, hca⟩ := ha
  obtain ⟨q, cap', rfl, hlc', hcap', hcb⟩ := hb
  obtain ⟨i0, hi, hz0, hz1, hz2⟩ := info_parts info_int
  go_enter Try.func43, Try.ntmps43
  go_wp2_with (at_make; refine wpList_make_own _ rfl _ _ 27 rfl w.heap.size 3 i0 (.int .i64 0) 1 Try.underlying27 hi hz0 hz1 _ _ _ (a.length + b.length) rfl rfl (by omega) ?b2 ?b3 (Nat.le_refl _) ?_)
  case b2 => rw [hz2]; omega
  case b3 => unfold maxLen; omega
  intro w0 hown0 hgrow0
  have hnx0 : Below w.heap.size w w0 := (Below.refl _ _).grown hgrow0 (Nat.le_refl _) (fun k h => by cases h)
  clear hgrow0
  go_wp2
  go_loopw [5, 18] (fun v i wr => ∃ k : Nat, k ≤ a.length ∧ i = .int .i64 k ∧ v = .slice (some ⟨w.heap.size, 0, none⟩) k (a.length + b.length) ∧
      wr.ownsRow w.heap.size 3 1 (.slice (some ⟨w.heap.size, 0, none⟩) k (a.length + b.length)) k (((a.map (·.1)).take k).map (Value.int .i64)) ∧ Below w.heap.size w wr)
    (fun _ i _ => a.length - (intOf i).toNat)
  case atStart => exact ⟨0, Nat.zero_le _, rfl, rfl, hown0, hnx0⟩
  case round =>
    obtain ⟨k, hk, rfl, rfl, hown, hnx⟩ := hrel
    by_cases hlt : k < a.length
    · obtain ⟨ba, oa, rfl, hcA⟩ := hca (by omega)
      obtain ⟨hc1, hc2⟩ := (hcA.below hnx) k hlt
      have hsz := hnx.size
      clear hca hcb hcA
      go_wp2_with (at_builtin; refine wpList_append_fits _ rfl _ _ 27 rfl w.heap.size 3 i0 1 Try.underlying27 hi hz1 w.heap.size k (a.length + b.length) _ rfl ((hown.alloc _).alloc _) ⟨wr.heap.size + 1, 0, none⟩ 1 1 [.int .i64 a[k].1] rfl rfl (by intro t u ht; match t, ht with | 0, ht => simp at ht; subst ht; simp [Addr.add]) (by intro u hu; simp at hu; subst hu; rfl) (by omega) ?_; intro w1 hown1 hgrow1)
      have hstep : ((a.map (·.1)).take (k + 1)) = (a.map (·.1)).take k ++ [a[k].1] := by
        rw [List.take_succ_eq_append_getElem (by simpa using hlt)]; simp
      go_roundw
      case rel => exact ⟨k + 1, hlt, by go_num, rfl, by rw [hstep, List.map_append]; exact hown1, (((hnx.alloc hsz _).alloc (by simp; omega) _).grown hgrow1 (by simp; omega) (fun k hk => by cases hk; exact Nat.le_refl _))⟩
      case measure => simp [intOf]; omega
    · have hka : k = a.length := by omega
      subst hka
      rw [List.take_of_length_le (by simp)] at hown
      clear hca
      go_wp2
      go_loopw [5, 30] (fun v i ws => ∃ m : Nat, m ≤ b.length ∧ i = .int .i64 m ∧ v = .slice (some ⟨w.heap.size, 0, none⟩) (a.length + m) (a.length + b.length) ∧
          ws.ownsRow w.heap.size 3 1 (.slice (some ⟨w.heap.size, 0, none⟩) (a.length + m) (a.length + b.length)) (a.length + m) ((a.map (·.1) ++ (b.map (·.1)).take m).map (Value.int .i64)) ∧ Below w.heap.size w ws)
        (fun _ i _ => b.length - (intOf i).toNat)
      case atStart => exact ⟨0, Nat.zero_le _, rfl, rfl, by simpa using hown, hnx⟩
      case round =>
        clear hown hnx
        obtain ⟨m, hm, rfl, rfl, hown, hnx⟩ := hrel
        by_cases hlt : m < b.length
        · obtain ⟨bb, ob, rfl, hcB⟩ := hcb (by omega)
          obtain ⟨hc1, hc2⟩ := (hcB.below hnx) m hlt
          have hsz := hnx.size
          clear hcb hcB
          go_wp2_with (at_builtin; refine wpList_append_fits _ rfl _ _ 27 rfl w.heap.size 3 i0 1 Try.underlying27 hi hz1 w.heap.size (a.length + m) (a.length + b.length) _ rfl ((hown.alloc _).alloc _) ⟨wr.heap.size + 1, 0, none⟩ 1 1 [.int .i64 b[m].1] rfl rfl (by intro t u ht; match t, ht with | 0, ht => simp at ht; subst ht; simp [Addr.add]) (by intro u hu; simp at hu; subst hu; rfl) (by omega) ?_; intro w1 hown1 hgrow1)
          have hstep : ((b.map (·.1)).take (m + 1)) = (b.map (·.1)).take m ++ [b[m].1] := by
            rw [List.take_succ_eq_append_getElem (by simpa using hlt)]; simp
          go_roundw
          case rel => exact ⟨m + 1, hlt, by go_num, rfl, by rw [hstep, ← List.append_assoc, List.map_append]; exact hown1, (((hnx.alloc hsz _).alloc (by simp; omega) _).grown hgrow1 (by simp; omega) (fun k hk => by cases hk; exact Nat.le_refl _))⟩
          case measure => simp [intOf]; omega
        · have hmb : m = b.length := by omega
          subst hmb
          rw [List.take_of_length_le (by simp)] at hown
          obtain ⟨cur, hcur, hn, h1, h2, h3, h4, h5⟩ := ints_of_row hown
          have hH := holds_of_blockI hcur h4
          have hlt2 := (Array.getElem?_eq_some_iff.1 hcur).1
          have hsort := sort_row w.heap.size w.heap.size (a.length + b.length) (a.length + b.length) (a.map (·.1) ++ b.map (·.1)) wr hn hH (Nat.le_refl _) hlt2 (by omega)
          clear hcb hown hown0 hH h4 hcur h3 h2 h5 h1
          go_wp2_with (go_at_call 81; refine hsort.mono ?_; rintro e w1 ⟨rfl, hH1, hb1⟩)
          have hcomp := compact_row w.heap.size w.heap.size (a.length + b.length) (a.length + b.length) _ w1 (by simp) hH1 (Nat.le_refl _) (by omega) (Nat.le_refl _)
          clear hsort hH1
          go_wp2_with (go_at_call 82; refine hcomp.mono ?_; rintro e w2 ⟨rfl, hcells, hb2⟩)
          clear hcomp
          go_ret
          refine ⟨_, rfl, ⟨_, _, rfl, ⟨?_, fun h => by cases h⟩, ?_, fun _ => ⟨_, _, rfl, hcells⟩⟩, (hnx.trans hb1).trans hb2⟩
          · exact catsL_length a b
          · have := catsL_length a b; omega
end Go.Proofs.Ytichphepfmafjac
