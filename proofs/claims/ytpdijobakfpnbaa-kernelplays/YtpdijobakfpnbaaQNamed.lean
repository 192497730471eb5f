/- label.named answers the categories that one of two labels names, rising, each once, in a list of its own. -/
import Derived.Test.YtpdijobakfpnbaaQRows0
import Derived.Test.YtpdijobakfpnbaaQMem
import Derived.Test.YtpdijobakfpnbaaQShelf
import Derived.Sort.OwnSortedInts
import Derived.Test.YtpdijobakfpnbaaQAt
namespace Go.Proofs.Ytpdijobakfpnbaa
open Go.RowKit Go.Proofs.Parclose Go.Sort
theorem Qd9 {w : World} {base g n cap : Nat} {e : TypeId} {zs : List Int} (h : w.ownsRow base e 1 (.slice (some ⟨g, 0, none⟩) n cap) n (zs.map (Value.int .i64))) :
 ∃ cur, w.heap[g]? = some (.cells cur e (0, 0)) ∧ zs.length = n ∧ n ≤ cap ∧ cap ≤ maxLen ∧ cur.size = cap * 1 ∧ cur.toList.take zs.length = zs.map (Value.int .i64) ∧ base ≤ g := by
 obtain ⟨hl, h⟩ := h
 have hn : zs.length = n := by simpa using hl
 rcases h with ⟨h, _⟩ | ⟨g', cap', cur, hv, hb, hh, h1, h2, h3, h4⟩
 · cases h
 · cases hv
   exact ⟨cur, hh, hn, h1, h2, h3, by rw [hn]; simpa using h4, hb⟩
theorem Qc0 {w : World} {g q : Nat} {zs ys : List Int} (hH : Holds (Value.int .i64) w g 0 zs.toArray) (hy : ys.length ≤ zs.length) :
 Cells1 (putRow (Value.int .i64) (Sort.ahead w q) g 0 (ys ++ List.replicate (zs.length - ys.length) 0).toArray) g 0 ys := by
 intro j hj
 have h1 := cell?_putRow (Value.int .i64) (Sort.ahead w q) g 0 zs.toArray (ys ++ List.replicate (zs.length - ys.length) 0).toArray (holds_ahead _ _ _ _ _ _ hH) (by simp; omega) j (by simp; omega)
 rw [h1, getElem!_pos _ j (by simp; omega)]
 simp [List.getElem_append_left hj]
theorem QbI {w : World} {g q : Nat} {d : Array Int} {B : Nat} (hg : B ≤ g) : Below B w (putRow (Value.int .i64) (Sort.ahead w q) g 0 d) := by
 refine ⟨rfl, rfl, rfl, by simp, fun k hk => ?_⟩
 have : g ≠ k := by omega
 simp [putRow, mapBlock, Sort.ahead, Array.getElem?_modify, this]
theorem Qfj {w w1 : World} {B : Nat} (h : Below B w w1) (hB : B ≤ w1.heap.size) (os : Array Obj) : Below B w (grow w1 os) := by
 refine h.trans ⟨rfl, rfl, rfl, by simp [grow], fun k hk => ?_⟩
 exact heap_grow_old _ _ (by omega)
theorem Qgi (B g cap n : Nat) (zs : List Int) (w : World) (hn : zs.length = n) (hH : Holds (Value.int .i64) w g 0 zs.toArray) (hg : B ≤ g) (hlt : g < w.heap.size) (hsz : n < 4611686018427387904) :
 Calls Try.prog 68 #[.slice (some ⟨g, 0, none⟩) n cap] w fun e w' => e = .returned (.tuple #[]) ∧ Holds (Value.int .i64) w' g 0 (zs.mergeSort fun x y => decide (x ≤ y)).toArray ∧ Below B w w' := by
 subst hn
 refine (Try.slices_Sort_int g 0 cap zs w hH hlt hsz).mono ?_
 rintro e w' ⟨he, n, os, rfl⟩
 refine ⟨he, ?_, Qfj (QbI hg) (by simp; omega) os⟩
 exact holds_grow _ _ _ _ _ _ (by simpa using hlt) (holds_putRow (Value.int .i64) (Sort.ahead w n) g 0 zs.toArray (zs.mergeSort fun x y => decide (x ≤ y)).toArray (holds_ahead _ _ _ _ _ _ hH) (by simp))
theorem Qei (B g cap n : Nat) (zs : List Int) (w : World) (hn : zs.length = n) (hH : Holds (Value.int .i64) w g 0 zs.toArray) (hg : B ≤ g) (hsz : n ≤ 9223372036854775807) (hcap : n ≤ cap) :
 Calls Try.prog 69 #[.slice (some ⟨g, 0, none⟩) n cap] w fun e w' => e = .returned (.slice (some ⟨g, 0, none⟩) (Lib.compact zs).length cap) ∧ Cells1 w' g 0 (Lib.compact zs) ∧ Below B w w' := by
 subst hn
 refine (Try.slices_Compact_int g 0 cap zs w hH hsz hcap).mono ?_
 rintro e w' ⟨he, q, rfl⟩
 refine ⟨he, Qc0 hH ?_, QbI hg⟩
 unfold Lib.compact Lib.compactUpTo
 have h1 := List.length_filter_le (Lib.keeps zs.toArray) (List.range zs.length)
 simp at h1 ⊢
 exact h1
set_option maxHeartbeats 1000000 in
theorem QfW (va vb : Value) (a b : List (Int × Int)) (w : World) (ha : LabAt w va a) (hb : LabAt w vb b) :
 Calls Try.prog 53 #[va, vb] w fun e w' => ∃ v, e = .returned v ∧ IntsAt w' v (catsL a b) ∧ Below w.heap.size w w' := by
 obtain ⟨p, cap, rfl, hlc, hcap, hca⟩ := ha
 obtain ⟨q, cap', rfl, hlc', hcap', hcb⟩ := hb
 obtain ⟨i0, hi, hz0, hz1, hz2⟩ := info_parts Qa3
 go_enter Try.func53, Try.ntmps53
 go_wp2_with (at_make; refine wpList_make_own _ rfl _ _ 31 rfl w.heap.size 3 i0 (.int .i64 0) 1 Try.underlying31 hi hz0 hz1 _ _ _ (a.length + b.length) rfl rfl (by omega) ?b2 ?b3 (Nat.le_refl _) ?_)
 case b2 => rw [hz2]; omega
 case b3 => unfold maxLen; omega
 intro w0 hown0 hgrow0
 have hnx0 : Below w.heap.size w w0 := (Below.refl _ _).grown hgrow0 (Nat.le_refl _) (fun k h => by cases h)
 clear hgrow0
 go_wp2
 go_loopw [5, 18] (fun v i wr => ∃ k : Nat, k ≤ a.length ∧ i = .int .i64 k ∧ v = .slice (some ⟨w.heap.size, 0, none⟩) k (a.length + b.length) ∧
  wr.ownsRow w.heap.size 3 1 (.slice (some ⟨w.heap.size, 0, none⟩) k (a.length + b.length)) k (((a.map (·.1)).take k).map (Value.int .i64)) ∧ Below w.heap.size w wr)
  (fun _ i _ => a.length - (intOf i).toNat)
 case atStart => exact ⟨0, Nat.zero_le _, rfl, rfl, hown0, hnx0⟩
 case round =>
  obtain ⟨k, hk, rfl, rfl, hown, hnx⟩ := hrel
  by_cases hlt : k < a.length
  · obtain ⟨ba, oa, rfl, hcA⟩ := hca (by omega)
    obtain ⟨hc1, hc2⟩ := (hcA.below hnx) k hlt
    have hsz := hnx.size
    clear hca hcb hcA
    go_wp2_with (at_builtin; refine wpList_append_fits _ rfl _ _ 31 rfl w.heap.size 3 i0 1 Try.underlying31 hi hz1 w.heap.size k (a.length + b.length) _ rfl ((hown.alloc _).alloc _) ⟨wr.heap.size + 1, 0, none⟩ 1 1 [.int .i64 a[k].1] rfl rfl (by intro t u ht; match t, ht with | 0, ht => simp at ht; subst ht; simp [Addr.add]) (by intro u hu; simp at hu; subst hu; rfl) (by omega) ?_; intro w1 hown1 hgrow1)
    have hstep : ((a.map (·.1)).take (k + 1)) = (a.map (·.1)).take k ++ [a[k].1] := by
     rw [List.take_succ_eq_append_getElem (by simpa using hlt)]; simp
    go_roundw
    case rel => exact ⟨k + 1, hlt, by go_num, rfl, by rw [hstep, List.map_append]; exact hown1, (((hnx.alloc hsz _).alloc (by simp; omega) _).grown hgrow1 (by simp; omega) (fun k hk => by cases hk; exact Nat.le_refl _))⟩
    case measure => simp [intOf]; omega
  · have hka : k = a.length := by omega
    subst hka
    rw [List.take_of_length_le (by simp)] at hown
    clear hca
    go_wp2
    go_loopw [5, 30] (fun v i ws => ∃ m : Nat, m ≤ b.length ∧ i = .int .i64 m ∧ v = .slice (some ⟨w.heap.size, 0, none⟩) (a.length + m) (a.length + b.length) ∧
     ws.ownsRow w.heap.size 3 1 (.slice (some ⟨w.heap.size, 0, none⟩) (a.length + m) (a.length + b.length)) (a.length + m) ((a.map (·.1) ++ (b.map (·.1)).take m).map (Value.int .i64)) ∧ Below w.heap.size w ws)
     (fun _ i _ => b.length - (intOf i).toNat)
    case atStart => exact ⟨0, Nat.zero_le _, rfl, rfl, by simpa using hown, hnx⟩
    case round =>
     clear hown hnx
     obtain ⟨m, hm, rfl, rfl, hown, hnx⟩ := hrel
     by_cases hlt : m < b.length
     · obtain ⟨bb, ob, rfl, hcB⟩ := hcb (by omega)
       obtain ⟨hc1, hc2⟩ := (hcB.below hnx) m hlt
       have hsz := hnx.size
       clear hcb hcB
       go_wp2_with (at_builtin; refine wpList_append_fits _ rfl _ _ 31 rfl w.heap.size 3 i0 1 Try.underlying31 hi hz1 w.heap.size (a.length + m) (a.length + b.length) _ rfl ((hown.alloc _).alloc _) ⟨wr.heap.size + 1, 0, none⟩ 1 1 [.int .i64 b[m].1] rfl rfl (by intro t u ht; match t, ht with | 0, ht => simp at ht; subst ht; simp [Addr.add]) (by intro u hu; simp at hu; subst hu; rfl) (by omega) ?_; intro w1 hown1 hgrow1)
       have hstep : ((b.map (·.1)).take (m + 1)) = (b.map (·.1)).take m ++ [b[m].1] := by
        rw [List.take_succ_eq_append_getElem (by simpa using hlt)]; simp
       go_roundw
       case rel => exact ⟨m + 1, hlt, by go_num, rfl, by rw [hstep, ← List.append_assoc, List.map_append]; exact hown1, (((hnx.alloc hsz _).alloc (by simp; omega) _).grown hgrow1 (by simp; omega) (fun k hk => by cases hk; exact Nat.le_refl _))⟩
       case measure => simp [intOf]; omega
     · have hmb : m = b.length := by omega
       subst hmb
       rw [List.take_of_length_le (by simp)] at hown
       obtain ⟨cur, hcur, hn, h1, h2, h3, h4, h5⟩ := Qd9 hown
       have hH := holds_of_blockI hcur h4
       have hlt2 := (Array.getElem?_eq_some_iff.1 hcur).1
       have hsort := Qgi w.heap.size w.heap.size (a.length + b.length) (a.length + b.length) (a.map (·.1) ++ b.map (·.1)) wr hn hH (Nat.le_refl _) hlt2 (by omega)
       clear hcb hown hown0 hH h4 hcur h3 h2 h5 h1
       go_wp2_with (go_at_call 68; refine hsort.mono ?_; rintro e w1 ⟨rfl, hH1, hb1⟩)
       have hcomp := Qei w.heap.size w.heap.size (a.length + b.length) (a.length + b.length) _ w1 (by simp) hH1 (Nat.le_refl _) (by omega) (Nat.le_refl _)
       clear hsort hH1
       go_wp2_with (go_at_call 69; refine hcomp.mono ?_; rintro e w2 ⟨rfl, hcells, hb2⟩)
       clear hcomp
       go_ret
       refine ⟨_, rfl, ⟨_, _, rfl, ⟨?_, fun h => by cases h⟩, ?_, fun _ => ⟨_, _, rfl, hcells⟩⟩, (hnx.trans hb1).trans hb2⟩
       · exact QbH a b
       · have := QbH a b; omega
open Go.RowKit Go.Proofs.Parclose
theorem QaZ (v : Value) (zs : List Int) (c : Int) (w : World) (hv : IntsAt w v zs) :
 Calls Try.prog 44 #[v, .int .i64 c] w fun e w' => e = .returned (.bool (hasB zs c)) ∧ w' = w := by
 obtain ⟨p, cap, rfl, hlc, hcap, hcells⟩ := hv
 by_cases h0 : 0 < zs.length
 · obtain ⟨b, o, rfl, hc⟩ := hcells h0
   refine (Try.slices_Contains_int b o zs.length cap zs c w (Nat.le_refl _) (by omega) ?_).mono ?_
   · intro j hj
     rw [hc j hj]
     simp [List.getD, hj]
   · rintro e w' ⟨rfl, rfl⟩
     exact ⟨Qm (by rw [List.take_length]; rfl), rfl⟩
 · have hz : zs = [] := List.length_eq_zero_iff.1 (by omega)
   subst hz
   refine (Try.slices_Contains_int_empty p cap c w).mono ?_
   rintro e w' ⟨rfl, rfl⟩
   exact ⟨rfl, rfl⟩
set_option maxHeartbeats 1000000 in
theorem QS (va vb vo : Value) (a b : List (Int × Int)) (own : List Int) (w : World) (ha : LabAt w va a) (hb : LabAt w vb b) (ho : IntsAt w vo own) :
 Calls Try.prog 31 #[va, vb, vo] w fun e w' => e = .returned (.bool (flowsL a b own)) ∧ Below w.heap.size w w' := by
 go_enter Try.func31, Try.ntmps31
 go_wp2_with (go_at_call 53; refine (QfW _ _ a b _ ha hb).mono ?_; rintro e w1 ⟨v, rfl, ⟨p, cap, rfl, hlc, hcap, hcells⟩, hw1⟩)
 have HF : Hid (∀ j (hj : j < (catsL a b).length), atL b (catsL a b)[j] < atL a (catsL a b)[j] → hasB own (catsL a b)[j] = false → flowsL a b own = false) := fun j hj h1 h2 => Qa2 h1 h2
 have HT : Hid ((∀ j (hj : j < (catsL a b).length), atL a (catsL a b)[j] ≤ atL b (catsL a b)[j] ∨ hasB own (catsL a b)[j] = true) → flowsL a b own = true) := Qbb
 generalize hres : flowsL a b own = res at *
 have HR : Hid (flowsL a b own = res) := hres
 clear hres
 generalize catsL a b = cs at *
 go_loopw [13] (fun i wr => ∃ k : Nat, k ≤ cs.length ∧ i = .int .i64 k ∧ (∀ j (hj : j < k) (hj' : j < cs.length), atL a cs[j] ≤ atL b cs[j] ∨ hasB own cs[j] = true) ∧ Below w1.heap.size w1 wr) (fun i _ => cs.length - (intOf i).toNat)
 case atStart => exact ⟨0, Nat.zero_le _, rfl, fun j hj => absurd hj (Nat.not_lt_zero _), Below.refl _ _⟩
 case round =>
  obtain ⟨k, hk, rfl, hok, hbr⟩ := hrel
  have HO : Hid (∀ j (hj : j < k) (hj' : j < cs.length), atL a cs[j] ≤ atL b cs[j] ∨ hasB own cs[j] = true) := hok
  clear hok
  have hwr := Qd hw1 hbr
  by_cases hlt : k < cs.length
  · obtain ⟨bn, on, rfl, hc⟩ := hcells (by omega)
    have hck := (hc.below hbr) k hlt
    clear hcells hc
    have ha1 := ha.below hwr
    have hb1 := hb.below hwr
    have ho1 := ho.below hwr
    go_wp2_with fail
    refine (Qgg va a _ _ ha1).mono ?_
    rintro e w2 ⟨rfl, hw2⟩
    have hb2 := hb1.below hw2
    go_wp2_with fail
    refine (Qgg vb b _ _ hb2).mono ?_
    rintro e w3 ⟨rfl, hw3⟩
    have ho3 := (ho1.below hw2).below hw3
    have hr3 := Qd (Qd hbr hw2) hw3
    have HC : Hid (atL b cs[k] < atL a cs[k] → hasB own cs[k] = false → res = false) := HF.out k hlt
    clear ha1 hb1 ho1 hb2
    generalize hat : atL a cs[k] = x at *
    generalize hbt : atL b cs[k] = y at *
    generalize hct : hasB own cs[k] = z at *
    have HA : Hid (atL a cs[k] = x ∧ atL b cs[k] = y ∧ hasB own cs[k] = z) := ⟨hat, hbt, hct⟩
    clear hat hbt
    by_cases hyx : y < x
    · cases z with
      | true =>
       go_wp2_with (go_at_call 44; refine (QaZ vo own _ _ ho3).mono ?_; rintro e w4 ⟨rfl, rfl⟩; rw [hct])
       go_roundw
       case rel => exact ⟨k + 1, hlt, by go_num, fun j hj hj' => by
        by_cases e : j = k
        · subst e; exact Or.inr HA.out.2.2
        · exact HO.out j (by omega) hj', hr3⟩
       case measure => simp [intOf]; omega
      | false =>
       go_wp2_with (go_at_call 44; refine (QaZ vo own _ _ ho3).mono ?_; rintro e w4 ⟨rfl, rfl⟩; rw [hct])
       go_ret
       exact ⟨Qm ((HC.out hyx (by first | rfl | trivial)).symm.trans HR.out.symm), Qd hw1 hr3⟩
    · go_wp2
      go_roundw
      case rel => exact ⟨k + 1, hlt, by go_num, fun j hj hj' => by
       by_cases e : j = k
       · subst e; exact Or.inl (by rw [HA.out.1, HA.out.2.1]; omega)
       · exact HO.out j (by omega) hj', hr3⟩
      case measure => simp [intOf]; omega
  · go_wp2
    go_ret
    exact ⟨Qm ((HT.out fun j hj => HO.out j (by omega) hj).symm.trans HR.out.symm), hwr⟩
end Go.Proofs.Ytpdijobakfpnbaa
