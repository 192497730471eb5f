/- trust.named answers the categories that a mail names, rising, each once, in a list of its own. -/
import Derived.Test.YtichphepfmafjadTTrust
import Derived.Test.YtichphepfmafjadShelf
import Derived.Sort.OwnSortedInts
namespace Go.Proofs.Ytichphepfmafjad
open Go.RowKit Go.Proofs.Parclose Go.Sort

/-- what a list of its own owns lies there as numbers -/
theorem tints_of_row {w : World} {base g n cap : Nat} {e : TypeId} {zs : List Int} (h : w.ownsRow base e 1 (.slice (some ⟨g, 0, none⟩) n cap) n (zs.map (Value.int .i64))) :
    ∃ cur, w.heap[g]? = some (.cells cur e (0, 0)) ∧ zs.length = n ∧ n ≤ cap ∧ cap ≤ maxLen ∧ cur.size = cap * 1 ∧ cur.toList.take zs.length = zs.map (Value.int .i64) ∧ base ≤ g := by
  obtain ⟨hl, h⟩ := h
  have hn : zs.length = n := by simpa using hl
  rcases h with ⟨h, _⟩ | ⟨g', cap', cur, hv, hb, hh, h1, h2, h3, h4⟩
  · cases h
  · cases hv
    exact ⟨cur, hh, hn, h1, h2, h3, by rw [hn]; simpa using h4, hb⟩

/-- behind the compacting the first cells are the compacted list -/
theorem tcells_compact {w : World} {g q : Nat} {zs ys : List Int} (hH : Holds (Value.int .i64) w g 0 zs.toArray) (hy : ys.length ≤ zs.length) :
    Cells1 (putRow (Value.int .i64) (Sort.ahead w q) g 0 (ys ++ List.replicate (zs.length - ys.length) 0).toArray) g 0 ys := by
  intro j hj
  have h1 := cell?_putRow (Value.int .i64) (Sort.ahead w q) g 0 zs.toArray (ys ++ List.replicate (zs.length - ys.length) 0).toArray (holds_ahead _ _ _ _ _ _ hH) (by simp; omega) j (by simp; omega)
  rw [h1, getElem!_pos _ j (by simp; omega)]
  simp [List.getElem_append_left hj]

theorem tbelow_putRow {w : World} {g q : Nat} {d : Array Int} {B : Nat} (hg : B ≤ g) : Below B w (putRow (Value.int .i64) (Sort.ahead w q) g 0 d) := by
  refine ⟨rfl, rfl, rfl, by simp, fun k hk => ?_⟩
  have : g ≠ k := by omega
  simp [putRow, mapBlock, Sort.ahead, Array.getElem?_modify, this]

theorem tbelow_grow {w w1 : World} {B : Nat} (h : Below B w w1) (hB : B ≤ w1.heap.size) (os : Array Obj) : Below B w (grow w1 os) := by
  refine h.trans ⟨rfl, rfl, rfl, by simp [grow], fun k hk => ?_⟩
  exact heap_grow_old _ _ (by omega)

theorem tsort_row (B g cap n : Nat) (zs : List Int) (w : World) (hn : zs.length = n) (hH : Holds (Value.int .i64) w g 0 zs.toArray) (hg : B ≤ g) (hlt : g < w.heap.size) (hsz : n < 4611686018427387904) :
    Calls Try.prog 34 #[.slice (some ⟨g, 0, none⟩) n cap] w fun e w' => e = .returned (.tuple #[]) ∧ Holds (Value.int .i64) w' g 0 (zs.mergeSort fun x y => decide (x ≤ y)).toArray ∧ Below B w w' := by
  subst hn
  refine (Try.slices_Sort_int g 0 cap zs w hH hlt hsz).mono ?_
  rintro e w' ⟨he, n, os, rfl⟩
  refine ⟨he, ?_, tbelow_grow (tbelow_putRow hg) (by simp; omega) os⟩
  exact holds_grow _ _ _ _ _ _ (by simpa using hlt) (holds_putRow (Value.int .i64) (Sort.ahead w n) g 0 zs.toArray (zs.mergeSort fun x y => decide (x ≤ y)).toArray (holds_ahead _ _ _ _ _ _ hH) (by simp))

theorem tcompact_row (B g cap n : Nat) (zs : List Int) (w : World) (hn : zs.length = n) (hH : Holds (Value.int .i64) w g 0 zs.toArray) (hg : B ≤ g) (hsz : n ≤ 9223372036854775807) (hcap : n ≤ cap) :
    Calls Try.prog 35 #[.slice (some ⟨g, 0, none⟩) n cap] w fun e w' => e = .returned (.slice (some ⟨g, 0, none⟩) (Lib.compact zs).length cap) ∧ Cells1 w' g 0 (Lib.compact zs) ∧ Below B w w' := by
  subst hn
  refine (Try.slices_Compact_int g 0 cap zs w hH hsz hcap).mono ?_
  rintro e w' ⟨he, q, rfl⟩
  refine ⟨he, tcells_compact hH ?_, tbelow_putRow hg⟩
  unfold Lib.compact Lib.compactUpTo
  have h1 := List.length_filter_le (Lib.keeps zs.toArray) (List.range zs.length)
  simp at h1 ⊢
  exact h1

theorem ints_news {w : World} {p : Option Addr} {n cap : Nat} {zs : List Int} (h : IntsAt w (.slice p n cap) zs) {a : Addr} (ha : p = some a) : ∀ j u, (flat1 zs)[j]? = some u → w.cell? (a.add j) = some u := by
  intro j u hu
  have hj : j < zs.length := by
    have := (List.getElem?_eq_some_iff.1 hu).1
    simpa [flat1] using this
  obtain ⟨b, o, e, hc⟩ := h.cells (by omega)
  rw [ha] at e
  cases e
  rw [WideShapes.add_plain, hc j hj, ← hu]
  simp [flat1, hj]

set_option maxRecDepth 100000 in
set_option maxHeartbeats 1600000 in
theorem tnamed_any (v : Value) (m : Mal) (w : World) (hv : MalAt w v m) :
    Calls Try.prog 25 #[v] w fun e w' => ∃ g cap, e = .returned (.slice (some ⟨g, 0, none⟩) (namesL m).length cap) ∧ ((namesL m).length ≤ 26388279066624 ∧ (namesL m).length ≤ cap) ∧ Cells1 w' g 0 (namesL m) ∧ Below w.heap.size w w' := by
  obtain ⟨vl, vg, rfl, hl, hg⟩ := hv
  obtain ⟨pl, cl, rfl, hlc, hcapl, hcl⟩ := id hl
  obtain ⟨pg, cg, rfl, hgc, hcapg, hcg⟩ := id hg
  obtain ⟨i0, hi, hz0, hz1, hz2⟩ := info_parts info_int
  have HCL := hid hcl
  have HG := hid hg
  unfold malV
  clear hcl hcg hl hg
  go_enter Try.func25, Try.ntmps25
  go_wp2_with (at_make; refine wpList_make_own _ rfl _ _ 25 rfl (w.heap.size + 1) 3 i0 (.int .i64 0) 1 Try.underlying25 hi hz0 hz1 _ _ _ (m.label.length + m.grants.length) rfl rfl (by omega) ?b2 ?b3 (by simp) ?_)
  case b2 => rw [hz2]; omega
  case b3 => unfold maxLen; omega
  intro w0 hown0 hgrow0
  have HB0 := hid (((Below.refl (w.heap.size + 1) _).grown hgrow0 (by simp) (fun k h => by cases h)))
  clear hgrow0
  have y2 : w0.cell? ⟨w.heap.size, 2, none⟩ = some (.slice pl m.label.length cl) := box_cell HB0.out (by omega) 2
  go_wp2
  clear y2
  go_loopw [3, 17] (fun v i wr => ∃ k : Nat, k ≤ m.label.length ∧ i = .int .i64 k ∧ v = .slice (some ⟨w.heap.size + 1, 0, none⟩) k (m.label.length + m.grants.length) ∧
      wr.ownsRow (w.heap.size + 1) 3 1 (.slice (some ⟨w.heap.size + 1, 0, none⟩) k (m.label.length + m.grants.length)) k (((m.label.map (·.1)).take k).map (Value.int .i64)) ∧ Below (w.heap.size + 1) (w.alloc (.cells #[.int .i64 m.host, .int .i64 m.thread, .slice pl m.label.length cl, .slice pg m.grants.length cg, .string ⟨m.text.toArray⟩] 27)) wr)
    (fun _ i _ => m.label.length - (intOf i).toNat)
  case atStart => exact ⟨0, Nat.zero_le _, rfl, rfl, hown0, HB0.out⟩
  case round =>
    clear HB0 hown0
    obtain ⟨k, hk, rfl, rfl, hown, hbx⟩ := hrel
    have hb : Below w.heap.size w wr := (below_box w _).trans (hbx.mono (by omega))
    have hsz := hbx.size
    rw [size_box] at hsz
    have HBX := hid hbx
    by_cases hlt : k < m.label.length
    · obtain ⟨b, o, rfl, hcA⟩ := HCL.out (by omega)
      obtain ⟨hc1, hc2⟩ := (hcA.below hb) k hlt
      clear hcA
      go_wp2_with (at_builtin; refine wpList_append_fits _ rfl _ _ 25 rfl (w.heap.size + 1) 3 i0 1 Try.underlying25 hi hz1 (w.heap.size + 1) k (m.label.length + m.grants.length) _ rfl ((hown.alloc _).alloc _) ⟨wr.heap.size + 1, 0, none⟩ 1 1 [.int .i64 m.label[k].1] rfl rfl (news1 (by simp) _ _) (by intro u hu; simp at hu; subst hu; rfl) (by omega) ?_; intro w1 hown1 hgrow1)
      have hstep : ((m.label.map (·.1)).take (k + 1)) = (m.label.map (·.1)).take k ++ [m.label[k].1] := by
        rw [List.take_succ_eq_append_getElem (by simpa using hlt)]; simp
      go_roundw
      case rel => exact ⟨k + 1, hlt, by go_num, rfl, by rw [hstep, List.map_append]; exact hown1, (((HBX.out.alloc hsz _).alloc (by simp; omega) _).grown hgrow1 (by simp; omega) (fun k hk => by cases hk; exact Nat.le_refl _))⟩
      case measure => simp [intOf]; omega
    · have hka : k = m.label.length := by omega
      subst hka
      rw [List.take_of_length_le (by simp)] at hown
      have x3 : wr.cell? ⟨w.heap.size, 3, none⟩ = some (.slice pg m.grants.length cg) := box_cell hbx (by omega) 3
      have hG := HG.out.below hb
      have HHB := hid hb
      have hone := flat1_one m.grants
      clear hb hbx
      have hend : ∀ (w1 : World), w1.ownsRow (w.heap.size + 1) 3 1 (.slice (some ⟨w.heap.size + 1, 0, none⟩) (m.label.length + m.grants.length) (m.label.length + m.grants.length)) (m.label.length + m.grants.length) ((m.label.map (·.1)).map (Value.int .i64) ++ flat1 m.grants) → w.heap.size + 1 < w1.heap.size →
          Calls Try.prog 34 #[.slice (some ⟨w.heap.size + 1, 0, none⟩) (m.label.length + m.grants.length) (m.label.length + m.grants.length)] w1 fun e w2 => e = .returned (.tuple #[]) ∧ Below (w.heap.size + 1) w1 w2 ∧
            Calls Try.prog 35 #[.slice (some ⟨w.heap.size + 1, 0, none⟩) (m.label.length + m.grants.length) (m.label.length + m.grants.length)] w2 fun e w3 => e = .returned (.slice (some ⟨w.heap.size + 1, 0, none⟩) (namesL m).length (m.label.length + m.grants.length)) ∧ Cells1 w3 (w.heap.size + 1) 0 (namesL m) ∧ Below (w.heap.size + 1) w2 w3 := by
        intro w1 h1 hlt1
        rw [show (m.label.map (·.1)).map (Value.int .i64) ++ flat1 m.grants = (m.label.map (·.1) ++ m.grants).map (Value.int .i64) by simp [flat1]] at h1
        obtain ⟨cur, hcur, hn, _, _, _, h4, _⟩ := tints_of_row h1
        refine (tsort_row (w.heap.size + 1) (w.heap.size + 1) _ _ _ w1 hn (holds_of_blockI hcur h4) (Nat.le_refl _) hlt1 (by omega)).mono ?_
        rintro e w2 ⟨rfl, hH2, hb2⟩
        refine ⟨rfl, hb2, ?_⟩
        exact tcompact_row (w.heap.size + 1) (w.heap.size + 1) _ _ _ w2 (by simp) hH2 (Nat.le_refl _) (by omega) (Nat.le_refl _)
      have HEND := hid hend
      clear hend
      have hnw := fun ad (e : pg = some ad) => ints_news hG e
      have hno : pg = none → m.grants.length = 0 ∧ cg = 0 := fun e => by
        have := hgc.2 e
        omega
      go_wp2_with (first
        | (at_builtin; refine wpList_append_fits_any _ rfl _ _ 25 rfl (w.heap.size + 1) 3 i0 1 Try.underlying25 hi hz1 (w.heap.size + 1) m.label.length (m.label.length + m.grants.length) _ rfl hown pg m.grants.length cg (flat1 m.grants) rfl (by simp [flat1]) hno hnw hone (by omega) ?_; intro w1 hown1 hgrow1; have hsz1 := hgrow1.size; have hlt1 : w.heap.size + 1 < w1.heap.size := Nat.lt_of_lt_of_le (heap_lt (tints_of_row (zs := m.label.map (·.1)) hown).choose_spec.1) hsz1; have hsort := HEND.out w1 hown1 hlt1)
        | (go_at_call 34; refine hsort.mono ?_; rintro e w2 ⟨rfl, hb2, hcomp⟩)
        | (go_at_call 35; refine hcomp.mono ?_; rintro e w3 ⟨rfl, hcells, hb3⟩))
      go_ret
      have hb1 : Below (w.heap.size + 1) wr w1 := (Below.refl _ _).grown hgrow1 hsz (fun k hk => by cases hk; exact Nat.le_refl _)
      have hlen := namesL_length m
      exact ⟨_, _, rfl, ⟨by omega, hlen⟩, hcells, HHB.out.trans (((hb1.trans hb2).trans hb3).mono (by omega))⟩
end Go.Proofs.Ytichphepfmafjad
