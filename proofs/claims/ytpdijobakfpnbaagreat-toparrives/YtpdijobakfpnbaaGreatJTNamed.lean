/- trust.named answers the categories that a mail names, rising, each once, in a list of its own. -/
import Derived.Test.YtpdijobakfpnbaaGreatJTTrust
import Derived.Test.YtpdijobakfpnbaaGreatJShelf
import Derived.Sort.OwnSortedInts
import Derived.Test.YtpdijobakfpnbaaGreatJRows0
namespace Go.Proofs.YtpdijobakfpnbaaGreat
open Go.RowKit Go.Proofs.Parclose Go.Sort
theorem QcI {w : World} {base g n cap : Nat} {e : TypeId} {zs : List Int} (h : w.ownsRow base e 1 (.slice (some ⟨g, 0, none⟩) n cap) n (zs.map (Value.int .i64))) :
 ∃ cur, w.heap[g]? = some (.cells cur e (0, 0)) ∧ zs.length = n ∧ n ≤ cap ∧ cap ≤ maxLen ∧ cur.size = cap * 1 ∧ cur.toList.take zs.length = zs.map (Value.int .i64) ∧ base ≤ g := by
 obtain ⟨hl, h⟩ := h
 have hn : zs.length = n := by simpa using hl
 rcases h with ⟨h, _⟩ | ⟨g', cap', cur, hv, hb, hh, h1, h2, h3, h4⟩
 · cases h
 · cases hv
   exact ⟨cur, hh, hn, h1, h2, h3, by rw [hn]; simpa using h4, hb⟩
theorem Qew {w : World} {g q : Nat} {zs ys : List Int} (hH : Holds (Value.int .i64) w g 0 zs.toArray) (hy : ys.length ≤ zs.length) :
 Cells1 (putRow (Value.int .i64) (Sort.ahead w q) g 0 (ys ++ List.replicate (zs.length - ys.length) 0).toArray) g 0 ys := by
 intro j hj
 have h1 := cell?_putRow (Value.int .i64) (Sort.ahead w q) g 0 zs.toArray (ys ++ List.replicate (zs.length - ys.length) 0).toArray (holds_ahead _ _ _ _ _ _ hH) (by simp; omega) j (by simp; omega)
 rw [h1, getElem!_pos _ j (by simp; omega)]
 simp [List.getElem_append_left hj]
theorem Qcf {w : World} {g q : Nat} {d : Array Int} {B : Nat} (hg : B ≤ g) : Below B w (putRow (Value.int .i64) (Sort.ahead w q) g 0 d) := by
 refine ⟨rfl, rfl, rfl, by simp, fun k hk => ?_⟩
 have : g ≠ k := by omega
 simp [putRow, mapBlock, Sort.ahead, Array.getElem?_modify, this]
theorem Qgm {w w1 : World} {B : Nat} (h : Below B w w1) (hB : B ≤ w1.heap.size) (os : Array Obj) : Below B w (grow w1 os) := by
 refine h.trans ⟨rfl, rfl, rfl, by simp [grow], fun k hk => ?_⟩
 exact heap_grow_old _ _ (by omega)
theorem Qjg (B g cap n : Nat) (zs : List Int) (w : World) (hn : zs.length = n) (hH : Holds (Value.int .i64) w g 0 zs.toArray) (hg : B ≤ g) (hlt : g < w.heap.size) (hsz : n < 4611686018427387904) :
 Calls Tryz.prog 61 #[.slice (some ⟨g, 0, none⟩) n cap] w fun e w' => e = .returned (.tuple #[]) ∧ Holds (Value.int .i64) w' g 0 (zs.mergeSort fun x y => decide (x ≤ y)).toArray ∧ Below B w w' := by
 subst hn
 refine (Tryz.slices_Sort_int g 0 cap zs w hH hlt hsz).mono ?_
 rintro e w' ⟨he, n, os, rfl⟩
 refine ⟨he, ?_, Qgm (Qcf hg) (by simp; omega) os⟩
 exact holds_grow _ _ _ _ _ _ (by simpa using hlt) (holds_putRow (Value.int .i64) (Sort.ahead w n) g 0 zs.toArray (zs.mergeSort fun x y => decide (x ≤ y)).toArray (holds_ahead _ _ _ _ _ _ hH) (by simp))
theorem Qfv (B g cap n : Nat) (zs : List Int) (w : World) (hn : zs.length = n) (hH : Holds (Value.int .i64) w g 0 zs.toArray) (hg : B ≤ g) (hsz : n ≤ 9223372036854775807) (hcap : n ≤ cap) :
 Calls Tryz.prog 62 #[.slice (some ⟨g, 0, none⟩) n cap] w fun e w' => e = .returned (.slice (some ⟨g, 0, none⟩) (Lib.compact zs).length cap) ∧ Cells1 w' g 0 (Lib.compact zs) ∧ Below B w w' := by
 subst hn
 refine (Tryz.slices_Compact_int g 0 cap zs w hH hsz hcap).mono ?_
 rintro e w' ⟨he, q, rfl⟩
 refine ⟨he, Qew hH ?_, Qcf hg⟩
 unfold Lib.compact Lib.compactUpTo
 have h1 := List.length_filter_le (Lib.keeps zs.toArray) (List.range zs.length)
 simp at h1 ⊢
 exact h1
theorem QjW {w : World} {p : Option Addr} {n cap : Nat} {zs : List Int} (h : IntsAt w (.slice p n cap) zs) {a : Addr} (ha : p = some a) : ∀ j u, (flat1 zs)[j]? = some u → w.cell? (a.add j) = some u := by
 intro j u hu
 have hj : j < zs.length := by
  have := (List.getElem?_eq_some_iff.1 hu).1
  simpa [flat1] using this
 obtain ⟨b, o, e, hc⟩ := h.cells (by omega)
 rw [ha] at e
 cases e
 rw [WideShapes.add_plain, hc j hj, ← hu]
 simp [flat1, hj]
set_option maxRecDepth 100000 in
set_option maxHeartbeats 1600000 in
theorem Qd0 (v : Value) (m : Mal) (w : World) (hv : MalAt w v m) :
 Calls Tryz.prog 167 #[v] w fun e w' => ∃ g cap, e = .returned (.slice (some ⟨g, 0, none⟩) (namesL m).length cap) ∧ ((namesL m).length ≤ 26388279066624 ∧ (namesL m).length ≤ cap) ∧ Cells1 w' g 0 (namesL m) ∧ Below w.heap.size w w' := by
 obtain ⟨vl, vg, rfl, hl, hg⟩ := hv
 obtain ⟨pl, cl, rfl, hlc, hcapl, hcl⟩ := id hl
 obtain ⟨pg, cg, rfl, hgc, hcapg, hcg⟩ := id hg
 obtain ⟨i0, hi, hz0, hz1, hz2⟩ := info_parts QbL
 have HCL := hid hcl
 have HG := hid hg
 unfold malV
 clear hcl hcg hl hg
 go_enter Tryz.func167, Tryz.ntmps167
 go_wp2_with (at_make; refine wpList_make_own _ rfl _ _ 35 rfl (w.heap.size + 1) 3 i0 (.int .i64 0) 1 Tryz.underlying35 hi hz0 hz1 _ _ _ (m.label.length + m.grants.length) rfl rfl (by omega) ?b2 ?b3 (by simp) ?_)
 case b2 => rw [hz2]; omega
 case b3 => unfold maxLen; omega
 intro w0 hown0 hgrow0
 have HB0 := hid (((Below.refl (w.heap.size + 1) _).grown hgrow0 (by simp) (fun k h => by cases h)))
 clear hgrow0
 have y2 : w0.cell? ⟨w.heap.size, 2, none⟩ = some (.slice pl m.label.length cl) := Qi HB0.out (by omega) 2
 go_wp2
 clear y2
 go_loopw [3, 17] (fun v i wr => ∃ k : Nat, k ≤ m.label.length ∧ i = .int .i64 k ∧ v = .slice (some ⟨w.heap.size + 1, 0, none⟩) k (m.label.length + m.grants.length) ∧
  wr.ownsRow (w.heap.size + 1) 3 1 (.slice (some ⟨w.heap.size + 1, 0, none⟩) k (m.label.length + m.grants.length)) k (((m.label.map (·.1)).take k).map (Value.int .i64)) ∧ Below (w.heap.size + 1) (w.alloc (.cells #[.int .i64 m.host, .int .i64 m.thread, .slice pl m.label.length cl, .slice pg m.grants.length cg, .string ⟨m.text.toArray⟩] 50)) wr)
  (fun _ i _ => m.label.length - (intOf i).toNat)
 case atStart => exact ⟨0, Nat.zero_le _, rfl, rfl, hown0, HB0.out⟩
 case round =>
  clear HB0 hown0
  obtain ⟨k, hk, rfl, rfl, hown, hbx⟩ := hrel
  have hb : Below w.heap.size w wr := (Qd w _).trans (hbx.mono (by omega))
  have hsz := hbx.size
  rw [QM] at hsz
  have HBX := hid hbx
  by_cases hlt : k < m.label.length
  · obtain ⟨b, o, rfl, hcA⟩ := HCL.out (by omega)
    obtain ⟨hc1, hc2⟩ := (hcA.below hb) k hlt
    clear hcA
    go_wp2_with (at_builtin; refine wpList_append_fits _ rfl _ _ 35 rfl (w.heap.size + 1) 3 i0 1 Tryz.underlying35 hi hz1 (w.heap.size + 1) k (m.label.length + m.grants.length) _ rfl ((hown.alloc _).alloc _) ⟨wr.heap.size + 1, 0, none⟩ 1 1 [.int .i64 m.label[k].1] rfl rfl (news1 (by simp) _ _) (by intro u hu; simp at hu; subst hu; rfl) (by omega) ?_; intro w1 hown1 hgrow1)
    have hstep : ((m.label.map (·.1)).take (k + 1)) = (m.label.map (·.1)).take k ++ [m.label[k].1] := by
     rw [List.take_succ_eq_append_getElem (by simpa using hlt)]; simp
    go_roundw
    case rel => exact ⟨k + 1, hlt, by go_num, rfl, by rw [hstep, List.map_append]; exact hown1, (((HBX.out.alloc hsz _).alloc (by simp; omega) _).grown hgrow1 (by simp; omega) (fun k hk => by cases hk; exact Nat.le_refl _))⟩
    case measure => simp [intOf]; omega
  · have hka : k = m.label.length := by omega
    subst hka
    rw [List.take_of_length_le (by simp)] at hown
    have x3 : wr.cell? ⟨w.heap.size, 3, none⟩ = some (.slice pg m.grants.length cg) := Qi hbx (by omega) 3
    have hG := HG.out.below hb
    have HHB := hid hb
    have hone := QaW m.grants
    clear hb hbx
    have hend : ∀ (w1 : World), w1.ownsRow (w.heap.size + 1) 3 1 (.slice (some ⟨w.heap.size + 1, 0, none⟩) (m.label.length + m.grants.length) (m.label.length + m.grants.length)) (m.label.length + m.grants.length) ((m.label.map (·.1)).map (Value.int .i64) ++ flat1 m.grants) → w.heap.size + 1 < w1.heap.size →
     Calls Tryz.prog 61 #[.slice (some ⟨w.heap.size + 1, 0, none⟩) (m.label.length + m.grants.length) (m.label.length + m.grants.length)] w1 fun e w2 => e = .returned (.tuple #[]) ∧ Below (w.heap.size + 1) w1 w2 ∧
      Calls Tryz.prog 62 #[.slice (some ⟨w.heap.size + 1, 0, none⟩) (m.label.length + m.grants.length) (m.label.length + m.grants.length)] w2 fun e w3 => e = .returned (.slice (some ⟨w.heap.size + 1, 0, none⟩) (namesL m).length (m.label.length + m.grants.length)) ∧ Cells1 w3 (w.heap.size + 1) 0 (namesL m) ∧ Below (w.heap.size + 1) w2 w3 := by
     intro w1 h1 hlt1
     rw [show (m.label.map (·.1)).map (Value.int .i64) ++ flat1 m.grants = (m.label.map (·.1) ++ m.grants).map (Value.int .i64) by simp [flat1]] at h1
     obtain ⟨cur, hcur, hn, _, _, _, h4, _⟩ := QcI h1
     refine (Qjg (w.heap.size + 1) (w.heap.size + 1) _ _ _ w1 hn (holds_of_blockI hcur h4) (Nat.le_refl _) hlt1 (by omega)).mono ?_
     rintro e w2 ⟨rfl, hH2, hb2⟩
     refine ⟨rfl, hb2, ?_⟩
     exact Qfv (w.heap.size + 1) (w.heap.size + 1) _ _ _ w2 (by simp) hH2 (Nat.le_refl _) (by omega) (Nat.le_refl _)
    have HEND := hid hend
    clear hend
    have hnw := fun ad (e : pg = some ad) => QjW hG e
    have hno : pg = none → m.grants.length = 0 ∧ cg = 0 := fun e => by
     have := hgc.2 e
     omega
    go_wp2_with (first
     | (at_builtin; refine wpList_append_fits_any _ rfl _ _ 35 rfl (w.heap.size + 1) 3 i0 1 Tryz.underlying35 hi hz1 (w.heap.size + 1) m.label.length (m.label.length + m.grants.length) _ rfl hown pg m.grants.length cg (flat1 m.grants) rfl (by simp [flat1]) hno hnw hone (by omega) ?_; intro w1 hown1 hgrow1; have hsz1 := hgrow1.size; have hlt1 : w.heap.size + 1 < w1.heap.size := Nat.lt_of_lt_of_le (Qw (QcI (zs := m.label.map (·.1)) hown).choose_spec.1) hsz1; have hsort := HEND.out w1 hown1 hlt1)
     | (go_at_call 61; refine hsort.mono ?_; rintro e w2 ⟨rfl, hb2, hcomp⟩)
     | (go_at_call 62; refine hcomp.mono ?_; rintro e w3 ⟨rfl, hcells, hb3⟩))
    go_ret
    have hb1 : Below (w.heap.size + 1) wr w1 := (Below.refl _ _).grown hgrow1 hsz (fun k hk => by cases hk; exact Nat.le_refl _)
    have hlen := QeM m
    exact ⟨_, _, rfl, ⟨by omega, hlen⟩, hcells, HHB.out.trans (((hb1.trans hb2).trans hb3).mono (by omega))⟩
open Go.RowKit Go.Proofs.Parclose
theorem Qgw {l : List Crt} {h : Int} {m : Mal} {now : Int} (hh : hostB h = false) : mayB l h m now = false := by unfold mayB; rw [hh]; rfl
theorem Qmj {l : List Crt} {h : Int} {m : Mal} {now : Int} {zs : List Int} (hz : namesL m = zs) {k : Nat} (hk : k < zs.length) (ht : trB l zs[k] now h = false) : mayB l h m now = false := by
 subst hz
 rw [← Bool.not_eq_true, Qf7]
 rintro ⟨_, g⟩
 have := (Qbv _ _ _ _).2 (g _ (List.getElem_mem hk))
 rw [ht] at this
 cases this
theorem Qlm {l : List Crt} {h : Int} {m : Mal} {now : Int} {zs : List Int} (hz : namesL m = zs) (hh : hostB h = true) (ht : ∀ j (_ : j < zs.length), trB l zs[j] now h = true) : mayB l h m now = true := by
 subst hz
 rw [Qf7]
 refine ⟨hh, fun c hc => ?_⟩
 obtain ⟨j, hj, rfl⟩ := List.mem_iff_getElem.1 hc
 exact (Qbv _ _ _ _).1 (ht j hj)
theorem QfH (a b c d : Value) (w : World) : (Instr.index 167 (.agg #[a, b, c, d]) (.int .i64 0)).run Tryz.prog w = .ok a w := by kernel_rfl
theorem QfG (a b c d : Value) (w : World) : (Instr.index 167 (.agg #[a, b, c, d]) (.int .i64 1)).run Tryz.prog w = .ok b w := by kernel_rfl
theorem QfF (a b c d : Value) (w : World) : (Instr.index 167 (.agg #[a, b, c, d]) (.int .i64 2)).run Tryz.prog w = .ok c w := by kernel_rfl
theorem QfE (a b c d : Value) (w : World) : (Instr.index 167 (.agg #[a, b, c, d]) (.int .i64 3)).run Tryz.prog w = .ok d w := by kernel_rfl
set_option maxRecDepth 100000 in
set_option maxHeartbeats 3200000 in
theorem Qjc (v vm : Value) (l : List Crt) (h : Int) (m : Mal) (now : Int) (w : World) (hv : CrtsAt w v l) (hm : MalAt w vm m) :
 Calls Tryz.prog 128 #[v, .int .i64 h, vm, .int .i64 now] w fun e w' => e = .returned (.bool (mayB l h m now)) ∧ Below w.heap.size w w' := by
 have hnm := fun wx (hb : Below w.heap.size w wx) => Qd0 vm m wx (hm.below hb)
 have htr := fun c wx (hb : Below w.heap.size w wx) => Qgk v l c now wx (hv.below hb)
 obtain ⟨vl, vg, rfl, hl, hg⟩ := hm
 obtain ⟨pl, cl, rfl, _⟩ := id hl
 obtain ⟨pg, cg, rfl, _⟩ := id hg
 obtain ⟨p, cap, rfl, _⟩ := id hv
 unfold malV at hnm ⊢
 unfold trV at htr
 clear hl hg
 cases hh : hostB h with
 | false =>
  have HE : Hid (mayB l h m now = false) := hid (Qgw hh)
  have : h < 0 ∨ (0 ≤ h ∧ 4 ≤ h) := by
   unfold hostB at hh
   have := of_decide_eq_false hh
   omega
  rcases this with h1 | ⟨h1, h2⟩
  · go_enter Tryz.func128, Tryz.ntmps128
    go_wp2
    go_ret
    exact ⟨Qm HE.out.symm, Qd _ _⟩
  · go_enter Tryz.func128, Tryz.ntmps128
    go_wp2
    go_ret
    exact ⟨Qm HE.out.symm, Qd _ _⟩
 | true =>
  have hh2 : h = 0 ∨ h = 1 ∨ h = 2 ∨ h = 3 := by
   unfold hostB at hh
   have := of_decide_eq_true hh
   omega
  obtain ⟨zs, hz⟩ : ∃ zs, namesL m = zs := ⟨_, rfl⟩
  obtain ⟨T, hT⟩ : ∃ T : Int → Bool, ∀ c, trB l c now h = T c := ⟨fun c => trB l c now h, fun _ => rfl⟩
  have HNO : Hid (∀ k (hk : k < zs.length), T zs[k] = false → mayB l h m now = false) := hid (fun k hk ht => Qmj hz hk (by rw [hT]; exact ht))
  have HYES : Hid ((∀ j (_ : j < zs.length), T zs[j] = true) → mayB l h m now = true) := hid (fun g => Qlm hz hh (fun j hj => by rw [hT]; exact g j hj))
  rw [hz] at hnm
  clear hh hz
  rcases hh2 with rfl | rfl | rfl | rfl
  all_goals
   simp only [hT] at htr
   clear hT
   generalize mayB l _ m now = R at *
   have q0 := QfH
   have q1 := QfG
   have q2 := QfF
   have q3 := QfE
   go_enter Tryz.func128, Tryz.ntmps128
   go_wp2_with (go_at_call 167; refine (hnm _ (Qd _ _)).mono ?_; rintro e w1 ⟨g, cp, rfl, ⟨hzl, hzc⟩, hi1, hw1⟩; have HB1 := hid (Qc (Qd _ _) hw1); have HI1 := hid hi1; clear hw1 hi1)
   go_loopw [20] (fun i wr => ∃ k : Nat, k ≤ zs.length ∧ i = .int .i64 k ∧ (∀ j (_ : j < k) (hj : j < zs.length), T zs[j] = true) ∧ Below w1.heap.size w1 wr) (fun i _ => zs.length - (intOf i).toNat)
   case atStart => exact ⟨0, Nat.zero_le _, rfl, fun j hj => absurd hj (Nat.not_lt_zero _), Below.refl _ _⟩
   case round =>
    obtain ⟨k, hk, rfl, hall, hb⟩ := hrel
    have HALL := hid hall
    have HB := hid hb
    clear hall
    by_cases hlt : k < zs.length
    · have hck := HI1.out.below hb k hlt
      rw [Nat.zero_add] at hck
      have HN := hid (HNO.out k hlt)
      clear hb
      have ht := fun wx (hbx : Below w1.heap.size w1 wx) => htr zs[k] wx (Qc HB1.out hbx)
      have HSTEP : Hid (T zs[k] = true → ∀ j (_ : j < k + 1) (hj : j < zs.length), T zs[j] = true) := hid (fun g j h1 h2 => by
       by_cases e : j = k
       · subst e; exact g
       · exact HALL.out j (by omega) h2)
      cases hTk : T zs[k] with
      | false =>
       have HE := hid (HN.out hTk)
       simp only [hTk] at ht
       go_wp2_with (go_at_call 168; refine (ht _ HB.out).mono ?_; rintro e w2 ⟨rfl, hw2⟩)
       go_ret
       exact ⟨Qm HE.out.symm, Qc HB1.out (Qc HB.out hw2)⟩
      | true =>
       have HE := hid (HSTEP.out hTk)
       simp only [hTk] at ht
       go_wp2_with (go_at_call 168; refine (ht _ HB.out).mono ?_; rintro e w2 ⟨rfl, hw2⟩)
       go_roundw
       case rel => exact ⟨k + 1, hlt, by go_num, HE.out, Qc HB.out hw2⟩
       case measure => simp [intOf]; omega
    · have HE := hid (HYES.out (fun j hj => HALL.out j (by omega) hj))
      go_wp2
      go_ret
      exact ⟨Qm HE.out.symm, Qc HB1.out HB.out⟩
theorem Qgj (g cap : Nat) (zs : List Int) (x : Int) (w : World) (hl : zs.length ≤ 26388279066624) (h : Cells1 w g 0 zs) (hs : zs.Pairwise (· < ·)) :
 Calls Tryz.prog 169 #[.slice (some ⟨g, 0, none⟩) zs.length cap, .int .i64 x] w fun e w' => ∃ k : Int, e = .returned (.tuple #[.int .i64 k, .bool (decide (x ∈ zs))]) ∧ Below w.heap.size w w' := by
 refine (Tryz.slices_BinarySearch_int g 0 zs.length cap zs x w (Nat.le_refl _) (by omega) (fun j hj => ?_) ?_).mono ?_
 · rw [h j hj]
   simp [hj]
 · rw [List.take_length]
   exact hs.imp fun h => Int.le_of_lt h
 · rintro e w' ⟨rfl, q, rfl⟩
   rw [List.take_length]
   have e : zs.contains x = decide (x ∈ zs) := by simp
   rw [e]
   exact ⟨_, rfl, Qt w q⟩
theorem QgL (l : List Crt) (x : Crt) : flat4 (l ++ [x]) = flat4 l ++ [.int .i64 x.c, .int .i64 x.b, .int .i64 x.h, .int .i64 x.u] := by simp [flat4]
theorem news4 {W : World} {n : Nat} (hn : W.heap.size = n) (a b c d : Value) (t : TypeId) : ∀ j u, [a, b, c, d][j]? = some u → (W.alloc (.cells #[a, b, c, d] t)).cell? ((⟨n, 0, none⟩ : Addr).add j) = some u := by
 subst hn
 exact laid4 W a b c d t
theorem QeD {l : List Crt} {p : Crt → Bool} {k : Nat} (hk : k < l.length) (h : p l[k] = false) : (l.take (k + 1)).filter p = (l.take k).filter p := by
 rw [List.take_succ_eq_append_getElem hk, List.filter_append]
 simp [h]
theorem QdH {l : List Crt} {p : Crt → Bool} {k : Nat} (hk : k < l.length) (h : p l[k] = true) : (l.take (k + 1)).filter p = (l.take k).filter p ++ [l[k]] := by
 rw [List.take_succ_eq_append_getElem hk, List.filter_append]
 simp [h]
theorem QdI (l : List Crt) (p : Crt → Bool) (k : Nat) : ((l.take k).filter p).length ≤ k := Nat.le_trans (List.length_filter_le _ _) (by rw [List.length_take]; omega)
set_option maxRecDepth 100000 in
set_option maxHeartbeats 3200000 in
theorem Qk8 (v vm : Value) (l : List Crt) (m : Mal) (w : World) (hv : CrtsAt w v l) (hm : MalAt w vm m) :
 Calls Tryz.prog 129 #[v, vm] w fun e w' => ∃ v', e = .returned v' ∧ (CrtsAt w' v' (showL l m) ∧ ∀ k, v'.ownBlock = some k → w.heap.size ≤ k) ∧ Below w.heap.size w w' := by
 have hnm := fun wx (hb : Below w.heap.size w wx) => Qd0 vm m wx (hm.below hb)
 obtain ⟨vl, vg, rfl, hl, hg⟩ := hm
 obtain ⟨pl, cl, rfl, _⟩ := id hl
 obtain ⟨pg, cg, rfl, _⟩ := id hg
 obtain ⟨p, cap, rfl, hlc, hcap, hcells⟩ := id hv
 obtain ⟨i0, hi, hz0, hz1, hz2⟩ := info_parts QaV
 have HCL := hid hcells
 have HR := hid (QfB m)
 obtain ⟨zs, hz⟩ : ∃ zs, namesL m = zs := ⟨_, rfl⟩
 have HSH : Hid (showL l m = l.filter fun x => decide (x.c ∈ zs)) := hid (by unfold showL; rw [hz])
 rw [hz] at hnm HR
 generalize showL l m = R at *
 have HN := hid (fun k (hk : k < l.length) h => QeD (p := fun x => decide (x.c ∈ zs)) hk h)
 have HY := hid (fun k (hk : k < l.length) h => QdH (p := fun x => decide (x.c ∈ zs)) hk h)
 have HLN := hid (QdI l (fun x => decide (x.c ∈ zs)))
 have HTL : Hid ((l.take l.length).filter (fun x => decide (x.c ∈ zs)) = l.filter fun x => decide (x.c ∈ zs)) := hid (by rw [List.take_length])
 obtain ⟨F, hF⟩ : ∃ F : Nat → List Crt, ∀ k, (l.take k).filter (fun x => decide (x.c ∈ zs)) = F k := ⟨_, fun _ => rfl⟩
 simp only [hF] at HN HY HLN HTL
 have HF0 : Hid (F 0 = []) := hid (by rw [← hF]; rfl)
 unfold malV at hnm ⊢
 clear hl hg hv hcells hz hF
 go_enter Tryz.func129, Tryz.ntmps129
 go_wp2_with (go_at_call 167; refine (hnm _ (Qd _ _)).mono ?_; rintro e w1 ⟨g, cp, rfl, ⟨hzl, hzc⟩, hi1, hw1⟩; have HB1 := hid (Qc (Qd _ _) hw1); have HI1 := hid hi1; clear hw1 hi1)
 go_loopw [6, 15] (fun v i wr => ∃ k : Nat, k ≤ l.length ∧ i = .int .i64 k ∧ wr.ownsRow w1.heap.size 60 4 v (F k).length (flat4 (F k)) ∧ Below w1.heap.size w1 wr) (fun _ i _ => l.length - (intOf i).toNat)
 case atStart => exact ⟨0, Nat.zero_le _, rfl, by rw [HF0.out]; exact World.ownsRow_nil _ _ _ _, Below.refl _ _⟩
 case round =>
  obtain ⟨k, hk, rfl, hown, hb⟩ := hrel
  have HB := hid hb
  have HO := hid hown
  have hsz := hb.size
  have hlen := HLN.out k
  by_cases hlt : k < l.length
  · obtain ⟨b, o, rfl, hc⟩ := HCL.out (by omega)
    obtain ⟨g1, g2, g3, g4⟩ := hc.below (Qc HB1.out hb) k hlt
    have HNk := hid (HN.out k hlt)
    have HYk := hid (HY.out k hlt)
    have hse := fun wx (hbx : Below w1.heap.size w1 wx) => Qgj g cp zs l[k].c wx hzl (HI1.out.below hbx) HR.out
    have HB2 := hid (HB.out.alloc hsz (.cells #[.int .i64 l[k].c, .int .i64 l[k].b, .int .i64 l[k].h, .int .i64 l[k].u] 60))
    have HOA := hid (HO.out.alloc (.cells #[.int .i64 l[k].c, .int .i64 l[k].b, .int .i64 l[k].h, .int .i64 l[k].u] 60))
    generalize l[k] = x at *
    clear hc hb hown
    cases hd : decide (x.c ∈ zs) with
    | false =>
     have HE := hid (HNk.out hd)
     simp only [hd] at hse
     go_wp2_with (go_at_call 169; refine (hse _ HB2.out).mono ?_; rintro e w2 ⟨q, rfl, hw2⟩)
     go_roundw
     case rel => exact ⟨k + 1, hlt, by go_num, by rw [HE.out]; exact Q3 HOA.out (QU hw2), Qc HB2.out hw2⟩
     case measure => simp [intOf]; omega
    | true =>
     have HE := hid (HYk.out hd)
     simp only [hd] at hse
     go_wp2_with (first
      | (go_at_call 169; refine (hse _ HB2.out).mono ?_; rintro e w2 ⟨q, rfl, hw2⟩; have x0 : w2.cell? ⟨wr.heap.size, 0, none⟩ = some (.int .i64 x.c) := Qi hw2 (by simp) 0; have x1 : w2.cell? ⟨wr.heap.size, 1, none⟩ = some (.int .i64 x.b) := Qi hw2 (by simp) 1; have x2 : w2.cell? ⟨wr.heap.size, 2, none⟩ = some (.int .i64 x.h) := Qi hw2 (by simp) 2; have x3 : w2.cell? ⟨wr.heap.size, 3, none⟩ = some (.int .i64 x.u) := Qi hw2 (by simp) 3; have HB3 := hid (Qc HB2.out hw2); have hsz3 := HB3.out.size; have HO3 := hid ((Q3 HOA.out (QU hw2)).alloc (.cells #[.int .i64 x.c, .int .i64 x.b, .int .i64 x.h, .int .i64 x.u] 60)); clear hw2)
      | (at_builtin; refine wpList_append_own _ rfl _ _ 57 rfl w1.heap.size 60 i0 _ 4 32 Tryz.underlying57 hi hz0 hz1 hz2 rfl (by decide) _ (F k).length (flat4 (F k)) rfl HO3.out ⟨w2.heap.size, 0, none⟩ 1 1 [.int .i64 x.c, .int .i64 x.b, .int .i64 x.h, .int .i64 x.u] rfl rfl (news4 rfl _ _ _ _ _) (by intro u hu; simp at hu; rcases hu with rfl | rfl | rfl | rfl <;> rfl) (by unfold maxLen; omega) (by omega) (by simp; omega) ?_; intro v6 w6 hown6 hgrow6 _))
     go_roundw
     case rel => exact ⟨k + 1, hlt, by go_num, by rw [HE.out, List.length_append, QgL]; exact hown6, (HB3.out.alloc hsz3 _).grown hgrow6 (by simp; omega) (fun j hj => Qs HO3.out hj)⟩
     case measure => simp [intOf]; omega
  · have hkl : k = l.length := by omega
    subst hkl
    go_wp2
    go_ret
    have hR : F l.length = R := by rw [HSH.out, HTL.out]
    rw [hR] at hown
    exact ⟨_, rfl, ⟨QaO hown (by rw [← hR]; omega), fun k hk => Nat.le_trans HB1.out.size (Qs hown hk)⟩, Qc HB1.out hb⟩
end Go.Proofs.YtpdijobakfpnbaaGreat
