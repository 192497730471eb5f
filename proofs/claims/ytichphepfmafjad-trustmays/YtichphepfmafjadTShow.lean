/- trust.Show answers the certs of what a mail names, as they stand, in a list of its own. -/
import Derived.Test.YtichphepfmafjadTNamed
import Derived.Test.YtichphepfmafjadWRows
namespace Go.Proofs.Ytichphepfmafjad
open Go.RowKit Go.Proofs.Parclose

theorem tsearch_any (g cap : Nat) (zs : List Int) (x : Int) (w : World) (hl : zs.length ≤ 26388279066624) (h : Cells1 w g 0 zs) (hs : zs.Pairwise (· < ·)) :
    Calls Try.prog 28 #[.slice (some ⟨g, 0, none⟩) zs.length cap, .int .i64 x] w fun e w' => ∃ k : Int, e = .returned (.tuple #[.int .i64 k, .bool (decide (x ∈ zs))]) ∧ Below w.heap.size w w' := by
  refine (Try.slices_BinarySearch_int g 0 zs.length cap zs x w (Nat.le_refl _) (by omega) (fun j hj => ?_) ?_).mono ?_
  · rw [h j hj]
    simp [hj]
  · rw [List.take_length]
    exact hs.imp fun h => Int.le_of_lt h
  · rintro e w' ⟨rfl, q, rfl⟩
    rw [List.take_length]
    have e : zs.contains x = decide (x ∈ zs) := by simp
    rw [e]
    exact ⟨_, rfl, below_drewN w q⟩

theorem flat4_snoc4 (l : List Crt) (x : Crt) : flat4 (l ++ [x]) = flat4 l ++ [.int .i64 x.c, .int .i64 x.b, .int .i64 x.h, .int .i64 x.u] := by simp [flat4]
theorem news4 {W : World} {n : Nat} (hn : W.heap.size = n) (a b c d : Value) (t : TypeId) : ∀ j u, [a, b, c, d][j]? = some u → (W.alloc (.cells #[a, b, c, d] t)).cell? ((⟨n, 0, none⟩ : Addr).add j) = some u := by
  subst hn
  exact laid4 W a b c d t

theorem filter_take_no {l : List Crt} {p : Crt → Bool} {k : Nat} (hk : k < l.length) (h : p l[k] = false) : (l.take (k + 1)).filter p = (l.take k).filter p := by
  rw [List.take_succ_eq_append_getElem hk, List.filter_append]
  simp [h]
theorem filter_take_yes {l : List Crt} {p : Crt → Bool} {k : Nat} (hk : k < l.length) (h : p l[k] = true) : (l.take (k + 1)).filter p = (l.take k).filter p ++ [l[k]] := by
  rw [List.take_succ_eq_append_getElem hk, List.filter_append]
  simp [h]
theorem filter_take_len (l : List Crt) (p : Crt → Bool) (k : Nat) : ((l.take k).filter p).length ≤ k := Nat.le_trans (List.length_filter_le _ _) (by rw [List.length_take]; omega)

set_option maxRecDepth 100000 in
set_option maxHeartbeats 3200000 in
theorem show_any (v vm : Value) (l : List Crt) (m : Mal) (w : World) (hv : CrtsAt w v l) (hm : MalAt w vm m) :
    Calls Try.prog 14 #[v, vm] w fun e w' => ∃ v', e = .returned v' ∧ CrtsAt w' v' (showL l m) ∧ Below w.heap.size w w' := by
  have hnm := fun wx (hb : Below w.heap.size w wx) => tnamed_any vm m wx (hm.below hb)
  obtain ⟨vl, vg, rfl, hl, hg⟩ := hm
  obtain ⟨pl, cl, rfl, _⟩ := id hl
  obtain ⟨pg, cg, rfl, _⟩ := id hg
  obtain ⟨p, cap, rfl, hlc, hcap, hcells⟩ := id hv
  obtain ⟨i0, hi, hz0, hz1, hz2⟩ := info_parts info_cert
  have HCL := hid hcells
  have HR := hid (namesL_rises m)
  obtain ⟨zs, hz⟩ : ∃ zs, namesL m = zs := ⟨_, rfl⟩
  have HSH : Hid (showL l m = l.filter fun x => decide (x.c ∈ zs)) := hid (by unfold showL; rw [hz])
  rw [hz] at hnm HR
  generalize showL l m = R at *
  have HN := hid (fun k (hk : k < l.length) h => filter_take_no (p := fun x => decide (x.c ∈ zs)) hk h)
  have HY := hid (fun k (hk : k < l.length) h => filter_take_yes (p := fun x => decide (x.c ∈ zs)) hk h)
  have HLN := hid (filter_take_len l (fun x => decide (x.c ∈ zs)))
  have HTL : Hid ((l.take l.length).filter (fun x => decide (x.c ∈ zs)) = l.filter fun x => decide (x.c ∈ zs)) := hid (by rw [List.take_length])
  obtain ⟨F, hF⟩ : ∃ F : Nat → List Crt, ∀ k, (l.take k).filter (fun x => decide (x.c ∈ zs)) = F k := ⟨_, fun _ => rfl⟩
  simp only [hF] at HN HY HLN HTL
  have HF0 : Hid (F 0 = []) := hid (by rw [← hF]; rfl)
  unfold malV at hnm ⊢
  clear hl hg hv hcells hz hF
  go_enter Try.func14, Try.ntmps14
  go_wp2_with (go_at_call 25; refine (hnm _ (below_box _ _)).mono ?_; rintro e w1 ⟨g, cp, rfl, ⟨hzl, hzc⟩, hi1, hw1⟩; have HB1 := hid (below_then (below_box _ _) hw1); have HI1 := hid hi1; clear hw1 hi1)
  go_loopw [6, 15] (fun v i wr => ∃ k : Nat, k ≤ l.length ∧ i = .int .i64 k ∧ wr.ownsRow w1.heap.size 39 4 v (F k).length (flat4 (F k)) ∧ Below w1.heap.size w1 wr) (fun _ i _ => l.length - (intOf i).toNat)
  case atStart => exact ⟨0, Nat.zero_le _, rfl, by rw [HF0.out]; exact World.ownsRow_nil _ _ _ _, Below.refl _ _⟩
  case round =>
    obtain ⟨k, hk, rfl, hown, hb⟩ := hrel
    have HB := hid hb
    have HO := hid hown
    have hsz := hb.size
    have hlen := HLN.out k
    by_cases hlt : k < l.length
    · obtain ⟨b, o, rfl, hc⟩ := HCL.out (by omega)
      obtain ⟨g1, g2, g3, g4⟩ := hc.below (below_then HB1.out hb) k hlt
      have HNk := hid (HN.out k hlt)
      have HYk := hid (HY.out k hlt)
      have hse := fun wx (hbx : Below w1.heap.size w1 wx) => tsearch_any g cp zs l[k].c wx hzl (HI1.out.below hbx) HR.out
      have HB2 := hid (HB.out.alloc hsz (.cells #[.int .i64 l[k].c, .int .i64 l[k].b, .int .i64 l[k].h, .int .i64 l[k].u] 39))
      have HOA := hid (HO.out.alloc (.cells #[.int .i64 l[k].c, .int .i64 l[k].b, .int .i64 l[k].h, .int .i64 l[k].u] 39))
      generalize l[k] = x at *
      clear hc hb hown
      cases hd : decide (x.c ∈ zs) with
      | false =>
        have HE := hid (HNk.out hd)
        simp only [hd] at hse
        go_wp2_with (go_at_call 28; refine (hse _ HB2.out).mono ?_; rintro e w2 ⟨q, rfl, hw2⟩)
        go_roundw
        case rel => exact ⟨k + 1, hlt, by go_num, by rw [HE.out]; exact own_since HOA.out (since_below hw2), below_then HB2.out hw2⟩
        case measure => simp [intOf]; omega
      | true =>
        have HE := hid (HYk.out hd)
        simp only [hd] at hse
        go_wp2_with (first
          | (go_at_call 28; refine (hse _ HB2.out).mono ?_; rintro e w2 ⟨q, rfl, hw2⟩; have x0 : w2.cell? ⟨wr.heap.size, 0, none⟩ = some (.int .i64 x.c) := box_cell hw2 (by simp) 0; have x1 : w2.cell? ⟨wr.heap.size, 1, none⟩ = some (.int .i64 x.b) := box_cell hw2 (by simp) 1; have x2 : w2.cell? ⟨wr.heap.size, 2, none⟩ = some (.int .i64 x.h) := box_cell hw2 (by simp) 2; have x3 : w2.cell? ⟨wr.heap.size, 3, none⟩ = some (.int .i64 x.u) := box_cell hw2 (by simp) 3; have HB3 := hid (below_then HB2.out hw2); have hsz3 := HB3.out.size; have HO3 := hid ((own_since HOA.out (since_below hw2)).alloc (.cells #[.int .i64 x.c, .int .i64 x.b, .int .i64 x.h, .int .i64 x.u] 39)); clear hw2)
          | (at_builtin; refine wpList_append_own _ rfl _ _ 22 rfl w1.heap.size 39 i0 _ 4 32 Try.underlying22 hi hz0 hz1 hz2 rfl (by decide) _ (F k).length (flat4 (F k)) rfl HO3.out ⟨w2.heap.size, 0, none⟩ 1 1 [.int .i64 x.c, .int .i64 x.b, .int .i64 x.h, .int .i64 x.u] rfl rfl (news4 rfl _ _ _ _ _) (by intro u hu; simp at hu; rcases hu with rfl | rfl | rfl | rfl <;> rfl) (by unfold maxLen; omega) (by omega) (by simp; omega) ?_; intro v6 w6 hown6 hgrow6 _))
        go_roundw
        case rel => exact ⟨k + 1, hlt, by go_num, by rw [HE.out, List.length_append, flat4_snoc4]; exact hown6, (HB3.out.alloc hsz3 _).grown hgrow6 (by simp; omega) (fun j hj => own_base HO3.out hj)⟩
        case measure => simp [intOf]; omega
    · have hkl : k = l.length := by omega
      subst hkl
      go_wp2
      go_ret
      have hR : F l.length = R := by rw [HSH.out, HTL.out]
      rw [hR] at hown
      exact ⟨_, rfl, crts_of_own hown (by rw [← hR]; omega), below_then HB1.out hb⟩
end Go.Proofs.Ytichphepfmafjad
