/- The reference: Trusted answers who is trusted with a category. -/
import Derived.Test.YtichphepfmafjadRGoods
import Derived.Test.YtichphepfmafjadTTrusted
import Derived.Test.YtichphepfmafjadPlainRound
namespace Go.Proofs.Ytichphepfmafjad
open Go.RowKit Go.Proofs.Parclose

/-- the block of the result and the block of the marks -/
structure Two (w wr : World) (B : Int → Bool) : Prop where
  tr : wr.heap[w.heap.size + 1]? = some (.cells #[.bool (B 0), .bool (B 1), .bool (B 2), .bool (B 3)] 28 (0, 0))
  res : wr.heap[w.heap.size]? = some (.cells #[.bool false, .bool false, .bool false, .bool false] 28 (0, 0))
  below : Below w.heap.size w wr
  size : w.heap.size + 2 ≤ wr.heap.size
theorem Two.more {w wr ws : World} {B : Int → Bool} (h : Two w wr B) (hb : Below wr.heap.size wr ws) : Two w ws B :=
  ⟨heap_keep h.tr hb, heap_keep h.res hb, h.below.trans (hb.mono (by have := h.size; omega)), Nat.le_trans h.size hb.size⟩
theorem Two.put {w wr : World} {B : Int → Bool} (h : Two w wr B) {x : Int} (h1 : 0 ≤ x) (h2 : x < 4) : Two w (wr.setCell ⟨w.heap.size + 1, x.toNat, none⟩ (.bool true)) (addH B x) :=
  ⟨tr_put h.tr h1 h2, heap_store h.res (by omega) _ _, h.below.grown (grown_setCell wr _ _ _) (by have := h.size; omega) (fun j hj => by have := Option.some.inj hj; omega), by simpa using h.size⟩

set_option maxRecDepth 100000 in
set_option maxHeartbeats 1600000 in
theorem rtrusted_none (v : Value) (l : List Crt) (c now : Int) (w : World) (hv : CrtsAt w v l) (hwf : ∀ x ∈ l, WfC x) (hn : catB c = false ∨ (catB c = true ∧ csB l = false)) :
    Calls Try.prog 9 #[v, .int .i64 c, .int .i64 now] w fun e w' => e = .returned (trV l c now) ∧ Below w.heap.size w w' := by
  have hno : ∀ h, trB l c now h = false := fun h => by
    rcases hn with h1 | ⟨_, h1⟩
    · exact trB_nocat h1
    · exact trB_bad h1
  have HV : Hid (trV l c now = .agg #[.bool false, .bool false, .bool false, .bool false]) := hid (by unfold trV; rw [hno, hno, hno, hno])
  have hg := fun wx (h : Below w.heap.size w wx) => rgoodCerts_any v l wx (hv.below h) hwf
  clear hno hwf
  rcases hn with h1 | ⟨h1, h2⟩
  · go_enter Try.func9, Try.ntmps9
    go_wp2_with (go_at_call 23; refine (rcat_any _ _).mono ?_; rintro e w' ⟨rfl, rfl⟩)
    exact bodyPost_ret (results_cell_row rfl _ _ w.heap.size 28 _ (0, 0) _ rfl (heap_new (heap_alloc_new w _) _) Try.underlying28 rfl (by kernel_rfl)) rfl ⟨by rw [HV.out], two_boxes _ _ _⟩
  · go_enter Try.func9, Try.ntmps9
    go_wp2_with (first | (go_at_call 23; refine (rcat_any _ _).mono ?_; rintro e w' ⟨rfl, rfl⟩) | (go_at_call 24; refine (hg _ (two_boxes _ _ _)).mono ?_; rintro e w2 ⟨rfl, hw2⟩; have hT := heap_keep (heap_alloc_new (w.alloc _) _) hw2; rw [size_box] at hT; have hR := heap_keep (heap_new (heap_alloc_new w _) _) hw2; have c0 := heap_cell hT 0; have c1 := heap_cell hT 1; have c2 := heap_cell hT 2; have c3 := heap_cell hT 3; have f0 := heap_frozen hR 0; have f1 := heap_frozen hR 1; have f2 := heap_frozen hR 2; have f3 := heap_frozen hR 3; have d0 := heap_cell hR 0; have d1 := heap_cell hR 1; have d2 := heap_cell hR 2; have d3 := heap_cell hR 3; have HR := hid hR; have HB2 := hid (below_then (two_boxes _ _ _) hw2); clear hw2 hT hR))
    have hst := st4_heap (.bool false) (.bool false) (.bool false) (.bool false) HR.out
    have hgr := st4_grown w2 w.heap.size (.bool false) (.bool false) (.bool false) (.bool false)
    exact bodyPost_ret (results_cell_row rfl _ _ w.heap.size 28 _ (0, 0) _ rfl hst Try.underlying28 rfl (by kernel_rfl)) rfl ⟨by rw [HV.out], HB2.out.grown hgr (HB2.out.size) (fun k hk => by cases hk; exact Nat.le_refl _)⟩

set_option maxRecDepth 100000 in
set_option maxHeartbeats 6400000 in
theorem rtrusted_some (v : Value) (l : List Crt) (c now : Int) (w : World) (hv : CrtsAt w v l) (hwf : ∀ x ∈ l, WfC x) (hcat : catB c = true) (hcs : csB l = true) :
    Calls Try.prog 9 #[v, .int .i64 c, .int .i64 now] w fun e w' => e = .returned (trV l c now) ∧ Below w.heap.size w w' := by
  have hgood := fun wx (h : Below w.heap.size w wx) => rgoodCerts_any v l wx (hv.below h) hwf
  have hgd : goodCs l := of_decide_eq_true hcs
  have hc80 : 0 ≤ c ∧ c < 80 := of_decide_eq_true hcat
  have HGD := hid hgd
  have h24 : l.length ≤ 24 := hgd.1
  obtain ⟨p, cap, rfl, hlc, hcap, hcells⟩ := hv
  have HCL := hid hcells
  have hh0 : 0 ≤ c / 20 := by omega
  have hh1 : c / 20 < 4 := by omega
  obtain ⟨hc0, hc1⟩ := hc80
  have hq : c.tdiv 20 = c / 20 := Int.tdiv_eq_ediv_of_nonneg hc0
  have HST := hid (Marks.start (l := l) (now := now) hcat)
  have HCAT := hid hcat
  have hw64 : wrap64 (c / 20) = c / 20 := by unfold wrap64; omega
  clear hgd hcells hwf
  go_enter Try.func9, Try.ntmps9
  go_wp2_with (first | (go_at_call 23; refine (rcat_any _ _).mono ?_; rintro e w' ⟨rfl, rfl⟩) | (go_at_call 24; refine (hgood _ (two_boxes _ _ _)).mono ?_; rintro e w2 ⟨rfl, hw2⟩; have hT := heap_keep (heap_alloc_new (w.alloc _) _) hw2; rw [size_box] at hT; have hR := heap_keep (heap_new (heap_alloc_new w _) _) hw2; have f0 := heap_frozen hT (c / 20).toNat; have c0 := tr_cells (B := fun _ => false) hT hh0 hh1; have hs2 := hw2.size; rw [size_box, size_box] at hs2; have HT2 : Hid (Two w w2 (fun _ => false)) := hid ⟨hT, hR, below_then (two_boxes _ _ _) hw2, hs2⟩; clear hw2 hT hR hs2))
  have HTW := hid (HT2.out.put hh0 hh1)
  clear HT2 f0 c0 hgood hcat hcs
  generalize w2.setCell ⟨w.heap.size + 1, (c / 20).toNat, none⟩ (.bool true) = w3 at *
  go_loopw [22] (fun i wr => ∃ (k : Nat) (B : Int → Bool), k ≤ 4 ∧ i = .int .i64 k ∧ Marks l c now B k ∧ Two w wr B) (fun i _ => 4 - (intOf i).toNat)
  case atStart => exact ⟨0, _, Nat.zero_le _, rfl, HST.out, HTW.out⟩
  case round =>
    obtain ⟨k, B, hk, rfl, hmk, htw⟩ := hrel
    clear HST HTW
    have HMK := hid hmk
    by_cases hlt : k < 4
    rotate_left
    · have hk4 : k = 4 := by omega
      subst hk4
      have hT := htw.tr
      have hR := htw.res
      have c0 := heap_cell hT 0
      have c1 := heap_cell hT 1
      have c2 := heap_cell hT 2
      have c3 := heap_cell hT 3
      have f0 := heap_frozen hR 0
      have f1 := heap_frozen hR 1
      have f2 := heap_frozen hR 2
      have f3 := heap_frozen hR 3
      have d0 := heap_cell hR 0
      have d1 := heap_cell hR 1
      have d2 := heap_cell hR 2
      have d3 := heap_cell hR 3
      have HDONE : Hid (∀ h, 0 ≤ h → h < 4 → B h = trB l c now h) := hid (fun h g1 g2 => HMK.out.done HCAT.out HGD.out h g1 g2)
      have HR := hid hR
      have HBB := hid htw.below
      clear htw hT hR hmk
      go_wp2
      have hst := st4_heap (.bool (B 0)) (.bool (B 1)) (.bool (B 2)) (.bool (B 3)) HR.out
      have hgr := st4_grown wr w.heap.size (.bool (B 0)) (.bool (B 1)) (.bool (B 2)) (.bool (B 3))
      exact bodyPost_ret (results_cell_row rfl _ _ w.heap.size 28 _ (0, 0) _ rfl hst Try.underlying28 rfl (by kernel_rfl)) rfl ⟨by rw [HDONE.out 0 (by omega) (by omega), HDONE.out 1 (by omega) (by omega), HDONE.out 2 (by omega) (by omega), HDONE.out 3 (by omega) (by omega)]; rfl, HBB.out.grown hgr (HBB.out.size) (fun k hk => by cases hk; exact Nat.le_refl _)⟩
    · have HTW := hid htw
      clear htw hmk
      go_wp2
      go_loopw [26] (fun j wr => ∃ (m : Nat) (B1 : Int → Bool), m ≤ l.length ∧ j = .int .i64 m ∧ Mid l c now B B1 m ∧ Two w wr B1) (fun j _ => l.length - (intOf j).toNat)
      case atStart => exact ⟨0, B, Nat.zero_le _, rfl, HMK.out.mid, HTW.out⟩
      case round =>
        clear HTW
        obtain ⟨m, B1, hm, rfl, hmid, htw⟩ := hrel
        have HMID := hid hmid
        have HTW := hid htw
        by_cases hltm : m < l.length
        · obtain ⟨b, o, rfl, hc⟩ := HCL.out (by omega)
          obtain ⟨g1, g2, g3, g4⟩ := hc.below htw.below m hltm
          obtain ⟨⟨hx31, hx32⟩, ⟨hx41, hx42⟩⟩ := cert_parts (HGD.out.2.1 l[m] (List.getElem_mem hltm))
          have HPASS := hid (fun h => HMID.out.pass hltm h)
          have HPUT := hid (fun h1 h2 h3 => HMID.out.put hltm h1 h2 h3 ⟨hx31, hx32⟩ ⟨hx41, hx42⟩)
          have htb := fun ob => cell_over ob (tr_cells htw.tr hx31 hx32)
          have hth := fun ob => cell_over ob (tr_cells htw.tr hx41 hx42)
          have hfr := fun ob => frozen_over ob htw.tr l[m].h.toNat
          have hsz2 := htw.size
          generalize l[m] = x at *
          clear hc htw hmid
          cases hA : (x.c == c) with
          | false =>
            have HN := hid (HPASS.out (fun h => by rw [h.1] at hA; simp at hA))
            go_wp2
            go_roundw
            case rel => exact ⟨m + 1, B1, hltm, by go_num, HN.out, HTW.out.more (below_box _ _)⟩
            case measure => simp [intOf]; omega
          | true =>
            cases hB : B1 x.b with
            | false =>
              have HN := hid (HPASS.out (fun h => by rw [h.2.1] at hB; cases hB))
              rw [hB] at htb
              go_wp2
              go_roundw
              case rel => exact ⟨m + 1, B1, hltm, by go_num, HN.out, HTW.out.more (below_box _ _)⟩
              case measure => simp [intOf]; omega
            | true =>
              rw [hB] at htb
              cases hU : decide (now ≤ x.u) with
              | false =>
                have HN := hid (HPASS.out (fun h => of_decide_eq_false hU h.2.2))
                go_wp2
                go_roundw
                case rel => exact ⟨m + 1, B1, hltm, by go_num, HN.out, HTW.out.more (below_box _ _)⟩
                case measure => simp [intOf]; omega
              | true =>
                have HN := hid (HPUT.out (beq_iff_eq.1 hA) hB (of_decide_eq_true hU))
                have HT4 := hid ((HTW.out.more (below_box wr (.cells #[.int .i64 x.c, .int .i64 x.b, .int .i64 x.h, .int .i64 x.u] 39))).put hx41 hx42)
                go_wp2
                go_roundw
                case rel => exact ⟨m + 1, addH B1 x.h, hltm, by go_num, HN.out, HT4.out⟩
                case measure => simp [intOf]; omega
        · have hml : m = l.length := by omega
          subst hml
          have HN := hid (HMID.out.next HMK.out)
          clear hmid htw
          go_wp2
          go_roundw
          case rel => exact ⟨k + 1, B1, hlt, by go_num, HN.out, HTW.out⟩
          case measure => simp [intOf]; omega

theorem rtrusted_any (v : Value) (l : List Crt) (c now : Int) (w : World) (hv : CrtsAt w v l) (hwf : ∀ x ∈ l, WfC x) :
    Calls Try.prog 9 #[v, .int .i64 c, .int .i64 now] w fun e w' => e = .returned (trV l c now) ∧ Below w.heap.size w w' := by
  cases h1 : catB c with
  | false => exact rtrusted_none v l c now w hv hwf (Or.inl h1)
  | true =>
    cases h2 : csB l with
    | false => exact rtrusted_none v l c now w hv hwf (Or.inr ⟨h1, h2⟩)
    | true => exact rtrusted_some v l c now w hv hwf h1 h2
end Go.Proofs.Ytichphepfmafjad
