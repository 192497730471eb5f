/- wire.putMail lays mail behind a list of bytes of the call, and turns nothing else. -/
import Derived.Test.YtagmnfghkfeplaaWPutC
namespace Go.Proofs.Ytagmnfghkfeplaa
open Go.RowKit Go.Proofs.Parclose

def levTo (bs : List UInt8) (l : List (Int × Int)) (k : Nat) : List UInt8 := bs ++ levelsL (l.take k)
theorem levTo_zero (bs : List UInt8) (l : List (Int × Int)) : levTo bs l 0 = bs := by simp [levTo, levelsL]
theorem levTo_succ (bs : List UInt8) (l : List (Int × Int)) (k : Nat) (hk : k < l.length) : levTo bs l (k + 1) = levTo bs l k ++ [(l[k]).1, (l[k]).2].map byteL := by
  unfold levTo levelsL
  rw [List.take_succ_eq_append_getElem hk, List.flatMap_append]
  simp only [List.flatMap_cons, List.flatMap_nil, List.append_assoc, List.append_nil, List.map_cons, List.map_nil]
theorem levTo_all (bs : List UInt8) (l : List (Int × Int)) : levTo bs l l.length = bs ++ levelsL l := by simp [levTo]
theorem levTo_length (bs : List UInt8) (l : List (Int × Int)) (k : Nat) : (levTo bs l k).length ≤ bs.length + 2 * l.length := by
  unfold levTo levelsL
  have h : ∀ m : List (Int × Int), (m.flatMap fun x => [byteL x.1, byteL x.2]).length = 2 * m.length := fun m => by
    induction m with
    | nil => rfl
    | cons x r ih =>
      rw [List.flatMap_cons, List.length_append, ih]
      simp
      omega
  simp only [List.length_append, h, List.length_take]
  omega

theorem bytes_str {base : Nat} {w : World} {v : Value} {n : Nat} {bs x : List UInt8} (hn : n = bs.length + x.length) (h : w.ownsRow base 5 1 v n (bs.map byteCell ++ Lib.strCells ⟨x.toArray⟩)) : BytesAt base w v (bs ++ x) := by
  unfold BytesAt
  rw [List.length_append, List.map_append, ← hn]
  exact h

theorem Kept.labs {w0 w : World} {v : Value} {l : List (Int × Int)} (h : LabAt w0 v l) (hk : Kept w0.heap.size w0 w) : LabAt w v l := h.below (hk.below (Nat.le_refl _))
theorem Kept.ints {w0 w : World} {v : Value} {l : List Int} (h : IntsAt w0 v l) (hk : Kept w0.heap.size w0 w) : IntsAt w v l := h.below (hk.below (Nat.le_refl _))

set_option maxHeartbeats 3200000 in
theorem putMail_any (v vm : Value) (bs : List UInt8) (m : Mal) (w0 w : World) (hk0 : Kept w0.heap.size w0 w) (hown : BytesAt w0.heap.size w v bs) (hv : MalAt w0 vm m) (hn : bs.length ≤ 100) (hl8 : m.label.length ≤ 8) (hg8 : m.grants.length ≤ 8) (ht : m.text.length ≤ 64) :
    Calls Try.prog 27 #[v, vm] w fun e w' => ∃ v', e = .returned v' ∧ BytesAt w0.heap.size w' v' (bs ++ mailL m) ∧ Kept w0.heap.size w w' := by
  obtain ⟨vl, vg, rfl, hl, hg⟩ := hv
  obtain ⟨pl, cl, rfl, _⟩ := id hl
  obtain ⟨pg, cg, rfl, _⟩ := id hg
  unfold malV
  have hsz0 := hk0.size
  obtain ⟨i0, hi, hz0, hz1, hz2⟩ := info_split info_byte
  have HM : Hid (bs ++ mailL m = levTo (bs ++ [m.thread, (m.label.length : Int)].map byteL) m.label m.label.length ++ [(m.grants.length : Int)].map byteL ++ m.grants.map byteL ++ [(m.text.length : Int)].map byteL ++ m.text) := hid (by
    rw [levTo_all]
    simp [mailL])
  go_enter Try.func27, Try.ntmps27
  go_wp2_with fail
  refine (put_new w0.heap.size _ bs [m.thread, (m.label.length : Int)] _ _ ((hown.alloc _).alloc _) (by simp; omega) (heap2 _ _ _) (by simp; omega)).mono ?_
  rintro e w1 ⟨v1, rfl, hown1, hk1⟩
  have hB1 := kept2' hk1
  have hd2 := kept_box hB1 (by decide) 2
  clear hk1 hown
  go_wp2
  go_loopw [0, 18] (fun v i wr => ∃ k : Nat, k ≤ m.label.length ∧ i = .int .i64 k ∧ BytesAt w0.heap.size wr v (levTo (bs ++ [m.thread, (m.label.length : Int)].map byteL) m.label k) ∧ Kept w0.heap.size (w.alloc (.cells #[.int .i64 m.host, .int .i64 m.thread, .slice pl m.label.length cl, .slice pg m.grants.length cg, .string ⟨m.text.toArray⟩] 26)) wr) (fun _ i _ => m.label.length - (intOf i).toNat)
  case atStart => exact ⟨0, Nat.zero_le _, rfl, by rw [levTo_zero]; exact hown1, hB1⟩
  case round =>
    clear hown1 hB1 hd2
    obtain ⟨k, hk, rfl, hown, hB⟩ := hrel
    have hkw := kept1 hB
    have hk0r := hk0.trans hkw
    have hszr := hk0r.size
    have hlen : (levTo (bs ++ [m.thread, (m.label.length : Int)].map byteL) m.label k).length ≤ 118 := by have := levTo_length (bs ++ [m.thread, (m.label.length : Int)].map byteL) m.label k; simp only [List.length_append, List.length_map, List.length_cons, List.length_nil] at this; omega
    by_cases hlt : k < m.label.length
    · obtain ⟨b, o, rfl, hc⟩ := (Kept.labs hl hk0r).cells (by omega)
      obtain ⟨hc1, hc2⟩ := hc k hlt
      have HS2 : Hid (levTo (bs ++ [m.thread, (m.label.length : Int)].map byteL) m.label (k + 1) = levTo (bs ++ [m.thread, (m.label.length : Int)].map byteL) m.label k ++ [(m.label[k]).1, (m.label[k]).2].map byteL) := levTo_succ _ m.label k hlt
      clear hc
      generalize hout : levTo (bs ++ [m.thread, (m.label.length : Int)].map byteL) m.label k = out at hown hlen
      have HO : Hid (levTo (bs ++ [m.thread, (m.label.length : Int)].map byteL) m.label k = out) := hout
      clear hout
      have HB : Hid (Kept w0.heap.size (w.alloc (.cells #[.int .i64 m.host, .int .i64 m.thread, .slice (some ⟨b, o, none⟩) m.label.length cl, .slice pg m.grants.length cg, .string ⟨m.text.toArray⟩] 26)) wr) := hB
      clear hB
      go_wp2_with fail
      refine (put_new w0.heap.size _ out [(m.label[k]).1, (m.label[k]).2] _ _ ((hown.alloc _).alloc _) (by simp; omega) (heap2 _ _ _) (by simp; omega)).mono ?_
      rintro e w2 ⟨v2, rfl, hown2, hk2⟩
      have hB2 := HB.out.trans (kept1 (kept2' hk2))
      clear hk2
      go_wp2
      go_roundw
      case rel =>
        have hfin : BytesAt w0.heap.size w2 v2 (levTo (bs ++ [m.thread, (m.label.length : Int)].map byteL) m.label (k + 1)) := by rw [HS2.out, HO.out]; exact hown2
        first | exact ⟨k + 1, hlt, by go_num, hfin, hB2⟩ | ((repeat apply Exists.intro); exact ⟨⟨k + 1, hlt, by go_num, hfin, hB2⟩, rfl⟩)
      case measure => simp [intOf]; omega
    · have hkl : k = m.label.length := by omega
      subst hkl
      generalize hout : levTo (bs ++ [m.thread, (m.label.length : Int)].map byteL) m.label m.label.length = out at hown hlen
      have HM2 : Hid (bs ++ mailL m = out ++ [(m.grants.length : Int)].map byteL ++ m.grants.map byteL ++ [(m.text.length : Int)].map byteL ++ m.text) := hid (by rw [← hout]; exact HM.out)
      clear hout HM
      have hd3 := kept_box hB (by decide) 3
      go_wp2_with fail
      refine (put_new w0.heap.size _ out [(m.grants.length : Int)] _ _ (hown.alloc _) (by simp; omega) (heap_alloc_new _ _) (by simp; omega)).mono ?_
      rintro e w2 ⟨v2, rfl, hown2, hk2⟩
      have hB2 := hB.trans (kept1 hk2)
      have hd3b := kept_box hB2 (by decide) 3
      have hk02 := hk0.trans (kept1 hB2)
      clear hk2 hd3 hB
      go_wp2_with fail
      refine (put_any w0.heap.size _ _ _ m.grants _ hown2 hk02.size (fun wr hkr => Kept.ints hg (hk02.trans hkr)) (by simp; omega)).mono ?_
      rintro e w3 ⟨v3, rfl, hown3, hk3⟩
      have hB3 := hB2.trans hk3
      have hd4 := kept_box hB3 (by decide) 4
      have hk03 := (hk0.trans (kept1 hB3)).size
      clear hk3 hd3b hB2
      go_wp2_with fail
      refine (put_new w0.heap.size _ _ [(m.text.length : Int)] _ _ (hown3.alloc _) (by simp; omega) (heap_alloc_new _ _) (by simp; omega)).mono ?_
      rintro e w4 ⟨v4, rfl, hown4, hk4⟩
      have hB4 := hB3.trans (kept1 hk4)
      have hd4b := kept_box hB4 (by decide) 4
      have hk04 := (hk0.trans (kept1 hB4)).size
      clear hk4 hd4 hB3
      have hlen4 : (out ++ [(m.grants.length : Int)].map byteL ++ m.grants.map byteL ++ [(m.text.length : Int)].map byteL).length ≤ 200 := by simp; omega
      generalize hout4 : out ++ [(m.grants.length : Int)].map byteL ++ m.grants.map byteL ++ [(m.text.length : Int)].map byteL = out4 at hown4 hlen4
      have HM3 : Hid (bs ++ mailL m = out4 ++ m.text) := hid (by rw [← hout4]; exact HM2.out)
      clear hout4 HM2
      go_wp2_with (at_builtin; refine Lib.wpList_append_own_string _ rfl _ _ 48 9 rfl w0.heap.size 5 i0 Try.underlying48 Try.underlying9 hi hz0 hz1 hz2 _ _ _ rfl hown4 ⟨m.text.toArray⟩ rfl (by simp [ByteArray.size, maxLen]; omega) (by simp [ByteArray.size]; omega) hk04 ?_; intro v5 w5 hown5 hgrow5 hnil5)
      go_ret
      exact ⟨_, rfl, by rw [HM3.out]; exact bytes_str rfl hown5, (kept1 hB4).grown hown4 hgrow5⟩
end Go.Proofs.Ytagmnfghkfeplaa
