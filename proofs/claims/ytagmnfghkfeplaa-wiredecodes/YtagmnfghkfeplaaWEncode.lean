/- wire.Encode answers the bytes of a good frame, and the errors number of another one; it turns nothing that was there. -/
import Derived.Test.YtagmnfghkfeplaaWPutM
import Derived.Laws.IdiomStrings
namespace Go.Proofs.Ytagmnfghkfeplaa
open Go.RowKit Go.Proofs.Parclose

/-- the text of a list of bytes -/
theorem convert_bytes {base : Nat} {w : World} {v : Value} {bs : List UInt8} (h : BytesAt base w v bs) (h0 : bs ≠ []) : (convert 48 9 v).run Try.prog w = .ok (.string ⟨bs.toArray⟩) w := by
  obtain ⟨hlen, h⟩ := h
  rcases h with ⟨_, h⟩ | ⟨g, cap, cur, rfl, hb, hh, h1, h2, h3, h4⟩
  · exact absurd (List.length_eq_zero_iff.1 h) h0
  · refine run_convert_bytes_back w 48 9 5 ⟨g, 0, none⟩ cap bs Try.underlying48 Try.underlying5 Try.underlying9 (fun j hj => ?_)
    have g1 : (bs.map byteCell)[j]? = some (byteCell bs[j]) := by simp [hj]
    rw [← h4, List.getElem?_take_of_lt (by omega)] at g1
    rw [WideShapes.add_plain]
    simp only [World.cell?, hh, Nat.zero_add]
    simpa [byteCell] using g1

/-- what Encode answers -/
def encE (f : Frm) : List UInt8 := if frameE f = 0 then encL f else []

theorem headL_ne (k : Int) (f : Frm) (x : List UInt8) : headL k f ++ x ≠ [] := by simp [headL]

set_option maxHeartbeats 3200000 in
theorem encode_any (v : Value) (f : Frm) (w : World) (hv : FrmAt w v f) :
    Calls Try.prog 8 #[v] w fun e w' => e = .returned (.tuple #[.string ⟨(encE f).toArray⟩, .int .i64 (frameE f)]) ∧ Below w.heap.size w w' := by
  have hv0 := hv
  obtain ⟨vl, vg, vc, rfl, hl, hg, hc⟩ := hv
  have hm := mal_of_frm hl hg
  obtain ⟨pl, cl, rfl, _⟩ := id hl
  obtain ⟨pg, cg, rfl, _⟩ := id hg
  obtain ⟨pc, cc, rfl, _⟩ := id hc
  have hgood := fun wx (h : Below w.heap.size w wx) => wgood_any _ f wx (hv0.below h)
  have HV : Hid (FrmAt w (frmV f (.slice pl f.mail.label.length cl) (.slice pg f.mail.grants.length cg) (.slice pc f.certs.length cc)) f) := hv0
  unfold frmV at hgood HV ⊢
  clear hv0
  by_cases h0 : frameE f = 0
  rotate_left
  · have HE : Hid (encE f = []) := hid (by unfold encE; rw [if_neg h0])
    have hne : (frameE f != 0) = true := by simpa using h0
    clear h0
    go_enter Try.func8, Try.ntmps8
    go_wp2_with (go_at_call 11; refine (hgood _ (below_box _ _)).mono ?_; rintro e w1 ⟨rfl, hw1⟩)
    go_ret2
    exact ⟨by rw [HE.out]; rfl, below_then (below_box _ _) hw1⟩
  have hne : (frameE f != 0) = false := by simpa using h0
  have hencE : encE f = encL f := by unfold encE; rw [if_pos h0]
  have HF : Hid (frameE f = 0) := h0
  have hencL : encL f = if f.ack then headL 1 f else headL 0 f ++ [byteL f.thread] ++ mailL f.mail ++ certsL f.certs := rfl
  cases ha : f.ack with
  | true =>
    have HE : Hid (encE f = headL 1 f) := hid (by rw [hencE, hencL, ha]; rfl)
    clear h0 hencE hencL
    rw [ha] at hgood HV
    go_enter Try.func8, Try.ntmps8
    go_wp2_with (go_at_call 11; refine (hgood _ (below_box _ _)).mono ?_; rintro e w1 ⟨rfl, hw1⟩; have hB1 : Kept w.heap.size _ w1 := Kept.of_below hw1; have hd0 := kept_box hB1 (by decide) 0; have hd1 := kept_box hB1 (by decide) 1; have hd2 := kept_box hB1 (by decide) 2; have hd3 := kept_box hB1 (by decide) 3; have hd4 := kept_box hB1 (by decide) 4; have hd5 := kept_box hB1 (by decide) 5; have hd6 := kept_box hB1 (by decide) 6; have hd7 := kept_box hB1 (by decide) 7; have hd8 := kept_box hB1 (by decide) 8; have hd9 := kept_box hB1 (by decide) 9; have hd10 := kept_box hB1 (by decide) 10; have hb1 := below_then (below_box _ _) hw1; clear hw1 hB1)
    go_wp2_with fail
    refine (putHead_any w.heap.size _ _ [] 1 f _ (BytesAt.nil _ _) hb1.size (HV.out.below hb1) (by simp)).mono ?_
    rintro e w2 ⟨v2, rfl, hown2, hk2⟩
    rw [List.nil_append] at hown2
    have hcv := convert_bytes hown2 (by simp [headL])
    have hfin : Below w.heap.size w w2 := ((Kept.of_below hb1).trans hk2).below (Nat.le_refl _)
    clear hown2 hk2
    go_wp2
    go_ret2
    refine ⟨?_, hfin⟩
    show Ending.returned (.tuple #[.string ⟨(headL 1 f).toArray⟩, .int .i64 0]) = _
    rw [HE.out, HF.out]
  | false =>
    have HE : Hid (encE f = headL 0 f ++ [byteL f.thread] ++ mailL f.mail ++ certsL f.certs) := hid (by rw [hencE, hencL, ha]; rfl)
    obtain ⟨hld, hhost, hcs⟩ := loadE_zero (f := f) (by
      unfold frameE at h0
      split at h0
      · rw [ha] at h0; exact h0
      · simp at h0)
    obtain ⟨_, _, hgl, hgg, htx⟩ := mailE_zero hld
    have hl8 : f.mail.label.length ≤ 8 := (of_decide_eq_true hgl).1
    have hg8 : f.mail.grants.length ≤ 8 := ((grantsB_iff _).1 hgg).1
    have hc24 := (certsE_zero hcs).1
    have HH : Hid (f.mail.host = f.fr) := hhost
    clear h0 hencE hencL hld hhost hcs hgl hgg
    rw [ha] at hgood HV
    go_enter Try.func8, Try.ntmps8
    go_wp2_with (go_at_call 11; refine (hgood _ (below_box _ _)).mono ?_; rintro e w1 ⟨rfl, hw1⟩; have hB1 : Kept w.heap.size _ w1 := Kept.of_below hw1; have hd0 := kept_box hB1 (by decide) 0; have hd1 := kept_box hB1 (by decide) 1; have hd2 := kept_box hB1 (by decide) 2; have hd3 := kept_box hB1 (by decide) 3; have hd4 := kept_box hB1 (by decide) 4; have hd5 := kept_box hB1 (by decide) 5; have hd6 := kept_box hB1 (by decide) 6; have hd7 := kept_box hB1 (by decide) 7; have hd8 := kept_box hB1 (by decide) 8; have hd9 := kept_box hB1 (by decide) 9; have hd10 := kept_box hB1 (by decide) 10; have hb1 := below_then (below_box _ _) hw1; clear hw1)
    go_wp2_with fail
    refine (putHead_any w.heap.size _ _ [] 0 f _ (BytesAt.nil _ _) hb1.size (HV.out.below hb1) (by simp)).mono ?_
    rintro e w2 ⟨v2, rfl, hown2, hk2⟩
    rw [List.nil_append] at hown2
    have hB2 := hB1.trans hk2
    have hk02 := kept1 hB2
    have hs2 := hk02.size
    clear hk2 hd0 hd1 hd2 hd3 hd4 hd5 hd6 hd7 hd8 hd9 hd10 hB1
    have hd4 := kept_box hB2 (by decide) 4
    go_wp2_with fail
    refine (put_new w.heap.size _ _ [f.thread] _ _ (hown2.alloc _) (by simp; omega) (heap_alloc_new _ _) (by simp [headL, timeL])).mono ?_
    rintro e w3 ⟨v3, rfl, hown3, hk3⟩
    have hB3 := hB2.trans (kept1 hk3)
    have hk03 := kept1 hB3
    have hs3 := hk03.size
    clear hk3 hd4 hB2 hown2 hk02
    have hd5 := kept_box hB3 (by decide) 5
    have hd6 := kept_box hB3 (by decide) 6
    have hd7 := kept_box hB3 (by decide) 7
    have hd8 := kept_box hB3 (by decide) 8
    have hd9 := kept_box hB3 (by decide) 9
    go_wp2_with fail
    refine (putMail_any _ _ _ f.mail w _ hk03 hown3 hm (by simp [headL, timeL]) hl8 hg8 htx).mono ?_
    rintro e w4 ⟨v4, rfl, hown4, hk4⟩
    have hB4 := hB3.trans hk4
    have hk04 := kept1 hB4
    have hs4 := hk04.size
    clear hk4 hd5 hd6 hd7 hd8 hd9 hB3 hown3 hk03
    have hd10 := kept_box hB4 (by decide) 10
    have hlen4 : (headL 0 f ++ [f.thread].map byteL ++ mailL f.mail).length ≤ 1000 := by
      have h : ∀ q : List (Int × Int), (levelsL q).length = 2 * q.length := fun q => by
        unfold levelsL
        induction q with
        | nil => rfl
        | cons x r ih => rw [List.flatMap_cons, List.length_append, ih]; simp; omega
      simp [headL, timeL, mailL, h]
      omega
    go_wp2_with fail
    refine (putCerts_any w.heap.size _ _ _ f.certs _ hown4 hs4 (fun wr hkr => hc.below ((hk04.trans hkr).below (Nat.le_refl _))) hlen4 hc24).mono ?_
    rintro e w5 ⟨v5, rfl, hown5, hk5⟩
    have hk05 := hk04.trans hk5
    have hcv := convert_bytes hown5 (by simp [headL])
    have hfin : Below w.heap.size w w5 := hk05.below (Nat.le_refl _)
    have HE2 : Hid (encE f = headL 0 f ++ [f.thread].map byteL ++ mailL f.mail ++ certsL f.certs) := HE.out
    clear hown5 hk5 hB4 hd10 hown4 hk04 hk05
    go_wp2
    go_ret2
    refine ⟨?_, hfin⟩
    show Ending.returned (.tuple #[.string ⟨(headL 0 f ++ byteL f.thread :: (mailL f.mail ++ certsL f.certs)).toArray⟩, .int .i64 0]) = _
    rw [HE2.out, HF.out]
    simp
end Go.Proofs.Ytagmnfghkfeplaa
