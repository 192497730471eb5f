/- The statement LineSends. -/
import Derived.Test.YtmpjddnbdidleaaLRefSend
import Derived.Test.YtmpjddnbdidleaaLRefS3
import Derived.Test.YtmpjddnbdidleaaLLines
import Derived.Test.YtmpjddnbdidleaaTakeD
namespace Go.Proofs.Ytmpjddnbdidleaa
open Go.RowKit Go.Proofs.Parclose

theorem heap_alloc_at {w : World} {b : Nat} (hb : w.heap.size = b) (o : Obj) : (w.alloc o).heap[b]? = some o := by
  subst hb
  exact heap_alloc_new w o
theorem lne_since {B : Nat} {w w' : World} {v : Value} {l : Lne} (h : LneNew B w v l) (hs : Since B w w') : LneAt w' v l := by
  obtain ⟨vs, q, e, h8, hm, hl, ho⟩ := h
  exact ⟨vs, e, h8, snts_raw (own_since ho.own hs) hl hm (fun x hx => ho.ok x hx w' (fun k h1 h2 _ => hs k h1 h2))⟩
theorem LneAt.of {w : World} {v : Value} {nx hi : Int} {st : List Snt} {b0 b1 b2 b3 b4 b5 b6 b7 : Bool} (h : LneAt w v ⟨nx, st, hi, [b0, b1, b2, b3, b4, b5, b6, b7]⟩) : ∃ p cap, v = .agg #[.int .i64 nx, .slice p st.length cap, .int .i64 hi, .bool b0, .bool b1, .bool b2, .bool b3, .bool b4, .bool b5, .bool b6, .bool b7] ∧ SntsAt w (.slice p st.length cap) st := by
  obtain ⟨vs, rfl, _, hs⟩ := h
  obtain ⟨p, cap, rfl⟩ := hs.slice
  exact ⟨p, cap, rfl, hs⟩

set_option linter.unusedSimpArgs false in
set_option maxRecDepth 100000 in
set_option maxHeartbeats 12800000 in
theorem lineSends_any (v vf : Value) (L : Lne) (f : Frm) (now : Int) (w : World) (hv : LneAt w v L) (hf : FrmAt w vf f) :
    Calls Try.prog 3 #[v, vf, .int .i64 now] w fun e w' => e = .returned (.bool true) ∧ Below w.heap.size w w' := by
  have HV := hid hv
  have HF := hid hf
  obtain ⟨nx, st, hi, b0, b1, b2, b3, b4, b5, b6, b7, p, cap, rfl, rfl, hs⟩ := hv.spell
  obtain ⟨vl, vg, vc, rfl, ⟨pl, cl, rfl, _⟩, ⟨pg, cg, rfl, _⟩, ⟨pc, cc, rfl, _⟩⟩ := hf
  clear hv hs
  unfold frmV at *
  have hb0 : Below w.heap.size w ((w.alloc (.cells #[.int .i64 nx, .slice p st.length cap, .int .i64 hi, .bool b0, .bool b1, .bool b2, .bool b3, .bool b4, .bool b5, .bool b6, .bool b7] 25)).alloc (.cells #[.int .i64 f.fr, .int .i64 f.to, .int .i64 f.seq, .bool f.ack, .int .i64 f.thread, .int .i64 f.mail.host, .int .i64 f.mail.thread, .slice pl f.mail.label.length cl, .slice pg f.mail.grants.length cg, .string ⟨f.mail.text.toArray⟩, .slice pc f.certs.length cc] 33)) := (below_box w _).alloc (by simp) _
  go_enter Try.func3, Try.ntmps3
  go_wp2_with fail
  refine (rcopyLine_any _ _ _ (HV.out.below hb0)).mono ?_
  rintro e w1 ⟨v1, rfl, hn1, hw1⟩
  have hb1 := below_then hb0 hw1
  have HL1 := hid (heap_keep (heap_alloc2_old w _ _) hw1)
  have HFB1 := hid (heap_keep (heap_alloc2_new w _ _) hw1)
  obtain ⟨p1, cap1, rfl, hs1⟩ := hn1.at.of
  have HLA1 := hid hn1.at
  have hlt1 : w.heap.size + 1 < w1.heap.size := heap_lt HFB1.out
  clear hw1 hb0 hn1 hs1
  go_upto_region 2 with fail
  obtain ⟨w2, hw2⟩ : ∃ w2, w2 = w1.alloc (.cells #[.int .i64 nx, .slice p1 st.length cap1, .int .i64 hi, .bool b0, .bool b1, .bool b2, .bool b3, .bool b4, .bool b5, .bool b6, .bool b7] 25) := ⟨_, rfl⟩
  have HX2 : Hid (w2.heap[w1.heap.size]? = some (.cells #[.int .i64 nx, .slice p1 st.length cap1, .int .i64 hi, .bool b0, .bool b1, .bool b2, .bool b3, .bool b4, .bool b5, .bool b6, .bool b7] 25 (0, 0))) := hid (by rw [hw2]; exact heap_alloc_new w1 _)
  have HL2 : Hid (w2.heap[w.heap.size]? = some (.cells #[.int .i64 nx, .slice p st.length cap, .int .i64 hi, .bool b0, .bool b1, .bool b2, .bool b3, .bool b4, .bool b5, .bool b6, .bool b7] 25 (0, 0))) := hid (by rw [hw2]; exact heap_new HL1.out _)
  have HFB2 : Hid (w2.heap[w.heap.size + 1]? = some (.cells #[.int .i64 f.fr, .int .i64 f.to, .int .i64 f.seq, .bool f.ack, .int .i64 f.thread, .int .i64 f.mail.host, .int .i64 f.mail.thread, .slice pl f.mail.label.length cl, .slice pg f.mail.grants.length cg, .string ⟨f.mail.text.toArray⟩, .slice pc f.certs.length cc] 33 (0, 0))) := hid (by rw [hw2]; exact heap_new HFB1.out _)
  have hb12 : Below w1.heap.size w1 w2 := by rw [hw2]; exact below_box w1 _
  rw [← hw2]
  have hb2 := below_then hb1 hb12
  have HLX := hid (HLA1.out.below hb12)
  have HFRM := hid (HF.out.below hb2)
  have hlt2 : w1.heap.size < w2.heap.size := heap_lt HX2.out
  have hb22 : Below w2.heap.size w2 w2 := Below.refl _ _
  have HS : Hid (∀ w', Below w2.heap.size w2 w' → w'.cell? ⟨w1.heap.size, 0, none⟩ = some (.int .i64 nx) ∧ w'.cell? ⟨w1.heap.size, 1, none⟩ = some (.slice p1 st.length cap1) ∧ w'.cell? ⟨w1.heap.size, 2, none⟩ = some (.int .i64 hi) ∧ w'.cell? ⟨w1.heap.size, 3, none⟩ = some (.bool b0) ∧ w'.cell? ⟨w1.heap.size, 4, none⟩ = some (.bool b1) ∧ w'.cell? ⟨w1.heap.size, 5, none⟩ = some (.bool b2) ∧ w'.cell? ⟨w1.heap.size, 6, none⟩ = some (.bool b3) ∧ w'.cell? ⟨w1.heap.size, 7, none⟩ = some (.bool b4) ∧ w'.cell? ⟨w1.heap.size, 8, none⟩ = some (.bool b5) ∧ w'.cell? ⟨w1.heap.size, 9, none⟩ = some (.bool b6) ∧ w'.cell? ⟨w1.heap.size, 10, none⟩ = some (.bool b7) ∧ w'.cell? ⟨w.heap.size + 1, 0, none⟩ = some (.int .i64 f.fr) ∧ w'.cell? ⟨w.heap.size + 1, 1, none⟩ = some (.int .i64 f.to) ∧ w'.cell? ⟨w.heap.size + 1, 2, none⟩ = some (.int .i64 f.seq) ∧ w'.cell? ⟨w.heap.size + 1, 3, none⟩ = some (.bool f.ack) ∧ w'.cell? ⟨w.heap.size + 1, 4, none⟩ = some (.int .i64 f.thread) ∧ w'.cell? ⟨w.heap.size + 1, 5, none⟩ = some (.int .i64 f.mail.host) ∧ w'.cell? ⟨w.heap.size + 1, 6, none⟩ = some (.int .i64 f.mail.thread) ∧ w'.cell? ⟨w.heap.size + 1, 7, none⟩ = some (.slice pl f.mail.label.length cl) ∧ w'.cell? ⟨w.heap.size + 1, 8, none⟩ = some (.slice pg f.mail.grants.length cg) ∧ w'.cell? ⟨w.heap.size + 1, 9, none⟩ = some (.string ⟨f.mail.text.toArray⟩) ∧ w'.cell? ⟨w.heap.size + 1, 10, none⟩ = some (.slice pc f.certs.length cc)) := hid (fun w' hw => ⟨heap_cell (heap_keep HX2.out hw) 0, heap_cell (heap_keep HX2.out hw) 1, heap_cell (heap_keep HX2.out hw) 2, heap_cell (heap_keep HX2.out hw) 3, heap_cell (heap_keep HX2.out hw) 4, heap_cell (heap_keep HX2.out hw) 5, heap_cell (heap_keep HX2.out hw) 6, heap_cell (heap_keep HX2.out hw) 7, heap_cell (heap_keep HX2.out hw) 8, heap_cell (heap_keep HX2.out hw) 9, heap_cell (heap_keep HX2.out hw) 10, heap_cell (heap_keep HFB2.out hw) 0, heap_cell (heap_keep HFB2.out hw) 1, heap_cell (heap_keep HFB2.out hw) 2, heap_cell (heap_keep HFB2.out hw) 3, heap_cell (heap_keep HFB2.out hw) 4, heap_cell (heap_keep HFB2.out hw) 5, heap_cell (heap_keep HFB2.out hw) 6, heap_cell (heap_keep HFB2.out hw) 7, heap_cell (heap_keep HFB2.out hw) 8, heap_cell (heap_keep HFB2.out hw) 9, heap_cell (heap_keep HFB2.out hw) 10⟩)
  obtain ⟨S1, g, cd, hSd⟩ : ∃ S1 g cd, sendLn ⟨nx, st, hi, [b0, b1, b2, b3, b4, b5, b6, b7]⟩ f now = (S1, g, cd) := ⟨_, _, _, rfl⟩
  clear hw2 HL1 HFB1 hb1 HLA1
  go_cut [8, 9, 10] (fun v8 v9 v10 wx => ∃ (A C : Nat) (nx1 : Int) (st1 : List Snt) (hi1 : Int) (b01 b11 b21 b31 b41 b51 b61 b71 : Bool) (p2 : Option Addr) (cap2 : Nat) (gl gg gc : Option Addr) (hl hg hc : Nat), v8 = .pointer (some ⟨A, 0, none⟩) ∧ v9 = .pointer (some ⟨C, 0, none⟩) ∧ v10 = .int .i64 cd ∧ S1 = ⟨nx1, st1, hi1, [b01, b11, b21, b31, b41, b51, b61, b71]⟩ ∧ wx.heap[A]? = some (.cells #[.int .i64 nx1, .slice p2 st1.length cap2, .int .i64 hi1, .bool b01, .bool b11, .bool b21, .bool b31, .bool b41, .bool b51, .bool b61, .bool b71] 25 (0, 0)) ∧ wx.heap[C]? = some (.cells #[.int .i64 g.fr, .int .i64 g.to, .int .i64 g.seq, .bool g.ack, .int .i64 g.thread, .int .i64 g.mail.host, .int .i64 g.mail.thread, .slice gl g.mail.label.length hl, .slice gg g.mail.grants.length hg, .string ⟨g.mail.text.toArray⟩, .slice gc g.certs.length hc] 33 (0, 0)) ∧ LneAt wx (.agg #[.int .i64 nx1, .slice p2 st1.length cap2, .int .i64 hi1, .bool b01, .bool b11, .bool b21, .bool b31, .bool b41, .bool b51, .bool b61, .bool b71]) ⟨nx1, st1, hi1, [b01, b11, b21, b31, b41, b51, b61, b71]⟩ ∧ FrmAt wx (.agg #[.int .i64 g.fr, .int .i64 g.to, .int .i64 g.seq, .bool g.ack, .int .i64 g.thread, .int .i64 g.mail.host, .int .i64 g.mail.thread, .slice gl g.mail.label.length hl, .slice gg g.mail.grants.length hg, .string ⟨g.mail.text.toArray⟩, .slice gc g.certs.length hc]) g ∧ Below w2.heap.size w2 wx ∧ w2.heap.size ≤ A ∧ w2.heap.size ≤ C)
  case first =>
    refine wp_region_held_drew (S := (fun w' => w'.cell? ⟨w1.heap.size, 0, none⟩ = some (.int .i64 nx) ∧ w'.cell? ⟨w1.heap.size, 1, none⟩ = some (.slice p1 st.length cap1) ∧ w'.cell? ⟨w1.heap.size, 2, none⟩ = some (.int .i64 hi) ∧ w'.cell? ⟨w1.heap.size, 3, none⟩ = some (.bool b0) ∧ w'.cell? ⟨w1.heap.size, 4, none⟩ = some (.bool b1) ∧ w'.cell? ⟨w1.heap.size, 5, none⟩ = some (.bool b2) ∧ w'.cell? ⟨w1.heap.size, 6, none⟩ = some (.bool b3) ∧ w'.cell? ⟨w1.heap.size, 7, none⟩ = some (.bool b4) ∧ w'.cell? ⟨w1.heap.size, 8, none⟩ = some (.bool b5) ∧ w'.cell? ⟨w1.heap.size, 9, none⟩ = some (.bool b6) ∧ w'.cell? ⟨w1.heap.size, 10, none⟩ = some (.bool b7) ∧ w'.cell? ⟨w.heap.size + 1, 0, none⟩ = some (.int .i64 f.fr) ∧ w'.cell? ⟨w.heap.size + 1, 1, none⟩ = some (.int .i64 f.to) ∧ w'.cell? ⟨w.heap.size + 1, 2, none⟩ = some (.int .i64 f.seq) ∧ w'.cell? ⟨w.heap.size + 1, 3, none⟩ = some (.bool f.ack) ∧ w'.cell? ⟨w.heap.size + 1, 4, none⟩ = some (.int .i64 f.thread) ∧ w'.cell? ⟨w.heap.size + 1, 5, none⟩ = some (.int .i64 f.mail.host) ∧ w'.cell? ⟨w.heap.size + 1, 6, none⟩ = some (.int .i64 f.mail.thread) ∧ w'.cell? ⟨w.heap.size + 1, 7, none⟩ = some (.slice pl f.mail.label.length cl) ∧ w'.cell? ⟨w.heap.size + 1, 8, none⟩ = some (.slice pg f.mail.grants.length cg) ∧ w'.cell? ⟨w.heap.size + 1, 9, none⟩ = some (.string ⟨f.mail.text.toArray⟩) ∧ w'.cell? ⟨w.heap.size + 1, 10, none⟩ = some (.slice pc f.certs.length cc))) (by as_aux_lemma => kernel_rfl) (HS.out _ (Below.refl _ _).drew) (fun _hHeld => ?_)
    refine takeD 0 17 ?v1 rfl (by as_aux_lemma => kernel_rfl) (by as_aux_lemma => kernel_rfl) (by as_aux_lemma => kernel_rfl) (by as_aux_lemma => kernel_rfl) (fun _ _ _ h => h) (Or.inl ⟨by rfl, ?hy1⟩) (by assumption) ?rest1
    case hy1 => intro wz hSw; (try dsimp only at hSw); go_simp; try with_reducible rfl
    simp only [Act.put, List.setIfInBounds_toArray, List.set_cons_zero, List.set_cons_succ]
    refine takeD 1 18 ?v2 rfl (by as_aux_lemma => kernel_rfl) (by as_aux_lemma => kernel_rfl) (by as_aux_lemma => kernel_rfl) (by as_aux_lemma => kernel_rfl) (fun _ _ _ h => h) (Or.inl ⟨by rfl, ?hy2⟩) (by assumption) ?rest2
    case hy2 => intro wz hSw; (try dsimp only at hSw); go_simp; try with_reducible rfl
    simp only [Act.put, List.setIfInBounds_toArray, List.set_cons_zero, List.set_cons_succ]
    refine takeD 3 20 ?v3 rfl (by as_aux_lemma => kernel_rfl) (by as_aux_lemma => kernel_rfl) (by as_aux_lemma => kernel_rfl) (by as_aux_lemma => kernel_rfl) (fun _ _ _ h => h) (Or.inl ⟨by rfl, ?hy3⟩) (by assumption) ?rest3
    case hy3 => intro wz hSw; (try dsimp only at hSw); go_simp; try with_reducible rfl
    simp only [Act.put, List.setIfInBounds_toArray, List.set_cons_zero, List.set_cons_succ]
    refine wpAnyH_ready (rs := [2, 9, 10]) (by as_aux_lemma => kernel_rfl) (by simp) ?_
    refine (AllReadyH.cons rfl (fun K' hK => ?_) (AllReadyH.cons rfl (fun K' hK => ?_) (AllReadyH.cons rfl (fun K' hK => ?_) AllReadyH.nil)))
    · skip
      go_simp
      go_wp2_with (go_at_call 11; refine (rcopyFrame_since _ f _ (HFRM.out.below ((hb22).drew))).mono ?_; rintro e wv1 ⟨pA, cA, pD, cD, pC, cC, rfl, hcopy, hw2d⟩)
      have hw2 : Below w2.heap.size w2 wv1 := ⟨hw2d.os, hw2d.tape, hw2d.output, hw2d.size, hw2d.block⟩
      have hb3 := below_then hb22 hw2
      have hz4 : w2.heap.size ≤ wv1.heap.size := hw2.size
      have HFC : Hid (∀ wx, Below wv1.heap.size wv1 wx → FrmAt wx (.agg #[.int .i64 f.fr, .int .i64 f.to, .int .i64 f.seq, .bool f.ack, .int .i64 f.thread, .int .i64 f.mail.host, .int .i64 f.mail.thread, .slice pA f.mail.label.length cA, .slice pD f.mail.grants.length cD, .string ⟨f.mail.text.toArray⟩, .slice pC f.certs.length cC]) f) := hid (fun wx hx => by obtain ⟨q1, q2, q3⟩ := hcopy wx (since_below hx); exact ⟨_, _, _, rfl, q1, q2, q3⟩)
      have hA5 : Below wv1.heap.size wv1 wv1 := Below.refl _ _
      clear hcopy hw2d
      refine hK.out _ _ (HS.out _ hb3) (fun _ => ?_)
      clear hK K'
      refine wpAnyH_ready (rs := [4, 9, 10]) (by as_aux_lemma => kernel_rfl) (by simp) ?_
      refine (AllReadyH.cons rfl (fun K' hK => ?_) (AllReadyH.cons rfl (fun K' hK => ?_) (AllReadyH.cons rfl (fun K' hK => ?_) AllReadyH.nil)))
      · skip
        go_simp
        go_wp2_with (go_at_call 10; refine (lsend_any _ _ ⟨nx, st, hi, [b0, b1, b2, b3, b4, b5, b6, b7]⟩ f now _ (HLX.out.below (hb3)) (HFC.out _ hA5)).mono ?_; rintro e wv6 ⟨v1, vf1, rfl, hn1, hf1, hw7d⟩)
        have hw7 : Below wv1.heap.size wv1 wv6 := ⟨hw7d.os, hw7d.tape, hw7d.output, hw7d.size, hw7d.block⟩
        have hb8 := below_then hb3 hw7
        have hz9 : wv1.heap.size ≤ wv6.heap.size := hw7.size
        rw [hSd] at hn1 hf1
        simp only at hn1 hf1
        replace hn1 : LneNew wv1.heap.size wv6 v1 S1 := hn1
        replace hf1 : ∀ w'', Since wv1.heap.size wv6 w'' → FrmAt w'' vf1 g := hf1
        obtain ⟨nx1, st1, hi1, b01, b11, b21, b31, b41, b51, b61, b71, p2, cap2, sq1, e1, rfl, _, _, _⟩ := hn1.spell
        obtain ⟨vl1, vg1, vc1, rfl, ⟨gl, hl, rfl, _⟩, ⟨gg, hg, rfl, _⟩, ⟨gc, hc, rfl, _⟩⟩ := hf1 wv6 (Since.refl _ _)
        unfold frmV at hf1
        unfold frmV
        have HN1 := hid hn1
        have HF1 := hid hf1
        have hB10 : Below wv6.heap.size wv6 wv6 := Below.refl _ _
        clear hn1 hf1 hw7d
        refine hK.out _ _ (HS.out _ hb8) (fun _ => ?_)
        clear hK K'
        refine takeD 5 16 ?v4 rfl (by as_aux_lemma => kernel_rfl) (by as_aux_lemma => kernel_rfl) (by as_aux_lemma => kernel_rfl) (by as_aux_lemma => kernel_rfl) (fun _ _ _ h => h) (Or.inl ⟨by rfl, ?hy4⟩) (by assumption) ?rest4
        case hy4 => intro wz hSw; (try dsimp only at hSw); go_simp; try with_reducible rfl
        simp only [Act.put, List.setIfInBounds_toArray, List.set_cons_zero, List.set_cons_succ]
        refine takeD 6 22 ?v5 rfl (by as_aux_lemma => kernel_rfl) (by as_aux_lemma => kernel_rfl) (by as_aux_lemma => kernel_rfl) (by as_aux_lemma => kernel_rfl) (fun _ _ _ h => h) (Or.inl ⟨by rfl, ?hy5⟩) (by assumption) ?rest5
        case hy5 => intro wz hSw; (try dsimp only at hSw); go_simp; try with_reducible rfl
        simp only [Act.put, List.setIfInBounds_toArray, List.set_cons_zero, List.set_cons_succ]
        refine takeD 7 23 ?v6 rfl (by as_aux_lemma => kernel_rfl) (by as_aux_lemma => kernel_rfl) (by as_aux_lemma => kernel_rfl) (by as_aux_lemma => kernel_rfl) (fun _ _ _ h => h) (Or.inl ⟨by rfl, ?hy6⟩) (by assumption) ?rest6
        case hy6 => intro wz hSw; (try dsimp only at hSw); go_simp; try with_reducible rfl
        simp only [Act.put, List.setIfInBounds_toArray, List.set_cons_zero, List.set_cons_succ]
        refine takeD 8 24 ?v7 rfl (by as_aux_lemma => kernel_rfl) (by as_aux_lemma => kernel_rfl) (by as_aux_lemma => kernel_rfl) (by as_aux_lemma => kernel_rfl) (fun _ _ _ h => h) (Or.inl ⟨by rfl, ?hy7⟩) (by assumption) ?rest7
        case hy7 => intro wz hSw; (try dsimp only at hSw); go_simp; try with_reducible rfl
        simp only [Act.put, List.setIfInBounds_toArray, List.set_cons_zero, List.set_cons_succ]
        refine wpAnyH_ready (rs := [9, 10]) (by as_aux_lemma => kernel_rfl) (by simp) ?_
        refine (AllReadyH.cons rfl (fun K' hK => ?_) (AllReadyH.cons rfl (fun K' hK => ?_) AllReadyH.nil))
        · skip
          go_simp
          have HB11 := hid (heap_alloc_at (w := wv6) rfl (.cells #[.int .i64 0, .slice none 0 0, .int .i64 0, .bool false, .bool false, .bool false, .bool false, .bool false, .bool false, .bool false, .bool false] 25))
          have hb12 : Below w2.heap.size w2 (wv6.alloc (.cells #[.int .i64 0, .slice none 0 0, .int .i64 0, .bool false, .bool false, .bool false, .bool false, .bool false, .bool false, .bool false, .bool false] 25)) := hb8.alloc hb8.size _
          have hz13 : (wv6.alloc (.cells #[.int .i64 0, .slice none 0 0, .int .i64 0, .bool false, .bool false, .bool false, .bool false, .bool false, .bool false, .bool false, .bool false] 25)).heap.size = wv6.heap.size + 1 := size_box _ _
          have hB14 := hB10.alloc hB10.size (.cells #[.int .i64 0, .slice none 0 0, .int .i64 0, .bool false, .bool false, .bool false, .bool false, .bool false, .bool false, .bool false, .bool false] 25)
          refine hK.out _ _ (HS.out _ (hb12)) (fun _ => ?_)
          clear hK K'
          refine wpAnyH_ready (rs := [10]) (by as_aux_lemma => kernel_rfl) (by simp) ?_
          refine (AllReadyH.cons rfl (fun K' hK => ?_) AllReadyH.nil)
          · skip
            go_simp
            have HB15 := hid (heap_alloc_at (show (wv6.alloc (.cells #[.int .i64 0, .slice none 0 0, .int .i64 0, .bool false, .bool false, .bool false, .bool false, .bool false, .bool false, .bool false, .bool false] 25)).heap.size = wv6.heap.size + 1 from size_box _ _) (.cells #[.int .i64 0, .int .i64 0, .int .i64 0, .bool false, .int .i64 0, .int .i64 0, .int .i64 0, .slice none 0 0, .slice none 0 0, .string ⟨#[]⟩, .slice none 0 0] 33))
            have hb16 : Below w2.heap.size w2 ((wv6.alloc (.cells #[.int .i64 0, .slice none 0 0, .int .i64 0, .bool false, .bool false, .bool false, .bool false, .bool false, .bool false, .bool false, .bool false] 25)).alloc (.cells #[.int .i64 0, .int .i64 0, .int .i64 0, .bool false, .int .i64 0, .int .i64 0, .int .i64 0, .slice none 0 0, .slice none 0 0, .string ⟨#[]⟩, .slice none 0 0] 33)) := hb12.alloc hb12.size _
            have hz17 : ((wv6.alloc (.cells #[.int .i64 0, .slice none 0 0, .int .i64 0, .bool false, .bool false, .bool false, .bool false, .bool false, .bool false, .bool false, .bool false] 25)).alloc (.cells #[.int .i64 0, .int .i64 0, .int .i64 0, .bool false, .int .i64 0, .int .i64 0, .int .i64 0, .slice none 0 0, .slice none 0 0, .string ⟨#[]⟩, .slice none 0 0] 33)).heap.size = wv6.heap.size + 1 + 1 := by rw [size_box]; exact congrArg (· + 1) (size_box _ _)
            have HB18 := hid (heap_new HB11.out (.cells #[.int .i64 0, .int .i64 0, .int .i64 0, .bool false, .int .i64 0, .int .i64 0, .int .i64 0, .slice none 0 0, .slice none 0 0, .string ⟨#[]⟩, .slice none 0 0] 33))
            have hB19 := hB14.alloc hB14.size (.cells #[.int .i64 0, .int .i64 0, .int .i64 0, .bool false, .int .i64 0, .int .i64 0, .int .i64 0, .slice none 0 0, .slice none 0 0, .string ⟨#[]⟩, .slice none 0 0] 33)
            refine hK.out _ _ (HS.out _ (hb16)) (fun _ => ?_)
            clear hK K'
            have hAB : wv6.heap.size < wv1.heap.size ∨ wv6.heap.size ≤ wv6.heap.size := by omega
            have hCB : wv6.heap.size + 1 < wv1.heap.size ∨ wv6.heap.size ≤ wv6.heap.size + 1 := by omega
            have hAC : wv6.heap.size ≠ wv6.heap.size + 1 := by omega
            have hA2 : w2.heap.size ≤ wv6.heap.size := by omega
            have hC2 : w2.heap.size ≤ wv6.heap.size + 1 := by omega
            have hFBB := hB19
            generalize ((wv6.alloc (.cells #[.int .i64 0, .slice none 0 0, .int .i64 0, .bool false, .bool false, .bool false, .bool false, .bool false, .bool false, .bool false, .bool false] 25)).alloc (.cells #[.int .i64 0, .int .i64 0, .int .i64 0, .bool false, .int .i64 0, .int .i64 0, .int .i64 0, .slice none 0 0, .slice none 0 0, .string ⟨#[]⟩, .slice none 0 0] 33)) = wF at *
            have d0 := heap_cell HB18.out 0
            have df0 := heap_frozen HB18.out 0
            have d1 := heap_cell HB18.out 1
            have df1 := heap_frozen HB18.out 1
            have d2 := heap_cell HB18.out 2
            have df2 := heap_frozen HB18.out 2
            have d3 := heap_cell HB18.out 3
            have df3 := heap_frozen HB18.out 3
            have d4 := heap_cell HB18.out 4
            have df4 := heap_frozen HB18.out 4
            have d5 := heap_cell HB18.out 5
            have df5 := heap_frozen HB18.out 5
            have d6 := heap_cell HB18.out 6
            have df6 := heap_frozen HB18.out 6
            have d7 := heap_cell HB18.out 7
            have df7 := heap_frozen HB18.out 7
            have d8 := heap_cell HB18.out 8
            have df8 := heap_frozen HB18.out 8
            have d9 := heap_cell HB18.out 9
            have df9 := heap_frozen HB18.out 9
            have d10 := heap_cell HB18.out 10
            have df10 := heap_frozen HB18.out 10
            refine wpAnyH_ready (rs := [11]) (by as_aux_lemma => kernel_rfl) (by simp) ?_
            refine (AllReadyH.cons rfl (fun K' hK => ?_) AllReadyH.nil)
            go_simp
            have hS1 := st11_grown wF (wv6.heap.size) (.int .i64 nx1) (.slice p2 st1.length cap2) (.int .i64 hi1) (.bool b01) (.bool b11) (.bool b21) (.bool b31) (.bool b41) (.bool b51) (.bool b61) (.bool b71)
            have hb1E := hb16.grown hS1 hb16.size (fun k hk => by have := Option.some.inj hk; omega)
            refine hK.out _ _ (HS.out _ hb1E) (fun _ => ?_)
            clear hK K' d0 df0 d1 df1 d2 df2 d3 df3 d4 df4 d5 df5 d6 df6 d7 df7 d8 df8 d9 df9 d10 df10
            have hX1 := st11_heap (.int .i64 nx1) (.slice p2 st1.length cap2) (.int .i64 hi1) (.bool b01) (.bool b11) (.bool b21) (.bool b31) (.bool b41) (.bool b51) (.bool b61) (.bool b71) HB18.out
            have hY1 := heap_tk HB15.out (Ne.symm hAC) hS1
            have g0 := heap_cell hY1 0
            have gf0 := heap_frozen hY1 0
            have g1 := heap_cell hY1 1
            have gf1 := heap_frozen hY1 1
            have g2 := heap_cell hY1 2
            have gf2 := heap_frozen hY1 2
            have g3 := heap_cell hY1 3
            have gf3 := heap_frozen hY1 3
            have g4 := heap_cell hY1 4
            have gf4 := heap_frozen hY1 4
            have g5 := heap_cell hY1 5
            have gf5 := heap_frozen hY1 5
            have g6 := heap_cell hY1 6
            have gf6 := heap_frozen hY1 6
            have g7 := heap_cell hY1 7
            have gf7 := heap_frozen hY1 7
            have g8 := heap_cell hY1 8
            have gf8 := heap_frozen hY1 8
            have g9 := heap_cell hY1 9
            have gf9 := heap_frozen hY1 9
            have g10 := heap_cell hY1 10
            have gf10 := heap_frozen hY1 10
            have HX1 := hid hX1
            have HY1 := hid hY1
            clear hX1 hY1
            unfold st11 at *
            refine wpAnyH_ready (rs := [12]) (by as_aux_lemma => kernel_rfl) (by simp) ?_
            refine (AllReadyH.cons rfl (fun K' hK => ?_) AllReadyH.nil)
            go_simp
            have hS2 := st11_grown (st11 wF (wv6.heap.size) (.int .i64 nx1) (.slice p2 st1.length cap2) (.int .i64 hi1) (.bool b01) (.bool b11) (.bool b21) (.bool b31) (.bool b41) (.bool b51) (.bool b61) (.bool b71)) (wv6.heap.size + 1) (.int .i64 g.fr) (.int .i64 g.to) (.int .i64 g.seq) (.bool g.ack) (.int .i64 g.thread) (.int .i64 g.mail.host) (.int .i64 g.mail.thread) (.slice gl g.mail.label.length hl) (.slice gg g.mail.grants.length hg) (.string ⟨g.mail.text.toArray⟩) (.slice gc g.certs.length hc)
            have hb2E := hb1E.grown hS2 hb1E.size (fun k hk => by have := Option.some.inj hk; omega)
            refine hK.out _ _ (HS.out _ hb2E) (fun _ => ?_)
            clear hK K' g0 gf0 g1 gf1 g2 gf2 g3 gf3 g4 gf4 g5 gf5 g6 gf6 g7 gf7 g8 gf8 g9 gf9 g10 gf10
            refine takeD 13 10 ?v8 rfl (by as_aux_lemma => kernel_rfl) (by as_aux_lemma => kernel_rfl) (by as_aux_lemma => kernel_rfl) (by as_aux_lemma => kernel_rfl) (fun _ _ _ h => h) (Or.inl ⟨by rfl, ?hy8⟩) (by assumption) ?rest8
            case hy8 => intro wz hSw; (try dsimp only at hSw); go_simp; try with_reducible rfl
            simp only [Act.put, List.setIfInBounds_toArray, List.set_cons_zero, List.set_cons_succ]
            refine wpAnyH_done (by as_aux_lemma => kernel_rfl) ?_ _
            go_wp2_with fail
            go_meet
            have hSE : Since (wv1.heap.size) wv6 (st11 (st11 wF (wv6.heap.size) (.int .i64 nx1) (.slice p2 st1.length cap2) (.int .i64 hi1) (.bool b01) (.bool b11) (.bool b21) (.bool b31) (.bool b41) (.bool b51) (.bool b61) (.bool b71)) (wv6.heap.size + 1) (.int .i64 g.fr) (.int .i64 g.to) (.int .i64 g.seq) (.bool g.ack) (.int .i64 g.thread) (.int .i64 g.mail.host) (.int .i64 g.mail.thread) (.slice gl g.mail.label.length hl) (.slice gg g.mail.grants.length hg) (.string ⟨g.mail.text.toArray⟩) (.slice gc g.certs.length hc)) := fun k h1 h2 => by
              rw [hS2.block k (Nat.lt_of_lt_of_le h2 (Nat.le_trans hFBB.size hS1.size)) (fun e => by have := Option.some.inj e; omega), hS1.block k (Nat.lt_of_lt_of_le h2 hFBB.size) (fun e => by have := Option.some.inj e; omega)]
              exact hFBB.block k h2
            exact ⟨wv6.heap.size, wv6.heap.size + 1, nx1, st1, hi1, b01, b11, b21, b31, b41, b51, b61, b71, p2, cap2, gl, gg, gc, hl, hg, hc, rfl, rfl, rfl, e1, heap_tk HX1.out hAC hS2, st11_heap (.int .i64 g.fr) (.int .i64 g.to) (.int .i64 g.seq) (.bool g.ack) (.int .i64 g.thread) (.int .i64 g.mail.host) (.int .i64 g.mail.thread) (.slice gl g.mail.label.length hl) (.slice gg g.mail.grants.length hg) (.string ⟨g.mail.text.toArray⟩) (.slice gc g.certs.length hc) HY1.out, by rw [← e1]; exact lne_since HN1.out hSE, HF1.out _ hSE, hb2E, hA2, hC2⟩
        · skip
          go_simp
          have HB20 := hid (heap_alloc_at (w := wv6) rfl (.cells #[.int .i64 0, .int .i64 0, .int .i64 0, .bool false, .int .i64 0, .int .i64 0, .int .i64 0, .slice none 0 0, .slice none 0 0, .string ⟨#[]⟩, .slice none 0 0] 33))
          have hb21 : Below w2.heap.size w2 (wv6.alloc (.cells #[.int .i64 0, .int .i64 0, .int .i64 0, .bool false, .int .i64 0, .int .i64 0, .int .i64 0, .slice none 0 0, .slice none 0 0, .string ⟨#[]⟩, .slice none 0 0] 33)) := hb8.alloc hb8.size _
          have hz22 : (wv6.alloc (.cells #[.int .i64 0, .int .i64 0, .int .i64 0, .bool false, .int .i64 0, .int .i64 0, .int .i64 0, .slice none 0 0, .slice none 0 0, .string ⟨#[]⟩, .slice none 0 0] 33)).heap.size = wv6.heap.size + 1 := size_box _ _
          have hB23 := hB10.alloc hB10.size (.cells #[.int .i64 0, .int .i64 0, .int .i64 0, .bool false, .int .i64 0, .int .i64 0, .int .i64 0, .slice none 0 0, .slice none 0 0, .string ⟨#[]⟩, .slice none 0 0] 33)
          refine hK.out _ _ (HS.out _ (hb21)) (fun _ => ?_)
          clear hK K'
          refine wpAnyH_ready (rs := [9]) (by as_aux_lemma => kernel_rfl) (by simp) ?_
          refine (AllReadyH.cons rfl (fun K' hK => ?_) AllReadyH.nil)
          · skip
            go_simp
            have HB24 := hid (heap_alloc_at (show (wv6.alloc (.cells #[.int .i64 0, .int .i64 0, .int .i64 0, .bool false, .int .i64 0, .int .i64 0, .int .i64 0, .slice none 0 0, .slice none 0 0, .string ⟨#[]⟩, .slice none 0 0] 33)).heap.size = wv6.heap.size + 1 from size_box _ _) (.cells #[.int .i64 0, .slice none 0 0, .int .i64 0, .bool false, .bool false, .bool false, .bool false, .bool false, .bool false, .bool false, .bool false] 25))
            have hb25 : Below w2.heap.size w2 ((wv6.alloc (.cells #[.int .i64 0, .int .i64 0, .int .i64 0, .bool false, .int .i64 0, .int .i64 0, .int .i64 0, .slice none 0 0, .slice none 0 0, .string ⟨#[]⟩, .slice none 0 0] 33)).alloc (.cells #[.int .i64 0, .slice none 0 0, .int .i64 0, .bool false, .bool false, .bool false, .bool false, .bool false, .bool false, .bool false, .bool false] 25)) := hb21.alloc hb21.size _
            have hz26 : ((wv6.alloc (.cells #[.int .i64 0, .int .i64 0, .int .i64 0, .bool false, .int .i64 0, .int .i64 0, .int .i64 0, .slice none 0 0, .slice none 0 0, .string ⟨#[]⟩, .slice none 0 0] 33)).alloc (.cells #[.int .i64 0, .slice none 0 0, .int .i64 0, .bool false, .bool false, .bool false, .bool false, .bool false, .bool false, .bool false, .bool false] 25)).heap.size = wv6.heap.size + 1 + 1 := by rw [size_box]; exact congrArg (· + 1) (size_box _ _)
            have HB27 := hid (heap_new HB20.out (.cells #[.int .i64 0, .slice none 0 0, .int .i64 0, .bool false, .bool false, .bool false, .bool false, .bool false, .bool false, .bool false, .bool false] 25))
            have hB28 := hB23.alloc hB23.size (.cells #[.int .i64 0, .slice none 0 0, .int .i64 0, .bool false, .bool false, .bool false, .bool false, .bool false, .bool false, .bool false, .bool false] 25)
            refine hK.out _ _ (HS.out _ (hb25)) (fun _ => ?_)
            clear hK K'
            have hAB : wv6.heap.size + 1 < wv1.heap.size ∨ wv6.heap.size ≤ wv6.heap.size + 1 := by omega
            have hCB : wv6.heap.size < wv1.heap.size ∨ wv6.heap.size ≤ wv6.heap.size := by omega
            have hAC : wv6.heap.size + 1 ≠ wv6.heap.size := by omega
            have hA2 : w2.heap.size ≤ wv6.heap.size + 1 := by omega
            have hC2 : w2.heap.size ≤ wv6.heap.size := by omega
            have hFBB := hB28
            generalize ((wv6.alloc (.cells #[.int .i64 0, .int .i64 0, .int .i64 0, .bool false, .int .i64 0, .int .i64 0, .int .i64 0, .slice none 0 0, .slice none 0 0, .string ⟨#[]⟩, .slice none 0 0] 33)).alloc (.cells #[.int .i64 0, .slice none 0 0, .int .i64 0, .bool false, .bool false, .bool false, .bool false, .bool false, .bool false, .bool false, .bool false] 25)) = wF at *
            have d0 := heap_cell HB24.out 0
            have df0 := heap_frozen HB24.out 0
            have d1 := heap_cell HB24.out 1
            have df1 := heap_frozen HB24.out 1
            have d2 := heap_cell HB24.out 2
            have df2 := heap_frozen HB24.out 2
            have d3 := heap_cell HB24.out 3
            have df3 := heap_frozen HB24.out 3
            have d4 := heap_cell HB24.out 4
            have df4 := heap_frozen HB24.out 4
            have d5 := heap_cell HB24.out 5
            have df5 := heap_frozen HB24.out 5
            have d6 := heap_cell HB24.out 6
            have df6 := heap_frozen HB24.out 6
            have d7 := heap_cell HB24.out 7
            have df7 := heap_frozen HB24.out 7
            have d8 := heap_cell HB24.out 8
            have df8 := heap_frozen HB24.out 8
            have d9 := heap_cell HB24.out 9
            have df9 := heap_frozen HB24.out 9
            have d10 := heap_cell HB24.out 10
            have df10 := heap_frozen HB24.out 10
            refine wpAnyH_ready (rs := [11]) (by as_aux_lemma => kernel_rfl) (by simp) ?_
            refine (AllReadyH.cons rfl (fun K' hK => ?_) AllReadyH.nil)
            go_simp
            have hS1 := st11_grown wF (wv6.heap.size + 1) (.int .i64 nx1) (.slice p2 st1.length cap2) (.int .i64 hi1) (.bool b01) (.bool b11) (.bool b21) (.bool b31) (.bool b41) (.bool b51) (.bool b61) (.bool b71)
            have hb1E := hb25.grown hS1 hb25.size (fun k hk => by have := Option.some.inj hk; omega)
            refine hK.out _ _ (HS.out _ hb1E) (fun _ => ?_)
            clear hK K' d0 df0 d1 df1 d2 df2 d3 df3 d4 df4 d5 df5 d6 df6 d7 df7 d8 df8 d9 df9 d10 df10
            have hX1 := st11_heap (.int .i64 nx1) (.slice p2 st1.length cap2) (.int .i64 hi1) (.bool b01) (.bool b11) (.bool b21) (.bool b31) (.bool b41) (.bool b51) (.bool b61) (.bool b71) HB24.out
            have hY1 := heap_tk HB27.out (Ne.symm hAC) hS1
            have g0 := heap_cell hY1 0
            have gf0 := heap_frozen hY1 0
            have g1 := heap_cell hY1 1
            have gf1 := heap_frozen hY1 1
            have g2 := heap_cell hY1 2
            have gf2 := heap_frozen hY1 2
            have g3 := heap_cell hY1 3
            have gf3 := heap_frozen hY1 3
            have g4 := heap_cell hY1 4
            have gf4 := heap_frozen hY1 4
            have g5 := heap_cell hY1 5
            have gf5 := heap_frozen hY1 5
            have g6 := heap_cell hY1 6
            have gf6 := heap_frozen hY1 6
            have g7 := heap_cell hY1 7
            have gf7 := heap_frozen hY1 7
            have g8 := heap_cell hY1 8
            have gf8 := heap_frozen hY1 8
            have g9 := heap_cell hY1 9
            have gf9 := heap_frozen hY1 9
            have g10 := heap_cell hY1 10
            have gf10 := heap_frozen hY1 10
            have HX1 := hid hX1
            have HY1 := hid hY1
            clear hX1 hY1
            unfold st11 at *
            refine wpAnyH_ready (rs := [12]) (by as_aux_lemma => kernel_rfl) (by simp) ?_
            refine (AllReadyH.cons rfl (fun K' hK => ?_) AllReadyH.nil)
            go_simp
            have hS2 := st11_grown (st11 wF (wv6.heap.size + 1) (.int .i64 nx1) (.slice p2 st1.length cap2) (.int .i64 hi1) (.bool b01) (.bool b11) (.bool b21) (.bool b31) (.bool b41) (.bool b51) (.bool b61) (.bool b71)) (wv6.heap.size) (.int .i64 g.fr) (.int .i64 g.to) (.int .i64 g.seq) (.bool g.ack) (.int .i64 g.thread) (.int .i64 g.mail.host) (.int .i64 g.mail.thread) (.slice gl g.mail.label.length hl) (.slice gg g.mail.grants.length hg) (.string ⟨g.mail.text.toArray⟩) (.slice gc g.certs.length hc)
            have hb2E := hb1E.grown hS2 hb1E.size (fun k hk => by have := Option.some.inj hk; omega)
            refine hK.out _ _ (HS.out _ hb2E) (fun _ => ?_)
            clear hK K' g0 gf0 g1 gf1 g2 gf2 g3 gf3 g4 gf4 g5 gf5 g6 gf6 g7 gf7 g8 gf8 g9 gf9 g10 gf10
            refine takeD 13 10 ?v9 rfl (by as_aux_lemma => kernel_rfl) (by as_aux_lemma => kernel_rfl) (by as_aux_lemma => kernel_rfl) (by as_aux_lemma => kernel_rfl) (fun _ _ _ h => h) (Or.inl ⟨by rfl, ?hy9⟩) (by assumption) ?rest9
            case hy9 => intro wz hSw; (try dsimp only at hSw); go_simp; try with_reducible rfl
            simp only [Act.put, List.setIfInBounds_toArray, List.set_cons_zero, List.set_cons_succ]
            refine wpAnyH_done (by as_aux_lemma => kernel_rfl) ?_ _
            go_wp2_with fail
            go_meet
            have hSE : Since (wv1.heap.size) wv6 (st11 (st11 wF (wv6.heap.size + 1) (.int .i64 nx1) (.slice p2 st1.length cap2) (.int .i64 hi1) (.bool b01) (.bool b11) (.bool b21) (.bool b31) (.bool b41) (.bool b51) (.bool b61) (.bool b71)) (wv6.heap.size) (.int .i64 g.fr) (.int .i64 g.to) (.int .i64 g.seq) (.bool g.ack) (.int .i64 g.thread) (.int .i64 g.mail.host) (.int .i64 g.mail.thread) (.slice gl g.mail.label.length hl) (.slice gg g.mail.grants.length hg) (.string ⟨g.mail.text.toArray⟩) (.slice gc g.certs.length hc)) := fun k h1 h2 => by
              rw [hS2.block k (Nat.lt_of_lt_of_le h2 (Nat.le_trans hFBB.size hS1.size)) (fun e => by have := Option.some.inj e; omega), hS1.block k (Nat.lt_of_lt_of_le h2 hFBB.size) (fun e => by have := Option.some.inj e; omega)]
              exact hFBB.block k h2
            exact ⟨wv6.heap.size + 1, wv6.heap.size, nx1, st1, hi1, b01, b11, b21, b31, b41, b51, b61, b71, p2, cap2, gl, gg, gc, hl, hg, hc, rfl, rfl, rfl, e1, heap_tk HX1.out hAC hS2, st11_heap (.int .i64 g.fr) (.int .i64 g.to) (.int .i64 g.seq) (.bool g.ack) (.int .i64 g.thread) (.int .i64 g.mail.host) (.int .i64 g.mail.thread) (.slice gl g.mail.label.length hl) (.slice gg g.mail.grants.length hg) (.string ⟨g.mail.text.toArray⟩) (.slice gc g.certs.length hc) HY1.out, by rw [← e1]; exact lne_since HN1.out hSE, HF1.out _ hSE, hb2E, hA2, hC2⟩
      · skip
        go_simp
        have HB29 := hid (heap_alloc_at (w := wv1) rfl (.cells #[.int .i64 0, .slice none 0 0, .int .i64 0, .bool false, .bool false, .bool false, .bool false, .bool false, .bool false, .bool false, .bool false] 25))
        have hb30 : Below w2.heap.size w2 (wv1.alloc (.cells #[.int .i64 0, .slice none 0 0, .int .i64 0, .bool false, .bool false, .bool false, .bool false, .bool false, .bool false, .bool false, .bool false] 25)) := hb3.alloc hb3.size _
        have hz31 : (wv1.alloc (.cells #[.int .i64 0, .slice none 0 0, .int .i64 0, .bool false, .bool false, .bool false, .bool false, .bool false, .bool false, .bool false, .bool false] 25)).heap.size = wv1.heap.size + 1 := size_box _ _
        have hA32 := hA5.alloc hA5.size (.cells #[.int .i64 0, .slice none 0 0, .int .i64 0, .bool false, .bool false, .bool false, .bool false, .bool false, .bool false, .bool false, .bool false] 25)
        refine hK.out _ _ (HS.out _ (hb30)) (fun _ => ?_)
        clear hK K'
        refine wpAnyH_ready (rs := [4, 10]) (by as_aux_lemma => kernel_rfl) (by simp) ?_
        refine (AllReadyH.cons rfl (fun K' hK => ?_) (AllReadyH.cons rfl (fun K' hK => ?_) AllReadyH.nil))
        · skip
          go_simp
          go_wp2_with (go_at_call 10; refine (lsend_any _ _ ⟨nx, st, hi, [b0, b1, b2, b3, b4, b5, b6, b7]⟩ f now _ (HLX.out.below (hb30)) (HFC.out _ hA32)).mono ?_; rintro e wv33 ⟨v1, vf1, rfl, hn1, hf1, hw34d⟩)
          have hw34 : Below (wv1.alloc (.cells #[.int .i64 0, .slice none 0 0, .int .i64 0, .bool false, .bool false, .bool false, .bool false, .bool false, .bool false, .bool false, .bool false] 25)).heap.size (wv1.alloc (.cells #[.int .i64 0, .slice none 0 0, .int .i64 0, .bool false, .bool false, .bool false, .bool false, .bool false, .bool false, .bool false, .bool false] 25)) wv33 := ⟨hw34d.os, hw34d.tape, hw34d.output, hw34d.size, hw34d.block⟩
          have hb35 := below_then hb30 hw34
          have hz36 : (wv1.alloc (.cells #[.int .i64 0, .slice none 0 0, .int .i64 0, .bool false, .bool false, .bool false, .bool false, .bool false, .bool false, .bool false, .bool false] 25)).heap.size ≤ wv33.heap.size := hw34.size
          have HB37 := hid (heap_keep HB29.out hw34)
          rw [hSd] at hn1 hf1
          simp only at hn1 hf1
          replace hn1 : LneNew (wv1.alloc (.cells #[.int .i64 0, .slice none 0 0, .int .i64 0, .bool false, .bool false, .bool false, .bool false, .bool false, .bool false, .bool false, .bool false] 25)).heap.size wv33 v1 S1 := hn1
          replace hf1 : ∀ w'', Since (wv1.alloc (.cells #[.int .i64 0, .slice none 0 0, .int .i64 0, .bool false, .bool false, .bool false, .bool false, .bool false, .bool false, .bool false, .bool false] 25)).heap.size wv33 w'' → FrmAt w'' vf1 g := hf1
          obtain ⟨nx1, st1, hi1, b01, b11, b21, b31, b41, b51, b61, b71, p2, cap2, sq1, e1, rfl, _, _, _⟩ := hn1.spell
          obtain ⟨vl1, vg1, vc1, rfl, ⟨gl, hl, rfl, _⟩, ⟨gg, hg, rfl, _⟩, ⟨gc, hc, rfl, _⟩⟩ := hf1 wv33 (Since.refl _ _)
          unfold frmV at hf1
          unfold frmV
          have HN1 := hid hn1
          have HF1 := hid hf1
          have hB38 : Below wv33.heap.size wv33 wv33 := Below.refl _ _
          clear hn1 hf1 hw34d
          refine hK.out _ _ (HS.out _ hb35) (fun _ => ?_)
          clear hK K'
          refine takeD 5 16 ?v10 rfl (by as_aux_lemma => kernel_rfl) (by as_aux_lemma => kernel_rfl) (by as_aux_lemma => kernel_rfl) (by as_aux_lemma => kernel_rfl) (fun _ _ _ h => h) (Or.inl ⟨by rfl, ?hy10⟩) (by assumption) ?rest10
          case hy10 => intro wz hSw; (try dsimp only at hSw); go_simp; try with_reducible rfl
          simp only [Act.put, List.setIfInBounds_toArray, List.set_cons_zero, List.set_cons_succ]
          refine takeD 6 22 ?v11 rfl (by as_aux_lemma => kernel_rfl) (by as_aux_lemma => kernel_rfl) (by as_aux_lemma => kernel_rfl) (by as_aux_lemma => kernel_rfl) (fun _ _ _ h => h) (Or.inl ⟨by rfl, ?hy11⟩) (by assumption) ?rest11
          case hy11 => intro wz hSw; (try dsimp only at hSw); go_simp; try with_reducible rfl
          simp only [Act.put, List.setIfInBounds_toArray, List.set_cons_zero, List.set_cons_succ]
          refine takeD 7 23 ?v12 rfl (by as_aux_lemma => kernel_rfl) (by as_aux_lemma => kernel_rfl) (by as_aux_lemma => kernel_rfl) (by as_aux_lemma => kernel_rfl) (fun _ _ _ h => h) (Or.inl ⟨by rfl, ?hy12⟩) (by assumption) ?rest12
          case hy12 => intro wz hSw; (try dsimp only at hSw); go_simp; try with_reducible rfl
          simp only [Act.put, List.setIfInBounds_toArray, List.set_cons_zero, List.set_cons_succ]
          refine takeD 8 24 ?v13 rfl (by as_aux_lemma => kernel_rfl) (by as_aux_lemma => kernel_rfl) (by as_aux_lemma => kernel_rfl) (by as_aux_lemma => kernel_rfl) (fun _ _ _ h => h) (Or.inl ⟨by rfl, ?hy13⟩) (by assumption) ?rest13
          case hy13 => intro wz hSw; (try dsimp only at hSw); go_simp; try with_reducible rfl
          simp only [Act.put, List.setIfInBounds_toArray, List.set_cons_zero, List.set_cons_succ]
          refine wpAnyH_ready (rs := [10]) (by as_aux_lemma => kernel_rfl) (by simp) ?_
          refine (AllReadyH.cons rfl (fun K' hK => ?_) AllReadyH.nil)
          · skip
            go_simp
            have HB39 := hid (heap_alloc_at (w := wv33) rfl (.cells #[.int .i64 0, .int .i64 0, .int .i64 0, .bool false, .int .i64 0, .int .i64 0, .int .i64 0, .slice none 0 0, .slice none 0 0, .string ⟨#[]⟩, .slice none 0 0] 33))
            have hb40 : Below w2.heap.size w2 (wv33.alloc (.cells #[.int .i64 0, .int .i64 0, .int .i64 0, .bool false, .int .i64 0, .int .i64 0, .int .i64 0, .slice none 0 0, .slice none 0 0, .string ⟨#[]⟩, .slice none 0 0] 33)) := hb35.alloc hb35.size _
            have hz41 : (wv33.alloc (.cells #[.int .i64 0, .int .i64 0, .int .i64 0, .bool false, .int .i64 0, .int .i64 0, .int .i64 0, .slice none 0 0, .slice none 0 0, .string ⟨#[]⟩, .slice none 0 0] 33)).heap.size = wv33.heap.size + 1 := size_box _ _
            have HB42 := hid (heap_new HB37.out (.cells #[.int .i64 0, .int .i64 0, .int .i64 0, .bool false, .int .i64 0, .int .i64 0, .int .i64 0, .slice none 0 0, .slice none 0 0, .string ⟨#[]⟩, .slice none 0 0] 33))
            have hB43 := hB38.alloc hB38.size (.cells #[.int .i64 0, .int .i64 0, .int .i64 0, .bool false, .int .i64 0, .int .i64 0, .int .i64 0, .slice none 0 0, .slice none 0 0, .string ⟨#[]⟩, .slice none 0 0] 33)
            refine hK.out _ _ (HS.out _ (hb40)) (fun _ => ?_)
            clear hK K'
            have hAB : wv1.heap.size < (wv1.alloc (.cells #[.int .i64 0, .slice none 0 0, .int .i64 0, .bool false, .bool false, .bool false, .bool false, .bool false, .bool false, .bool false, .bool false] 25)).heap.size ∨ wv33.heap.size ≤ wv1.heap.size := by omega
            have hCB : wv33.heap.size < (wv1.alloc (.cells #[.int .i64 0, .slice none 0 0, .int .i64 0, .bool false, .bool false, .bool false, .bool false, .bool false, .bool false, .bool false, .bool false] 25)).heap.size ∨ wv33.heap.size ≤ wv33.heap.size := by omega
            have hAC : wv1.heap.size ≠ wv33.heap.size := by omega
            have hA2 : w2.heap.size ≤ wv1.heap.size := by omega
            have hC2 : w2.heap.size ≤ wv33.heap.size := by omega
            have hFBB := hB43
            generalize (wv33.alloc (.cells #[.int .i64 0, .int .i64 0, .int .i64 0, .bool false, .int .i64 0, .int .i64 0, .int .i64 0, .slice none 0 0, .slice none 0 0, .string ⟨#[]⟩, .slice none 0 0] 33)) = wF at *
            have d0 := heap_cell HB42.out 0
            have df0 := heap_frozen HB42.out 0
            have d1 := heap_cell HB42.out 1
            have df1 := heap_frozen HB42.out 1
            have d2 := heap_cell HB42.out 2
            have df2 := heap_frozen HB42.out 2
            have d3 := heap_cell HB42.out 3
            have df3 := heap_frozen HB42.out 3
            have d4 := heap_cell HB42.out 4
            have df4 := heap_frozen HB42.out 4
            have d5 := heap_cell HB42.out 5
            have df5 := heap_frozen HB42.out 5
            have d6 := heap_cell HB42.out 6
            have df6 := heap_frozen HB42.out 6
            have d7 := heap_cell HB42.out 7
            have df7 := heap_frozen HB42.out 7
            have d8 := heap_cell HB42.out 8
            have df8 := heap_frozen HB42.out 8
            have d9 := heap_cell HB42.out 9
            have df9 := heap_frozen HB42.out 9
            have d10 := heap_cell HB42.out 10
            have df10 := heap_frozen HB42.out 10
            refine wpAnyH_ready (rs := [11]) (by as_aux_lemma => kernel_rfl) (by simp) ?_
            refine (AllReadyH.cons rfl (fun K' hK => ?_) AllReadyH.nil)
            go_simp
            have hS1 := st11_grown wF (wv1.heap.size) (.int .i64 nx1) (.slice p2 st1.length cap2) (.int .i64 hi1) (.bool b01) (.bool b11) (.bool b21) (.bool b31) (.bool b41) (.bool b51) (.bool b61) (.bool b71)
            have hb1E := hb40.grown hS1 hb40.size (fun k hk => by have := Option.some.inj hk; omega)
            refine hK.out _ _ (HS.out _ hb1E) (fun _ => ?_)
            clear hK K' d0 df0 d1 df1 d2 df2 d3 df3 d4 df4 d5 df5 d6 df6 d7 df7 d8 df8 d9 df9 d10 df10
            have hX1 := st11_heap (.int .i64 nx1) (.slice p2 st1.length cap2) (.int .i64 hi1) (.bool b01) (.bool b11) (.bool b21) (.bool b31) (.bool b41) (.bool b51) (.bool b61) (.bool b71) HB42.out
            have hY1 := heap_tk HB39.out (Ne.symm hAC) hS1
            have g0 := heap_cell hY1 0
            have gf0 := heap_frozen hY1 0
            have g1 := heap_cell hY1 1
            have gf1 := heap_frozen hY1 1
            have g2 := heap_cell hY1 2
            have gf2 := heap_frozen hY1 2
            have g3 := heap_cell hY1 3
            have gf3 := heap_frozen hY1 3
            have g4 := heap_cell hY1 4
            have gf4 := heap_frozen hY1 4
            have g5 := heap_cell hY1 5
            have gf5 := heap_frozen hY1 5
            have g6 := heap_cell hY1 6
            have gf6 := heap_frozen hY1 6
            have g7 := heap_cell hY1 7
            have gf7 := heap_frozen hY1 7
            have g8 := heap_cell hY1 8
            have gf8 := heap_frozen hY1 8
            have g9 := heap_cell hY1 9
            have gf9 := heap_frozen hY1 9
            have g10 := heap_cell hY1 10
            have gf10 := heap_frozen hY1 10
            have HX1 := hid hX1
            have HY1 := hid hY1
            clear hX1 hY1
            unfold st11 at *
            refine wpAnyH_ready (rs := [12]) (by as_aux_lemma => kernel_rfl) (by simp) ?_
            refine (AllReadyH.cons rfl (fun K' hK => ?_) AllReadyH.nil)
            go_simp
            have hS2 := st11_grown (st11 wF (wv1.heap.size) (.int .i64 nx1) (.slice p2 st1.length cap2) (.int .i64 hi1) (.bool b01) (.bool b11) (.bool b21) (.bool b31) (.bool b41) (.bool b51) (.bool b61) (.bool b71)) (wv33.heap.size) (.int .i64 g.fr) (.int .i64 g.to) (.int .i64 g.seq) (.bool g.ack) (.int .i64 g.thread) (.int .i64 g.mail.host) (.int .i64 g.mail.thread) (.slice gl g.mail.label.length hl) (.slice gg g.mail.grants.length hg) (.string ⟨g.mail.text.toArray⟩) (.slice gc g.certs.length hc)
            have hb2E := hb1E.grown hS2 hb1E.size (fun k hk => by have := Option.some.inj hk; omega)
            refine hK.out _ _ (HS.out _ hb2E) (fun _ => ?_)
            clear hK K' g0 gf0 g1 gf1 g2 gf2 g3 gf3 g4 gf4 g5 gf5 g6 gf6 g7 gf7 g8 gf8 g9 gf9 g10 gf10
            refine takeD 13 10 ?v14 rfl (by as_aux_lemma => kernel_rfl) (by as_aux_lemma => kernel_rfl) (by as_aux_lemma => kernel_rfl) (by as_aux_lemma => kernel_rfl) (fun _ _ _ h => h) (Or.inl ⟨by rfl, ?hy14⟩) (by assumption) ?rest14
            case hy14 => intro wz hSw; (try dsimp only at hSw); go_simp; try with_reducible rfl
            simp only [Act.put, List.setIfInBounds_toArray, List.set_cons_zero, List.set_cons_succ]
            refine wpAnyH_done (by as_aux_lemma => kernel_rfl) ?_ _
            go_wp2_with fail
            go_meet
            have hSE : Since ((wv1.alloc (.cells #[.int .i64 0, .slice none 0 0, .int .i64 0, .bool false, .bool false, .bool false, .bool false, .bool false, .bool false, .bool false, .bool false] 25)).heap.size) wv33 (st11 (st11 wF (wv1.heap.size) (.int .i64 nx1) (.slice p2 st1.length cap2) (.int .i64 hi1) (.bool b01) (.bool b11) (.bool b21) (.bool b31) (.bool b41) (.bool b51) (.bool b61) (.bool b71)) (wv33.heap.size) (.int .i64 g.fr) (.int .i64 g.to) (.int .i64 g.seq) (.bool g.ack) (.int .i64 g.thread) (.int .i64 g.mail.host) (.int .i64 g.mail.thread) (.slice gl g.mail.label.length hl) (.slice gg g.mail.grants.length hg) (.string ⟨g.mail.text.toArray⟩) (.slice gc g.certs.length hc)) := fun k h1 h2 => by
              rw [hS2.block k (Nat.lt_of_lt_of_le h2 (Nat.le_trans hFBB.size hS1.size)) (fun e => by have := Option.some.inj e; omega), hS1.block k (Nat.lt_of_lt_of_le h2 hFBB.size) (fun e => by have := Option.some.inj e; omega)]
              exact hFBB.block k h2
            exact ⟨wv1.heap.size, wv33.heap.size, nx1, st1, hi1, b01, b11, b21, b31, b41, b51, b61, b71, p2, cap2, gl, gg, gc, hl, hg, hc, rfl, rfl, rfl, e1, heap_tk HX1.out hAC hS2, st11_heap (.int .i64 g.fr) (.int .i64 g.to) (.int .i64 g.seq) (.bool g.ack) (.int .i64 g.thread) (.int .i64 g.mail.host) (.int .i64 g.mail.thread) (.slice gl g.mail.label.length hl) (.slice gg g.mail.grants.length hg) (.string ⟨g.mail.text.toArray⟩) (.slice gc g.certs.length hc) HY1.out, by rw [← e1]; exact lne_since HN1.out hSE, HF1.out _ hSE, hb2E, hA2, hC2⟩
        · skip
          go_simp
          have HB44 := hid (heap_alloc_at (show (wv1.alloc (.cells #[.int .i64 0, .slice none 0 0, .int .i64 0, .bool false, .bool false, .bool false, .bool false, .bool false, .bool false, .bool false, .bool false] 25)).heap.size = wv1.heap.size + 1 from size_box _ _) (.cells #[.int .i64 0, .int .i64 0, .int .i64 0, .bool false, .int .i64 0, .int .i64 0, .int .i64 0, .slice none 0 0, .slice none 0 0, .string ⟨#[]⟩, .slice none 0 0] 33))
          have hb45 : Below w2.heap.size w2 ((wv1.alloc (.cells #[.int .i64 0, .slice none 0 0, .int .i64 0, .bool false, .bool false, .bool false, .bool false, .bool false, .bool false, .bool false, .bool false] 25)).alloc (.cells #[.int .i64 0, .int .i64 0, .int .i64 0, .bool false, .int .i64 0, .int .i64 0, .int .i64 0, .slice none 0 0, .slice none 0 0, .string ⟨#[]⟩, .slice none 0 0] 33)) := hb30.alloc hb30.size _
          have hz46 : ((wv1.alloc (.cells #[.int .i64 0, .slice none 0 0, .int .i64 0, .bool false, .bool false, .bool false, .bool false, .bool false, .bool false, .bool false, .bool false] 25)).alloc (.cells #[.int .i64 0, .int .i64 0, .int .i64 0, .bool false, .int .i64 0, .int .i64 0, .int .i64 0, .slice none 0 0, .slice none 0 0, .string ⟨#[]⟩, .slice none 0 0] 33)).heap.size = wv1.heap.size + 1 + 1 := by rw [size_box]; exact congrArg (· + 1) (size_box _ _)
          have HB47 := hid (heap_new HB29.out (.cells #[.int .i64 0, .int .i64 0, .int .i64 0, .bool false, .int .i64 0, .int .i64 0, .int .i64 0, .slice none 0 0, .slice none 0 0, .string ⟨#[]⟩, .slice none 0 0] 33))
          have hA48 := hA32.alloc hA32.size (.cells #[.int .i64 0, .int .i64 0, .int .i64 0, .bool false, .int .i64 0, .int .i64 0, .int .i64 0, .slice none 0 0, .slice none 0 0, .string ⟨#[]⟩, .slice none 0 0] 33)
          refine hK.out _ _ (HS.out _ (hb45)) (fun _ => ?_)
          clear hK K'
          refine wpAnyH_ready (rs := [4]) (by as_aux_lemma => kernel_rfl) (by simp) ?_
          refine (AllReadyH.cons rfl (fun K' hK => ?_) AllReadyH.nil)
          · skip
            go_simp
            go_wp2_with (go_at_call 10; refine (lsend_any _ _ ⟨nx, st, hi, [b0, b1, b2, b3, b4, b5, b6, b7]⟩ f now _ (HLX.out.below (hb45)) (HFC.out _ hA48)).mono ?_; rintro e wv49 ⟨v1, vf1, rfl, hn1, hf1, hw50d⟩)
            have hw50 : Below ((wv1.alloc (.cells #[.int .i64 0, .slice none 0 0, .int .i64 0, .bool false, .bool false, .bool false, .bool false, .bool false, .bool false, .bool false, .bool false] 25)).alloc (.cells #[.int .i64 0, .int .i64 0, .int .i64 0, .bool false, .int .i64 0, .int .i64 0, .int .i64 0, .slice none 0 0, .slice none 0 0, .string ⟨#[]⟩, .slice none 0 0] 33)).heap.size ((wv1.alloc (.cells #[.int .i64 0, .slice none 0 0, .int .i64 0, .bool false, .bool false, .bool false, .bool false, .bool false, .bool false, .bool false, .bool false] 25)).alloc (.cells #[.int .i64 0, .int .i64 0, .int .i64 0, .bool false, .int .i64 0, .int .i64 0, .int .i64 0, .slice none 0 0, .slice none 0 0, .string ⟨#[]⟩, .slice none 0 0] 33)) wv49 := ⟨hw50d.os, hw50d.tape, hw50d.output, hw50d.size, hw50d.block⟩
            have hb51 := below_then hb45 hw50
            have hz52 : ((wv1.alloc (.cells #[.int .i64 0, .slice none 0 0, .int .i64 0, .bool false, .bool false, .bool false, .bool false, .bool false, .bool false, .bool false, .bool false] 25)).alloc (.cells #[.int .i64 0, .int .i64 0, .int .i64 0, .bool false, .int .i64 0, .int .i64 0, .int .i64 0, .slice none 0 0, .slice none 0 0, .string ⟨#[]⟩, .slice none 0 0] 33)).heap.size ≤ wv49.heap.size := hw50.size
            have HB53 := hid (heap_keep HB47.out hw50)
            have HB54 := hid (heap_keep HB44.out hw50)
            rw [hSd] at hn1 hf1
            simp only at hn1 hf1
            replace hn1 : LneNew ((wv1.alloc (.cells #[.int .i64 0, .slice none 0 0, .int .i64 0, .bool false, .bool false, .bool false, .bool false, .bool false, .bool false, .bool false, .bool false] 25)).alloc (.cells #[.int .i64 0, .int .i64 0, .int .i64 0, .bool false, .int .i64 0, .int .i64 0, .int .i64 0, .slice none 0 0, .slice none 0 0, .string ⟨#[]⟩, .slice none 0 0] 33)).heap.size wv49 v1 S1 := hn1
            replace hf1 : ∀ w'', Since ((wv1.alloc (.cells #[.int .i64 0, .slice none 0 0, .int .i64 0, .bool false, .bool false, .bool false, .bool false, .bool false, .bool false, .bool false, .bool false] 25)).alloc (.cells #[.int .i64 0, .int .i64 0, .int .i64 0, .bool false, .int .i64 0, .int .i64 0, .int .i64 0, .slice none 0 0, .slice none 0 0, .string ⟨#[]⟩, .slice none 0 0] 33)).heap.size wv49 w'' → FrmAt w'' vf1 g := hf1
            obtain ⟨nx1, st1, hi1, b01, b11, b21, b31, b41, b51, b61, b71, p2, cap2, sq1, e1, rfl, _, _, _⟩ := hn1.spell
            obtain ⟨vl1, vg1, vc1, rfl, ⟨gl, hl, rfl, _⟩, ⟨gg, hg, rfl, _⟩, ⟨gc, hc, rfl, _⟩⟩ := hf1 wv49 (Since.refl _ _)
            unfold frmV at hf1
            unfold frmV
            have HN1 := hid hn1
            have HF1 := hid hf1
            have hB55 : Below wv49.heap.size wv49 wv49 := Below.refl _ _
            clear hn1 hf1 hw50d
            refine hK.out _ _ (HS.out _ hb51) (fun _ => ?_)
            clear hK K'
            refine takeD 5 16 ?v15 rfl (by as_aux_lemma => kernel_rfl) (by as_aux_lemma => kernel_rfl) (by as_aux_lemma => kernel_rfl) (by as_aux_lemma => kernel_rfl) (fun _ _ _ h => h) (Or.inl ⟨by rfl, ?hy15⟩) (by assumption) ?rest15
            case hy15 => intro wz hSw; (try dsimp only at hSw); go_simp; try with_reducible rfl
            simp only [Act.put, List.setIfInBounds_toArray, List.set_cons_zero, List.set_cons_succ]
            refine takeD 6 22 ?v16 rfl (by as_aux_lemma => kernel_rfl) (by as_aux_lemma => kernel_rfl) (by as_aux_lemma => kernel_rfl) (by as_aux_lemma => kernel_rfl) (fun _ _ _ h => h) (Or.inl ⟨by rfl, ?hy16⟩) (by assumption) ?rest16
            case hy16 => intro wz hSw; (try dsimp only at hSw); go_simp; try with_reducible rfl
            simp only [Act.put, List.setIfInBounds_toArray, List.set_cons_zero, List.set_cons_succ]
            refine takeD 7 23 ?v17 rfl (by as_aux_lemma => kernel_rfl) (by as_aux_lemma => kernel_rfl) (by as_aux_lemma => kernel_rfl) (by as_aux_lemma => kernel_rfl) (fun _ _ _ h => h) (Or.inl ⟨by rfl, ?hy17⟩) (by assumption) ?rest17
            case hy17 => intro wz hSw; (try dsimp only at hSw); go_simp; try with_reducible rfl
            simp only [Act.put, List.setIfInBounds_toArray, List.set_cons_zero, List.set_cons_succ]
            refine takeD 8 24 ?v18 rfl (by as_aux_lemma => kernel_rfl) (by as_aux_lemma => kernel_rfl) (by as_aux_lemma => kernel_rfl) (by as_aux_lemma => kernel_rfl) (fun _ _ _ h => h) (Or.inl ⟨by rfl, ?hy18⟩) (by assumption) ?rest18
            case hy18 => intro wz hSw; (try dsimp only at hSw); go_simp; try with_reducible rfl
            simp only [Act.put, List.setIfInBounds_toArray, List.set_cons_zero, List.set_cons_succ]
            have hAB : wv1.heap.size < ((wv1.alloc (.cells #[.int .i64 0, .slice none 0 0, .int .i64 0, .bool false, .bool false, .bool false, .bool false, .bool false, .bool false, .bool false, .bool false] 25)).alloc (.cells #[.int .i64 0, .int .i64 0, .int .i64 0, .bool false, .int .i64 0, .int .i64 0, .int .i64 0, .slice none 0 0, .slice none 0 0, .string ⟨#[]⟩, .slice none 0 0] 33)).heap.size ∨ wv49.heap.size ≤ wv1.heap.size := by omega
            have hCB : wv1.heap.size + 1 < ((wv1.alloc (.cells #[.int .i64 0, .slice none 0 0, .int .i64 0, .bool false, .bool false, .bool false, .bool false, .bool false, .bool false, .bool false, .bool false] 25)).alloc (.cells #[.int .i64 0, .int .i64 0, .int .i64 0, .bool false, .int .i64 0, .int .i64 0, .int .i64 0, .slice none 0 0, .slice none 0 0, .string ⟨#[]⟩, .slice none 0 0] 33)).heap.size ∨ wv49.heap.size ≤ wv1.heap.size + 1 := by omega
            have hAC : wv1.heap.size ≠ wv1.heap.size + 1 := by omega
            have hA2 : w2.heap.size ≤ wv1.heap.size := by omega
            have hC2 : w2.heap.size ≤ wv1.heap.size + 1 := by omega
            have hFBB := hB55
            have d0 := heap_cell HB53.out 0
            have df0 := heap_frozen HB53.out 0
            have d1 := heap_cell HB53.out 1
            have df1 := heap_frozen HB53.out 1
            have d2 := heap_cell HB53.out 2
            have df2 := heap_frozen HB53.out 2
            have d3 := heap_cell HB53.out 3
            have df3 := heap_frozen HB53.out 3
            have d4 := heap_cell HB53.out 4
            have df4 := heap_frozen HB53.out 4
            have d5 := heap_cell HB53.out 5
            have df5 := heap_frozen HB53.out 5
            have d6 := heap_cell HB53.out 6
            have df6 := heap_frozen HB53.out 6
            have d7 := heap_cell HB53.out 7
            have df7 := heap_frozen HB53.out 7
            have d8 := heap_cell HB53.out 8
            have df8 := heap_frozen HB53.out 8
            have d9 := heap_cell HB53.out 9
            have df9 := heap_frozen HB53.out 9
            have d10 := heap_cell HB53.out 10
            have df10 := heap_frozen HB53.out 10
            refine wpAnyH_ready (rs := [11]) (by as_aux_lemma => kernel_rfl) (by simp) ?_
            refine (AllReadyH.cons rfl (fun K' hK => ?_) AllReadyH.nil)
            go_simp
            have hS1 := st11_grown wv49 (wv1.heap.size) (.int .i64 nx1) (.slice p2 st1.length cap2) (.int .i64 hi1) (.bool b01) (.bool b11) (.bool b21) (.bool b31) (.bool b41) (.bool b51) (.bool b61) (.bool b71)
            have hb1E := hb51.grown hS1 hb51.size (fun k hk => by have := Option.some.inj hk; omega)
            refine hK.out _ _ (HS.out _ hb1E) (fun _ => ?_)
            clear hK K' d0 df0 d1 df1 d2 df2 d3 df3 d4 df4 d5 df5 d6 df6 d7 df7 d8 df8 d9 df9 d10 df10
            have hX1 := st11_heap (.int .i64 nx1) (.slice p2 st1.length cap2) (.int .i64 hi1) (.bool b01) (.bool b11) (.bool b21) (.bool b31) (.bool b41) (.bool b51) (.bool b61) (.bool b71) HB53.out
            have hY1 := heap_tk HB54.out (Ne.symm hAC) hS1
            have g0 := heap_cell hY1 0
            have gf0 := heap_frozen hY1 0
            have g1 := heap_cell hY1 1
            have gf1 := heap_frozen hY1 1
            have g2 := heap_cell hY1 2
            have gf2 := heap_frozen hY1 2
            have g3 := heap_cell hY1 3
            have gf3 := heap_frozen hY1 3
            have g4 := heap_cell hY1 4
            have gf4 := heap_frozen hY1 4
            have g5 := heap_cell hY1 5
            have gf5 := heap_frozen hY1 5
            have g6 := heap_cell hY1 6
            have gf6 := heap_frozen hY1 6
            have g7 := heap_cell hY1 7
            have gf7 := heap_frozen hY1 7
            have g8 := heap_cell hY1 8
            have gf8 := heap_frozen hY1 8
            have g9 := heap_cell hY1 9
            have gf9 := heap_frozen hY1 9
            have g10 := heap_cell hY1 10
            have gf10 := heap_frozen hY1 10
            have HX1 := hid hX1
            have HY1 := hid hY1
            clear hX1 hY1
            unfold st11 at *
            refine wpAnyH_ready (rs := [12]) (by as_aux_lemma => kernel_rfl) (by simp) ?_
            refine (AllReadyH.cons rfl (fun K' hK => ?_) AllReadyH.nil)
            go_simp
            have hS2 := st11_grown (st11 wv49 (wv1.heap.size) (.int .i64 nx1) (.slice p2 st1.length cap2) (.int .i64 hi1) (.bool b01) (.bool b11) (.bool b21) (.bool b31) (.bool b41) (.bool b51) (.bool b61) (.bool b71)) (wv1.heap.size + 1) (.int .i64 g.fr) (.int .i64 g.to) (.int .i64 g.seq) (.bool g.ack) (.int .i64 g.thread) (.int .i64 g.mail.host) (.int .i64 g.mail.thread) (.slice gl g.mail.label.length hl) (.slice gg g.mail.grants.length hg) (.string ⟨g.mail.text.toArray⟩) (.slice gc g.certs.length hc)
            have hb2E := hb1E.grown hS2 hb1E.size (fun k hk => by have := Option.some.inj hk; omega)
            refine hK.out _ _ (HS.out _ hb2E) (fun _ => ?_)
            clear hK K' g0 gf0 g1 gf1 g2 gf2 g3 gf3 g4 gf4 g5 gf5 g6 gf6 g7 gf7 g8 gf8 g9 gf9 g10 gf10
            refine takeD 13 10 ?v19 rfl (by as_aux_lemma => kernel_rfl) (by as_aux_lemma => kernel_rfl) (by as_aux_lemma => kernel_rfl) (by as_aux_lemma => kernel_rfl) (fun _ _ _ h => h) (Or.inl ⟨by rfl, ?hy19⟩) (by assumption) ?rest19
            case hy19 => intro wz hSw; (try dsimp only at hSw); go_simp; try with_reducible rfl
            simp only [Act.put, List.setIfInBounds_toArray, List.set_cons_zero, List.set_cons_succ]
            refine wpAnyH_done (by as_aux_lemma => kernel_rfl) ?_ _
            go_wp2_with fail
            go_meet
            have hSE : Since (((wv1.alloc (.cells #[.int .i64 0, .slice none 0 0, .int .i64 0, .bool false, .bool false, .bool false, .bool false, .bool false, .bool false, .bool false, .bool false] 25)).alloc (.cells #[.int .i64 0, .int .i64 0, .int .i64 0, .bool false, .int .i64 0, .int .i64 0, .int .i64 0, .slice none 0 0, .slice none 0 0, .string ⟨#[]⟩, .slice none 0 0] 33)).heap.size) wv49 (st11 (st11 wv49 (wv1.heap.size) (.int .i64 nx1) (.slice p2 st1.length cap2) (.int .i64 hi1) (.bool b01) (.bool b11) (.bool b21) (.bool b31) (.bool b41) (.bool b51) (.bool b61) (.bool b71)) (wv1.heap.size + 1) (.int .i64 g.fr) (.int .i64 g.to) (.int .i64 g.seq) (.bool g.ack) (.int .i64 g.thread) (.int .i64 g.mail.host) (.int .i64 g.mail.thread) (.slice gl g.mail.label.length hl) (.slice gg g.mail.grants.length hg) (.string ⟨g.mail.text.toArray⟩) (.slice gc g.certs.length hc)) := fun k h1 h2 => by
              rw [hS2.block k (Nat.lt_of_lt_of_le h2 (Nat.le_trans hFBB.size hS1.size)) (fun e => by have := Option.some.inj e; omega), hS1.block k (Nat.lt_of_lt_of_le h2 hFBB.size) (fun e => by have := Option.some.inj e; omega)]
            exact ⟨wv1.heap.size, wv1.heap.size + 1, nx1, st1, hi1, b01, b11, b21, b31, b41, b51, b61, b71, p2, cap2, gl, gg, gc, hl, hg, hc, rfl, rfl, rfl, e1, heap_tk HX1.out hAC hS2, st11_heap (.int .i64 g.fr) (.int .i64 g.to) (.int .i64 g.seq) (.bool g.ack) (.int .i64 g.thread) (.int .i64 g.mail.host) (.int .i64 g.mail.thread) (.slice gl g.mail.label.length hl) (.slice gg g.mail.grants.length hg) (.string ⟨g.mail.text.toArray⟩) (.slice gc g.certs.length hc) HY1.out, by rw [← e1]; exact lne_since HN1.out hSE, HF1.out _ hSE, hb2E, hA2, hC2⟩
      · skip
        go_simp
        have HB56 := hid (heap_alloc_at (w := wv1) rfl (.cells #[.int .i64 0, .int .i64 0, .int .i64 0, .bool false, .int .i64 0, .int .i64 0, .int .i64 0, .slice none 0 0, .slice none 0 0, .string ⟨#[]⟩, .slice none 0 0] 33))
        have hb57 : Below w2.heap.size w2 (wv1.alloc (.cells #[.int .i64 0, .int .i64 0, .int .i64 0, .bool false, .int .i64 0, .int .i64 0, .int .i64 0, .slice none 0 0, .slice none 0 0, .string ⟨#[]⟩, .slice none 0 0] 33)) := hb3.alloc hb3.size _
        have hz58 : (wv1.alloc (.cells #[.int .i64 0, .int .i64 0, .int .i64 0, .bool false, .int .i64 0, .int .i64 0, .int .i64 0, .slice none 0 0, .slice none 0 0, .string ⟨#[]⟩, .slice none 0 0] 33)).heap.size = wv1.heap.size + 1 := size_box _ _
        have hA59 := hA5.alloc hA5.size (.cells #[.int .i64 0, .int .i64 0, .int .i64 0, .bool false, .int .i64 0, .int .i64 0, .int .i64 0, .slice none 0 0, .slice none 0 0, .string ⟨#[]⟩, .slice none 0 0] 33)
        refine hK.out _ _ (HS.out _ (hb57)) (fun _ => ?_)
        clear hK K'
        refine wpAnyH_ready (rs := [4, 9]) (by as_aux_lemma => kernel_rfl) (by simp) ?_
        refine (AllReadyH.cons rfl (fun K' hK => ?_) (AllReadyH.cons rfl (fun K' hK => ?_) AllReadyH.nil))
        · skip
          go_simp
          go_wp2_with (go_at_call 10; refine (lsend_any _ _ ⟨nx, st, hi, [b0, b1, b2, b3, b4, b5, b6, b7]⟩ f now _ (HLX.out.below (hb57)) (HFC.out _ hA59)).mono ?_; rintro e wv60 ⟨v1, vf1, rfl, hn1, hf1, hw61d⟩)
          have hw61 : Below (wv1.alloc (.cells #[.int .i64 0, .int .i64 0, .int .i64 0, .bool false, .int .i64 0, .int .i64 0, .int .i64 0, .slice none 0 0, .slice none 0 0, .string ⟨#[]⟩, .slice none 0 0] 33)).heap.size (wv1.alloc (.cells #[.int .i64 0, .int .i64 0, .int .i64 0, .bool false, .int .i64 0, .int .i64 0, .int .i64 0, .slice none 0 0, .slice none 0 0, .string ⟨#[]⟩, .slice none 0 0] 33)) wv60 := ⟨hw61d.os, hw61d.tape, hw61d.output, hw61d.size, hw61d.block⟩
          have hb62 := below_then hb57 hw61
          have hz63 : (wv1.alloc (.cells #[.int .i64 0, .int .i64 0, .int .i64 0, .bool false, .int .i64 0, .int .i64 0, .int .i64 0, .slice none 0 0, .slice none 0 0, .string ⟨#[]⟩, .slice none 0 0] 33)).heap.size ≤ wv60.heap.size := hw61.size
          have HB64 := hid (heap_keep HB56.out hw61)
          rw [hSd] at hn1 hf1
          simp only at hn1 hf1
          replace hn1 : LneNew (wv1.alloc (.cells #[.int .i64 0, .int .i64 0, .int .i64 0, .bool false, .int .i64 0, .int .i64 0, .int .i64 0, .slice none 0 0, .slice none 0 0, .string ⟨#[]⟩, .slice none 0 0] 33)).heap.size wv60 v1 S1 := hn1
          replace hf1 : ∀ w'', Since (wv1.alloc (.cells #[.int .i64 0, .int .i64 0, .int .i64 0, .bool false, .int .i64 0, .int .i64 0, .int .i64 0, .slice none 0 0, .slice none 0 0, .string ⟨#[]⟩, .slice none 0 0] 33)).heap.size wv60 w'' → FrmAt w'' vf1 g := hf1
          obtain ⟨nx1, st1, hi1, b01, b11, b21, b31, b41, b51, b61, b71, p2, cap2, sq1, e1, rfl, _, _, _⟩ := hn1.spell
          obtain ⟨vl1, vg1, vc1, rfl, ⟨gl, hl, rfl, _⟩, ⟨gg, hg, rfl, _⟩, ⟨gc, hc, rfl, _⟩⟩ := hf1 wv60 (Since.refl _ _)
          unfold frmV at hf1
          unfold frmV
          have HN1 := hid hn1
          have HF1 := hid hf1
          have hB65 : Below wv60.heap.size wv60 wv60 := Below.refl _ _
          clear hn1 hf1 hw61d
          refine hK.out _ _ (HS.out _ hb62) (fun _ => ?_)
          clear hK K'
          refine takeD 5 16 ?v20 rfl (by as_aux_lemma => kernel_rfl) (by as_aux_lemma => kernel_rfl) (by as_aux_lemma => kernel_rfl) (by as_aux_lemma => kernel_rfl) (fun _ _ _ h => h) (Or.inl ⟨by rfl, ?hy20⟩) (by assumption) ?rest20
          case hy20 => intro wz hSw; (try dsimp only at hSw); go_simp; try with_reducible rfl
          simp only [Act.put, List.setIfInBounds_toArray, List.set_cons_zero, List.set_cons_succ]
          refine takeD 6 22 ?v21 rfl (by as_aux_lemma => kernel_rfl) (by as_aux_lemma => kernel_rfl) (by as_aux_lemma => kernel_rfl) (by as_aux_lemma => kernel_rfl) (fun _ _ _ h => h) (Or.inl ⟨by rfl, ?hy21⟩) (by assumption) ?rest21
          case hy21 => intro wz hSw; (try dsimp only at hSw); go_simp; try with_reducible rfl
          simp only [Act.put, List.setIfInBounds_toArray, List.set_cons_zero, List.set_cons_succ]
          refine takeD 7 23 ?v22 rfl (by as_aux_lemma => kernel_rfl) (by as_aux_lemma => kernel_rfl) (by as_aux_lemma => kernel_rfl) (by as_aux_lemma => kernel_rfl) (fun _ _ _ h => h) (Or.inl ⟨by rfl, ?hy22⟩) (by assumption) ?rest22
          case hy22 => intro wz hSw; (try dsimp only at hSw); go_simp; try with_reducible rfl
          simp only [Act.put, List.setIfInBounds_toArray, List.set_cons_zero, List.set_cons_succ]
          refine takeD 8 24 ?v23 rfl (by as_aux_lemma => kernel_rfl) (by as_aux_lemma => kernel_rfl) (by as_aux_lemma => kernel_rfl) (by as_aux_lemma => kernel_rfl) (fun _ _ _ h => h) (Or.inl ⟨by rfl, ?hy23⟩) (by assumption) ?rest23
          case hy23 => intro wz hSw; (try dsimp only at hSw); go_simp; try with_reducible rfl
          simp only [Act.put, List.setIfInBounds_toArray, List.set_cons_zero, List.set_cons_succ]
          refine wpAnyH_ready (rs := [9]) (by as_aux_lemma => kernel_rfl) (by simp) ?_
          refine (AllReadyH.cons rfl (fun K' hK => ?_) AllReadyH.nil)
          · skip
            go_simp
            have HB66 := hid (heap_alloc_at (w := wv60) rfl (.cells #[.int .i64 0, .slice none 0 0, .int .i64 0, .bool false, .bool false, .bool false, .bool false, .bool false, .bool false, .bool false, .bool false] 25))
            have hb67 : Below w2.heap.size w2 (wv60.alloc (.cells #[.int .i64 0, .slice none 0 0, .int .i64 0, .bool false, .bool false, .bool false, .bool false, .bool false, .bool false, .bool false, .bool false] 25)) := hb62.alloc hb62.size _
            have hz68 : (wv60.alloc (.cells #[.int .i64 0, .slice none 0 0, .int .i64 0, .bool false, .bool false, .bool false, .bool false, .bool false, .bool false, .bool false, .bool false] 25)).heap.size = wv60.heap.size + 1 := size_box _ _
            have HB69 := hid (heap_new HB64.out (.cells #[.int .i64 0, .slice none 0 0, .int .i64 0, .bool false, .bool false, .bool false, .bool false, .bool false, .bool false, .bool false, .bool false] 25))
            have hB70 := hB65.alloc hB65.size (.cells #[.int .i64 0, .slice none 0 0, .int .i64 0, .bool false, .bool false, .bool false, .bool false, .bool false, .bool false, .bool false, .bool false] 25)
            refine hK.out _ _ (HS.out _ (hb67)) (fun _ => ?_)
            clear hK K'
            have hAB : wv60.heap.size < (wv1.alloc (.cells #[.int .i64 0, .int .i64 0, .int .i64 0, .bool false, .int .i64 0, .int .i64 0, .int .i64 0, .slice none 0 0, .slice none 0 0, .string ⟨#[]⟩, .slice none 0 0] 33)).heap.size ∨ wv60.heap.size ≤ wv60.heap.size := by omega
            have hCB : wv1.heap.size < (wv1.alloc (.cells #[.int .i64 0, .int .i64 0, .int .i64 0, .bool false, .int .i64 0, .int .i64 0, .int .i64 0, .slice none 0 0, .slice none 0 0, .string ⟨#[]⟩, .slice none 0 0] 33)).heap.size ∨ wv60.heap.size ≤ wv1.heap.size := by omega
            have hAC : wv60.heap.size ≠ wv1.heap.size := by omega
            have hA2 : w2.heap.size ≤ wv60.heap.size := by omega
            have hC2 : w2.heap.size ≤ wv1.heap.size := by omega
            have hFBB := hB70
            generalize (wv60.alloc (.cells #[.int .i64 0, .slice none 0 0, .int .i64 0, .bool false, .bool false, .bool false, .bool false, .bool false, .bool false, .bool false, .bool false] 25)) = wF at *
            have d0 := heap_cell HB66.out 0
            have df0 := heap_frozen HB66.out 0
            have d1 := heap_cell HB66.out 1
            have df1 := heap_frozen HB66.out 1
            have d2 := heap_cell HB66.out 2
            have df2 := heap_frozen HB66.out 2
            have d3 := heap_cell HB66.out 3
            have df3 := heap_frozen HB66.out 3
            have d4 := heap_cell HB66.out 4
            have df4 := heap_frozen HB66.out 4
            have d5 := heap_cell HB66.out 5
            have df5 := heap_frozen HB66.out 5
            have d6 := heap_cell HB66.out 6
            have df6 := heap_frozen HB66.out 6
            have d7 := heap_cell HB66.out 7
            have df7 := heap_frozen HB66.out 7
            have d8 := heap_cell HB66.out 8
            have df8 := heap_frozen HB66.out 8
            have d9 := heap_cell HB66.out 9
            have df9 := heap_frozen HB66.out 9
            have d10 := heap_cell HB66.out 10
            have df10 := heap_frozen HB66.out 10
            refine wpAnyH_ready (rs := [11]) (by as_aux_lemma => kernel_rfl) (by simp) ?_
            refine (AllReadyH.cons rfl (fun K' hK => ?_) AllReadyH.nil)
            go_simp
            have hS1 := st11_grown wF (wv60.heap.size) (.int .i64 nx1) (.slice p2 st1.length cap2) (.int .i64 hi1) (.bool b01) (.bool b11) (.bool b21) (.bool b31) (.bool b41) (.bool b51) (.bool b61) (.bool b71)
            have hb1E := hb67.grown hS1 hb67.size (fun k hk => by have := Option.some.inj hk; omega)
            refine hK.out _ _ (HS.out _ hb1E) (fun _ => ?_)
            clear hK K' d0 df0 d1 df1 d2 df2 d3 df3 d4 df4 d5 df5 d6 df6 d7 df7 d8 df8 d9 df9 d10 df10
            have hX1 := st11_heap (.int .i64 nx1) (.slice p2 st1.length cap2) (.int .i64 hi1) (.bool b01) (.bool b11) (.bool b21) (.bool b31) (.bool b41) (.bool b51) (.bool b61) (.bool b71) HB66.out
            have hY1 := heap_tk HB69.out (Ne.symm hAC) hS1
            have g0 := heap_cell hY1 0
            have gf0 := heap_frozen hY1 0
            have g1 := heap_cell hY1 1
            have gf1 := heap_frozen hY1 1
            have g2 := heap_cell hY1 2
            have gf2 := heap_frozen hY1 2
            have g3 := heap_cell hY1 3
            have gf3 := heap_frozen hY1 3
            have g4 := heap_cell hY1 4
            have gf4 := heap_frozen hY1 4
            have g5 := heap_cell hY1 5
            have gf5 := heap_frozen hY1 5
            have g6 := heap_cell hY1 6
            have gf6 := heap_frozen hY1 6
            have g7 := heap_cell hY1 7
            have gf7 := heap_frozen hY1 7
            have g8 := heap_cell hY1 8
            have gf8 := heap_frozen hY1 8
            have g9 := heap_cell hY1 9
            have gf9 := heap_frozen hY1 9
            have g10 := heap_cell hY1 10
            have gf10 := heap_frozen hY1 10
            have HX1 := hid hX1
            have HY1 := hid hY1
            clear hX1 hY1
            unfold st11 at *
            refine wpAnyH_ready (rs := [12]) (by as_aux_lemma => kernel_rfl) (by simp) ?_
            refine (AllReadyH.cons rfl (fun K' hK => ?_) AllReadyH.nil)
            go_simp
            have hS2 := st11_grown (st11 wF (wv60.heap.size) (.int .i64 nx1) (.slice p2 st1.length cap2) (.int .i64 hi1) (.bool b01) (.bool b11) (.bool b21) (.bool b31) (.bool b41) (.bool b51) (.bool b61) (.bool b71)) (wv1.heap.size) (.int .i64 g.fr) (.int .i64 g.to) (.int .i64 g.seq) (.bool g.ack) (.int .i64 g.thread) (.int .i64 g.mail.host) (.int .i64 g.mail.thread) (.slice gl g.mail.label.length hl) (.slice gg g.mail.grants.length hg) (.string ⟨g.mail.text.toArray⟩) (.slice gc g.certs.length hc)
            have hb2E := hb1E.grown hS2 hb1E.size (fun k hk => by have := Option.some.inj hk; omega)
            refine hK.out _ _ (HS.out _ hb2E) (fun _ => ?_)
            clear hK K' g0 gf0 g1 gf1 g2 gf2 g3 gf3 g4 gf4 g5 gf5 g6 gf6 g7 gf7 g8 gf8 g9 gf9 g10 gf10
            refine takeD 13 10 ?v24 rfl (by as_aux_lemma => kernel_rfl) (by as_aux_lemma => kernel_rfl) (by as_aux_lemma => kernel_rfl) (by as_aux_lemma => kernel_rfl) (fun _ _ _ h => h) (Or.inl ⟨by rfl, ?hy24⟩) (by assumption) ?rest24
            case hy24 => intro wz hSw; (try dsimp only at hSw); go_simp; try with_reducible rfl
            simp only [Act.put, List.setIfInBounds_toArray, List.set_cons_zero, List.set_cons_succ]
            refine wpAnyH_done (by as_aux_lemma => kernel_rfl) ?_ _
            go_wp2_with fail
            go_meet
            have hSE : Since ((wv1.alloc (.cells #[.int .i64 0, .int .i64 0, .int .i64 0, .bool false, .int .i64 0, .int .i64 0, .int .i64 0, .slice none 0 0, .slice none 0 0, .string ⟨#[]⟩, .slice none 0 0] 33)).heap.size) wv60 (st11 (st11 wF (wv60.heap.size) (.int .i64 nx1) (.slice p2 st1.length cap2) (.int .i64 hi1) (.bool b01) (.bool b11) (.bool b21) (.bool b31) (.bool b41) (.bool b51) (.bool b61) (.bool b71)) (wv1.heap.size) (.int .i64 g.fr) (.int .i64 g.to) (.int .i64 g.seq) (.bool g.ack) (.int .i64 g.thread) (.int .i64 g.mail.host) (.int .i64 g.mail.thread) (.slice gl g.mail.label.length hl) (.slice gg g.mail.grants.length hg) (.string ⟨g.mail.text.toArray⟩) (.slice gc g.certs.length hc)) := fun k h1 h2 => by
              rw [hS2.block k (Nat.lt_of_lt_of_le h2 (Nat.le_trans hFBB.size hS1.size)) (fun e => by have := Option.some.inj e; omega), hS1.block k (Nat.lt_of_lt_of_le h2 hFBB.size) (fun e => by have := Option.some.inj e; omega)]
              exact hFBB.block k h2
            exact ⟨wv60.heap.size, wv1.heap.size, nx1, st1, hi1, b01, b11, b21, b31, b41, b51, b61, b71, p2, cap2, gl, gg, gc, hl, hg, hc, rfl, rfl, rfl, e1, heap_tk HX1.out hAC hS2, st11_heap (.int .i64 g.fr) (.int .i64 g.to) (.int .i64 g.seq) (.bool g.ack) (.int .i64 g.thread) (.int .i64 g.mail.host) (.int .i64 g.mail.thread) (.slice gl g.mail.label.length hl) (.slice gg g.mail.grants.length hg) (.string ⟨g.mail.text.toArray⟩) (.slice gc g.certs.length hc) HY1.out, by rw [← e1]; exact lne_since HN1.out hSE, HF1.out _ hSE, hb2E, hA2, hC2⟩
        · skip
          go_simp
          have HB71 := hid (heap_alloc_at (show (wv1.alloc (.cells #[.int .i64 0, .int .i64 0, .int .i64 0, .bool false, .int .i64 0, .int .i64 0, .int .i64 0, .slice none 0 0, .slice none 0 0, .string ⟨#[]⟩, .slice none 0 0] 33)).heap.size = wv1.heap.size + 1 from size_box _ _) (.cells #[.int .i64 0, .slice none 0 0, .int .i64 0, .bool false, .bool false, .bool false, .bool false, .bool false, .bool false, .bool false, .bool false] 25))
          have hb72 : Below w2.heap.size w2 ((wv1.alloc (.cells #[.int .i64 0, .int .i64 0, .int .i64 0, .bool false, .int .i64 0, .int .i64 0, .int .i64 0, .slice none 0 0, .slice none 0 0, .string ⟨#[]⟩, .slice none 0 0] 33)).alloc (.cells #[.int .i64 0, .slice none 0 0, .int .i64 0, .bool false, .bool false, .bool false, .bool false, .bool false, .bool false, .bool false, .bool false] 25)) := hb57.alloc hb57.size _
          have hz73 : ((wv1.alloc (.cells #[.int .i64 0, .int .i64 0, .int .i64 0, .bool false, .int .i64 0, .int .i64 0, .int .i64 0, .slice none 0 0, .slice none 0 0, .string ⟨#[]⟩, .slice none 0 0] 33)).alloc (.cells #[.int .i64 0, .slice none 0 0, .int .i64 0, .bool false, .bool false, .bool false, .bool false, .bool false, .bool false, .bool false, .bool false] 25)).heap.size = wv1.heap.size + 1 + 1 := by rw [size_box]; exact congrArg (· + 1) (size_box _ _)
          have HB74 := hid (heap_new HB56.out (.cells #[.int .i64 0, .slice none 0 0, .int .i64 0, .bool false, .bool false, .bool false, .bool false, .bool false, .bool false, .bool false, .bool false] 25))
          have hA75 := hA59.alloc hA59.size (.cells #[.int .i64 0, .slice none 0 0, .int .i64 0, .bool false, .bool false, .bool false, .bool false, .bool false, .bool false, .bool false, .bool false] 25)
          refine hK.out _ _ (HS.out _ (hb72)) (fun _ => ?_)
          clear hK K'
          refine wpAnyH_ready (rs := [4]) (by as_aux_lemma => kernel_rfl) (by simp) ?_
          refine (AllReadyH.cons rfl (fun K' hK => ?_) AllReadyH.nil)
          · skip
            go_simp
            go_wp2_with (go_at_call 10; refine (lsend_any _ _ ⟨nx, st, hi, [b0, b1, b2, b3, b4, b5, b6, b7]⟩ f now _ (HLX.out.below (hb72)) (HFC.out _ hA75)).mono ?_; rintro e wv76 ⟨v1, vf1, rfl, hn1, hf1, hw77d⟩)
            have hw77 : Below ((wv1.alloc (.cells #[.int .i64 0, .int .i64 0, .int .i64 0, .bool false, .int .i64 0, .int .i64 0, .int .i64 0, .slice none 0 0, .slice none 0 0, .string ⟨#[]⟩, .slice none 0 0] 33)).alloc (.cells #[.int .i64 0, .slice none 0 0, .int .i64 0, .bool false, .bool false, .bool false, .bool false, .bool false, .bool false, .bool false, .bool false] 25)).heap.size ((wv1.alloc (.cells #[.int .i64 0, .int .i64 0, .int .i64 0, .bool false, .int .i64 0, .int .i64 0, .int .i64 0, .slice none 0 0, .slice none 0 0, .string ⟨#[]⟩, .slice none 0 0] 33)).alloc (.cells #[.int .i64 0, .slice none 0 0, .int .i64 0, .bool false, .bool false, .bool false, .bool false, .bool false, .bool false, .bool false, .bool false] 25)) wv76 := ⟨hw77d.os, hw77d.tape, hw77d.output, hw77d.size, hw77d.block⟩
            have hb78 := below_then hb72 hw77
            have hz79 : ((wv1.alloc (.cells #[.int .i64 0, .int .i64 0, .int .i64 0, .bool false, .int .i64 0, .int .i64 0, .int .i64 0, .slice none 0 0, .slice none 0 0, .string ⟨#[]⟩, .slice none 0 0] 33)).alloc (.cells #[.int .i64 0, .slice none 0 0, .int .i64 0, .bool false, .bool false, .bool false, .bool false, .bool false, .bool false, .bool false, .bool false] 25)).heap.size ≤ wv76.heap.size := hw77.size
            have HB80 := hid (heap_keep HB71.out hw77)
            have HB81 := hid (heap_keep HB74.out hw77)
            rw [hSd] at hn1 hf1
            simp only at hn1 hf1
            replace hn1 : LneNew ((wv1.alloc (.cells #[.int .i64 0, .int .i64 0, .int .i64 0, .bool false, .int .i64 0, .int .i64 0, .int .i64 0, .slice none 0 0, .slice none 0 0, .string ⟨#[]⟩, .slice none 0 0] 33)).alloc (.cells #[.int .i64 0, .slice none 0 0, .int .i64 0, .bool false, .bool false, .bool false, .bool false, .bool false, .bool false, .bool false, .bool false] 25)).heap.size wv76 v1 S1 := hn1
            replace hf1 : ∀ w'', Since ((wv1.alloc (.cells #[.int .i64 0, .int .i64 0, .int .i64 0, .bool false, .int .i64 0, .int .i64 0, .int .i64 0, .slice none 0 0, .slice none 0 0, .string ⟨#[]⟩, .slice none 0 0] 33)).alloc (.cells #[.int .i64 0, .slice none 0 0, .int .i64 0, .bool false, .bool false, .bool false, .bool false, .bool false, .bool false, .bool false, .bool false] 25)).heap.size wv76 w'' → FrmAt w'' vf1 g := hf1
            obtain ⟨nx1, st1, hi1, b01, b11, b21, b31, b41, b51, b61, b71, p2, cap2, sq1, e1, rfl, _, _, _⟩ := hn1.spell
            obtain ⟨vl1, vg1, vc1, rfl, ⟨gl, hl, rfl, _⟩, ⟨gg, hg, rfl, _⟩, ⟨gc, hc, rfl, _⟩⟩ := hf1 wv76 (Since.refl _ _)
            unfold frmV at hf1
            unfold frmV
            have HN1 := hid hn1
            have HF1 := hid hf1
            have hB82 : Below wv76.heap.size wv76 wv76 := Below.refl _ _
            clear hn1 hf1 hw77d
            refine hK.out _ _ (HS.out _ hb78) (fun _ => ?_)
            clear hK K'
            refine takeD 5 16 ?v25 rfl (by as_aux_lemma => kernel_rfl) (by as_aux_lemma => kernel_rfl) (by as_aux_lemma => kernel_rfl) (by as_aux_lemma => kernel_rfl) (fun _ _ _ h => h) (Or.inl ⟨by rfl, ?hy25⟩) (by assumption) ?rest25
            case hy25 => intro wz hSw; (try dsimp only at hSw); go_simp; try with_reducible rfl
            simp only [Act.put, List.setIfInBounds_toArray, List.set_cons_zero, List.set_cons_succ]
            refine takeD 6 22 ?v26 rfl (by as_aux_lemma => kernel_rfl) (by as_aux_lemma => kernel_rfl) (by as_aux_lemma => kernel_rfl) (by as_aux_lemma => kernel_rfl) (fun _ _ _ h => h) (Or.inl ⟨by rfl, ?hy26⟩) (by assumption) ?rest26
            case hy26 => intro wz hSw; (try dsimp only at hSw); go_simp; try with_reducible rfl
            simp only [Act.put, List.setIfInBounds_toArray, List.set_cons_zero, List.set_cons_succ]
            refine takeD 7 23 ?v27 rfl (by as_aux_lemma => kernel_rfl) (by as_aux_lemma => kernel_rfl) (by as_aux_lemma => kernel_rfl) (by as_aux_lemma => kernel_rfl) (fun _ _ _ h => h) (Or.inl ⟨by rfl, ?hy27⟩) (by assumption) ?rest27
            case hy27 => intro wz hSw; (try dsimp only at hSw); go_simp; try with_reducible rfl
            simp only [Act.put, List.setIfInBounds_toArray, List.set_cons_zero, List.set_cons_succ]
            refine takeD 8 24 ?v28 rfl (by as_aux_lemma => kernel_rfl) (by as_aux_lemma => kernel_rfl) (by as_aux_lemma => kernel_rfl) (by as_aux_lemma => kernel_rfl) (fun _ _ _ h => h) (Or.inl ⟨by rfl, ?hy28⟩) (by assumption) ?rest28
            case hy28 => intro wz hSw; (try dsimp only at hSw); go_simp; try with_reducible rfl
            simp only [Act.put, List.setIfInBounds_toArray, List.set_cons_zero, List.set_cons_succ]
            have hAB : wv1.heap.size + 1 < ((wv1.alloc (.cells #[.int .i64 0, .int .i64 0, .int .i64 0, .bool false, .int .i64 0, .int .i64 0, .int .i64 0, .slice none 0 0, .slice none 0 0, .string ⟨#[]⟩, .slice none 0 0] 33)).alloc (.cells #[.int .i64 0, .slice none 0 0, .int .i64 0, .bool false, .bool false, .bool false, .bool false, .bool false, .bool false, .bool false, .bool false] 25)).heap.size ∨ wv76.heap.size ≤ wv1.heap.size + 1 := by omega
            have hCB : wv1.heap.size < ((wv1.alloc (.cells #[.int .i64 0, .int .i64 0, .int .i64 0, .bool false, .int .i64 0, .int .i64 0, .int .i64 0, .slice none 0 0, .slice none 0 0, .string ⟨#[]⟩, .slice none 0 0] 33)).alloc (.cells #[.int .i64 0, .slice none 0 0, .int .i64 0, .bool false, .bool false, .bool false, .bool false, .bool false, .bool false, .bool false, .bool false] 25)).heap.size ∨ wv76.heap.size ≤ wv1.heap.size := by omega
            have hAC : wv1.heap.size + 1 ≠ wv1.heap.size := by omega
            have hA2 : w2.heap.size ≤ wv1.heap.size + 1 := by omega
            have hC2 : w2.heap.size ≤ wv1.heap.size := by omega
            have hFBB := hB82
            have d0 := heap_cell HB80.out 0
            have df0 := heap_frozen HB80.out 0
            have d1 := heap_cell HB80.out 1
            have df1 := heap_frozen HB80.out 1
            have d2 := heap_cell HB80.out 2
            have df2 := heap_frozen HB80.out 2
            have d3 := heap_cell HB80.out 3
            have df3 := heap_frozen HB80.out 3
            have d4 := heap_cell HB80.out 4
            have df4 := heap_frozen HB80.out 4
            have d5 := heap_cell HB80.out 5
            have df5 := heap_frozen HB80.out 5
            have d6 := heap_cell HB80.out 6
            have df6 := heap_frozen HB80.out 6
            have d7 := heap_cell HB80.out 7
            have df7 := heap_frozen HB80.out 7
            have d8 := heap_cell HB80.out 8
            have df8 := heap_frozen HB80.out 8
            have d9 := heap_cell HB80.out 9
            have df9 := heap_frozen HB80.out 9
            have d10 := heap_cell HB80.out 10
            have df10 := heap_frozen HB80.out 10
            refine wpAnyH_ready (rs := [11]) (by as_aux_lemma => kernel_rfl) (by simp) ?_
            refine (AllReadyH.cons rfl (fun K' hK => ?_) AllReadyH.nil)
            go_simp
            have hS1 := st11_grown wv76 (wv1.heap.size + 1) (.int .i64 nx1) (.slice p2 st1.length cap2) (.int .i64 hi1) (.bool b01) (.bool b11) (.bool b21) (.bool b31) (.bool b41) (.bool b51) (.bool b61) (.bool b71)
            have hb1E := hb78.grown hS1 hb78.size (fun k hk => by have := Option.some.inj hk; omega)
            refine hK.out _ _ (HS.out _ hb1E) (fun _ => ?_)
            clear hK K' d0 df0 d1 df1 d2 df2 d3 df3 d4 df4 d5 df5 d6 df6 d7 df7 d8 df8 d9 df9 d10 df10
            have hX1 := st11_heap (.int .i64 nx1) (.slice p2 st1.length cap2) (.int .i64 hi1) (.bool b01) (.bool b11) (.bool b21) (.bool b31) (.bool b41) (.bool b51) (.bool b61) (.bool b71) HB80.out
            have hY1 := heap_tk HB81.out (Ne.symm hAC) hS1
            have g0 := heap_cell hY1 0
            have gf0 := heap_frozen hY1 0
            have g1 := heap_cell hY1 1
            have gf1 := heap_frozen hY1 1
            have g2 := heap_cell hY1 2
            have gf2 := heap_frozen hY1 2
            have g3 := heap_cell hY1 3
            have gf3 := heap_frozen hY1 3
            have g4 := heap_cell hY1 4
            have gf4 := heap_frozen hY1 4
            have g5 := heap_cell hY1 5
            have gf5 := heap_frozen hY1 5
            have g6 := heap_cell hY1 6
            have gf6 := heap_frozen hY1 6
            have g7 := heap_cell hY1 7
            have gf7 := heap_frozen hY1 7
            have g8 := heap_cell hY1 8
            have gf8 := heap_frozen hY1 8
            have g9 := heap_cell hY1 9
            have gf9 := heap_frozen hY1 9
            have g10 := heap_cell hY1 10
            have gf10 := heap_frozen hY1 10
            have HX1 := hid hX1
            have HY1 := hid hY1
            clear hX1 hY1
            unfold st11 at *
            refine wpAnyH_ready (rs := [12]) (by as_aux_lemma => kernel_rfl) (by simp) ?_
            refine (AllReadyH.cons rfl (fun K' hK => ?_) AllReadyH.nil)
            go_simp
            have hS2 := st11_grown (st11 wv76 (wv1.heap.size + 1) (.int .i64 nx1) (.slice p2 st1.length cap2) (.int .i64 hi1) (.bool b01) (.bool b11) (.bool b21) (.bool b31) (.bool b41) (.bool b51) (.bool b61) (.bool b71)) (wv1.heap.size) (.int .i64 g.fr) (.int .i64 g.to) (.int .i64 g.seq) (.bool g.ack) (.int .i64 g.thread) (.int .i64 g.mail.host) (.int .i64 g.mail.thread) (.slice gl g.mail.label.length hl) (.slice gg g.mail.grants.length hg) (.string ⟨g.mail.text.toArray⟩) (.slice gc g.certs.length hc)
            have hb2E := hb1E.grown hS2 hb1E.size (fun k hk => by have := Option.some.inj hk; omega)
            refine hK.out _ _ (HS.out _ hb2E) (fun _ => ?_)
            clear hK K' g0 gf0 g1 gf1 g2 gf2 g3 gf3 g4 gf4 g5 gf5 g6 gf6 g7 gf7 g8 gf8 g9 gf9 g10 gf10
            refine takeD 13 10 ?v29 rfl (by as_aux_lemma => kernel_rfl) (by as_aux_lemma => kernel_rfl) (by as_aux_lemma => kernel_rfl) (by as_aux_lemma => kernel_rfl) (fun _ _ _ h => h) (Or.inl ⟨by rfl, ?hy29⟩) (by assumption) ?rest29
            case hy29 => intro wz hSw; (try dsimp only at hSw); go_simp; try with_reducible rfl
            simp only [Act.put, List.setIfInBounds_toArray, List.set_cons_zero, List.set_cons_succ]
            refine wpAnyH_done (by as_aux_lemma => kernel_rfl) ?_ _
            go_wp2_with fail
            go_meet
            have hSE : Since (((wv1.alloc (.cells #[.int .i64 0, .int .i64 0, .int .i64 0, .bool false, .int .i64 0, .int .i64 0, .int .i64 0, .slice none 0 0, .slice none 0 0, .string ⟨#[]⟩, .slice none 0 0] 33)).alloc (.cells #[.int .i64 0, .slice none 0 0, .int .i64 0, .bool false, .bool false, .bool false, .bool false, .bool false, .bool false, .bool false, .bool false] 25)).heap.size) wv76 (st11 (st11 wv76 (wv1.heap.size + 1) (.int .i64 nx1) (.slice p2 st1.length cap2) (.int .i64 hi1) (.bool b01) (.bool b11) (.bool b21) (.bool b31) (.bool b41) (.bool b51) (.bool b61) (.bool b71)) (wv1.heap.size) (.int .i64 g.fr) (.int .i64 g.to) (.int .i64 g.seq) (.bool g.ack) (.int .i64 g.thread) (.int .i64 g.mail.host) (.int .i64 g.mail.thread) (.slice gl g.mail.label.length hl) (.slice gg g.mail.grants.length hg) (.string ⟨g.mail.text.toArray⟩) (.slice gc g.certs.length hc)) := fun k h1 h2 => by
              rw [hS2.block k (Nat.lt_of_lt_of_le h2 (Nat.le_trans hFBB.size hS1.size)) (fun e => by have := Option.some.inj e; omega), hS1.block k (Nat.lt_of_lt_of_le h2 hFBB.size) (fun e => by have := Option.some.inj e; omega)]
            exact ⟨wv1.heap.size + 1, wv1.heap.size, nx1, st1, hi1, b01, b11, b21, b31, b41, b51, b61, b71, p2, cap2, gl, gg, gc, hl, hg, hc, rfl, rfl, rfl, e1, heap_tk HX1.out hAC hS2, st11_heap (.int .i64 g.fr) (.int .i64 g.to) (.int .i64 g.seq) (.bool g.ack) (.int .i64 g.thread) (.int .i64 g.mail.host) (.int .i64 g.mail.thread) (.slice gl g.mail.label.length hl) (.slice gg g.mail.grants.length hg) (.string ⟨g.mail.text.toArray⟩) (.slice gc g.certs.length hc) HY1.out, by rw [← e1]; exact lne_since HN1.out hSE, HF1.out _ hSE, hb2E, hA2, hC2⟩
    · skip
      go_simp
      have HB83 := hid (heap_alloc_at (w := w2) rfl (.cells #[.int .i64 0, .slice none 0 0, .int .i64 0, .bool false, .bool false, .bool false, .bool false, .bool false, .bool false, .bool false, .bool false] 25))
      have hb84 : Below w2.heap.size w2 (w2.alloc (.cells #[.int .i64 0, .slice none 0 0, .int .i64 0, .bool false, .bool false, .bool false, .bool false, .bool false, .bool false, .bool false, .bool false] 25)) := hb22.alloc hb22.size _
      have hz85 : (w2.alloc (.cells #[.int .i64 0, .slice none 0 0, .int .i64 0, .bool false, .bool false, .bool false, .bool false, .bool false, .bool false, .bool false, .bool false] 25)).heap.size = w2.heap.size + 1 := size_box _ _
      refine hK.out _ _ (HS.out _ ((hb84).drew)) (fun _ => ?_)
      clear hK K'
      refine wpAnyH_ready (rs := [2, 10]) (by as_aux_lemma => kernel_rfl) (by simp) ?_
      refine (AllReadyH.cons rfl (fun K' hK => ?_) (AllReadyH.cons rfl (fun K' hK => ?_) AllReadyH.nil))
      · skip
        go_simp
        go_wp2_with (go_at_call 11; refine (rcopyFrame_since _ f _ (HFRM.out.below ((hb84).drew))).mono ?_; rintro e wv86 ⟨pA, cA, pD, cD, pC, cC, rfl, hcopy, hw87d⟩)
        have hw87 : Below (w2.alloc (.cells #[.int .i64 0, .slice none 0 0, .int .i64 0, .bool false, .bool false, .bool false, .bool false, .bool false, .bool false, .bool false, .bool false] 25)).heap.size (w2.alloc (.cells #[.int .i64 0, .slice none 0 0, .int .i64 0, .bool false, .bool false, .bool false, .bool false, .bool false, .bool false, .bool false, .bool false] 25)) wv86 := ⟨hw87d.os, hw87d.tape, hw87d.output, hw87d.size, hw87d.block⟩
        have hb88 := below_then hb84 hw87
        have hz89 : (w2.alloc (.cells #[.int .i64 0, .slice none 0 0, .int .i64 0, .bool false, .bool false, .bool false, .bool false, .bool false, .bool false, .bool false, .bool false] 25)).heap.size ≤ wv86.heap.size := hw87.size
        have HB90 := hid (heap_keep HB83.out hw87)
        have HFC : Hid (∀ wx, Below wv86.heap.size wv86 wx → FrmAt wx (.agg #[.int .i64 f.fr, .int .i64 f.to, .int .i64 f.seq, .bool f.ack, .int .i64 f.thread, .int .i64 f.mail.host, .int .i64 f.mail.thread, .slice pA f.mail.label.length cA, .slice pD f.mail.grants.length cD, .string ⟨f.mail.text.toArray⟩, .slice pC f.certs.length cC]) f) := hid (fun wx hx => by obtain ⟨q1, q2, q3⟩ := hcopy wx (since_below hx); exact ⟨_, _, _, rfl, q1, q2, q3⟩)
        have hA91 : Below wv86.heap.size wv86 wv86 := Below.refl _ _
        clear hcopy hw87d
        refine hK.out _ _ (HS.out _ hb88) (fun _ => ?_)
        clear hK K'
        refine wpAnyH_ready (rs := [4, 10]) (by as_aux_lemma => kernel_rfl) (by simp) ?_
        refine (AllReadyH.cons rfl (fun K' hK => ?_) (AllReadyH.cons rfl (fun K' hK => ?_) AllReadyH.nil))
        · skip
          go_simp
          go_wp2_with (go_at_call 10; refine (lsend_any _ _ ⟨nx, st, hi, [b0, b1, b2, b3, b4, b5, b6, b7]⟩ f now _ (HLX.out.below (hb88)) (HFC.out _ hA91)).mono ?_; rintro e wv92 ⟨v1, vf1, rfl, hn1, hf1, hw93d⟩)
          have hw93 : Below wv86.heap.size wv86 wv92 := ⟨hw93d.os, hw93d.tape, hw93d.output, hw93d.size, hw93d.block⟩
          have hb94 := below_then hb88 hw93
          have hz95 : wv86.heap.size ≤ wv92.heap.size := hw93.size
          have HB96 := hid (heap_keep HB90.out hw93)
          rw [hSd] at hn1 hf1
          simp only at hn1 hf1
          replace hn1 : LneNew wv86.heap.size wv92 v1 S1 := hn1
          replace hf1 : ∀ w'', Since wv86.heap.size wv92 w'' → FrmAt w'' vf1 g := hf1
          obtain ⟨nx1, st1, hi1, b01, b11, b21, b31, b41, b51, b61, b71, p2, cap2, sq1, e1, rfl, _, _, _⟩ := hn1.spell
          obtain ⟨vl1, vg1, vc1, rfl, ⟨gl, hl, rfl, _⟩, ⟨gg, hg, rfl, _⟩, ⟨gc, hc, rfl, _⟩⟩ := hf1 wv92 (Since.refl _ _)
          unfold frmV at hf1
          unfold frmV
          have HN1 := hid hn1
          have HF1 := hid hf1
          have hB97 : Below wv92.heap.size wv92 wv92 := Below.refl _ _
          clear hn1 hf1 hw93d
          refine hK.out _ _ (HS.out _ hb94) (fun _ => ?_)
          clear hK K'
          refine takeD 5 16 ?v30 rfl (by as_aux_lemma => kernel_rfl) (by as_aux_lemma => kernel_rfl) (by as_aux_lemma => kernel_rfl) (by as_aux_lemma => kernel_rfl) (fun _ _ _ h => h) (Or.inl ⟨by rfl, ?hy30⟩) (by assumption) ?rest30
          case hy30 => intro wz hSw; (try dsimp only at hSw); go_simp; try with_reducible rfl
          simp only [Act.put, List.setIfInBounds_toArray, List.set_cons_zero, List.set_cons_succ]
          refine takeD 6 22 ?v31 rfl (by as_aux_lemma => kernel_rfl) (by as_aux_lemma => kernel_rfl) (by as_aux_lemma => kernel_rfl) (by as_aux_lemma => kernel_rfl) (fun _ _ _ h => h) (Or.inl ⟨by rfl, ?hy31⟩) (by assumption) ?rest31
          case hy31 => intro wz hSw; (try dsimp only at hSw); go_simp; try with_reducible rfl
          simp only [Act.put, List.setIfInBounds_toArray, List.set_cons_zero, List.set_cons_succ]
          refine takeD 7 23 ?v32 rfl (by as_aux_lemma => kernel_rfl) (by as_aux_lemma => kernel_rfl) (by as_aux_lemma => kernel_rfl) (by as_aux_lemma => kernel_rfl) (fun _ _ _ h => h) (Or.inl ⟨by rfl, ?hy32⟩) (by assumption) ?rest32
          case hy32 => intro wz hSw; (try dsimp only at hSw); go_simp; try with_reducible rfl
          simp only [Act.put, List.setIfInBounds_toArray, List.set_cons_zero, List.set_cons_succ]
          refine takeD 8 24 ?v33 rfl (by as_aux_lemma => kernel_rfl) (by as_aux_lemma => kernel_rfl) (by as_aux_lemma => kernel_rfl) (by as_aux_lemma => kernel_rfl) (fun _ _ _ h => h) (Or.inl ⟨by rfl, ?hy33⟩) (by assumption) ?rest33
          case hy33 => intro wz hSw; (try dsimp only at hSw); go_simp; try with_reducible rfl
          simp only [Act.put, List.setIfInBounds_toArray, List.set_cons_zero, List.set_cons_succ]
          refine wpAnyH_ready (rs := [10]) (by as_aux_lemma => kernel_rfl) (by simp) ?_
          refine (AllReadyH.cons rfl (fun K' hK => ?_) AllReadyH.nil)
          · skip
            go_simp
            have HB98 := hid (heap_alloc_at (w := wv92) rfl (.cells #[.int .i64 0, .int .i64 0, .int .i64 0, .bool false, .int .i64 0, .int .i64 0, .int .i64 0, .slice none 0 0, .slice none 0 0, .string ⟨#[]⟩, .slice none 0 0] 33))
            have hb99 : Below w2.heap.size w2 (wv92.alloc (.cells #[.int .i64 0, .int .i64 0, .int .i64 0, .bool false, .int .i64 0, .int .i64 0, .int .i64 0, .slice none 0 0, .slice none 0 0, .string ⟨#[]⟩, .slice none 0 0] 33)) := hb94.alloc hb94.size _
            have hz100 : (wv92.alloc (.cells #[.int .i64 0, .int .i64 0, .int .i64 0, .bool false, .int .i64 0, .int .i64 0, .int .i64 0, .slice none 0 0, .slice none 0 0, .string ⟨#[]⟩, .slice none 0 0] 33)).heap.size = wv92.heap.size + 1 := size_box _ _
            have HB101 := hid (heap_new HB96.out (.cells #[.int .i64 0, .int .i64 0, .int .i64 0, .bool false, .int .i64 0, .int .i64 0, .int .i64 0, .slice none 0 0, .slice none 0 0, .string ⟨#[]⟩, .slice none 0 0] 33))
            have hB102 := hB97.alloc hB97.size (.cells #[.int .i64 0, .int .i64 0, .int .i64 0, .bool false, .int .i64 0, .int .i64 0, .int .i64 0, .slice none 0 0, .slice none 0 0, .string ⟨#[]⟩, .slice none 0 0] 33)
            refine hK.out _ _ (HS.out _ (hb99)) (fun _ => ?_)
            clear hK K'
            have hAB : w2.heap.size < wv86.heap.size ∨ wv92.heap.size ≤ w2.heap.size := by omega
            have hCB : wv92.heap.size < wv86.heap.size ∨ wv92.heap.size ≤ wv92.heap.size := by omega
            have hAC : w2.heap.size ≠ wv92.heap.size := by omega
            have hA2 : w2.heap.size ≤ w2.heap.size := by omega
            have hC2 : w2.heap.size ≤ wv92.heap.size := by omega
            have hFBB := hB102
            generalize (wv92.alloc (.cells #[.int .i64 0, .int .i64 0, .int .i64 0, .bool false, .int .i64 0, .int .i64 0, .int .i64 0, .slice none 0 0, .slice none 0 0, .string ⟨#[]⟩, .slice none 0 0] 33)) = wF at *
            have d0 := heap_cell HB101.out 0
            have df0 := heap_frozen HB101.out 0
            have d1 := heap_cell HB101.out 1
            have df1 := heap_frozen HB101.out 1
            have d2 := heap_cell HB101.out 2
            have df2 := heap_frozen HB101.out 2
            have d3 := heap_cell HB101.out 3
            have df3 := heap_frozen HB101.out 3
            have d4 := heap_cell HB101.out 4
            have df4 := heap_frozen HB101.out 4
            have d5 := heap_cell HB101.out 5
            have df5 := heap_frozen HB101.out 5
            have d6 := heap_cell HB101.out 6
            have df6 := heap_frozen HB101.out 6
            have d7 := heap_cell HB101.out 7
            have df7 := heap_frozen HB101.out 7
            have d8 := heap_cell HB101.out 8
            have df8 := heap_frozen HB101.out 8
            have d9 := heap_cell HB101.out 9
            have df9 := heap_frozen HB101.out 9
            have d10 := heap_cell HB101.out 10
            have df10 := heap_frozen HB101.out 10
            refine wpAnyH_ready (rs := [11]) (by as_aux_lemma => kernel_rfl) (by simp) ?_
            refine (AllReadyH.cons rfl (fun K' hK => ?_) AllReadyH.nil)
            go_simp
            have hS1 := st11_grown wF (w2.heap.size) (.int .i64 nx1) (.slice p2 st1.length cap2) (.int .i64 hi1) (.bool b01) (.bool b11) (.bool b21) (.bool b31) (.bool b41) (.bool b51) (.bool b61) (.bool b71)
            have hb1E := hb99.grown hS1 hb99.size (fun k hk => by have := Option.some.inj hk; omega)
            refine hK.out _ _ (HS.out _ hb1E) (fun _ => ?_)
            clear hK K' d0 df0 d1 df1 d2 df2 d3 df3 d4 df4 d5 df5 d6 df6 d7 df7 d8 df8 d9 df9 d10 df10
            have hX1 := st11_heap (.int .i64 nx1) (.slice p2 st1.length cap2) (.int .i64 hi1) (.bool b01) (.bool b11) (.bool b21) (.bool b31) (.bool b41) (.bool b51) (.bool b61) (.bool b71) HB101.out
            have hY1 := heap_tk HB98.out (Ne.symm hAC) hS1
            have g0 := heap_cell hY1 0
            have gf0 := heap_frozen hY1 0
            have g1 := heap_cell hY1 1
            have gf1 := heap_frozen hY1 1
            have g2 := heap_cell hY1 2
            have gf2 := heap_frozen hY1 2
            have g3 := heap_cell hY1 3
            have gf3 := heap_frozen hY1 3
            have g4 := heap_cell hY1 4
            have gf4 := heap_frozen hY1 4
            have g5 := heap_cell hY1 5
            have gf5 := heap_frozen hY1 5
            have g6 := heap_cell hY1 6
            have gf6 := heap_frozen hY1 6
            have g7 := heap_cell hY1 7
            have gf7 := heap_frozen hY1 7
            have g8 := heap_cell hY1 8
            have gf8 := heap_frozen hY1 8
            have g9 := heap_cell hY1 9
            have gf9 := heap_frozen hY1 9
            have g10 := heap_cell hY1 10
            have gf10 := heap_frozen hY1 10
            have HX1 := hid hX1
            have HY1 := hid hY1
            clear hX1 hY1
            unfold st11 at *
            refine wpAnyH_ready (rs := [12]) (by as_aux_lemma => kernel_rfl) (by simp) ?_
            refine (AllReadyH.cons rfl (fun K' hK => ?_) AllReadyH.nil)
            go_simp
            have hS2 := st11_grown (st11 wF (w2.heap.size) (.int .i64 nx1) (.slice p2 st1.length cap2) (.int .i64 hi1) (.bool b01) (.bool b11) (.bool b21) (.bool b31) (.bool b41) (.bool b51) (.bool b61) (.bool b71)) (wv92.heap.size) (.int .i64 g.fr) (.int .i64 g.to) (.int .i64 g.seq) (.bool g.ack) (.int .i64 g.thread) (.int .i64 g.mail.host) (.int .i64 g.mail.thread) (.slice gl g.mail.label.length hl) (.slice gg g.mail.grants.length hg) (.string ⟨g.mail.text.toArray⟩) (.slice gc g.certs.length hc)
            have hb2E := hb1E.grown hS2 hb1E.size (fun k hk => by have := Option.some.inj hk; omega)
            refine hK.out _ _ (HS.out _ hb2E) (fun _ => ?_)
            clear hK K' g0 gf0 g1 gf1 g2 gf2 g3 gf3 g4 gf4 g5 gf5 g6 gf6 g7 gf7 g8 gf8 g9 gf9 g10 gf10
            refine takeD 13 10 ?v34 rfl (by as_aux_lemma => kernel_rfl) (by as_aux_lemma => kernel_rfl) (by as_aux_lemma => kernel_rfl) (by as_aux_lemma => kernel_rfl) (fun _ _ _ h => h) (Or.inl ⟨by rfl, ?hy34⟩) (by assumption) ?rest34
            case hy34 => intro wz hSw; (try dsimp only at hSw); go_simp; try with_reducible rfl
            simp only [Act.put, List.setIfInBounds_toArray, List.set_cons_zero, List.set_cons_succ]
            refine wpAnyH_done (by as_aux_lemma => kernel_rfl) ?_ _
            go_wp2_with fail
            go_meet
            have hSE : Since (wv86.heap.size) wv92 (st11 (st11 wF (w2.heap.size) (.int .i64 nx1) (.slice p2 st1.length cap2) (.int .i64 hi1) (.bool b01) (.bool b11) (.bool b21) (.bool b31) (.bool b41) (.bool b51) (.bool b61) (.bool b71)) (wv92.heap.size) (.int .i64 g.fr) (.int .i64 g.to) (.int .i64 g.seq) (.bool g.ack) (.int .i64 g.thread) (.int .i64 g.mail.host) (.int .i64 g.mail.thread) (.slice gl g.mail.label.length hl) (.slice gg g.mail.grants.length hg) (.string ⟨g.mail.text.toArray⟩) (.slice gc g.certs.length hc)) := fun k h1 h2 => by
              rw [hS2.block k (Nat.lt_of_lt_of_le h2 (Nat.le_trans hFBB.size hS1.size)) (fun e => by have := Option.some.inj e; omega), hS1.block k (Nat.lt_of_lt_of_le h2 hFBB.size) (fun e => by have := Option.some.inj e; omega)]
              exact hFBB.block k h2
            exact ⟨w2.heap.size, wv92.heap.size, nx1, st1, hi1, b01, b11, b21, b31, b41, b51, b61, b71, p2, cap2, gl, gg, gc, hl, hg, hc, rfl, rfl, rfl, e1, heap_tk HX1.out hAC hS2, st11_heap (.int .i64 g.fr) (.int .i64 g.to) (.int .i64 g.seq) (.bool g.ack) (.int .i64 g.thread) (.int .i64 g.mail.host) (.int .i64 g.mail.thread) (.slice gl g.mail.label.length hl) (.slice gg g.mail.grants.length hg) (.string ⟨g.mail.text.toArray⟩) (.slice gc g.certs.length hc) HY1.out, by rw [← e1]; exact lne_since HN1.out hSE, HF1.out _ hSE, hb2E, hA2, hC2⟩
        · skip
          go_simp
          have HB103 := hid (heap_alloc_at (w := wv86) rfl (.cells #[.int .i64 0, .int .i64 0, .int .i64 0, .bool false, .int .i64 0, .int .i64 0, .int .i64 0, .slice none 0 0, .slice none 0 0, .string ⟨#[]⟩, .slice none 0 0] 33))
          have hb104 : Below w2.heap.size w2 (wv86.alloc (.cells #[.int .i64 0, .int .i64 0, .int .i64 0, .bool false, .int .i64 0, .int .i64 0, .int .i64 0, .slice none 0 0, .slice none 0 0, .string ⟨#[]⟩, .slice none 0 0] 33)) := hb88.alloc hb88.size _
          have hz105 : (wv86.alloc (.cells #[.int .i64 0, .int .i64 0, .int .i64 0, .bool false, .int .i64 0, .int .i64 0, .int .i64 0, .slice none 0 0, .slice none 0 0, .string ⟨#[]⟩, .slice none 0 0] 33)).heap.size = wv86.heap.size + 1 := size_box _ _
          have HB106 := hid (heap_new HB90.out (.cells #[.int .i64 0, .int .i64 0, .int .i64 0, .bool false, .int .i64 0, .int .i64 0, .int .i64 0, .slice none 0 0, .slice none 0 0, .string ⟨#[]⟩, .slice none 0 0] 33))
          have hA107 := hA91.alloc hA91.size (.cells #[.int .i64 0, .int .i64 0, .int .i64 0, .bool false, .int .i64 0, .int .i64 0, .int .i64 0, .slice none 0 0, .slice none 0 0, .string ⟨#[]⟩, .slice none 0 0] 33)
          refine hK.out _ _ (HS.out _ (hb104)) (fun _ => ?_)
          clear hK K'
          refine wpAnyH_ready (rs := [4]) (by as_aux_lemma => kernel_rfl) (by simp) ?_
          refine (AllReadyH.cons rfl (fun K' hK => ?_) AllReadyH.nil)
          · skip
            go_simp
            go_wp2_with (go_at_call 10; refine (lsend_any _ _ ⟨nx, st, hi, [b0, b1, b2, b3, b4, b5, b6, b7]⟩ f now _ (HLX.out.below (hb104)) (HFC.out _ hA107)).mono ?_; rintro e wv108 ⟨v1, vf1, rfl, hn1, hf1, hw109d⟩)
            have hw109 : Below (wv86.alloc (.cells #[.int .i64 0, .int .i64 0, .int .i64 0, .bool false, .int .i64 0, .int .i64 0, .int .i64 0, .slice none 0 0, .slice none 0 0, .string ⟨#[]⟩, .slice none 0 0] 33)).heap.size (wv86.alloc (.cells #[.int .i64 0, .int .i64 0, .int .i64 0, .bool false, .int .i64 0, .int .i64 0, .int .i64 0, .slice none 0 0, .slice none 0 0, .string ⟨#[]⟩, .slice none 0 0] 33)) wv108 := ⟨hw109d.os, hw109d.tape, hw109d.output, hw109d.size, hw109d.block⟩
            have hb110 := below_then hb104 hw109
            have hz111 : (wv86.alloc (.cells #[.int .i64 0, .int .i64 0, .int .i64 0, .bool false, .int .i64 0, .int .i64 0, .int .i64 0, .slice none 0 0, .slice none 0 0, .string ⟨#[]⟩, .slice none 0 0] 33)).heap.size ≤ wv108.heap.size := hw109.size
            have HB112 := hid (heap_keep HB106.out hw109)
            have HB113 := hid (heap_keep HB103.out hw109)
            rw [hSd] at hn1 hf1
            simp only at hn1 hf1
            replace hn1 : LneNew (wv86.alloc (.cells #[.int .i64 0, .int .i64 0, .int .i64 0, .bool false, .int .i64 0, .int .i64 0, .int .i64 0, .slice none 0 0, .slice none 0 0, .string ⟨#[]⟩, .slice none 0 0] 33)).heap.size wv108 v1 S1 := hn1
            replace hf1 : ∀ w'', Since (wv86.alloc (.cells #[.int .i64 0, .int .i64 0, .int .i64 0, .bool false, .int .i64 0, .int .i64 0, .int .i64 0, .slice none 0 0, .slice none 0 0, .string ⟨#[]⟩, .slice none 0 0] 33)).heap.size wv108 w'' → FrmAt w'' vf1 g := hf1
            obtain ⟨nx1, st1, hi1, b01, b11, b21, b31, b41, b51, b61, b71, p2, cap2, sq1, e1, rfl, _, _, _⟩ := hn1.spell
            obtain ⟨vl1, vg1, vc1, rfl, ⟨gl, hl, rfl, _⟩, ⟨gg, hg, rfl, _⟩, ⟨gc, hc, rfl, _⟩⟩ := hf1 wv108 (Since.refl _ _)
            unfold frmV at hf1
            unfold frmV
            have HN1 := hid hn1
            have HF1 := hid hf1
            have hB114 : Below wv108.heap.size wv108 wv108 := Below.refl _ _
            clear hn1 hf1 hw109d
            refine hK.out _ _ (HS.out _ hb110) (fun _ => ?_)
            clear hK K'
            refine takeD 5 16 ?v35 rfl (by as_aux_lemma => kernel_rfl) (by as_aux_lemma => kernel_rfl) (by as_aux_lemma => kernel_rfl) (by as_aux_lemma => kernel_rfl) (fun _ _ _ h => h) (Or.inl ⟨by rfl, ?hy35⟩) (by assumption) ?rest35
            case hy35 => intro wz hSw; (try dsimp only at hSw); go_simp; try with_reducible rfl
            simp only [Act.put, List.setIfInBounds_toArray, List.set_cons_zero, List.set_cons_succ]
            refine takeD 6 22 ?v36 rfl (by as_aux_lemma => kernel_rfl) (by as_aux_lemma => kernel_rfl) (by as_aux_lemma => kernel_rfl) (by as_aux_lemma => kernel_rfl) (fun _ _ _ h => h) (Or.inl ⟨by rfl, ?hy36⟩) (by assumption) ?rest36
            case hy36 => intro wz hSw; (try dsimp only at hSw); go_simp; try with_reducible rfl
            simp only [Act.put, List.setIfInBounds_toArray, List.set_cons_zero, List.set_cons_succ]
            refine takeD 7 23 ?v37 rfl (by as_aux_lemma => kernel_rfl) (by as_aux_lemma => kernel_rfl) (by as_aux_lemma => kernel_rfl) (by as_aux_lemma => kernel_rfl) (fun _ _ _ h => h) (Or.inl ⟨by rfl, ?hy37⟩) (by assumption) ?rest37
            case hy37 => intro wz hSw; (try dsimp only at hSw); go_simp; try with_reducible rfl
            simp only [Act.put, List.setIfInBounds_toArray, List.set_cons_zero, List.set_cons_succ]
            refine takeD 8 24 ?v38 rfl (by as_aux_lemma => kernel_rfl) (by as_aux_lemma => kernel_rfl) (by as_aux_lemma => kernel_rfl) (by as_aux_lemma => kernel_rfl) (fun _ _ _ h => h) (Or.inl ⟨by rfl, ?hy38⟩) (by assumption) ?rest38
            case hy38 => intro wz hSw; (try dsimp only at hSw); go_simp; try with_reducible rfl
            simp only [Act.put, List.setIfInBounds_toArray, List.set_cons_zero, List.set_cons_succ]
            have hAB : w2.heap.size < (wv86.alloc (.cells #[.int .i64 0, .int .i64 0, .int .i64 0, .bool false, .int .i64 0, .int .i64 0, .int .i64 0, .slice none 0 0, .slice none 0 0, .string ⟨#[]⟩, .slice none 0 0] 33)).heap.size ∨ wv108.heap.size ≤ w2.heap.size := by omega
            have hCB : wv86.heap.size < (wv86.alloc (.cells #[.int .i64 0, .int .i64 0, .int .i64 0, .bool false, .int .i64 0, .int .i64 0, .int .i64 0, .slice none 0 0, .slice none 0 0, .string ⟨#[]⟩, .slice none 0 0] 33)).heap.size ∨ wv108.heap.size ≤ wv86.heap.size := by omega
            have hAC : w2.heap.size ≠ wv86.heap.size := by omega
            have hA2 : w2.heap.size ≤ w2.heap.size := by omega
            have hC2 : w2.heap.size ≤ wv86.heap.size := by omega
            have hFBB := hB114
            have d0 := heap_cell HB112.out 0
            have df0 := heap_frozen HB112.out 0
            have d1 := heap_cell HB112.out 1
            have df1 := heap_frozen HB112.out 1
            have d2 := heap_cell HB112.out 2
            have df2 := heap_frozen HB112.out 2
            have d3 := heap_cell HB112.out 3
            have df3 := heap_frozen HB112.out 3
            have d4 := heap_cell HB112.out 4
            have df4 := heap_frozen HB112.out 4
            have d5 := heap_cell HB112.out 5
            have df5 := heap_frozen HB112.out 5
            have d6 := heap_cell HB112.out 6
            have df6 := heap_frozen HB112.out 6
            have d7 := heap_cell HB112.out 7
            have df7 := heap_frozen HB112.out 7
            have d8 := heap_cell HB112.out 8
            have df8 := heap_frozen HB112.out 8
            have d9 := heap_cell HB112.out 9
            have df9 := heap_frozen HB112.out 9
            have d10 := heap_cell HB112.out 10
            have df10 := heap_frozen HB112.out 10
            refine wpAnyH_ready (rs := [11]) (by as_aux_lemma => kernel_rfl) (by simp) ?_
            refine (AllReadyH.cons rfl (fun K' hK => ?_) AllReadyH.nil)
            go_simp
            have hS1 := st11_grown wv108 (w2.heap.size) (.int .i64 nx1) (.slice p2 st1.length cap2) (.int .i64 hi1) (.bool b01) (.bool b11) (.bool b21) (.bool b31) (.bool b41) (.bool b51) (.bool b61) (.bool b71)
            have hb1E := hb110.grown hS1 hb110.size (fun k hk => by have := Option.some.inj hk; omega)
            refine hK.out _ _ (HS.out _ hb1E) (fun _ => ?_)
            clear hK K' d0 df0 d1 df1 d2 df2 d3 df3 d4 df4 d5 df5 d6 df6 d7 df7 d8 df8 d9 df9 d10 df10
            have hX1 := st11_heap (.int .i64 nx1) (.slice p2 st1.length cap2) (.int .i64 hi1) (.bool b01) (.bool b11) (.bool b21) (.bool b31) (.bool b41) (.bool b51) (.bool b61) (.bool b71) HB112.out
            have hY1 := heap_tk HB113.out (Ne.symm hAC) hS1
            have g0 := heap_cell hY1 0
            have gf0 := heap_frozen hY1 0
            have g1 := heap_cell hY1 1
            have gf1 := heap_frozen hY1 1
            have g2 := heap_cell hY1 2
            have gf2 := heap_frozen hY1 2
            have g3 := heap_cell hY1 3
            have gf3 := heap_frozen hY1 3
            have g4 := heap_cell hY1 4
            have gf4 := heap_frozen hY1 4
            have g5 := heap_cell hY1 5
            have gf5 := heap_frozen hY1 5
            have g6 := heap_cell hY1 6
            have gf6 := heap_frozen hY1 6
            have g7 := heap_cell hY1 7
            have gf7 := heap_frozen hY1 7
            have g8 := heap_cell hY1 8
            have gf8 := heap_frozen hY1 8
            have g9 := heap_cell hY1 9
            have gf9 := heap_frozen hY1 9
            have g10 := heap_cell hY1 10
            have gf10 := heap_frozen hY1 10
            have HX1 := hid hX1
            have HY1 := hid hY1
            clear hX1 hY1
            unfold st11 at *
            refine wpAnyH_ready (rs := [12]) (by as_aux_lemma => kernel_rfl) (by simp) ?_
            refine (AllReadyH.cons rfl (fun K' hK => ?_) AllReadyH.nil)
            go_simp
            have hS2 := st11_grown (st11 wv108 (w2.heap.size) (.int .i64 nx1) (.slice p2 st1.length cap2) (.int .i64 hi1) (.bool b01) (.bool b11) (.bool b21) (.bool b31) (.bool b41) (.bool b51) (.bool b61) (.bool b71)) (wv86.heap.size) (.int .i64 g.fr) (.int .i64 g.to) (.int .i64 g.seq) (.bool g.ack) (.int .i64 g.thread) (.int .i64 g.mail.host) (.int .i64 g.mail.thread) (.slice gl g.mail.label.length hl) (.slice gg g.mail.grants.length hg) (.string ⟨g.mail.text.toArray⟩) (.slice gc g.certs.length hc)
            have hb2E := hb1E.grown hS2 hb1E.size (fun k hk => by have := Option.some.inj hk; omega)
            refine hK.out _ _ (HS.out _ hb2E) (fun _ => ?_)
            clear hK K' g0 gf0 g1 gf1 g2 gf2 g3 gf3 g4 gf4 g5 gf5 g6 gf6 g7 gf7 g8 gf8 g9 gf9 g10 gf10
            refine takeD 13 10 ?v39 rfl (by as_aux_lemma => kernel_rfl) (by as_aux_lemma => kernel_rfl) (by as_aux_lemma => kernel_rfl) (by as_aux_lemma => kernel_rfl) (fun _ _ _ h => h) (Or.inl ⟨by rfl, ?hy39⟩) (by assumption) ?rest39
            case hy39 => intro wz hSw; (try dsimp only at hSw); go_simp; try with_reducible rfl
            simp only [Act.put, List.setIfInBounds_toArray, List.set_cons_zero, List.set_cons_succ]
            refine wpAnyH_done (by as_aux_lemma => kernel_rfl) ?_ _
            go_wp2_with fail
            go_meet
            have hSE : Since ((wv86.alloc (.cells #[.int .i64 0, .int .i64 0, .int .i64 0, .bool false, .int .i64 0, .int .i64 0, .int .i64 0, .slice none 0 0, .slice none 0 0, .string ⟨#[]⟩, .slice none 0 0] 33)).heap.size) wv108 (st11 (st11 wv108 (w2.heap.size) (.int .i64 nx1) (.slice p2 st1.length cap2) (.int .i64 hi1) (.bool b01) (.bool b11) (.bool b21) (.bool b31) (.bool b41) (.bool b51) (.bool b61) (.bool b71)) (wv86.heap.size) (.int .i64 g.fr) (.int .i64 g.to) (.int .i64 g.seq) (.bool g.ack) (.int .i64 g.thread) (.int .i64 g.mail.host) (.int .i64 g.mail.thread) (.slice gl g.mail.label.length hl) (.slice gg g.mail.grants.length hg) (.string ⟨g.mail.text.toArray⟩) (.slice gc g.certs.length hc)) := fun k h1 h2 => by
              rw [hS2.block k (Nat.lt_of_lt_of_le h2 (Nat.le_trans hFBB.size hS1.size)) (fun e => by have := Option.some.inj e; omega), hS1.block k (Nat.lt_of_lt_of_le h2 hFBB.size) (fun e => by have := Option.some.inj e; omega)]
            exact ⟨w2.heap.size, wv86.heap.size, nx1, st1, hi1, b01, b11, b21, b31, b41, b51, b61, b71, p2, cap2, gl, gg, gc, hl, hg, hc, rfl, rfl, rfl, e1, heap_tk HX1.out hAC hS2, st11_heap (.int .i64 g.fr) (.int .i64 g.to) (.int .i64 g.seq) (.bool g.ack) (.int .i64 g.thread) (.int .i64 g.mail.host) (.int .i64 g.mail.thread) (.slice gl g.mail.label.length hl) (.slice gg g.mail.grants.length hg) (.string ⟨g.mail.text.toArray⟩) (.slice gc g.certs.length hc) HY1.out, by rw [← e1]; exact lne_since HN1.out hSE, HF1.out _ hSE, hb2E, hA2, hC2⟩
      · skip
        go_simp
        have HB115 := hid (heap_alloc_at (show (w2.alloc (.cells #[.int .i64 0, .slice none 0 0, .int .i64 0, .bool false, .bool false, .bool false, .bool false, .bool false, .bool false, .bool false, .bool false] 25)).heap.size = w2.heap.size + 1 from size_box _ _) (.cells #[.int .i64 0, .int .i64 0, .int .i64 0, .bool false, .int .i64 0, .int .i64 0, .int .i64 0, .slice none 0 0, .slice none 0 0, .string ⟨#[]⟩, .slice none 0 0] 33))
        have hb116 : Below w2.heap.size w2 ((w2.alloc (.cells #[.int .i64 0, .slice none 0 0, .int .i64 0, .bool false, .bool false, .bool false, .bool false, .bool false, .bool false, .bool false, .bool false] 25)).alloc (.cells #[.int .i64 0, .int .i64 0, .int .i64 0, .bool false, .int .i64 0, .int .i64 0, .int .i64 0, .slice none 0 0, .slice none 0 0, .string ⟨#[]⟩, .slice none 0 0] 33)) := hb84.alloc hb84.size _
        have hz117 : ((w2.alloc (.cells #[.int .i64 0, .slice none 0 0, .int .i64 0, .bool false, .bool false, .bool false, .bool false, .bool false, .bool false, .bool false, .bool false] 25)).alloc (.cells #[.int .i64 0, .int .i64 0, .int .i64 0, .bool false, .int .i64 0, .int .i64 0, .int .i64 0, .slice none 0 0, .slice none 0 0, .string ⟨#[]⟩, .slice none 0 0] 33)).heap.size = w2.heap.size + 1 + 1 := by rw [size_box]; exact congrArg (· + 1) (size_box _ _)
        have HB118 := hid (heap_new HB83.out (.cells #[.int .i64 0, .int .i64 0, .int .i64 0, .bool false, .int .i64 0, .int .i64 0, .int .i64 0, .slice none 0 0, .slice none 0 0, .string ⟨#[]⟩, .slice none 0 0] 33))
        refine hK.out _ _ (HS.out _ ((hb116).drew)) (fun _ => ?_)
        clear hK K'
        refine wpAnyH_ready (rs := [2]) (by as_aux_lemma => kernel_rfl) (by simp) ?_
        refine (AllReadyH.cons rfl (fun K' hK => ?_) AllReadyH.nil)
        · skip
          go_simp
          go_wp2_with (go_at_call 11; refine (rcopyFrame_since _ f _ (HFRM.out.below ((hb116).drew))).mono ?_; rintro e wv119 ⟨pA, cA, pD, cD, pC, cC, rfl, hcopy, hw120d⟩)
          have hw120 : Below ((w2.alloc (.cells #[.int .i64 0, .slice none 0 0, .int .i64 0, .bool false, .bool false, .bool false, .bool false, .bool false, .bool false, .bool false, .bool false] 25)).alloc (.cells #[.int .i64 0, .int .i64 0, .int .i64 0, .bool false, .int .i64 0, .int .i64 0, .int .i64 0, .slice none 0 0, .slice none 0 0, .string ⟨#[]⟩, .slice none 0 0] 33)).heap.size ((w2.alloc (.cells #[.int .i64 0, .slice none 0 0, .int .i64 0, .bool false, .bool false, .bool false, .bool false, .bool false, .bool false, .bool false, .bool false] 25)).alloc (.cells #[.int .i64 0, .int .i64 0, .int .i64 0, .bool false, .int .i64 0, .int .i64 0, .int .i64 0, .slice none 0 0, .slice none 0 0, .string ⟨#[]⟩, .slice none 0 0] 33)) wv119 := ⟨hw120d.os, hw120d.tape, hw120d.output, hw120d.size, hw120d.block⟩
          have hb121 := below_then hb116 hw120
          have hz122 : ((w2.alloc (.cells #[.int .i64 0, .slice none 0 0, .int .i64 0, .bool false, .bool false, .bool false, .bool false, .bool false, .bool false, .bool false, .bool false] 25)).alloc (.cells #[.int .i64 0, .int .i64 0, .int .i64 0, .bool false, .int .i64 0, .int .i64 0, .int .i64 0, .slice none 0 0, .slice none 0 0, .string ⟨#[]⟩, .slice none 0 0] 33)).heap.size ≤ wv119.heap.size := hw120.size
          have HB123 := hid (heap_keep HB118.out hw120)
          have HB124 := hid (heap_keep HB115.out hw120)
          have HFC : Hid (∀ wx, Below wv119.heap.size wv119 wx → FrmAt wx (.agg #[.int .i64 f.fr, .int .i64 f.to, .int .i64 f.seq, .bool f.ack, .int .i64 f.thread, .int .i64 f.mail.host, .int .i64 f.mail.thread, .slice pA f.mail.label.length cA, .slice pD f.mail.grants.length cD, .string ⟨f.mail.text.toArray⟩, .slice pC f.certs.length cC]) f) := hid (fun wx hx => by obtain ⟨q1, q2, q3⟩ := hcopy wx (since_below hx); exact ⟨_, _, _, rfl, q1, q2, q3⟩)
          have hA125 : Below wv119.heap.size wv119 wv119 := Below.refl _ _
          clear hcopy hw120d
          refine hK.out _ _ (HS.out _ hb121) (fun _ => ?_)
          clear hK K'
          refine wpAnyH_ready (rs := [4]) (by as_aux_lemma => kernel_rfl) (by simp) ?_
          refine (AllReadyH.cons rfl (fun K' hK => ?_) AllReadyH.nil)
          · skip
            go_simp
            go_wp2_with (go_at_call 10; refine (lsend_any _ _ ⟨nx, st, hi, [b0, b1, b2, b3, b4, b5, b6, b7]⟩ f now _ (HLX.out.below (hb121)) (HFC.out _ hA125)).mono ?_; rintro e wv126 ⟨v1, vf1, rfl, hn1, hf1, hw127d⟩)
            have hw127 : Below wv119.heap.size wv119 wv126 := ⟨hw127d.os, hw127d.tape, hw127d.output, hw127d.size, hw127d.block⟩
            have hb128 := below_then hb121 hw127
            have hz129 : wv119.heap.size ≤ wv126.heap.size := hw127.size
            have HB130 := hid (heap_keep HB123.out hw127)
            have HB131 := hid (heap_keep HB124.out hw127)
            rw [hSd] at hn1 hf1
            simp only at hn1 hf1
            replace hn1 : LneNew wv119.heap.size wv126 v1 S1 := hn1
            replace hf1 : ∀ w'', Since wv119.heap.size wv126 w'' → FrmAt w'' vf1 g := hf1
            obtain ⟨nx1, st1, hi1, b01, b11, b21, b31, b41, b51, b61, b71, p2, cap2, sq1, e1, rfl, _, _, _⟩ := hn1.spell
            obtain ⟨vl1, vg1, vc1, rfl, ⟨gl, hl, rfl, _⟩, ⟨gg, hg, rfl, _⟩, ⟨gc, hc, rfl, _⟩⟩ := hf1 wv126 (Since.refl _ _)
            unfold frmV at hf1
            unfold frmV
            have HN1 := hid hn1
            have HF1 := hid hf1
            have hB132 : Below wv126.heap.size wv126 wv126 := Below.refl _ _
            clear hn1 hf1 hw127d
            refine hK.out _ _ (HS.out _ hb128) (fun _ => ?_)
            clear hK K'
            refine takeD 5 16 ?v40 rfl (by as_aux_lemma => kernel_rfl) (by as_aux_lemma => kernel_rfl) (by as_aux_lemma => kernel_rfl) (by as_aux_lemma => kernel_rfl) (fun _ _ _ h => h) (Or.inl ⟨by rfl, ?hy40⟩) (by assumption) ?rest40
            case hy40 => intro wz hSw; (try dsimp only at hSw); go_simp; try with_reducible rfl
            simp only [Act.put, List.setIfInBounds_toArray, List.set_cons_zero, List.set_cons_succ]
            refine takeD 6 22 ?v41 rfl (by as_aux_lemma => kernel_rfl) (by as_aux_lemma => kernel_rfl) (by as_aux_lemma => kernel_rfl) (by as_aux_lemma => kernel_rfl) (fun _ _ _ h => h) (Or.inl ⟨by rfl, ?hy41⟩) (by assumption) ?rest41
            case hy41 => intro wz hSw; (try dsimp only at hSw); go_simp; try with_reducible rfl
            simp only [Act.put, List.setIfInBounds_toArray, List.set_cons_zero, List.set_cons_succ]
            refine takeD 7 23 ?v42 rfl (by as_aux_lemma => kernel_rfl) (by as_aux_lemma => kernel_rfl) (by as_aux_lemma => kernel_rfl) (by as_aux_lemma => kernel_rfl) (fun _ _ _ h => h) (Or.inl ⟨by rfl, ?hy42⟩) (by assumption) ?rest42
            case hy42 => intro wz hSw; (try dsimp only at hSw); go_simp; try with_reducible rfl
            simp only [Act.put, List.setIfInBounds_toArray, List.set_cons_zero, List.set_cons_succ]
            refine takeD 8 24 ?v43 rfl (by as_aux_lemma => kernel_rfl) (by as_aux_lemma => kernel_rfl) (by as_aux_lemma => kernel_rfl) (by as_aux_lemma => kernel_rfl) (fun _ _ _ h => h) (Or.inl ⟨by rfl, ?hy43⟩) (by assumption) ?rest43
            case hy43 => intro wz hSw; (try dsimp only at hSw); go_simp; try with_reducible rfl
            simp only [Act.put, List.setIfInBounds_toArray, List.set_cons_zero, List.set_cons_succ]
            have hAB : w2.heap.size < wv119.heap.size ∨ wv126.heap.size ≤ w2.heap.size := by omega
            have hCB : w2.heap.size + 1 < wv119.heap.size ∨ wv126.heap.size ≤ w2.heap.size + 1 := by omega
            have hAC : w2.heap.size ≠ w2.heap.size + 1 := by omega
            have hA2 : w2.heap.size ≤ w2.heap.size := by omega
            have hC2 : w2.heap.size ≤ w2.heap.size + 1 := by omega
            have hFBB := hB132
            have d0 := heap_cell HB130.out 0
            have df0 := heap_frozen HB130.out 0
            have d1 := heap_cell HB130.out 1
            have df1 := heap_frozen HB130.out 1
            have d2 := heap_cell HB130.out 2
            have df2 := heap_frozen HB130.out 2
            have d3 := heap_cell HB130.out 3
            have df3 := heap_frozen HB130.out 3
            have d4 := heap_cell HB130.out 4
            have df4 := heap_frozen HB130.out 4
            have d5 := heap_cell HB130.out 5
            have df5 := heap_frozen HB130.out 5
            have d6 := heap_cell HB130.out 6
            have df6 := heap_frozen HB130.out 6
            have d7 := heap_cell HB130.out 7
            have df7 := heap_frozen HB130.out 7
            have d8 := heap_cell HB130.out 8
            have df8 := heap_frozen HB130.out 8
            have d9 := heap_cell HB130.out 9
            have df9 := heap_frozen HB130.out 9
            have d10 := heap_cell HB130.out 10
            have df10 := heap_frozen HB130.out 10
            refine wpAnyH_ready (rs := [11]) (by as_aux_lemma => kernel_rfl) (by simp) ?_
            refine (AllReadyH.cons rfl (fun K' hK => ?_) AllReadyH.nil)
            go_simp
            have hS1 := st11_grown wv126 (w2.heap.size) (.int .i64 nx1) (.slice p2 st1.length cap2) (.int .i64 hi1) (.bool b01) (.bool b11) (.bool b21) (.bool b31) (.bool b41) (.bool b51) (.bool b61) (.bool b71)
            have hb1E := hb128.grown hS1 hb128.size (fun k hk => by have := Option.some.inj hk; omega)
            refine hK.out _ _ (HS.out _ hb1E) (fun _ => ?_)
            clear hK K' d0 df0 d1 df1 d2 df2 d3 df3 d4 df4 d5 df5 d6 df6 d7 df7 d8 df8 d9 df9 d10 df10
            have hX1 := st11_heap (.int .i64 nx1) (.slice p2 st1.length cap2) (.int .i64 hi1) (.bool b01) (.bool b11) (.bool b21) (.bool b31) (.bool b41) (.bool b51) (.bool b61) (.bool b71) HB130.out
            have hY1 := heap_tk HB131.out (Ne.symm hAC) hS1
            have g0 := heap_cell hY1 0
            have gf0 := heap_frozen hY1 0
            have g1 := heap_cell hY1 1
            have gf1 := heap_frozen hY1 1
            have g2 := heap_cell hY1 2
            have gf2 := heap_frozen hY1 2
            have g3 := heap_cell hY1 3
            have gf3 := heap_frozen hY1 3
            have g4 := heap_cell hY1 4
            have gf4 := heap_frozen hY1 4
            have g5 := heap_cell hY1 5
            have gf5 := heap_frozen hY1 5
            have g6 := heap_cell hY1 6
            have gf6 := heap_frozen hY1 6
            have g7 := heap_cell hY1 7
            have gf7 := heap_frozen hY1 7
            have g8 := heap_cell hY1 8
            have gf8 := heap_frozen hY1 8
            have g9 := heap_cell hY1 9
            have gf9 := heap_frozen hY1 9
            have g10 := heap_cell hY1 10
            have gf10 := heap_frozen hY1 10
            have HX1 := hid hX1
            have HY1 := hid hY1
            clear hX1 hY1
            unfold st11 at *
            refine wpAnyH_ready (rs := [12]) (by as_aux_lemma => kernel_rfl) (by simp) ?_
            refine (AllReadyH.cons rfl (fun K' hK => ?_) AllReadyH.nil)
            go_simp
            have hS2 := st11_grown (st11 wv126 (w2.heap.size) (.int .i64 nx1) (.slice p2 st1.length cap2) (.int .i64 hi1) (.bool b01) (.bool b11) (.bool b21) (.bool b31) (.bool b41) (.bool b51) (.bool b61) (.bool b71)) (w2.heap.size + 1) (.int .i64 g.fr) (.int .i64 g.to) (.int .i64 g.seq) (.bool g.ack) (.int .i64 g.thread) (.int .i64 g.mail.host) (.int .i64 g.mail.thread) (.slice gl g.mail.label.length hl) (.slice gg g.mail.grants.length hg) (.string ⟨g.mail.text.toArray⟩) (.slice gc g.certs.length hc)
            have hb2E := hb1E.grown hS2 hb1E.size (fun k hk => by have := Option.some.inj hk; omega)
            refine hK.out _ _ (HS.out _ hb2E) (fun _ => ?_)
            clear hK K' g0 gf0 g1 gf1 g2 gf2 g3 gf3 g4 gf4 g5 gf5 g6 gf6 g7 gf7 g8 gf8 g9 gf9 g10 gf10
            refine takeD 13 10 ?v44 rfl (by as_aux_lemma => kernel_rfl) (by as_aux_lemma => kernel_rfl) (by as_aux_lemma => kernel_rfl) (by as_aux_lemma => kernel_rfl) (fun _ _ _ h => h) (Or.inl ⟨by rfl, ?hy44⟩) (by assumption) ?rest44
            case hy44 => intro wz hSw; (try dsimp only at hSw); go_simp; try with_reducible rfl
            simp only [Act.put, List.setIfInBounds_toArray, List.set_cons_zero, List.set_cons_succ]
            refine wpAnyH_done (by as_aux_lemma => kernel_rfl) ?_ _
            go_wp2_with fail
            go_meet
            have hSE : Since (wv119.heap.size) wv126 (st11 (st11 wv126 (w2.heap.size) (.int .i64 nx1) (.slice p2 st1.length cap2) (.int .i64 hi1) (.bool b01) (.bool b11) (.bool b21) (.bool b31) (.bool b41) (.bool b51) (.bool b61) (.bool b71)) (w2.heap.size + 1) (.int .i64 g.fr) (.int .i64 g.to) (.int .i64 g.seq) (.bool g.ack) (.int .i64 g.thread) (.int .i64 g.mail.host) (.int .i64 g.mail.thread) (.slice gl g.mail.label.length hl) (.slice gg g.mail.grants.length hg) (.string ⟨g.mail.text.toArray⟩) (.slice gc g.certs.length hc)) := fun k h1 h2 => by
              rw [hS2.block k (Nat.lt_of_lt_of_le h2 (Nat.le_trans hFBB.size hS1.size)) (fun e => by have := Option.some.inj e; omega), hS1.block k (Nat.lt_of_lt_of_le h2 hFBB.size) (fun e => by have := Option.some.inj e; omega)]
            exact ⟨w2.heap.size, w2.heap.size + 1, nx1, st1, hi1, b01, b11, b21, b31, b41, b51, b61, b71, p2, cap2, gl, gg, gc, hl, hg, hc, rfl, rfl, rfl, e1, heap_tk HX1.out hAC hS2, st11_heap (.int .i64 g.fr) (.int .i64 g.to) (.int .i64 g.seq) (.bool g.ack) (.int .i64 g.thread) (.int .i64 g.mail.host) (.int .i64 g.mail.thread) (.slice gl g.mail.label.length hl) (.slice gg g.mail.grants.length hg) (.string ⟨g.mail.text.toArray⟩) (.slice gc g.certs.length hc) HY1.out, by rw [← e1]; exact lne_since HN1.out hSE, HF1.out _ hSE, hb2E, hA2, hC2⟩
    · skip
      go_simp
      have HB133 := hid (heap_alloc_at (w := w2) rfl (.cells #[.int .i64 0, .int .i64 0, .int .i64 0, .bool false, .int .i64 0, .int .i64 0, .int .i64 0, .slice none 0 0, .slice none 0 0, .string ⟨#[]⟩, .slice none 0 0] 33))
      have hb134 : Below w2.heap.size w2 (w2.alloc (.cells #[.int .i64 0, .int .i64 0, .int .i64 0, .bool false, .int .i64 0, .int .i64 0, .int .i64 0, .slice none 0 0, .slice none 0 0, .string ⟨#[]⟩, .slice none 0 0] 33)) := hb22.alloc hb22.size _
      have hz135 : (w2.alloc (.cells #[.int .i64 0, .int .i64 0, .int .i64 0, .bool false, .int .i64 0, .int .i64 0, .int .i64 0, .slice none 0 0, .slice none 0 0, .string ⟨#[]⟩, .slice none 0 0] 33)).heap.size = w2.heap.size + 1 := size_box _ _
      refine hK.out _ _ (HS.out _ ((hb134).drew)) (fun _ => ?_)
      clear hK K'
      refine wpAnyH_ready (rs := [2, 9]) (by as_aux_lemma => kernel_rfl) (by simp) ?_
      refine (AllReadyH.cons rfl (fun K' hK => ?_) (AllReadyH.cons rfl (fun K' hK => ?_) AllReadyH.nil))
      · skip
        go_simp
        go_wp2_with (go_at_call 11; refine (rcopyFrame_since _ f _ (HFRM.out.below ((hb134).drew))).mono ?_; rintro e wv136 ⟨pA, cA, pD, cD, pC, cC, rfl, hcopy, hw137d⟩)
        have hw137 : Below (w2.alloc (.cells #[.int .i64 0, .int .i64 0, .int .i64 0, .bool false, .int .i64 0, .int .i64 0, .int .i64 0, .slice none 0 0, .slice none 0 0, .string ⟨#[]⟩, .slice none 0 0] 33)).heap.size (w2.alloc (.cells #[.int .i64 0, .int .i64 0, .int .i64 0, .bool false, .int .i64 0, .int .i64 0, .int .i64 0, .slice none 0 0, .slice none 0 0, .string ⟨#[]⟩, .slice none 0 0] 33)) wv136 := ⟨hw137d.os, hw137d.tape, hw137d.output, hw137d.size, hw137d.block⟩
        have hb138 := below_then hb134 hw137
        have hz139 : (w2.alloc (.cells #[.int .i64 0, .int .i64 0, .int .i64 0, .bool false, .int .i64 0, .int .i64 0, .int .i64 0, .slice none 0 0, .slice none 0 0, .string ⟨#[]⟩, .slice none 0 0] 33)).heap.size ≤ wv136.heap.size := hw137.size
        have HB140 := hid (heap_keep HB133.out hw137)
        have HFC : Hid (∀ wx, Below wv136.heap.size wv136 wx → FrmAt wx (.agg #[.int .i64 f.fr, .int .i64 f.to, .int .i64 f.seq, .bool f.ack, .int .i64 f.thread, .int .i64 f.mail.host, .int .i64 f.mail.thread, .slice pA f.mail.label.length cA, .slice pD f.mail.grants.length cD, .string ⟨f.mail.text.toArray⟩, .slice pC f.certs.length cC]) f) := hid (fun wx hx => by obtain ⟨q1, q2, q3⟩ := hcopy wx (since_below hx); exact ⟨_, _, _, rfl, q1, q2, q3⟩)
        have hA141 : Below wv136.heap.size wv136 wv136 := Below.refl _ _
        clear hcopy hw137d
        refine hK.out _ _ (HS.out _ hb138) (fun _ => ?_)
        clear hK K'
        refine wpAnyH_ready (rs := [4, 9]) (by as_aux_lemma => kernel_rfl) (by simp) ?_
        refine (AllReadyH.cons rfl (fun K' hK => ?_) (AllReadyH.cons rfl (fun K' hK => ?_) AllReadyH.nil))
        · skip
          go_simp
          go_wp2_with (go_at_call 10; refine (lsend_any _ _ ⟨nx, st, hi, [b0, b1, b2, b3, b4, b5, b6, b7]⟩ f now _ (HLX.out.below (hb138)) (HFC.out _ hA141)).mono ?_; rintro e wv142 ⟨v1, vf1, rfl, hn1, hf1, hw143d⟩)
          have hw143 : Below wv136.heap.size wv136 wv142 := ⟨hw143d.os, hw143d.tape, hw143d.output, hw143d.size, hw143d.block⟩
          have hb144 := below_then hb138 hw143
          have hz145 : wv136.heap.size ≤ wv142.heap.size := hw143.size
          have HB146 := hid (heap_keep HB140.out hw143)
          rw [hSd] at hn1 hf1
          simp only at hn1 hf1
          replace hn1 : LneNew wv136.heap.size wv142 v1 S1 := hn1
          replace hf1 : ∀ w'', Since wv136.heap.size wv142 w'' → FrmAt w'' vf1 g := hf1
          obtain ⟨nx1, st1, hi1, b01, b11, b21, b31, b41, b51, b61, b71, p2, cap2, sq1, e1, rfl, _, _, _⟩ := hn1.spell
          obtain ⟨vl1, vg1, vc1, rfl, ⟨gl, hl, rfl, _⟩, ⟨gg, hg, rfl, _⟩, ⟨gc, hc, rfl, _⟩⟩ := hf1 wv142 (Since.refl _ _)
          unfold frmV at hf1
          unfold frmV
          have HN1 := hid hn1
          have HF1 := hid hf1
          have hB147 : Below wv142.heap.size wv142 wv142 := Below.refl _ _
          clear hn1 hf1 hw143d
          refine hK.out _ _ (HS.out _ hb144) (fun _ => ?_)
          clear hK K'
          refine takeD 5 16 ?v45 rfl (by as_aux_lemma => kernel_rfl) (by as_aux_lemma => kernel_rfl) (by as_aux_lemma => kernel_rfl) (by as_aux_lemma => kernel_rfl) (fun _ _ _ h => h) (Or.inl ⟨by rfl, ?hy45⟩) (by assumption) ?rest45
          case hy45 => intro wz hSw; (try dsimp only at hSw); go_simp; try with_reducible rfl
          simp only [Act.put, List.setIfInBounds_toArray, List.set_cons_zero, List.set_cons_succ]
          refine takeD 6 22 ?v46 rfl (by as_aux_lemma => kernel_rfl) (by as_aux_lemma => kernel_rfl) (by as_aux_lemma => kernel_rfl) (by as_aux_lemma => kernel_rfl) (fun _ _ _ h => h) (Or.inl ⟨by rfl, ?hy46⟩) (by assumption) ?rest46
          case hy46 => intro wz hSw; (try dsimp only at hSw); go_simp; try with_reducible rfl
          simp only [Act.put, List.setIfInBounds_toArray, List.set_cons_zero, List.set_cons_succ]
          refine takeD 7 23 ?v47 rfl (by as_aux_lemma => kernel_rfl) (by as_aux_lemma => kernel_rfl) (by as_aux_lemma => kernel_rfl) (by as_aux_lemma => kernel_rfl) (fun _ _ _ h => h) (Or.inl ⟨by rfl, ?hy47⟩) (by assumption) ?rest47
          case hy47 => intro wz hSw; (try dsimp only at hSw); go_simp; try with_reducible rfl
          simp only [Act.put, List.setIfInBounds_toArray, List.set_cons_zero, List.set_cons_succ]
          refine takeD 8 24 ?v48 rfl (by as_aux_lemma => kernel_rfl) (by as_aux_lemma => kernel_rfl) (by as_aux_lemma => kernel_rfl) (by as_aux_lemma => kernel_rfl) (fun _ _ _ h => h) (Or.inl ⟨by rfl, ?hy48⟩) (by assumption) ?rest48
          case hy48 => intro wz hSw; (try dsimp only at hSw); go_simp; try with_reducible rfl
          simp only [Act.put, List.setIfInBounds_toArray, List.set_cons_zero, List.set_cons_succ]
          refine wpAnyH_ready (rs := [9]) (by as_aux_lemma => kernel_rfl) (by simp) ?_
          refine (AllReadyH.cons rfl (fun K' hK => ?_) AllReadyH.nil)
          · skip
            go_simp
            have HB148 := hid (heap_alloc_at (w := wv142) rfl (.cells #[.int .i64 0, .slice none 0 0, .int .i64 0, .bool false, .bool false, .bool false, .bool false, .bool false, .bool false, .bool false, .bool false] 25))
            have hb149 : Below w2.heap.size w2 (wv142.alloc (.cells #[.int .i64 0, .slice none 0 0, .int .i64 0, .bool false, .bool false, .bool false, .bool false, .bool false, .bool false, .bool false, .bool false] 25)) := hb144.alloc hb144.size _
            have hz150 : (wv142.alloc (.cells #[.int .i64 0, .slice none 0 0, .int .i64 0, .bool false, .bool false, .bool false, .bool false, .bool false, .bool false, .bool false, .bool false] 25)).heap.size = wv142.heap.size + 1 := size_box _ _
            have HB151 := hid (heap_new HB146.out (.cells #[.int .i64 0, .slice none 0 0, .int .i64 0, .bool false, .bool false, .bool false, .bool false, .bool false, .bool false, .bool false, .bool false] 25))
            have hB152 := hB147.alloc hB147.size (.cells #[.int .i64 0, .slice none 0 0, .int .i64 0, .bool false, .bool false, .bool false, .bool false, .bool false, .bool false, .bool false, .bool false] 25)
            refine hK.out _ _ (HS.out _ (hb149)) (fun _ => ?_)
            clear hK K'
            have hAB : wv142.heap.size < wv136.heap.size ∨ wv142.heap.size ≤ wv142.heap.size := by omega
            have hCB : w2.heap.size < wv136.heap.size ∨ wv142.heap.size ≤ w2.heap.size := by omega
            have hAC : wv142.heap.size ≠ w2.heap.size := by omega
            have hA2 : w2.heap.size ≤ wv142.heap.size := by omega
            have hC2 : w2.heap.size ≤ w2.heap.size := by omega
            have hFBB := hB152
            generalize (wv142.alloc (.cells #[.int .i64 0, .slice none 0 0, .int .i64 0, .bool false, .bool false, .bool false, .bool false, .bool false, .bool false, .bool false, .bool false] 25)) = wF at *
            have d0 := heap_cell HB148.out 0
            have df0 := heap_frozen HB148.out 0
            have d1 := heap_cell HB148.out 1
            have df1 := heap_frozen HB148.out 1
            have d2 := heap_cell HB148.out 2
            have df2 := heap_frozen HB148.out 2
            have d3 := heap_cell HB148.out 3
            have df3 := heap_frozen HB148.out 3
            have d4 := heap_cell HB148.out 4
            have df4 := heap_frozen HB148.out 4
            have d5 := heap_cell HB148.out 5
            have df5 := heap_frozen HB148.out 5
            have d6 := heap_cell HB148.out 6
            have df6 := heap_frozen HB148.out 6
            have d7 := heap_cell HB148.out 7
            have df7 := heap_frozen HB148.out 7
            have d8 := heap_cell HB148.out 8
            have df8 := heap_frozen HB148.out 8
            have d9 := heap_cell HB148.out 9
            have df9 := heap_frozen HB148.out 9
            have d10 := heap_cell HB148.out 10
            have df10 := heap_frozen HB148.out 10
            refine wpAnyH_ready (rs := [11]) (by as_aux_lemma => kernel_rfl) (by simp) ?_
            refine (AllReadyH.cons rfl (fun K' hK => ?_) AllReadyH.nil)
            go_simp
            have hS1 := st11_grown wF (wv142.heap.size) (.int .i64 nx1) (.slice p2 st1.length cap2) (.int .i64 hi1) (.bool b01) (.bool b11) (.bool b21) (.bool b31) (.bool b41) (.bool b51) (.bool b61) (.bool b71)
            have hb1E := hb149.grown hS1 hb149.size (fun k hk => by have := Option.some.inj hk; omega)
            refine hK.out _ _ (HS.out _ hb1E) (fun _ => ?_)
            clear hK K' d0 df0 d1 df1 d2 df2 d3 df3 d4 df4 d5 df5 d6 df6 d7 df7 d8 df8 d9 df9 d10 df10
            have hX1 := st11_heap (.int .i64 nx1) (.slice p2 st1.length cap2) (.int .i64 hi1) (.bool b01) (.bool b11) (.bool b21) (.bool b31) (.bool b41) (.bool b51) (.bool b61) (.bool b71) HB148.out
            have hY1 := heap_tk HB151.out (Ne.symm hAC) hS1
            have g0 := heap_cell hY1 0
            have gf0 := heap_frozen hY1 0
            have g1 := heap_cell hY1 1
            have gf1 := heap_frozen hY1 1
            have g2 := heap_cell hY1 2
            have gf2 := heap_frozen hY1 2
            have g3 := heap_cell hY1 3
            have gf3 := heap_frozen hY1 3
            have g4 := heap_cell hY1 4
            have gf4 := heap_frozen hY1 4
            have g5 := heap_cell hY1 5
            have gf5 := heap_frozen hY1 5
            have g6 := heap_cell hY1 6
            have gf6 := heap_frozen hY1 6
            have g7 := heap_cell hY1 7
            have gf7 := heap_frozen hY1 7
            have g8 := heap_cell hY1 8
            have gf8 := heap_frozen hY1 8
            have g9 := heap_cell hY1 9
            have gf9 := heap_frozen hY1 9
            have g10 := heap_cell hY1 10
            have gf10 := heap_frozen hY1 10
            have HX1 := hid hX1
            have HY1 := hid hY1
            clear hX1 hY1
            unfold st11 at *
            refine wpAnyH_ready (rs := [12]) (by as_aux_lemma => kernel_rfl) (by simp) ?_
            refine (AllReadyH.cons rfl (fun K' hK => ?_) AllReadyH.nil)
            go_simp
            have hS2 := st11_grown (st11 wF (wv142.heap.size) (.int .i64 nx1) (.slice p2 st1.length cap2) (.int .i64 hi1) (.bool b01) (.bool b11) (.bool b21) (.bool b31) (.bool b41) (.bool b51) (.bool b61) (.bool b71)) (w2.heap.size) (.int .i64 g.fr) (.int .i64 g.to) (.int .i64 g.seq) (.bool g.ack) (.int .i64 g.thread) (.int .i64 g.mail.host) (.int .i64 g.mail.thread) (.slice gl g.mail.label.length hl) (.slice gg g.mail.grants.length hg) (.string ⟨g.mail.text.toArray⟩) (.slice gc g.certs.length hc)
            have hb2E := hb1E.grown hS2 hb1E.size (fun k hk => by have := Option.some.inj hk; omega)
            refine hK.out _ _ (HS.out _ hb2E) (fun _ => ?_)
            clear hK K' g0 gf0 g1 gf1 g2 gf2 g3 gf3 g4 gf4 g5 gf5 g6 gf6 g7 gf7 g8 gf8 g9 gf9 g10 gf10
            refine takeD 13 10 ?v49 rfl (by as_aux_lemma => kernel_rfl) (by as_aux_lemma => kernel_rfl) (by as_aux_lemma => kernel_rfl) (by as_aux_lemma => kernel_rfl) (fun _ _ _ h => h) (Or.inl ⟨by rfl, ?hy49⟩) (by assumption) ?rest49
            case hy49 => intro wz hSw; (try dsimp only at hSw); go_simp; try with_reducible rfl
            simp only [Act.put, List.setIfInBounds_toArray, List.set_cons_zero, List.set_cons_succ]
            refine wpAnyH_done (by as_aux_lemma => kernel_rfl) ?_ _
            go_wp2_with fail
            go_meet
            have hSE : Since (wv136.heap.size) wv142 (st11 (st11 wF (wv142.heap.size) (.int .i64 nx1) (.slice p2 st1.length cap2) (.int .i64 hi1) (.bool b01) (.bool b11) (.bool b21) (.bool b31) (.bool b41) (.bool b51) (.bool b61) (.bool b71)) (w2.heap.size) (.int .i64 g.fr) (.int .i64 g.to) (.int .i64 g.seq) (.bool g.ack) (.int .i64 g.thread) (.int .i64 g.mail.host) (.int .i64 g.mail.thread) (.slice gl g.mail.label.length hl) (.slice gg g.mail.grants.length hg) (.string ⟨g.mail.text.toArray⟩) (.slice gc g.certs.length hc)) := fun k h1 h2 => by
              rw [hS2.block k (Nat.lt_of_lt_of_le h2 (Nat.le_trans hFBB.size hS1.size)) (fun e => by have := Option.some.inj e; omega), hS1.block k (Nat.lt_of_lt_of_le h2 hFBB.size) (fun e => by have := Option.some.inj e; omega)]
              exact hFBB.block k h2
            exact ⟨wv142.heap.size, w2.heap.size, nx1, st1, hi1, b01, b11, b21, b31, b41, b51, b61, b71, p2, cap2, gl, gg, gc, hl, hg, hc, rfl, rfl, rfl, e1, heap_tk HX1.out hAC hS2, st11_heap (.int .i64 g.fr) (.int .i64 g.to) (.int .i64 g.seq) (.bool g.ack) (.int .i64 g.thread) (.int .i64 g.mail.host) (.int .i64 g.mail.thread) (.slice gl g.mail.label.length hl) (.slice gg g.mail.grants.length hg) (.string ⟨g.mail.text.toArray⟩) (.slice gc g.certs.length hc) HY1.out, by rw [← e1]; exact lne_since HN1.out hSE, HF1.out _ hSE, hb2E, hA2, hC2⟩
        · skip
          go_simp
          have HB153 := hid (heap_alloc_at (w := wv136) rfl (.cells #[.int .i64 0, .slice none 0 0, .int .i64 0, .bool false, .bool false, .bool false, .bool false, .bool false, .bool false, .bool false, .bool false] 25))
          have hb154 : Below w2.heap.size w2 (wv136.alloc (.cells #[.int .i64 0, .slice none 0 0, .int .i64 0, .bool false, .bool false, .bool false, .bool false, .bool false, .bool false, .bool false, .bool false] 25)) := hb138.alloc hb138.size _
          have hz155 : (wv136.alloc (.cells #[.int .i64 0, .slice none 0 0, .int .i64 0, .bool false, .bool false, .bool false, .bool false, .bool false, .bool false, .bool false, .bool false] 25)).heap.size = wv136.heap.size + 1 := size_box _ _
          have HB156 := hid (heap_new HB140.out (.cells #[.int .i64 0, .slice none 0 0, .int .i64 0, .bool false, .bool false, .bool false, .bool false, .bool false, .bool false, .bool false, .bool false] 25))
          have hA157 := hA141.alloc hA141.size (.cells #[.int .i64 0, .slice none 0 0, .int .i64 0, .bool false, .bool false, .bool false, .bool false, .bool false, .bool false, .bool false, .bool false] 25)
          refine hK.out _ _ (HS.out _ (hb154)) (fun _ => ?_)
          clear hK K'
          refine wpAnyH_ready (rs := [4]) (by as_aux_lemma => kernel_rfl) (by simp) ?_
          refine (AllReadyH.cons rfl (fun K' hK => ?_) AllReadyH.nil)
          · skip
            go_simp
            go_wp2_with (go_at_call 10; refine (lsend_any _ _ ⟨nx, st, hi, [b0, b1, b2, b3, b4, b5, b6, b7]⟩ f now _ (HLX.out.below (hb154)) (HFC.out _ hA157)).mono ?_; rintro e wv158 ⟨v1, vf1, rfl, hn1, hf1, hw159d⟩)
            have hw159 : Below (wv136.alloc (.cells #[.int .i64 0, .slice none 0 0, .int .i64 0, .bool false, .bool false, .bool false, .bool false, .bool false, .bool false, .bool false, .bool false] 25)).heap.size (wv136.alloc (.cells #[.int .i64 0, .slice none 0 0, .int .i64 0, .bool false, .bool false, .bool false, .bool false, .bool false, .bool false, .bool false, .bool false] 25)) wv158 := ⟨hw159d.os, hw159d.tape, hw159d.output, hw159d.size, hw159d.block⟩
            have hb160 := below_then hb154 hw159
            have hz161 : (wv136.alloc (.cells #[.int .i64 0, .slice none 0 0, .int .i64 0, .bool false, .bool false, .bool false, .bool false, .bool false, .bool false, .bool false, .bool false] 25)).heap.size ≤ wv158.heap.size := hw159.size
            have HB162 := hid (heap_keep HB153.out hw159)
            have HB163 := hid (heap_keep HB156.out hw159)
            rw [hSd] at hn1 hf1
            simp only at hn1 hf1
            replace hn1 : LneNew (wv136.alloc (.cells #[.int .i64 0, .slice none 0 0, .int .i64 0, .bool false, .bool false, .bool false, .bool false, .bool false, .bool false, .bool false, .bool false] 25)).heap.size wv158 v1 S1 := hn1
            replace hf1 : ∀ w'', Since (wv136.alloc (.cells #[.int .i64 0, .slice none 0 0, .int .i64 0, .bool false, .bool false, .bool false, .bool false, .bool false, .bool false, .bool false, .bool false] 25)).heap.size wv158 w'' → FrmAt w'' vf1 g := hf1
            obtain ⟨nx1, st1, hi1, b01, b11, b21, b31, b41, b51, b61, b71, p2, cap2, sq1, e1, rfl, _, _, _⟩ := hn1.spell
            obtain ⟨vl1, vg1, vc1, rfl, ⟨gl, hl, rfl, _⟩, ⟨gg, hg, rfl, _⟩, ⟨gc, hc, rfl, _⟩⟩ := hf1 wv158 (Since.refl _ _)
            unfold frmV at hf1
            unfold frmV
            have HN1 := hid hn1
            have HF1 := hid hf1
            have hB164 : Below wv158.heap.size wv158 wv158 := Below.refl _ _
            clear hn1 hf1 hw159d
            refine hK.out _ _ (HS.out _ hb160) (fun _ => ?_)
            clear hK K'
            refine takeD 5 16 ?v50 rfl (by as_aux_lemma => kernel_rfl) (by as_aux_lemma => kernel_rfl) (by as_aux_lemma => kernel_rfl) (by as_aux_lemma => kernel_rfl) (fun _ _ _ h => h) (Or.inl ⟨by rfl, ?hy50⟩) (by assumption) ?rest50
            case hy50 => intro wz hSw; (try dsimp only at hSw); go_simp; try with_reducible rfl
            simp only [Act.put, List.setIfInBounds_toArray, List.set_cons_zero, List.set_cons_succ]
            refine takeD 6 22 ?v51 rfl (by as_aux_lemma => kernel_rfl) (by as_aux_lemma => kernel_rfl) (by as_aux_lemma => kernel_rfl) (by as_aux_lemma => kernel_rfl) (fun _ _ _ h => h) (Or.inl ⟨by rfl, ?hy51⟩) (by assumption) ?rest51
            case hy51 => intro wz hSw; (try dsimp only at hSw); go_simp; try with_reducible rfl
            simp only [Act.put, List.setIfInBounds_toArray, List.set_cons_zero, List.set_cons_succ]
            refine takeD 7 23 ?v52 rfl (by as_aux_lemma => kernel_rfl) (by as_aux_lemma => kernel_rfl) (by as_aux_lemma => kernel_rfl) (by as_aux_lemma => kernel_rfl) (fun _ _ _ h => h) (Or.inl ⟨by rfl, ?hy52⟩) (by assumption) ?rest52
            case hy52 => intro wz hSw; (try dsimp only at hSw); go_simp; try with_reducible rfl
            simp only [Act.put, List.setIfInBounds_toArray, List.set_cons_zero, List.set_cons_succ]
            refine takeD 8 24 ?v53 rfl (by as_aux_lemma => kernel_rfl) (by as_aux_lemma => kernel_rfl) (by as_aux_lemma => kernel_rfl) (by as_aux_lemma => kernel_rfl) (fun _ _ _ h => h) (Or.inl ⟨by rfl, ?hy53⟩) (by assumption) ?rest53
            case hy53 => intro wz hSw; (try dsimp only at hSw); go_simp; try with_reducible rfl
            simp only [Act.put, List.setIfInBounds_toArray, List.set_cons_zero, List.set_cons_succ]
            have hAB : wv136.heap.size < (wv136.alloc (.cells #[.int .i64 0, .slice none 0 0, .int .i64 0, .bool false, .bool false, .bool false, .bool false, .bool false, .bool false, .bool false, .bool false] 25)).heap.size ∨ wv158.heap.size ≤ wv136.heap.size := by omega
            have hCB : w2.heap.size < (wv136.alloc (.cells #[.int .i64 0, .slice none 0 0, .int .i64 0, .bool false, .bool false, .bool false, .bool false, .bool false, .bool false, .bool false, .bool false] 25)).heap.size ∨ wv158.heap.size ≤ w2.heap.size := by omega
            have hAC : wv136.heap.size ≠ w2.heap.size := by omega
            have hA2 : w2.heap.size ≤ wv136.heap.size := by omega
            have hC2 : w2.heap.size ≤ w2.heap.size := by omega
            have hFBB := hB164
            have d0 := heap_cell HB162.out 0
            have df0 := heap_frozen HB162.out 0
            have d1 := heap_cell HB162.out 1
            have df1 := heap_frozen HB162.out 1
            have d2 := heap_cell HB162.out 2
            have df2 := heap_frozen HB162.out 2
            have d3 := heap_cell HB162.out 3
            have df3 := heap_frozen HB162.out 3
            have d4 := heap_cell HB162.out 4
            have df4 := heap_frozen HB162.out 4
            have d5 := heap_cell HB162.out 5
            have df5 := heap_frozen HB162.out 5
            have d6 := heap_cell HB162.out 6
            have df6 := heap_frozen HB162.out 6
            have d7 := heap_cell HB162.out 7
            have df7 := heap_frozen HB162.out 7
            have d8 := heap_cell HB162.out 8
            have df8 := heap_frozen HB162.out 8
            have d9 := heap_cell HB162.out 9
            have df9 := heap_frozen HB162.out 9
            have d10 := heap_cell HB162.out 10
            have df10 := heap_frozen HB162.out 10
            refine wpAnyH_ready (rs := [11]) (by as_aux_lemma => kernel_rfl) (by simp) ?_
            refine (AllReadyH.cons rfl (fun K' hK => ?_) AllReadyH.nil)
            go_simp
            have hS1 := st11_grown wv158 (wv136.heap.size) (.int .i64 nx1) (.slice p2 st1.length cap2) (.int .i64 hi1) (.bool b01) (.bool b11) (.bool b21) (.bool b31) (.bool b41) (.bool b51) (.bool b61) (.bool b71)
            have hb1E := hb160.grown hS1 hb160.size (fun k hk => by have := Option.some.inj hk; omega)
            refine hK.out _ _ (HS.out _ hb1E) (fun _ => ?_)
            clear hK K' d0 df0 d1 df1 d2 df2 d3 df3 d4 df4 d5 df5 d6 df6 d7 df7 d8 df8 d9 df9 d10 df10
            have hX1 := st11_heap (.int .i64 nx1) (.slice p2 st1.length cap2) (.int .i64 hi1) (.bool b01) (.bool b11) (.bool b21) (.bool b31) (.bool b41) (.bool b51) (.bool b61) (.bool b71) HB162.out
            have hY1 := heap_tk HB163.out (Ne.symm hAC) hS1
            have g0 := heap_cell hY1 0
            have gf0 := heap_frozen hY1 0
            have g1 := heap_cell hY1 1
            have gf1 := heap_frozen hY1 1
            have g2 := heap_cell hY1 2
            have gf2 := heap_frozen hY1 2
            have g3 := heap_cell hY1 3
            have gf3 := heap_frozen hY1 3
            have g4 := heap_cell hY1 4
            have gf4 := heap_frozen hY1 4
            have g5 := heap_cell hY1 5
            have gf5 := heap_frozen hY1 5
            have g6 := heap_cell hY1 6
            have gf6 := heap_frozen hY1 6
            have g7 := heap_cell hY1 7
            have gf7 := heap_frozen hY1 7
            have g8 := heap_cell hY1 8
            have gf8 := heap_frozen hY1 8
            have g9 := heap_cell hY1 9
            have gf9 := heap_frozen hY1 9
            have g10 := heap_cell hY1 10
            have gf10 := heap_frozen hY1 10
            have HX1 := hid hX1
            have HY1 := hid hY1
            clear hX1 hY1
            unfold st11 at *
            refine wpAnyH_ready (rs := [12]) (by as_aux_lemma => kernel_rfl) (by simp) ?_
            refine (AllReadyH.cons rfl (fun K' hK => ?_) AllReadyH.nil)
            go_simp
            have hS2 := st11_grown (st11 wv158 (wv136.heap.size) (.int .i64 nx1) (.slice p2 st1.length cap2) (.int .i64 hi1) (.bool b01) (.bool b11) (.bool b21) (.bool b31) (.bool b41) (.bool b51) (.bool b61) (.bool b71)) (w2.heap.size) (.int .i64 g.fr) (.int .i64 g.to) (.int .i64 g.seq) (.bool g.ack) (.int .i64 g.thread) (.int .i64 g.mail.host) (.int .i64 g.mail.thread) (.slice gl g.mail.label.length hl) (.slice gg g.mail.grants.length hg) (.string ⟨g.mail.text.toArray⟩) (.slice gc g.certs.length hc)
            have hb2E := hb1E.grown hS2 hb1E.size (fun k hk => by have := Option.some.inj hk; omega)
            refine hK.out _ _ (HS.out _ hb2E) (fun _ => ?_)
            clear hK K' g0 gf0 g1 gf1 g2 gf2 g3 gf3 g4 gf4 g5 gf5 g6 gf6 g7 gf7 g8 gf8 g9 gf9 g10 gf10
            refine takeD 13 10 ?v54 rfl (by as_aux_lemma => kernel_rfl) (by as_aux_lemma => kernel_rfl) (by as_aux_lemma => kernel_rfl) (by as_aux_lemma => kernel_rfl) (fun _ _ _ h => h) (Or.inl ⟨by rfl, ?hy54⟩) (by assumption) ?rest54
            case hy54 => intro wz hSw; (try dsimp only at hSw); go_simp; try with_reducible rfl
            simp only [Act.put, List.setIfInBounds_toArray, List.set_cons_zero, List.set_cons_succ]
            refine wpAnyH_done (by as_aux_lemma => kernel_rfl) ?_ _
            go_wp2_with fail
            go_meet
            have hSE : Since ((wv136.alloc (.cells #[.int .i64 0, .slice none 0 0, .int .i64 0, .bool false, .bool false, .bool false, .bool false, .bool false, .bool false, .bool false, .bool false] 25)).heap.size) wv158 (st11 (st11 wv158 (wv136.heap.size) (.int .i64 nx1) (.slice p2 st1.length cap2) (.int .i64 hi1) (.bool b01) (.bool b11) (.bool b21) (.bool b31) (.bool b41) (.bool b51) (.bool b61) (.bool b71)) (w2.heap.size) (.int .i64 g.fr) (.int .i64 g.to) (.int .i64 g.seq) (.bool g.ack) (.int .i64 g.thread) (.int .i64 g.mail.host) (.int .i64 g.mail.thread) (.slice gl g.mail.label.length hl) (.slice gg g.mail.grants.length hg) (.string ⟨g.mail.text.toArray⟩) (.slice gc g.certs.length hc)) := fun k h1 h2 => by
              rw [hS2.block k (Nat.lt_of_lt_of_le h2 (Nat.le_trans hFBB.size hS1.size)) (fun e => by have := Option.some.inj e; omega), hS1.block k (Nat.lt_of_lt_of_le h2 hFBB.size) (fun e => by have := Option.some.inj e; omega)]
            exact ⟨wv136.heap.size, w2.heap.size, nx1, st1, hi1, b01, b11, b21, b31, b41, b51, b61, b71, p2, cap2, gl, gg, gc, hl, hg, hc, rfl, rfl, rfl, e1, heap_tk HX1.out hAC hS2, st11_heap (.int .i64 g.fr) (.int .i64 g.to) (.int .i64 g.seq) (.bool g.ack) (.int .i64 g.thread) (.int .i64 g.mail.host) (.int .i64 g.mail.thread) (.slice gl g.mail.label.length hl) (.slice gg g.mail.grants.length hg) (.string ⟨g.mail.text.toArray⟩) (.slice gc g.certs.length hc) HY1.out, by rw [← e1]; exact lne_since HN1.out hSE, HF1.out _ hSE, hb2E, hA2, hC2⟩
      · skip
        go_simp
        have HB165 := hid (heap_alloc_at (show (w2.alloc (.cells #[.int .i64 0, .int .i64 0, .int .i64 0, .bool false, .int .i64 0, .int .i64 0, .int .i64 0, .slice none 0 0, .slice none 0 0, .string ⟨#[]⟩, .slice none 0 0] 33)).heap.size = w2.heap.size + 1 from size_box _ _) (.cells #[.int .i64 0, .slice none 0 0, .int .i64 0, .bool false, .bool false, .bool false, .bool false, .bool false, .bool false, .bool false, .bool false] 25))
        have hb166 : Below w2.heap.size w2 ((w2.alloc (.cells #[.int .i64 0, .int .i64 0, .int .i64 0, .bool false, .int .i64 0, .int .i64 0, .int .i64 0, .slice none 0 0, .slice none 0 0, .string ⟨#[]⟩, .slice none 0 0] 33)).alloc (.cells #[.int .i64 0, .slice none 0 0, .int .i64 0, .bool false, .bool false, .bool false, .bool false, .bool false, .bool false, .bool false, .bool false] 25)) := hb134.alloc hb134.size _
        have hz167 : ((w2.alloc (.cells #[.int .i64 0, .int .i64 0, .int .i64 0, .bool false, .int .i64 0, .int .i64 0, .int .i64 0, .slice none 0 0, .slice none 0 0, .string ⟨#[]⟩, .slice none 0 0] 33)).alloc (.cells #[.int .i64 0, .slice none 0 0, .int .i64 0, .bool false, .bool false, .bool false, .bool false, .bool false, .bool false, .bool false, .bool false] 25)).heap.size = w2.heap.size + 1 + 1 := by rw [size_box]; exact congrArg (· + 1) (size_box _ _)
        have HB168 := hid (heap_new HB133.out (.cells #[.int .i64 0, .slice none 0 0, .int .i64 0, .bool false, .bool false, .bool false, .bool false, .bool false, .bool false, .bool false, .bool false] 25))
        refine hK.out _ _ (HS.out _ ((hb166).drew)) (fun _ => ?_)
        clear hK K'
        refine wpAnyH_ready (rs := [2]) (by as_aux_lemma => kernel_rfl) (by simp) ?_
        refine (AllReadyH.cons rfl (fun K' hK => ?_) AllReadyH.nil)
        · skip
          go_simp
          go_wp2_with (go_at_call 11; refine (rcopyFrame_since _ f _ (HFRM.out.below ((hb166).drew))).mono ?_; rintro e wv169 ⟨pA, cA, pD, cD, pC, cC, rfl, hcopy, hw170d⟩)
          have hw170 : Below ((w2.alloc (.cells #[.int .i64 0, .int .i64 0, .int .i64 0, .bool false, .int .i64 0, .int .i64 0, .int .i64 0, .slice none 0 0, .slice none 0 0, .string ⟨#[]⟩, .slice none 0 0] 33)).alloc (.cells #[.int .i64 0, .slice none 0 0, .int .i64 0, .bool false, .bool false, .bool false, .bool false, .bool false, .bool false, .bool false, .bool false] 25)).heap.size ((w2.alloc (.cells #[.int .i64 0, .int .i64 0, .int .i64 0, .bool false, .int .i64 0, .int .i64 0, .int .i64 0, .slice none 0 0, .slice none 0 0, .string ⟨#[]⟩, .slice none 0 0] 33)).alloc (.cells #[.int .i64 0, .slice none 0 0, .int .i64 0, .bool false, .bool false, .bool false, .bool false, .bool false, .bool false, .bool false, .bool false] 25)) wv169 := ⟨hw170d.os, hw170d.tape, hw170d.output, hw170d.size, hw170d.block⟩
          have hb171 := below_then hb166 hw170
          have hz172 : ((w2.alloc (.cells #[.int .i64 0, .int .i64 0, .int .i64 0, .bool false, .int .i64 0, .int .i64 0, .int .i64 0, .slice none 0 0, .slice none 0 0, .string ⟨#[]⟩, .slice none 0 0] 33)).alloc (.cells #[.int .i64 0, .slice none 0 0, .int .i64 0, .bool false, .bool false, .bool false, .bool false, .bool false, .bool false, .bool false, .bool false] 25)).heap.size ≤ wv169.heap.size := hw170.size
          have HB173 := hid (heap_keep HB165.out hw170)
          have HB174 := hid (heap_keep HB168.out hw170)
          have HFC : Hid (∀ wx, Below wv169.heap.size wv169 wx → FrmAt wx (.agg #[.int .i64 f.fr, .int .i64 f.to, .int .i64 f.seq, .bool f.ack, .int .i64 f.thread, .int .i64 f.mail.host, .int .i64 f.mail.thread, .slice pA f.mail.label.length cA, .slice pD f.mail.grants.length cD, .string ⟨f.mail.text.toArray⟩, .slice pC f.certs.length cC]) f) := hid (fun wx hx => by obtain ⟨q1, q2, q3⟩ := hcopy wx (since_below hx); exact ⟨_, _, _, rfl, q1, q2, q3⟩)
          have hA175 : Below wv169.heap.size wv169 wv169 := Below.refl _ _
          clear hcopy hw170d
          refine hK.out _ _ (HS.out _ hb171) (fun _ => ?_)
          clear hK K'
          refine wpAnyH_ready (rs := [4]) (by as_aux_lemma => kernel_rfl) (by simp) ?_
          refine (AllReadyH.cons rfl (fun K' hK => ?_) AllReadyH.nil)
          · skip
            go_simp
            go_wp2_with (go_at_call 10; refine (lsend_any _ _ ⟨nx, st, hi, [b0, b1, b2, b3, b4, b5, b6, b7]⟩ f now _ (HLX.out.below (hb171)) (HFC.out _ hA175)).mono ?_; rintro e wv176 ⟨v1, vf1, rfl, hn1, hf1, hw177d⟩)
            have hw177 : Below wv169.heap.size wv169 wv176 := ⟨hw177d.os, hw177d.tape, hw177d.output, hw177d.size, hw177d.block⟩
            have hb178 := below_then hb171 hw177
            have hz179 : wv169.heap.size ≤ wv176.heap.size := hw177.size
            have HB180 := hid (heap_keep HB173.out hw177)
            have HB181 := hid (heap_keep HB174.out hw177)
            rw [hSd] at hn1 hf1
            simp only at hn1 hf1
            replace hn1 : LneNew wv169.heap.size wv176 v1 S1 := hn1
            replace hf1 : ∀ w'', Since wv169.heap.size wv176 w'' → FrmAt w'' vf1 g := hf1
            obtain ⟨nx1, st1, hi1, b01, b11, b21, b31, b41, b51, b61, b71, p2, cap2, sq1, e1, rfl, _, _, _⟩ := hn1.spell
            obtain ⟨vl1, vg1, vc1, rfl, ⟨gl, hl, rfl, _⟩, ⟨gg, hg, rfl, _⟩, ⟨gc, hc, rfl, _⟩⟩ := hf1 wv176 (Since.refl _ _)
            unfold frmV at hf1
            unfold frmV
            have HN1 := hid hn1
            have HF1 := hid hf1
            have hB182 : Below wv176.heap.size wv176 wv176 := Below.refl _ _
            clear hn1 hf1 hw177d
            refine hK.out _ _ (HS.out _ hb178) (fun _ => ?_)
            clear hK K'
            refine takeD 5 16 ?v55 rfl (by as_aux_lemma => kernel_rfl) (by as_aux_lemma => kernel_rfl) (by as_aux_lemma => kernel_rfl) (by as_aux_lemma => kernel_rfl) (fun _ _ _ h => h) (Or.inl ⟨by rfl, ?hy55⟩) (by assumption) ?rest55
            case hy55 => intro wz hSw; (try dsimp only at hSw); go_simp; try with_reducible rfl
            simp only [Act.put, List.setIfInBounds_toArray, List.set_cons_zero, List.set_cons_succ]
            refine takeD 6 22 ?v56 rfl (by as_aux_lemma => kernel_rfl) (by as_aux_lemma => kernel_rfl) (by as_aux_lemma => kernel_rfl) (by as_aux_lemma => kernel_rfl) (fun _ _ _ h => h) (Or.inl ⟨by rfl, ?hy56⟩) (by assumption) ?rest56
            case hy56 => intro wz hSw; (try dsimp only at hSw); go_simp; try with_reducible rfl
            simp only [Act.put, List.setIfInBounds_toArray, List.set_cons_zero, List.set_cons_succ]
            refine takeD 7 23 ?v57 rfl (by as_aux_lemma => kernel_rfl) (by as_aux_lemma => kernel_rfl) (by as_aux_lemma => kernel_rfl) (by as_aux_lemma => kernel_rfl) (fun _ _ _ h => h) (Or.inl ⟨by rfl, ?hy57⟩) (by assumption) ?rest57
            case hy57 => intro wz hSw; (try dsimp only at hSw); go_simp; try with_reducible rfl
            simp only [Act.put, List.setIfInBounds_toArray, List.set_cons_zero, List.set_cons_succ]
            refine takeD 8 24 ?v58 rfl (by as_aux_lemma => kernel_rfl) (by as_aux_lemma => kernel_rfl) (by as_aux_lemma => kernel_rfl) (by as_aux_lemma => kernel_rfl) (fun _ _ _ h => h) (Or.inl ⟨by rfl, ?hy58⟩) (by assumption) ?rest58
            case hy58 => intro wz hSw; (try dsimp only at hSw); go_simp; try with_reducible rfl
            simp only [Act.put, List.setIfInBounds_toArray, List.set_cons_zero, List.set_cons_succ]
            have hAB : w2.heap.size + 1 < wv169.heap.size ∨ wv176.heap.size ≤ w2.heap.size + 1 := by omega
            have hCB : w2.heap.size < wv169.heap.size ∨ wv176.heap.size ≤ w2.heap.size := by omega
            have hAC : w2.heap.size + 1 ≠ w2.heap.size := by omega
            have hA2 : w2.heap.size ≤ w2.heap.size + 1 := by omega
            have hC2 : w2.heap.size ≤ w2.heap.size := by omega
            have hFBB := hB182
            have d0 := heap_cell HB180.out 0
            have df0 := heap_frozen HB180.out 0
            have d1 := heap_cell HB180.out 1
            have df1 := heap_frozen HB180.out 1
            have d2 := heap_cell HB180.out 2
            have df2 := heap_frozen HB180.out 2
            have d3 := heap_cell HB180.out 3
            have df3 := heap_frozen HB180.out 3
            have d4 := heap_cell HB180.out 4
            have df4 := heap_frozen HB180.out 4
            have d5 := heap_cell HB180.out 5
            have df5 := heap_frozen HB180.out 5
            have d6 := heap_cell HB180.out 6
            have df6 := heap_frozen HB180.out 6
            have d7 := heap_cell HB180.out 7
            have df7 := heap_frozen HB180.out 7
            have d8 := heap_cell HB180.out 8
            have df8 := heap_frozen HB180.out 8
            have d9 := heap_cell HB180.out 9
            have df9 := heap_frozen HB180.out 9
            have d10 := heap_cell HB180.out 10
            have df10 := heap_frozen HB180.out 10
            refine wpAnyH_ready (rs := [11]) (by as_aux_lemma => kernel_rfl) (by simp) ?_
            refine (AllReadyH.cons rfl (fun K' hK => ?_) AllReadyH.nil)
            go_simp
            have hS1 := st11_grown wv176 (w2.heap.size + 1) (.int .i64 nx1) (.slice p2 st1.length cap2) (.int .i64 hi1) (.bool b01) (.bool b11) (.bool b21) (.bool b31) (.bool b41) (.bool b51) (.bool b61) (.bool b71)
            have hb1E := hb178.grown hS1 hb178.size (fun k hk => by have := Option.some.inj hk; omega)
            refine hK.out _ _ (HS.out _ hb1E) (fun _ => ?_)
            clear hK K' d0 df0 d1 df1 d2 df2 d3 df3 d4 df4 d5 df5 d6 df6 d7 df7 d8 df8 d9 df9 d10 df10
            have hX1 := st11_heap (.int .i64 nx1) (.slice p2 st1.length cap2) (.int .i64 hi1) (.bool b01) (.bool b11) (.bool b21) (.bool b31) (.bool b41) (.bool b51) (.bool b61) (.bool b71) HB180.out
            have hY1 := heap_tk HB181.out (Ne.symm hAC) hS1
            have g0 := heap_cell hY1 0
            have gf0 := heap_frozen hY1 0
            have g1 := heap_cell hY1 1
            have gf1 := heap_frozen hY1 1
            have g2 := heap_cell hY1 2
            have gf2 := heap_frozen hY1 2
            have g3 := heap_cell hY1 3
            have gf3 := heap_frozen hY1 3
            have g4 := heap_cell hY1 4
            have gf4 := heap_frozen hY1 4
            have g5 := heap_cell hY1 5
            have gf5 := heap_frozen hY1 5
            have g6 := heap_cell hY1 6
            have gf6 := heap_frozen hY1 6
            have g7 := heap_cell hY1 7
            have gf7 := heap_frozen hY1 7
            have g8 := heap_cell hY1 8
            have gf8 := heap_frozen hY1 8
            have g9 := heap_cell hY1 9
            have gf9 := heap_frozen hY1 9
            have g10 := heap_cell hY1 10
            have gf10 := heap_frozen hY1 10
            have HX1 := hid hX1
            have HY1 := hid hY1
            clear hX1 hY1
            unfold st11 at *
            refine wpAnyH_ready (rs := [12]) (by as_aux_lemma => kernel_rfl) (by simp) ?_
            refine (AllReadyH.cons rfl (fun K' hK => ?_) AllReadyH.nil)
            go_simp
            have hS2 := st11_grown (st11 wv176 (w2.heap.size + 1) (.int .i64 nx1) (.slice p2 st1.length cap2) (.int .i64 hi1) (.bool b01) (.bool b11) (.bool b21) (.bool b31) (.bool b41) (.bool b51) (.bool b61) (.bool b71)) (w2.heap.size) (.int .i64 g.fr) (.int .i64 g.to) (.int .i64 g.seq) (.bool g.ack) (.int .i64 g.thread) (.int .i64 g.mail.host) (.int .i64 g.mail.thread) (.slice gl g.mail.label.length hl) (.slice gg g.mail.grants.length hg) (.string ⟨g.mail.text.toArray⟩) (.slice gc g.certs.length hc)
            have hb2E := hb1E.grown hS2 hb1E.size (fun k hk => by have := Option.some.inj hk; omega)
            refine hK.out _ _ (HS.out _ hb2E) (fun _ => ?_)
            clear hK K' g0 gf0 g1 gf1 g2 gf2 g3 gf3 g4 gf4 g5 gf5 g6 gf6 g7 gf7 g8 gf8 g9 gf9 g10 gf10
            refine takeD 13 10 ?v59 rfl (by as_aux_lemma => kernel_rfl) (by as_aux_lemma => kernel_rfl) (by as_aux_lemma => kernel_rfl) (by as_aux_lemma => kernel_rfl) (fun _ _ _ h => h) (Or.inl ⟨by rfl, ?hy59⟩) (by assumption) ?rest59
            case hy59 => intro wz hSw; (try dsimp only at hSw); go_simp; try with_reducible rfl
            simp only [Act.put, List.setIfInBounds_toArray, List.set_cons_zero, List.set_cons_succ]
            refine wpAnyH_done (by as_aux_lemma => kernel_rfl) ?_ _
            go_wp2_with fail
            go_meet
            have hSE : Since (wv169.heap.size) wv176 (st11 (st11 wv176 (w2.heap.size + 1) (.int .i64 nx1) (.slice p2 st1.length cap2) (.int .i64 hi1) (.bool b01) (.bool b11) (.bool b21) (.bool b31) (.bool b41) (.bool b51) (.bool b61) (.bool b71)) (w2.heap.size) (.int .i64 g.fr) (.int .i64 g.to) (.int .i64 g.seq) (.bool g.ack) (.int .i64 g.thread) (.int .i64 g.mail.host) (.int .i64 g.mail.thread) (.slice gl g.mail.label.length hl) (.slice gg g.mail.grants.length hg) (.string ⟨g.mail.text.toArray⟩) (.slice gc g.certs.length hc)) := fun k h1 h2 => by
              rw [hS2.block k (Nat.lt_of_lt_of_le h2 (Nat.le_trans hFBB.size hS1.size)) (fun e => by have := Option.some.inj e; omega), hS1.block k (Nat.lt_of_lt_of_le h2 hFBB.size) (fun e => by have := Option.some.inj e; omega)]
            exact ⟨w2.heap.size + 1, w2.heap.size, nx1, st1, hi1, b01, b11, b21, b31, b41, b51, b61, b71, p2, cap2, gl, gg, gc, hl, hg, hc, rfl, rfl, rfl, e1, heap_tk HX1.out hAC hS2, st11_heap (.int .i64 g.fr) (.int .i64 g.to) (.int .i64 g.seq) (.bool g.ack) (.int .i64 g.thread) (.int .i64 g.mail.host) (.int .i64 g.mail.thread) (.slice gl g.mail.label.length hl) (.slice gg g.mail.grants.length hg) (.string ⟨g.mail.text.toArray⟩) (.slice gc g.certs.length hc) HY1.out, by rw [← e1]; exact lne_since HN1.out hSE, HF1.out _ hSE, hb2E, hA2, hC2⟩
  case rest =>
    obtain ⟨A, C, nx1, st1, hi1, b01, b11, b21, b31, b41, b51, b61, b71, p2, cap2, gl, gg, gc, hl, hg, hc, rfl, rfl, rfl, e1, hA, hC, hLA, hFA, hbc, hA2, hC2⟩ := hcut
    subst e1
    have HA := hid hA
    have HC := hid hC
    have HLA := hid hLA
    have HFA := hid hFA
    have HLc := hid (heap_keep HL2.out hbc)
    have HFc := hid (heap_keep HFB2.out hbc)
    have HXc := hid (heap_keep HX2.out hbc)
    have hbw := below_then hb2 hbc
    have HLXc := hid (HLX.out.below hbc)
    clear hA hC hLA hFA HS HX2 HL2 HFB2 HLX HFRM hb12 hb22
    have x0 := heap_cell HLc.out 0
    have x1 := heap_cell HLc.out 1
    have x2 := heap_cell HLc.out 2
    have x3 := heap_cell HLc.out 3
    have x4 := heap_cell HLc.out 4
    have x5 := heap_cell HLc.out 5
    have x6 := heap_cell HLc.out 6
    have x7 := heap_cell HLc.out 7
    have x8 := heap_cell HLc.out 8
    have x9 := heap_cell HLc.out 9
    have x10 := heap_cell HLc.out 10
    have k0 := heap_cell HFc.out 0
    have k1 := heap_cell HFc.out 1
    have k2 := heap_cell HFc.out 2
    have k3 := heap_cell HFc.out 3
    have k4 := heap_cell HFc.out 4
    have k5 := heap_cell HFc.out 5
    have k6 := heap_cell HFc.out 6
    have k7 := heap_cell HFc.out 7
    have k8 := heap_cell HFc.out 8
    have k9 := heap_cell HFc.out 9
    have k10 := heap_cell HFc.out 10
    go_wp2_with fail
    refine (rsendOn_any _ _ ⟨nx, st, hi, [b0, b1, b2, b3, b4, b5, b6, b7]⟩ f now _ (HV.out.below hbw) (HF.out.below hbw)).mono ?_
    rintro e w5 ⟨v5, vf5, rfl, hn5, hf5, hw5⟩
    rw [hSd] at hn5 hf5
    simp only at hn5 hf5
    obtain ⟨p5, cap5, rfl, _⟩ := hn5.of
    have HN5 := hid hn5
    have HF5 := hid hf5
    obtain ⟨vl5, vg5, vc5, rfl, ⟨gl5, hl5, rfl, _⟩, ⟨gg5, hg5, rfl, _⟩, ⟨gc5, hc5, rfl, _⟩⟩ := hf5
    unfold frmV at HF5
    unfold frmV
    clear hn5 x0 x1 x2 x3 x4 x5 x6 x7 x8 x9 x10 k0 k1 k2 k3 k4 k5 k6 k7 k8 k9 k10
    go_upto_region 4 with fail
    have HD6 : Hid (((w5.alloc (.cells #[.int .i64 nx1, .slice p5 st1.length cap5, .int .i64 hi1, .bool b01, .bool b11, .bool b21, .bool b31, .bool b41, .bool b51, .bool b61, .bool b71] 25)).alloc (.cells #[.int .i64 g.fr, .int .i64 g.to, .int .i64 g.seq, .bool g.ack, .int .i64 g.thread, .int .i64 g.mail.host, .int .i64 g.mail.thread, .slice gl5 g.mail.label.length hl5, .slice gg5 g.mail.grants.length hg5, .string ⟨g.mail.text.toArray⟩, .slice gc5 g.certs.length hc5] 33)).heap[w5.heap.size]? = some (.cells #[.int .i64 nx1, .slice p5 st1.length cap5, .int .i64 hi1, .bool b01, .bool b11, .bool b21, .bool b31, .bool b41, .bool b51, .bool b61, .bool b71] 25 (0, 0))) := hid (heap_alloc2_old w5 _ _)
    have HE6 : Hid (((w5.alloc (.cells #[.int .i64 nx1, .slice p5 st1.length cap5, .int .i64 hi1, .bool b01, .bool b11, .bool b21, .bool b31, .bool b41, .bool b51, .bool b61, .bool b71] 25)).alloc (.cells #[.int .i64 g.fr, .int .i64 g.to, .int .i64 g.seq, .bool g.ack, .int .i64 g.thread, .int .i64 g.mail.host, .int .i64 g.mail.thread, .slice gl5 g.mail.label.length hl5, .slice gg5 g.mail.grants.length hg5, .string ⟨g.mail.text.toArray⟩, .slice gc5 g.certs.length hc5] 33)).heap[w5.heap.size + 1]? = some (.cells #[.int .i64 g.fr, .int .i64 g.to, .int .i64 g.seq, .bool g.ack, .int .i64 g.thread, .int .i64 g.mail.host, .int .i64 g.mail.thread, .slice gl5 g.mail.label.length hl5, .slice gg5 g.mail.grants.length hg5, .string ⟨g.mail.text.toArray⟩, .slice gc5 g.certs.length hc5] 33 (0, 0))) := hid (heap_alloc2_new w5 _ _)
    have hb56 : Below w5.heap.size w5 ((w5.alloc (.cells #[.int .i64 nx1, .slice p5 st1.length cap5, .int .i64 hi1, .bool b01, .bool b11, .bool b21, .bool b31, .bool b41, .bool b51, .bool b61, .bool b71] 25)).alloc (.cells #[.int .i64 g.fr, .int .i64 g.to, .int .i64 g.seq, .bool g.ack, .int .i64 g.thread, .int .i64 g.mail.host, .int .i64 g.mail.thread, .slice gl5 g.mail.label.length hl5, .slice gg5 g.mail.grants.length hg5, .string ⟨g.mail.text.toArray⟩, .slice gc5 g.certs.length hc5] 33)) := (below_box w5 _).alloc (by simp) _
    have HSd := hid hSd
    clear hSd
    generalize (w5.alloc (.cells #[.int .i64 nx1, .slice p5 st1.length cap5, .int .i64 hi1, .bool b01, .bool b11, .bool b21, .bool b31, .bool b41, .bool b51, .bool b61, .bool b71] 25)).alloc (.cells #[.int .i64 g.fr, .int .i64 g.to, .int .i64 g.seq, .bool g.ack, .int .i64 g.thread, .int .i64 g.mail.host, .int .i64 g.mail.thread, .slice gl5 g.mail.label.length hl5, .slice gg5 g.mail.grants.length hg5, .string ⟨g.mail.text.toArray⟩, .slice gc5 g.certs.length hc5] 33) = w6 at *
    have hbc6 := below_then hw5 hb56
    have hbw6 := below_then hbw hbc6
    have HLA6 := hid (HLA.out.below hbc6)
    have HLD6 := hid (HN5.out.below hb56)
    have HFC6 := hid (HFA.out.below hbc6)
    have HFE6 := hid (HF5.out.below hb56)
    have HLX6 := hid (HLXc.out.below hbc6)
    have HLL6 := hid (HV.out.below hbw6)
    have HS4 : Hid (∀ w', Below w6.heap.size w6 w' → w'.heap[A]? = some (.cells #[.int .i64 nx1, .slice p2 st1.length cap2, .int .i64 hi1, .bool b01, .bool b11, .bool b21, .bool b31, .bool b41, .bool b51, .bool b61, .bool b71] 25 (0, 0)) ∧ w'.heap[w5.heap.size]? = some (.cells #[.int .i64 nx1, .slice p5 st1.length cap5, .int .i64 hi1, .bool b01, .bool b11, .bool b21, .bool b31, .bool b41, .bool b51, .bool b61, .bool b71] 25 (0, 0)) ∧ w'.heap[C]? = some (.cells #[.int .i64 g.fr, .int .i64 g.to, .int .i64 g.seq, .bool g.ack, .int .i64 g.thread, .int .i64 g.mail.host, .int .i64 g.mail.thread, .slice gl g.mail.label.length hl, .slice gg g.mail.grants.length hg, .string ⟨g.mail.text.toArray⟩, .slice gc g.certs.length hc] 33 (0, 0)) ∧ w'.heap[w5.heap.size + 1]? = some (.cells #[.int .i64 g.fr, .int .i64 g.to, .int .i64 g.seq, .bool g.ack, .int .i64 g.thread, .int .i64 g.mail.host, .int .i64 g.mail.thread, .slice gl5 g.mail.label.length hl5, .slice gg5 g.mail.grants.length hg5, .string ⟨g.mail.text.toArray⟩, .slice gc5 g.certs.length hc5] 33 (0, 0)) ∧ w'.heap[w1.heap.size]? = some (.cells #[.int .i64 nx, .slice p1 st.length cap1, .int .i64 hi, .bool b0, .bool b1, .bool b2, .bool b3, .bool b4, .bool b5, .bool b6, .bool b7] 25 (0, 0)) ∧ w'.heap[w.heap.size]? = some (.cells #[.int .i64 nx, .slice p st.length cap, .int .i64 hi, .bool b0, .bool b1, .bool b2, .bool b3, .bool b4, .bool b5, .bool b6, .bool b7] 25 (0, 0))) := hid (fun w' hw => ⟨heap_keep (heap_keep HA.out hbc6) hw, heap_keep HD6.out hw, heap_keep (heap_keep HC.out hbc6) hw, heap_keep HE6.out hw, heap_keep (heap_keep HXc.out hbc6) hw, heap_keep (heap_keep HLc.out hbc6) hw⟩)
    clear HA HC HXc HLc HFc HD6 HE6 HLA HN5 HFA HF5 HLXc hw5 hb56
    refine wp_region_held_drew (S := (fun w' => w'.heap[A]? = some (.cells #[.int .i64 nx1, .slice p2 st1.length cap2, .int .i64 hi1, .bool b01, .bool b11, .bool b21, .bool b31, .bool b41, .bool b51, .bool b61, .bool b71] 25 (0, 0)) ∧ w'.heap[w5.heap.size]? = some (.cells #[.int .i64 nx1, .slice p5 st1.length cap5, .int .i64 hi1, .bool b01, .bool b11, .bool b21, .bool b31, .bool b41, .bool b51, .bool b61, .bool b71] 25 (0, 0)) ∧ w'.heap[C]? = some (.cells #[.int .i64 g.fr, .int .i64 g.to, .int .i64 g.seq, .bool g.ack, .int .i64 g.thread, .int .i64 g.mail.host, .int .i64 g.mail.thread, .slice gl g.mail.label.length hl, .slice gg g.mail.grants.length hg, .string ⟨g.mail.text.toArray⟩, .slice gc g.certs.length hc] 33 (0, 0)) ∧ w'.heap[w5.heap.size + 1]? = some (.cells #[.int .i64 g.fr, .int .i64 g.to, .int .i64 g.seq, .bool g.ack, .int .i64 g.thread, .int .i64 g.mail.host, .int .i64 g.mail.thread, .slice gl5 g.mail.label.length hl5, .slice gg5 g.mail.grants.length hg5, .string ⟨g.mail.text.toArray⟩, .slice gc5 g.certs.length hc5] 33 (0, 0)) ∧ w'.heap[w1.heap.size]? = some (.cells #[.int .i64 nx, .slice p1 st.length cap1, .int .i64 hi, .bool b0, .bool b1, .bool b2, .bool b3, .bool b4, .bool b5, .bool b6, .bool b7] 25 (0, 0)) ∧ w'.heap[w.heap.size]? = some (.cells #[.int .i64 nx, .slice p st.length cap, .int .i64 hi, .bool b0, .bool b1, .bool b2, .bool b3, .bool b4, .bool b5, .bool b6, .bool b7] 25 (0, 0)))) (by as_aux_lemma => kernel_rfl) (HS4.out _ (Below.refl _ _).drew) (fun _hHeld => ?_)
    refine takeD 0 33 ?v60 rfl (by as_aux_lemma => kernel_rfl) (by as_aux_lemma => kernel_rfl) (by as_aux_lemma => kernel_rfl) (by as_aux_lemma => kernel_rfl) (fun _ _ _ h => h) (Or.inl ⟨by rfl, ?hy60⟩) (by assumption) ?rest60
    case hy60 => intro wz hSw; (try dsimp only at hSw); go_simp; try with_reducible rfl
    simp only [Act.put, List.setIfInBounds_toArray, List.set_cons_zero, List.set_cons_succ]
    refine takeD 1 34 ?v61 rfl (by as_aux_lemma => kernel_rfl) (by as_aux_lemma => kernel_rfl) (by as_aux_lemma => kernel_rfl) (by as_aux_lemma => kernel_rfl) (fun _ _ _ h => h) (Or.inl ⟨by rfl, ?hy61⟩) (by assumption) ?rest61
    case hy61 => intro wz hSw; (try dsimp only at hSw); go_simp; try with_reducible rfl
    simp only [Act.put, List.setIfInBounds_toArray, List.set_cons_zero, List.set_cons_succ]
    refine takeD 2 35 ?v62 rfl (by as_aux_lemma => kernel_rfl) (by as_aux_lemma => kernel_rfl) (by as_aux_lemma => kernel_rfl) (by as_aux_lemma => kernel_rfl) (fun _ _ _ h => h) (Or.inl ⟨by rfl, ?hy62⟩) (by assumption) ?rest62
    case hy62 => intro wz hSw; (try dsimp only at hSw); go_simp; try with_reducible rfl
    simp only [Act.put, List.setIfInBounds_toArray, List.set_cons_zero, List.set_cons_succ]
    refine takeD 3 36 ?v63 rfl (by as_aux_lemma => kernel_rfl) (by as_aux_lemma => kernel_rfl) (by as_aux_lemma => kernel_rfl) (by as_aux_lemma => kernel_rfl) (fun _ _ _ h => h) (Or.inl ⟨by rfl, ?hy63⟩) (by assumption) ?rest63
    case hy63 => intro wz hSw; (try dsimp only at hSw); go_simp; try with_reducible rfl
    simp only [Act.put, List.setIfInBounds_toArray, List.set_cons_zero, List.set_cons_succ]
    refine takeD 4 37 ?v64 rfl (by as_aux_lemma => kernel_rfl) (by as_aux_lemma => kernel_rfl) (by as_aux_lemma => kernel_rfl) (by as_aux_lemma => kernel_rfl) (fun _ _ _ h => h) (Or.inl ⟨by rfl, ?hy64⟩) (by assumption) ?rest64
    case hy64 => intro wz hSw; obtain ⟨hA, hD, hC, hE, hX, hL⟩ := hSw; have y0 := heap_cell hA 0; have y1 := heap_cell hA 1; have y2 := heap_cell hA 2; have y3 := heap_cell hA 3; have y4 := heap_cell hA 4; have y5 := heap_cell hA 5; have y6 := heap_cell hA 6; have y7 := heap_cell hA 7; have y8 := heap_cell hA 8; have y9 := heap_cell hA 9; have y10 := heap_cell hA 10; go_simp; try with_reducible rfl
    simp only [Act.put, List.setIfInBounds_toArray, List.set_cons_zero, List.set_cons_succ]
    refine takeD 5 38 ?v65 rfl (by as_aux_lemma => kernel_rfl) (by as_aux_lemma => kernel_rfl) (by as_aux_lemma => kernel_rfl) (by as_aux_lemma => kernel_rfl) (fun _ _ _ h => h) (Or.inl ⟨by rfl, ?hy65⟩) (by assumption) ?rest65
    case hy65 => intro wz hSw; obtain ⟨hA, hD, hC, hE, hX, hL⟩ := hSw; have y0 := heap_cell hD 0; have y1 := heap_cell hD 1; have y2 := heap_cell hD 2; have y3 := heap_cell hD 3; have y4 := heap_cell hD 4; have y5 := heap_cell hD 5; have y6 := heap_cell hD 6; have y7 := heap_cell hD 7; have y8 := heap_cell hD 8; have y9 := heap_cell hD 9; have y10 := heap_cell hD 10; go_simp; try with_reducible rfl
    simp only [Act.put, List.setIfInBounds_toArray, List.set_cons_zero, List.set_cons_succ]
    refine wpAnyH_ready (rs := [6]) (by as_aux_lemma => kernel_rfl) (by simp) ?_
    refine (AllReadyH.cons rfl (fun K' hK => ?_) AllReadyH.nil)
    go_simp
    go_wp2_with (go_at_call 13; refine (rsameLine_eq _ _ ⟨nx1, st1, hi1, [b01, b11, b21, b31, b41, b51, b61, b71]⟩ _ (HLA6.out.below (Below.refl _ _).drew) (HLD6.out.below (Below.refl _ _).drew)).mono ?_; rintro e z1 ⟨rfl, hzd⟩; have hz1 : Below w6.heap.size w6 z1 := ⟨hzd.os, hzd.tape, hzd.output, hzd.size, hzd.block⟩; clear hzd)
    refine hK.out _ _ (HS4.out _ hz1) (fun _ => ?_)
    clear hK K'
    refine takeD 7 40 ?v66 rfl (by as_aux_lemma => kernel_rfl) (by as_aux_lemma => kernel_rfl) (by as_aux_lemma => kernel_rfl) (by as_aux_lemma => kernel_rfl) (fun _ _ _ h => h) (Or.inl ⟨by rfl, ?hy66⟩) (by assumption) ?rest66
    case hy66 => intro wz hSw; (try dsimp only at hSw); go_simp; try with_reducible rfl
    simp only [Act.put, List.setIfInBounds_toArray, List.set_cons_zero, List.set_cons_succ]
    refine takeD 8 41 ?v67 rfl (by as_aux_lemma => kernel_rfl) (by as_aux_lemma => kernel_rfl) (by as_aux_lemma => kernel_rfl) (by as_aux_lemma => kernel_rfl) (fun _ _ _ h => h) (Or.inl ⟨by rfl, ?hy67⟩) (by assumption) ?rest67
    case hy67 => intro wz hSw; (try dsimp only at hSw); go_simp; try with_reducible rfl
    simp only [Act.put, List.setIfInBounds_toArray, List.set_cons_zero, List.set_cons_succ]
    refine takeD 9 42 ?v68 rfl (by as_aux_lemma => kernel_rfl) (by as_aux_lemma => kernel_rfl) (by as_aux_lemma => kernel_rfl) (by as_aux_lemma => kernel_rfl) (fun _ _ _ h => h) (Or.inl ⟨by rfl, ?hy68⟩) (by assumption) ?rest68
    case hy68 => intro wz hSw; obtain ⟨hA, hD, hC, hE, hX, hL⟩ := hSw; have y0 := heap_cell hC 0; have y1 := heap_cell hC 1; have y2 := heap_cell hC 2; have y3 := heap_cell hC 3; have y4 := heap_cell hC 4; have y5 := heap_cell hC 5; have y6 := heap_cell hC 6; have y7 := heap_cell hC 7; have y8 := heap_cell hC 8; have y9 := heap_cell hC 9; have y10 := heap_cell hC 10; go_simp; try with_reducible rfl
    simp only [Act.put, List.setIfInBounds_toArray, List.set_cons_zero, List.set_cons_succ]
    refine takeD 10 43 ?v69 rfl (by as_aux_lemma => kernel_rfl) (by as_aux_lemma => kernel_rfl) (by as_aux_lemma => kernel_rfl) (by as_aux_lemma => kernel_rfl) (fun _ _ _ h => h) (Or.inl ⟨by rfl, ?hy69⟩) (by assumption) ?rest69
    case hy69 => intro wz hSw; obtain ⟨hA, hD, hC, hE, hX, hL⟩ := hSw; have y0 := heap_cell hE 0; have y1 := heap_cell hE 1; have y2 := heap_cell hE 2; have y3 := heap_cell hE 3; have y4 := heap_cell hE 4; have y5 := heap_cell hE 5; have y6 := heap_cell hE 6; have y7 := heap_cell hE 7; have y8 := heap_cell hE 8; have y9 := heap_cell hE 9; have y10 := heap_cell hE 10; go_simp; try with_reducible rfl
    simp only [Act.put, List.setIfInBounds_toArray, List.set_cons_zero, List.set_cons_succ]
    refine wpAnyH_ready (rs := [11]) (by as_aux_lemma => kernel_rfl) (by simp) ?_
    refine (AllReadyH.cons rfl (fun K' hK => ?_) AllReadyH.nil)
    go_simp
    go_wp2_with (go_at_call 14; refine (rsameFrame_eq _ _ g _ (HFC6.out.below hz1) (HFE6.out.below hz1)).mono ?_; rintro e z2 ⟨rfl, hzd⟩; have hz2 : Below w6.heap.size w6 z2 := below_then hz1 hzd; clear hzd)
    refine hK.out _ _ (HS4.out _ hz2) (fun _ => ?_)
    clear hK K'
    refine takeD 12 45 ?v70 rfl (by as_aux_lemma => kernel_rfl) (by as_aux_lemma => kernel_rfl) (by as_aux_lemma => kernel_rfl) (by as_aux_lemma => kernel_rfl) (fun _ _ _ h => h) (Or.inl ⟨by rfl, ?hy70⟩) (by assumption) ?rest70
    case hy70 => intro wz hSw; (try dsimp only at hSw); go_simp; try with_reducible rfl
    simp only [Act.put, List.setIfInBounds_toArray, List.set_cons_zero, List.set_cons_succ]
    refine takeD 13 46 ?v71 rfl (by as_aux_lemma => kernel_rfl) (by as_aux_lemma => kernel_rfl) (by as_aux_lemma => kernel_rfl) (by as_aux_lemma => kernel_rfl) (fun _ _ _ h => h) (Or.inl ⟨by rfl, ?hy71⟩) (by assumption) ?rest71
    case hy71 => intro wz hSw; (try dsimp only at hSw); go_simp; try with_reducible rfl
    simp only [Act.put, List.setIfInBounds_toArray, List.set_cons_zero, List.set_cons_succ]
    refine takeD 14 47 ?v72 rfl (by as_aux_lemma => kernel_rfl) (by as_aux_lemma => kernel_rfl) (by as_aux_lemma => kernel_rfl) (by as_aux_lemma => kernel_rfl) (fun _ _ _ h => h) (Or.inl ⟨by rfl, ?hy72⟩) (by assumption) ?rest72
    case hy72 => intro wz hSw; obtain ⟨hA, hD, hC, hE, hX, hL⟩ := hSw; have y0 := heap_cell hX 0; have y1 := heap_cell hX 1; have y2 := heap_cell hX 2; have y3 := heap_cell hX 3; have y4 := heap_cell hX 4; have y5 := heap_cell hX 5; have y6 := heap_cell hX 6; have y7 := heap_cell hX 7; have y8 := heap_cell hX 8; have y9 := heap_cell hX 9; have y10 := heap_cell hX 10; go_simp; try with_reducible rfl
    simp only [Act.put, List.setIfInBounds_toArray, List.set_cons_zero, List.set_cons_succ]
    refine takeD 15 48 ?v73 rfl (by as_aux_lemma => kernel_rfl) (by as_aux_lemma => kernel_rfl) (by as_aux_lemma => kernel_rfl) (by as_aux_lemma => kernel_rfl) (fun _ _ _ h => h) (Or.inl ⟨by rfl, ?hy73⟩) (by assumption) ?rest73
    case hy73 => intro wz hSw; obtain ⟨hA, hD, hC, hE, hX, hL⟩ := hSw; have y0 := heap_cell hL 0; have y1 := heap_cell hL 1; have y2 := heap_cell hL 2; have y3 := heap_cell hL 3; have y4 := heap_cell hL 4; have y5 := heap_cell hL 5; have y6 := heap_cell hL 6; have y7 := heap_cell hL 7; have y8 := heap_cell hL 8; have y9 := heap_cell hL 9; have y10 := heap_cell hL 10; go_simp; try with_reducible rfl
    simp only [Act.put, List.setIfInBounds_toArray, List.set_cons_zero, List.set_cons_succ]
    refine wpAnyH_ready (rs := [16]) (by as_aux_lemma => kernel_rfl) (by simp) ?_
    refine (AllReadyH.cons rfl (fun K' hK => ?_) AllReadyH.nil)
    go_simp
    go_wp2_with (go_at_call 13; refine (rsameLine_eq _ _ ⟨nx, st, hi, [b0, b1, b2, b3, b4, b5, b6, b7]⟩ _ (HLX6.out.below hz2) (HLL6.out.below hz2)).mono ?_; rintro e z3 ⟨rfl, hzd⟩; have hz3 : Below w6.heap.size w6 z3 := below_then hz2 hzd; clear hzd)
    refine hK.out _ _ (HS4.out _ hz3) (fun _ => ?_)
    clear hK K'
    refine takeD 17 50 ?v74 rfl (by as_aux_lemma => kernel_rfl) (by as_aux_lemma => kernel_rfl) (by as_aux_lemma => kernel_rfl) (by as_aux_lemma => kernel_rfl) (fun _ _ _ h => h) (Or.inl ⟨by rfl, ?hy74⟩) (by assumption) ?rest74
    case hy74 => intro wz hSw; (try dsimp only at hSw); go_simp; try with_reducible rfl
    simp only [Act.put, List.setIfInBounds_toArray, List.set_cons_zero, List.set_cons_succ]
    refine takeD 18 51 ?v75 rfl (by as_aux_lemma => kernel_rfl) (by as_aux_lemma => kernel_rfl) (by as_aux_lemma => kernel_rfl) (by as_aux_lemma => kernel_rfl) (fun _ _ _ h => h) (Or.inl ⟨by rfl, ?hy75⟩) (by assumption) ?rest75
    case hy75 => intro wz hSw; (try dsimp only at hSw); go_simp; try with_reducible rfl
    simp only [Act.put, List.setIfInBounds_toArray, List.set_cons_zero, List.set_cons_succ]
    refine takeD 19 52 ?v76 rfl (by as_aux_lemma => kernel_rfl) (by as_aux_lemma => kernel_rfl) (by as_aux_lemma => kernel_rfl) (by as_aux_lemma => kernel_rfl) (fun _ _ _ h => h) (Or.inl ⟨by rfl, ?hy76⟩) (by assumption) ?rest76
    case hy76 => intro wz hSw; obtain ⟨hA, hD, hC, hE, hX, hL⟩ := hSw; have y0 := heap_cell hL 0; have y1 := heap_cell hL 1; have y2 := heap_cell hL 2; have y3 := heap_cell hL 3; have y4 := heap_cell hL 4; have y5 := heap_cell hL 5; have y6 := heap_cell hL 6; have y7 := heap_cell hL 7; have y8 := heap_cell hL 8; have y9 := heap_cell hL 9; have y10 := heap_cell hL 10; go_simp; try with_reducible rfl
    simp only [Act.put, List.setIfInBounds_toArray, List.set_cons_zero, List.set_cons_succ]
    refine takeD 22 55 ?v77 rfl (by as_aux_lemma => kernel_rfl) (by as_aux_lemma => kernel_rfl) (by as_aux_lemma => kernel_rfl) (by as_aux_lemma => kernel_rfl) (fun _ _ _ h => h) (Or.inl ⟨by rfl, ?hy77⟩) (by assumption) ?rest77
    case hy77 => intro wz hSw; obtain ⟨hA, hD, hC, hE, hX, hL⟩ := hSw; have y0 := heap_cell hL 0; have y1 := heap_cell hL 1; have y2 := heap_cell hL 2; have y3 := heap_cell hL 3; have y4 := heap_cell hL 4; have y5 := heap_cell hL 5; have y6 := heap_cell hL 6; have y7 := heap_cell hL 7; have y8 := heap_cell hL 8; have y9 := heap_cell hL 9; have y10 := heap_cell hL 10; go_simp; try with_reducible rfl
    simp only [Act.put, List.setIfInBounds_toArray, List.set_cons_zero, List.set_cons_succ]
    refine wpAnyH_ready (rs := [20]) (by as_aux_lemma => kernel_rfl) (by simp) ?_
    refine (AllReadyH.cons rfl (fun K' hK => ?_) AllReadyH.nil)
    go_simp
    go_wp2_with (go_at_call 9; refine (rcopyLine_any _ ⟨nx, st, hi, [b0, b1, b2, b3, b4, b5, b6, b7]⟩ _ (HLL6.out.below hz3)).mono ?_; rintro e z4 ⟨v20, rfl, hn20, hzd⟩; have hz4 : Below w6.heap.size w6 z4 := below_then hz3 hzd; have HN20 := hid hn20.at; clear hzd hn20)
    refine hK.out _ _ (HS4.out _ hz4) (fun _ => ?_)
    clear hK K'
    refine wpAnyH_ready (rs := [21]) (by as_aux_lemma => kernel_rfl) (by simp) ?_
    refine (AllReadyH.cons rfl (fun K' hK => ?_) AllReadyH.nil)
    go_simp
    go_wp2_with (go_at_call 15; refine (lgood_any _ ⟨nx, st, hi, [b0, b1, b2, b3, b4, b5, b6, b7]⟩ _ HN20.out).mono ?_; rintro e z5 ⟨rfl, hzd⟩; have hz5 : Below w6.heap.size w6 z5 := below_then hz4 hzd; clear hzd)
    refine hK.out _ _ (HS4.out _ hz5) (fun _ => ?_)
    clear hK K'
    refine wpAnyH_ready (rs := [23]) (by as_aux_lemma => kernel_rfl) (by simp) ?_
    refine (AllReadyH.cons rfl (fun K' hK => ?_) AllReadyH.nil)
    go_simp
    go_wp2_with (go_at_call 16; refine (rgoodLine_any _ ⟨nx, st, hi, [b0, b1, b2, b3, b4, b5, b6, b7]⟩ _ (HLL6.out.below hz5)).mono ?_; rintro e z6 ⟨rfl, hzd⟩; have hz6 : Below w6.heap.size w6 z6 := below_then hz5 hzd; clear hzd)
    refine hK.out _ _ (HS4.out _ hz6) (fun _ => ?_)
    clear hK K'
    refine takeD 24 57 ?v78 rfl (by as_aux_lemma => kernel_rfl) (by as_aux_lemma => kernel_rfl) (by as_aux_lemma => kernel_rfl) (by as_aux_lemma => kernel_rfl) (fun _ _ _ h => h) (Or.inl ⟨by rfl, ?hy78⟩) (by assumption) ?rest78
    case hy78 => intro wz hSw; (try dsimp only at hSw); go_simp; try with_reducible rfl
    simp only [Act.put, List.setIfInBounds_toArray, List.set_cons_zero, List.set_cons_succ]
    refine takeD 25 58 ?v79 rfl (by as_aux_lemma => kernel_rfl) (by as_aux_lemma => kernel_rfl) (by as_aux_lemma => kernel_rfl) (by as_aux_lemma => kernel_rfl) (fun _ _ _ h => h) (Or.inl ⟨by rfl, ?hy79⟩) (by assumption) ?rest79
    case hy79 => intro wz hSw; (try dsimp only at hSw); go_simp; try with_reducible rfl
    simp only [Act.put, List.setIfInBounds_toArray, List.set_cons_zero, List.set_cons_succ]
    refine takeD 26 59 ?v80 rfl (by as_aux_lemma => kernel_rfl) (by as_aux_lemma => kernel_rfl) (by as_aux_lemma => kernel_rfl) (by as_aux_lemma => kernel_rfl) (fun _ _ _ h => h) (Or.inl ⟨by rfl, ?hy80⟩) (by assumption) ?rest80
    case hy80 => intro wz hSw; (try dsimp only at hSw); go_simp; try with_reducible rfl
    simp only [Act.put, List.setIfInBounds_toArray, List.set_cons_zero, List.set_cons_succ]
    refine wpAnyH_ready (rs := [27]) (by as_aux_lemma => kernel_rfl) (by simp) ?_
    refine (AllReadyH.cons rfl (fun K' hK => ?_) AllReadyH.nil)
    go_simp
    go_wp2_with (go_at_call 17; refine (llines_any _).mono ?_; rintro e z7 ⟨rfl, hzd⟩; have hz7 : Below w6.heap.size w6 z7 := below_then hz6 hzd; clear hzd)
    refine hK.out _ _ (HS4.out _ hz7) (fun _ => ?_)
    clear hK K'
    refine takeD 28 61 ?v81 rfl (by as_aux_lemma => kernel_rfl) (by as_aux_lemma => kernel_rfl) (by as_aux_lemma => kernel_rfl) (by as_aux_lemma => kernel_rfl) (fun _ _ _ h => h) (Or.inl ⟨by rfl, ?hy81⟩) (by assumption) ?rest81
    case hy81 => intro wz hSw; (try dsimp only at hSw); go_simp; try with_reducible rfl
    simp only [Act.put, List.setIfInBounds_toArray, List.set_cons_zero, List.set_cons_succ]
    refine takeD 29 6 ?v82 rfl (by as_aux_lemma => kernel_rfl) (by as_aux_lemma => kernel_rfl) (by as_aux_lemma => kernel_rfl) (by as_aux_lemma => kernel_rfl) (fun _ _ _ h => h) (Or.inl ⟨by rfl, ?hy82⟩) (by assumption) ?rest82
    case hy82 => intro wz hSw; (try dsimp only at hSw); go_simp; try with_reducible rfl
    simp only [Act.put, List.setIfInBounds_toArray, List.set_cons_zero, List.set_cons_succ]
    refine wpAnyH_done (by as_aux_lemma => kernel_rfl) ?_ _
    go_wp2
    go_ret
    exact ⟨rfl, below_then hbw6 hz7⟩
end Go.Proofs.Ytmpjddnbdidleaa
