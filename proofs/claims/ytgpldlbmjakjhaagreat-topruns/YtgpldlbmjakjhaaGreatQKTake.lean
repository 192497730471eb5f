/- kernel.takeMail. -/
import Derived.Test.YtgpldlbmjakjhaaGreatQKDel
import Derived.Deep.LoopGhost
namespace Go.Proofs.YtgpldlbmjakjhaaGreat
open Go.RowKit Go.Proofs.Parclose

theorem mails_one {w : World} {F : List Nat} : ∀ (vs : List (Value × Value)) (ms : List Mal), vs.length = ms.length → (∀ j (h1 : j < vs.length) (h2 : j < ms.length), RoLab w F vs[j].1 ms[j].label ∧ RoInts w F vs[j].2 ms[j].grants) → ∀ u ∈ flatM vs ms, u.oneCell' = true
  | [], [], _, _, u, hu => by cases hu
  | [], _ :: _, h, _, _, _ => by simp at h
  | _ :: _, [], h, _, _, _ => by simp at h
  | x :: r, m :: t, h, hr, u, hu => by
    obtain ⟨⟨⟨p1, c1, e1, _⟩, _⟩, ⟨⟨p2, c2, e2, _⟩, _⟩⟩ := hr 0 (by simp) (by simp)
    have ih := mails_one r t (by simpa using h) (fun j g1 g2 => hr (j + 1) (by simpa using g1) (by simpa using g2))
    have e : flatM (x :: r) (m :: t) = .int .i64 m.host :: .int .i64 m.thread :: x.1 :: x.2 :: .string ⟨m.text.toArray⟩ :: flatM r t := rfl
    rw [e] at hu
    simp only [List.getElem_cons_zero] at e1 e2
    simp only [List.mem_cons] at hu
    rcases hu with rfl | rfl | rfl | rfl | rfl | hu
    · rfl
    · rfl
    · rw [e1]; rfl
    · rw [e2]; rfl
    · rfl
    · exact ih u hu

/-- the first mail of a box -/
theorem MailsAt.first {w : World} {F : List Nat} {v : Value} {m : Mal} {r : List Mal} (h : MailsAt w F v (m :: r)) : ∃ g cap ul ug us xs, v = .slice (some ⟨g, 0, none⟩) (r.length + 1) cap ∧ w.ownsRow 0 46 5 (.slice (some ⟨g, 0, none⟩) (r.length + 1) cap) (r.length + 1) xs ∧ xs = .int .i64 m.host :: .int .i64 m.thread :: ul :: ug :: .string ⟨m.text.toArray⟩ :: flatM us r ∧ us.length = r.length ∧ RoLab w F ul m.label ∧ RoInts w F ug m.grants ∧
    (∀ j (h1 : j < us.length) (h2 : j < r.length), RoLab w F us[j].1 r[j].label ∧ RoInts w F us[j].2 r[j].grants) ∧ (∀ u ∈ xs, u.oneCell' = true) ∧ w.cell? ⟨g, 0, none⟩ = some (.int .i64 m.host) ∧ w.cell? ⟨g, 1, none⟩ = some (.int .i64 m.thread) ∧ w.cell? ⟨g, 2, none⟩ = some ul ∧ w.cell? ⟨g, 3, none⟩ = some ug ∧ w.cell? ⟨g, 4, none⟩ = some (.string ⟨m.text.toArray⟩) := by
  obtain ⟨vs, h1, h2, h3⟩ := h
  cases vs with
  | nil => simp at h1
  | cons x us =>
    have hone := mails_one (x :: us) (m :: r) h1 h3
    rcases h2.2 with ⟨_, hn⟩ | ⟨g, cap, cur, hv, _, hg, _⟩
    · simp at hn
    · subst hv
      have hc := World.ownsRow.cells h2 (g := g) rfl
      have c0 := hc 0 _ rfl
      have c1 := hc 1 _ rfl
      have c2 := hc 2 _ rfl
      have c3 := hc 3 _ rfl
      have c4 := hc 4 _ rfl
      rw [WideShapes.add_plain, Nat.zero_add] at c0 c1 c2 c3 c4
      have h0 := h3 0 (by simp) (by simp)
      exact ⟨g, cap, x.1, x.2, us, _, rfl, h2, rfl, by simpa using h1, h0.1, h0.2, fun j g1 g2 => h3 (j + 1) (by simpa using g1) (by simpa using g2), hone, c0, c1, c2, c3, c4⟩

/-- the first mail is gone from the box -/
theorem TAt.drop {w w2 : World} {kb o : Nat} {F : List Nat} {v : ThrV} {th : Thr} {r : List Mal} (h : TAt w kb o F v th) {g cap : Nat} {us : List (Value × Value)} (hv : v.vm = .slice (some ⟨g, 0, none⟩) (r.length + 1) cap) (hus : us.length = r.length)
    (hro : ∀ j (h1 : j < us.length) (h2 : j < r.length), RoLab w F us[j].1 r[j].label ∧ RoInts w F us[j].2 r[j].grants) (ho : w2.ownsRow 0 46 5 (.slice (some ⟨g, 0, none⟩) r.length cap) r.length (flatM us r)) (hg : w.grownBy w2 (some g)) :
    TAt (w2.setCell ⟨kb, o + 4, none⟩ (.slice (some ⟨g, 0, none⟩) r.length cap)) kb o (F ++ [g]) { v with vm := .slice (some ⟨g, 0, none⟩) r.length cap } { th with mails := r } ∧ TStep kb o w F v (w2.setCell ⟨kb, o + 4, none⟩ (.slice (some ⟨g, 0, none⟩) r.length cap)) (F ++ [g]) { v with vm := .slice (some ⟨g, 0, none⟩) r.length cap } := by
  have hgF : g ∈ F := h.rows g (mem_rows.2 (.inr (.inr (by rw [hv]; rfl))))
  have hm : More w F (F ++ [g]) := ⟨fun _ h => List.mem_append_left _ h, fun k hk => by
    rcases List.mem_append.1 hk with e | e
    · exact .inl e
    · simp at e; subst e; exact .inl hgF⟩
  have hk : KeptF F w w2 := kept_grown hg fun k e => .inl (by cases e; exact hgF)
  exact h.mails (u := .slice (some ⟨g, 0, none⟩) r.length cap) (by rw [hv]; exact hg) ⟨us, hus, ho, fun j g1 g2 => ⟨(hro j g1 g2).1.keep hk hm, (hro j g1 g2).2.keep hk hm⟩⟩ (fun k hk => .inl (by rw [hv]; exact hk))

/-- what a mail of a box keeps to -/
def MailFit (m : Mal) : Prop := (0 ≤ m.host ∧ m.host < 4) ∧ (0 ≤ m.thread ∧ m.thread < 4) ∧ m.text.length ≤ 64

set_option maxRecDepth 100000 in
set_option maxHeartbeats 3200000 in
theorem takeMail_k (kb o : Nat) (F : List Nat) (v : ThrV) (th : Thr) (w : World) (h : TAt w kb o F v th) (hs : th.own.Pairwise (· < ·)) (hl : th.own.length ≤ 8) (hx : th.text.length ≤ 1000) (hms : ∀ m ∈ th.mails, MailFit m) (hml : th.mails.length ≤ 1000) :
    Calls Tryz.prog 93 #[.pointer (some ⟨kb, o, none⟩)] w fun e w' => e = .returned (repV (takeL th th.mails).2) ∧ ∃ G v', TAt w' kb o G v' (takeL th th.mails).1 ∧ TStep kb o w F v w' G v' := by
  have hkb := h.lt
  have hr := h.reserve (.cells #[.int .i64 0, .int .i64 0, .string ⟨#[]⟩] 35)
  have HR := hid hr
  have HBX := hid (zero_box w)
  clear hr h
  go_enter Tryz.func93, Tryz.ntmps93
  go_wp2
  go_loopg [3] th.mails.length (fun n _ wr => ∃ (G : List Nat) (v' : ThrV) (ms : List Mal), ms.length ≤ n ∧ takeL th th.mails = takeL th ms ∧ (∀ m ∈ ms, MailFit m) ∧ ms.length ≤ 1000 ∧ w.heap.size ∈ G ∧ wr.heap[w.heap.size]? = some (.cells #[.int .i64 0, .int .i64 0, .string ⟨#[]⟩] 35 (0, 0)) ∧ TAt wr kb o G v' { th with mails := ms } ∧ TStep kb o w F v wr G v')
  case atStart => exact ⟨_, _, th.mails, Nat.le_refl _, rfl, hms, hml, by simp, HBX.out, HR.out.1, HR.out.2⟩
  case round =>
    clear hms hml HR HBX
    obtain ⟨G, v', ms, hn, heq, hms, hml, hin, hbx, hT, hS⟩ := hrel
    have HEQ := hid heq
    have HIN := hid hin
    have HBX := hid hbx
    have HT := hid hT
    have HS := hid hS
    clear heq hin hbx hS
    obtain ⟨t0, t1, _, _, t4⟩ := hT.cells
    have tf := hT.frozen (o + 4)
    cases ms with
    | nil =>
      obtain ⟨_, _, m2, _⟩ := hT.thr.2.2.2
      obtain ⟨pm, cm, hvm⟩ := own_slice m2
      rw [hvm] at t4
      clear hT m2
      go_wp2_with (go_at_call 87; refine (answer_lit _ _).mono ?_; rintro e w2 ⟨rfl, hw2⟩; have HB2 := hid hw2; have hb2 := heap_keep HBX.out hw2; obtain ⟨c0, c1, c2, f0, f1, f2⟩ := cells3 hb2; have HX2 := hid hb2; clear hb2 hw2)
      obtain ⟨e1, e2, e3⟩ := reply_end 4 0 [] HX2.out HIN.out (HT.out.below HB2.out) (HS.out.trans (TStep.below HB2.out)) hkb
      refine bodyPost_ret (results_cell_row rfl _ _ w.heap.size 35 _ (0, 0) _ rfl e1 Tryz.underlying35 rfl (by kernel_rfl)) rfl ⟨?_, ?_⟩
      · rw [HEQ.out]; rfl
      · rw [HEQ.out]; exact ⟨_, _, e2, e3⟩
    | cons m r =>
      obtain ⟨g, cap, ul, ug, us, xs, hvm, hown, hxs, hus, hrl, hrg, hro, hone, d0, d1, d2, d3, d4⟩ := hT.thr.2.2.2.first
      obtain ⟨pul, cul, hul, _⟩ := id hrl.1
      obtain ⟨pug, cug, hug, _⟩ := id hrg.1
      obtain ⟨ptl, ctl, hvl, _⟩ := id hT.thr.1.1
      obtain ⟨po, co, hvo⟩ := ownV hT.thr.2.1
      subst hul
      subst hug
      have hglt : g < wr.heap.size := cell_block d0
      have hdel := delete_any g r.length cap xs (wr.alloc (.cells #[.int .i64 m.host, .int .i64 m.thread, .slice pul m.label.length cul, .slice pug m.grants.length cug, .string ⟨m.text.toArray⟩] 46)) (own_later hown (below_box _ _)) (by simp at hml; omega) hone
      have hxd : xs.drop 5 = flatM us r := by rw [hxs]; rfl
      rw [hxd] at hdel
      rw [hvm] at t4
      have HDEL := hid hdel
      have HVM := hid hvm
      have HRO := hid hro
      have HUS := hid hus
      have HRL := hid hrl
      have HRG := hid hrg
      have HVL := hid hvl
      have HVO := hid hvo
      have hklt : kb < wr.heap.size := HT.out.lt
      clear hdel hvm hro hus hrl hrg hown hone hxs hxd hT hvl hvo
      go_wp2_with fail
      refine HDEL.out.mono ?_
      rintro e w2 ⟨rfl, hown2, hg2⟩
      have hTb := HT.out.below (below_box wr (.cells #[.int .i64 m.host, .int .i64 m.thread, .slice pul m.label.length cul, .slice pug m.grants.length cug, .string ⟨m.text.toArray⟩] 46))
      obtain ⟨z4, zf⟩ := hTb.after hg2 (fun k hk => mem_rows.2 (.inr (.inr (by rw [HVM.out]; exact hk)))) hTb.cells.2.2.2.2
      have hdr := hTb.drop HVM.out HUS.out (fun j g1 g2 => ⟨(HRO.out j g1 g2).1.keep (kept_below _ (below_box _ _)) (More.refl _ _), (HRO.out j g1 g2).2.keep (kept_below _ (below_box _ _)) (More.refl _ _)⟩) hown2 hg2
      have hkeep := (kept_grown (F := G) hg2 fun k e => .inl (by cases e; exact HT.out.rows g (mem_rows.2 (.inr (.inr (by rw [HVM.out]; rfl))))))
      have hB1 : w2.heap[wr.heap.size]? = some (.cells #[.int .i64 m.host, .int .i64 m.thread, .slice pul m.label.length cul, .slice pug m.grants.length cug, .string ⟨m.text.toArray⟩] 46 (0, 0)) := by
        rw [hg2.block wr.heap.size (by simp) (fun e => by have := Option.some.inj e; omega)]
        exact heap_alloc_new wr _
      have hB3 := heap_store hB1 (show wr.heap.size ≠ kb by omega) (o + 4) (.slice (some ⟨g, 0, none⟩) r.length cap)
      have hX3 := box_tstep hdr.2 hTb (heap_keep HBX.out (below_box _ _)) (by decide) (by decide) (by decide) (by decide)
      have hS3 := (HS.out.trans (TStep.below (below_box wr (.cells #[.int .i64 m.host, .int .i64 m.thread, .slice pul m.label.length cul, .slice pug m.grants.length cug, .string ⟨m.text.toArray⟩] 46)))).trans hdr.2
      have hks : KeptF G (wr.alloc (.cells #[.int .i64 m.host, .int .i64 m.thread, .slice pul m.label.length cul, .slice pug m.grants.length cug, .string ⟨m.text.toArray⟩] 46)) (w2.setCell ⟨kb, o + 4, none⟩ (.slice (some ⟨g, 0, none⟩) r.length cap)) := hdr.2.kept.sub fun k e => .inl (by
        rcases List.mem_cons.1 e with rfl | e
        · exact HT.out.kbF
        · exact HT.out.rows k e)
      have hrl3 := (HRL.out.keep (kept_below G (below_box wr _)) (More.refl _ _)).keep hks hdr.2.more
      have hrg3 := (HRG.out.keep (kept_below G (below_box wr _)) (More.refl _ _)).keep hks hdr.2.more
      have HNB : Hid (wr.heap.size ∉ kb :: rowsOf { v' with vm := .slice (some ⟨g, 0, none⟩) r.length cap }) := hid (fun e => by
        rcases List.mem_cons.1 e with e | e
        · omega
        · rcases mem_rows.1 e with e | e | e
          · have := HT.out.fin _ (HT.out.rows _ (mem_rows.2 (.inl e))); omega
          · have := HT.out.fin _ (HT.out.rows _ (mem_rows.2 (.inr (.inl e)))); omega
          · have e2 : g = wr.heap.size := Option.some.inj e
            omega)
      have hT3 := hdr.1
      obtain ⟨y0, y1, _, _, _⟩ := hT3.cells
      simp only [HVL.out, HVO.out] at y0 y1
      obtain ⟨⟨b0, b1, b2, b3, b4⟩, _⟩ := cells5 hB3
      have HT3 := hid hT3
      have HS3 := hid hS3
      have HX3 := hid hX3
      have HB3 := hid hB3
      have HRL3 := hid hrl3
      have HRG3 := hid hrg3
      clear hdr hkeep hB1 hB3 hX3 hS3 hks hrl3 hrg3 hT3 hTb hown2 t0 t1 t4 tf d0 d1 d2 d3 d4 HDEL
      go_wp2_with fail
      generalize w2.setCell ⟨kb, o + 4, none⟩ (.slice (some ⟨g, 0, none⟩) r.length cap) = w3 at *
      have hfl := fun wx (hb : Below w3.heap.size w3 wx) => flows_any _ _ _ _ _ _ wx (HRL3.out.1.below hb) (HT3.out.thr.1.1.below hb) ((own_ints HT3.out.thr.2.1 (Nat.le_trans hl (by decide))).below hb)
      simp only [HVL.out, HVO.out] at hfl
      cases hf : flowsL m.label th.label th.own with
      | false =>
        rw [hf] at hfl
        have HE2 : Hid (takeL th th.mails = takeL th r) := hid (by rw [HEQ.out, takeL, hf]; rfl)
        go_region_held3 (fun w' => w'.cell? ⟨wr.heap.size, 2, none⟩ = some (.slice pul m.label.length cul) ∧ w'.cell? ⟨kb, o, none⟩ = some (.slice ptl th.label.length ctl) ∧ w'.cell? ⟨kb, o + 1, none⟩ = some (.slice po th.own.length co)) (go_keep)
          (first | (go_at_call 23; refine (hfl _ (Below.refl _ _).drew).mono ?_; rintro e w5 ⟨rfl, hw5d⟩; have hw5 := kundrew hw5d; have HB5 := hid hw5; have r0 := hw5.cell (cell_block y0); rw [y0] at r0; have r1 := hw5.cell (cell_block y1); rw [y1] at r1; have r2 := hw5.cell (cell_block b2); rw [b2] at r2; clear hw5d hw5))
        all_goals
          go_wp2
          go_roundg r.length
          case measure => simp at hn; omega
          case rel => exact ⟨_, _, r, Nat.le_refl _, HE2.out, fun x hx => hms x (List.mem_cons_of_mem _ hx), by simp at hml; omega, List.mem_append_left _ HIN.out, heap_keep HX3.out HB5.out, HT3.out.below HB5.out, HS3.out.trans (TStep.below HB5.out)⟩
      | true =>
        rw [hf] at hfl
        have HE2 : Hid (takeL th th.mails = ({ readL th m with mails := r }, ⟨0, m.host * 4 + m.thread, []⟩)) := hid (by rw [HEQ.out, takeL, hf]; rfl)
        obtain ⟨⟨mh1, mh2⟩, ⟨mt1, mt2⟩, mx⟩ := hms m (by simp)
        have hw1 : wrap64 (m.host * 4) = m.host * 4 := by unfold wrap64; omega
        have hw2 : wrap64 (m.host * 4 + m.thread) = m.host * 4 + m.thread := by unfold wrap64; omega
        have hrd := fun wx (hb : Below w3.heap.size w3 wx) => readMail_any kb o _ _ { th with mails := r } m (.slice pul m.label.length cul) (.slice pug m.grants.length cug) wx (HT3.out.below hb) hs hl (HRG3.out.keep (kept_below _ hb) (More.refl _ _)) ⟨_, _, _, rfl⟩ (by show th.text.length + m.text.length < _; omega)
        have HRD := hid hrd
        clear hrd
        go_region_held3 (fun w' => w'.cell? ⟨wr.heap.size, 2, none⟩ = some (.slice pul m.label.length cul) ∧ w'.cell? ⟨kb, o, none⟩ = some (.slice ptl th.label.length ctl) ∧ w'.cell? ⟨kb, o + 1, none⟩ = some (.slice po th.own.length co)) (go_keep)
          (first | (go_at_call 23; refine (hfl _ (Below.refl _ _).drew).mono ?_; rintro e w5 ⟨rfl, hw5d⟩; have hw5 := kundrew hw5d; have HB5 := hid hw5; have r0 := hw5.cell (cell_block y0); rw [y0] at r0; have r1 := hw5.cell (cell_block y1); rw [y1] at r1; have r2 := hw5.cell (cell_block b2); rw [b2] at r2; clear hw5d hw5))
        all_goals
          clear r0 r1 r2 y0 y1 b0 b1 b2 b3 b4 hfl
          have hB5 := heap_keep HB3.out HB5.out
          obtain ⟨⟨b0, b1, b2, b3, b4⟩, _⟩ := cells5 hB5
          have HX5 := hid (heap_keep HX3.out HB5.out)
          go_wp2_with fail
          refine (HRD.out _ HB5.out).mono ?_
          rintro e w6 ⟨rfl, G6, v6, hT6, hS6⟩
          have hB6 := hS6.kept.heap hB5 HNB.out
          obtain ⟨⟨x0, x1, _⟩, _⟩ := cells5 hB6
          have hX6 := box_tstep hS6 (HT3.out.below HB5.out) HX5.out (by decide) (by decide) (by decide) (by decide)
          obtain ⟨c0, c1, c2, f0, f1, f2⟩ := cells3 hX6
          obtain ⟨e1, e2, e3⟩ := reply_end 0 (m.host * 4 + m.thread) [] hX6 (hS6.more.1 _ (List.mem_append_left _ HIN.out)) hT6 ((HS3.out.trans (TStep.below HB5.out)).trans hS6) hkb
          have E1 := hid e1
          have E2 := hid e2
          have E3 := hid e3
          clear e1 e2 e3 hX6 hB6 hT6 hS6 hB5 b0 b1 b2 b3 b4
          go_wp2
          refine bodyPost_ret (results_cell_row rfl _ _ w.heap.size 35 _ (0, 0) _ rfl E1.out Tryz.underlying35 rfl (by kernel_rfl)) rfl ⟨?_, ?_⟩
          · rw [HE2.out]; rfl
          · rw [HE2.out]; exact ⟨_, _, E2.out, E3.out⟩
end Go.Proofs.YtgpldlbmjakjhaaGreat
