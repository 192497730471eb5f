/- kernel.takeMail. -/
import Derived.Test.YtpdijobakfpnbaaQKDel
import Derived.Deep.LoopGhost
import Derived.Test.YtpdijobakfpnbaaQKAns
import Derived.Test.YtpdijobakfpnbaaQKKer
import Derived.Test.YtpdijobakfpnbaaQPlain
import Derived.Test.YtpdijobakfpnbaaQMem
namespace Go.Proofs.Ytpdijobakfpnbaa
open Go.RowKit Go.Proofs.Parclose
theorem QbP {w : World} {F : List Nat} : ∀ (vs : List (Value × Value)) (ms : List Mal), vs.length = ms.length → (∀ j (h1 : j < vs.length) (h2 : j < ms.length), RoLab w F vs[j].1 ms[j].label ∧ RoInts w F vs[j].2 ms[j].grants) → ∀ u ∈ flatM vs ms, u.oneCell' = true
 | [], [], _, _, u, hu => by cases hu
 | [], _ :: _, h, _, _, _ => by simp at h
 | _ :: _, [], h, _, _, _ => by simp at h
 | x :: r, m :: t, h, hr, u, hu => by
  obtain ⟨⟨⟨p1, c1, e1, _⟩, _⟩, ⟨⟨p2, c2, e2, _⟩, _⟩⟩ := hr 0 (by simp) (by simp)
  have ih := QbP r t (by simpa using h) (fun j g1 g2 => hr (j + 1) (by simpa using g1) (by simpa using g2))
  have e : flatM (x :: r) (m :: t) = .int .i64 m.host :: .int .i64 m.thread :: x.1 :: x.2 :: .string ⟨m.text.toArray⟩ :: flatM r t := rfl
  rw [e] at hu
  simp only [List.getElem_cons_zero] at e1 e2
  simp only [List.mem_cons] at hu
  rcases hu with rfl | rfl | rfl | rfl | rfl | hu
  · rfl
  · rfl
  · rw [e1]; rfl
  · rw [e2]; rfl
  · rfl
  · exact ih u hu
theorem MailsAt.first {w : World} {F : List Nat} {v : Value} {m : Mal} {r : List Mal} (h : MailsAt w F v (m :: r)) : ∃ g cap ul ug us xs, v = .slice (some ⟨g, 0, none⟩) (r.length + 1) cap ∧ w.ownsRow 0 42 5 (.slice (some ⟨g, 0, none⟩) (r.length + 1) cap) (r.length + 1) xs ∧ xs = .int .i64 m.host :: .int .i64 m.thread :: ul :: ug :: .string ⟨m.text.toArray⟩ :: flatM us r ∧ us.length = r.length ∧ RoLab w F ul m.label ∧ RoInts w F ug m.grants ∧
 (∀ j (h1 : j < us.length) (h2 : j < r.length), RoLab w F us[j].1 r[j].label ∧ RoInts w F us[j].2 r[j].grants) ∧ (∀ u ∈ xs, u.oneCell' = true) ∧ w.cell? ⟨g, 0, none⟩ = some (.int .i64 m.host) ∧ w.cell? ⟨g, 1, none⟩ = some (.int .i64 m.thread) ∧ w.cell? ⟨g, 2, none⟩ = some ul ∧ w.cell? ⟨g, 3, none⟩ = some ug ∧ w.cell? ⟨g, 4, none⟩ = some (.string ⟨m.text.toArray⟩) := by
 obtain ⟨vs, h1, h2, h3⟩ := h
 cases vs with
 | nil => simp at h1
 | cons x us =>
  have hone := QbP (x :: us) (m :: r) h1 h3
  rcases h2.2 with ⟨_, hn⟩ | ⟨g, cap, cur, hv, _, hg, _⟩
  · simp at hn
  · subst hv
    have hc := World.ownsRow.cells h2 (g := g) rfl
    have c0 := hc 0 _ rfl
    have c1 := hc 1 _ rfl
    have c2 := hc 2 _ rfl
    have c3 := hc 3 _ rfl
    have c4 := hc 4 _ rfl
    rw [WideShapes.add_plain, Nat.zero_add] at c0 c1 c2 c3 c4
    have h0 := h3 0 (by simp) (by simp)
    exact ⟨g, cap, x.1, x.2, us, _, rfl, h2, rfl, by simpa using h1, h0.1, h0.2, fun j g1 g2 => h3 (j + 1) (by simpa using g1) (by simpa using g2), hone, c0, c1, c2, c3, c4⟩
theorem TAt.drop {w w2 : World} {kb o : Nat} {F : List Nat} {v : ThrV} {th : Thr} {r : List Mal} (h : TAt w kb o F v th) {g cap : Nat} {us : List (Value × Value)} (hv : v.vm = .slice (some ⟨g, 0, none⟩) (r.length + 1) cap) (hus : us.length = r.length)
 (hro : ∀ j (h1 : j < us.length) (h2 : j < r.length), RoLab w F us[j].1 r[j].label ∧ RoInts w F us[j].2 r[j].grants) (ho : w2.ownsRow 0 42 5 (.slice (some ⟨g, 0, none⟩) r.length cap) r.length (flatM us r)) (hg : w.grownBy w2 (some g)) :
 TAt (w2.setCell ⟨kb, o + 4, none⟩ (.slice (some ⟨g, 0, none⟩) r.length cap)) kb o (F ++ [g]) { v with vm := .slice (some ⟨g, 0, none⟩) r.length cap } { th with mails := r } ∧ TStep kb o w F v (w2.setCell ⟨kb, o + 4, none⟩ (.slice (some ⟨g, 0, none⟩) r.length cap)) (F ++ [g]) { v with vm := .slice (some ⟨g, 0, none⟩) r.length cap } := by
 have hgF : g ∈ F := h.rows g (mem_rows.2 (.inr (.inr (by rw [hv]; rfl))))
 have hm : More w F (F ++ [g]) := ⟨fun _ h => List.mem_append_left _ h, fun k hk => by
  rcases List.mem_append.1 hk with e | e
  · exact .inl e
  · simp at e; subst e; exact .inl hgF⟩
 have hk : KeptF F w w2 := QD hg fun k e => .inl (by cases e; exact hgF)
 exact h.mails (u := .slice (some ⟨g, 0, none⟩) r.length cap) (by rw [hv]; exact hg) ⟨us, hus, ho, fun j g1 g2 => ⟨(hro j g1 g2).1.keep hk hm, (hro j g1 g2).2.keep hk hm⟩⟩ (fun k hk => .inl (by rw [hv]; exact hk))
def MailFit (m : Mal) : Prop := (0 ≤ m.host ∧ m.host < 4) ∧ (0 ≤ m.thread ∧ m.thread < 4) ∧ m.text.length ≤ 64
set_option maxRecDepth 100000 in
set_option maxHeartbeats 3200000 in
theorem QeB (kb o : Nat) (F : List Nat) (v : ThrV) (th : Thr) (w : World) (h : TAt w kb o F v th) (hs : th.own.Pairwise (· < ·)) (hl : th.own.length ≤ 8) (hx : th.text.length ≤ 1000) (hms : ∀ m ∈ th.mails, MailFit m) (hml : th.mails.length ≤ 1000) :
 Calls Try.prog 38 #[.pointer (some ⟨kb, o, none⟩)] w fun e w' => e = .returned (repV (takeL th th.mails).2) ∧ ∃ G v', TAt w' kb o G v' (takeL th th.mails).1 ∧ TStep kb o w F v w' G v' := by
 have hkb := h.lt
 have hr := h.reserve (.cells #[.int .i64 0, .int .i64 0, .string ⟨#[]⟩] 52)
 have HR := hid hr
 have HBX := hid (Qcr w)
 clear hr h
 go_enter Try.func38, Try.ntmps38
 go_wp2
 go_loopg [3] th.mails.length (fun n _ wr => ∃ (G : List Nat) (v' : ThrV) (ms : List Mal), ms.length ≤ n ∧ takeL th th.mails = takeL th ms ∧ (∀ m ∈ ms, MailFit m) ∧ ms.length ≤ 1000 ∧ w.heap.size ∈ G ∧ wr.heap[w.heap.size]? = some (.cells #[.int .i64 0, .int .i64 0, .string ⟨#[]⟩] 52 (0, 0)) ∧ TAt wr kb o G v' { th with mails := ms } ∧ TStep kb o w F v wr G v')
 case atStart => exact ⟨_, _, th.mails, Nat.le_refl _, rfl, hms, hml, by simp, HBX.out, HR.out.1, HR.out.2⟩
 case round =>
  clear hms hml HR HBX
  obtain ⟨G, v', ms, hn, heq, hms, hml, hin, hbx, hT, hS⟩ := hrel
  have HEQ := hid heq
  have HIN := hid hin
  have HBX := hid hbx
  have HT := hid hT
  have HS := hid hS
  clear heq hin hbx hS
  obtain ⟨t0, t1, _, _, t4⟩ := hT.cells
  have tf := hT.frozen (o + 4)
  cases ms with
  | nil =>
   obtain ⟨_, _, m2, _⟩ := hT.thr.2.2.2
   obtain ⟨pm, cm, hvm⟩ := Qi m2
   rw [hvm] at t4
   clear hT m2
   go_wp2_with (go_at_call 32; refine (QB _ _).mono ?_; rintro e w2 ⟨rfl, hw2⟩; have HB2 := hid hw2; have hb2 := Qc HBX.out hw2; obtain ⟨c0, c1, c2, f0, f1, f2⟩ := cells3 hb2; have HX2 := hid hb2; clear hb2 hw2)
   obtain ⟨e1, e2, e3⟩ := Qay 4 0 [] HX2.out HIN.out (HT.out.below HB2.out) (HS.out.trans (TStep.below HB2.out)) hkb
   refine bodyPost_ret (results_cell_row rfl _ _ w.heap.size 52 _ (0, 0) _ rfl e1 Try.underlying52 rfl (by kernel_rfl)) rfl ⟨?_, ?_⟩
   · rw [HEQ.out]; rfl
   · rw [HEQ.out]; exact ⟨_, _, e2, e3⟩
  | cons m r =>
   obtain ⟨g, cap, ul, ug, us, xs, hvm, hown, hxs, hus, hrl, hrg, hro, hone, d0, d1, d2, d3, d4⟩ := hT.thr.2.2.2.first
   obtain ⟨pul, cul, hul, _⟩ := id hrl.1
   obtain ⟨pug, cug, hug, _⟩ := id hrg.1
   obtain ⟨ptl, ctl, hvl, _⟩ := id hT.thr.1.1
   obtain ⟨po, co, hvo⟩ := ownV hT.thr.2.1
   subst hul
   subst hug
   have hglt : g < wr.heap.size := Qb d0
   have hdel := Qfb g r.length cap xs (wr.alloc (.cells #[.int .i64 m.host, .int .i64 m.thread, .slice pul m.label.length cul, .slice pug m.grants.length cug, .string ⟨m.text.toArray⟩] 42)) (Ql hown (Qe _ _)) (by simp at hml; omega) hone
   have hxd : xs.drop 5 = flatM us r := by rw [hxs]; rfl
   rw [hxd] at hdel
   rw [hvm] at t4
   have HDEL := hid hdel
   have HVM := hid hvm
   have HRO := hid hro
   have HUS := hid hus
   have HRL := hid hrl
   have HRG := hid hrg
   have HVL := hid hvl
   have HVO := hid hvo
   have hklt : kb < wr.heap.size := HT.out.lt
   clear hdel hvm hro hus hrl hrg hown hone hxs hxd hT hvl hvo
   go_wp2_with fail
   refine HDEL.out.mono ?_
   rintro e w2 ⟨rfl, hown2, hg2⟩
   have hTb := HT.out.below (Qe wr (.cells #[.int .i64 m.host, .int .i64 m.thread, .slice pul m.label.length cul, .slice pug m.grants.length cug, .string ⟨m.text.toArray⟩] 42))
   obtain ⟨z4, zf⟩ := hTb.after hg2 (fun k hk => mem_rows.2 (.inr (.inr (by rw [HVM.out]; exact hk)))) hTb.cells.2.2.2.2
   have hdr := hTb.drop HVM.out HUS.out (fun j g1 g2 => ⟨(HRO.out j g1 g2).1.keep (Qk _ (Qe _ _)) (More.refl _ _), (HRO.out j g1 g2).2.keep (Qk _ (Qe _ _)) (More.refl _ _)⟩) hown2 hg2
   have hkeep := (QD (F := G) hg2 fun k e => .inl (by cases e; exact HT.out.rows g (mem_rows.2 (.inr (.inr (by rw [HVM.out]; rfl))))))
   have hB1 : w2.heap[wr.heap.size]? = some (.cells #[.int .i64 m.host, .int .i64 m.thread, .slice pul m.label.length cul, .slice pug m.grants.length cug, .string ⟨m.text.toArray⟩] 42 (0, 0)) := by
    rw [hg2.block wr.heap.size (by simp) (fun e => by have := Option.some.inj e; omega)]
    exact heap_alloc_new wr _
   have hB3 := Qr hB1 (show wr.heap.size ≠ kb by omega) (o + 4) (.slice (some ⟨g, 0, none⟩) r.length cap)
   have hX3 := QaC hdr.2 hTb (Qc HBX.out (Qe _ _)) (by decide) (by decide) (by decide) (by decide)
   have hS3 := (HS.out.trans (TStep.below (Qe wr (.cells #[.int .i64 m.host, .int .i64 m.thread, .slice pul m.label.length cul, .slice pug m.grants.length cug, .string ⟨m.text.toArray⟩] 42)))).trans hdr.2
   have hks : KeptF G (wr.alloc (.cells #[.int .i64 m.host, .int .i64 m.thread, .slice pul m.label.length cul, .slice pug m.grants.length cug, .string ⟨m.text.toArray⟩] 42)) (w2.setCell ⟨kb, o + 4, none⟩ (.slice (some ⟨g, 0, none⟩) r.length cap)) := hdr.2.kept.sub fun k e => .inl (by
    rcases List.mem_cons.1 e with rfl | e
    · exact HT.out.kbF
    · exact HT.out.rows k e)
   have hrl3 := (HRL.out.keep (Qk G (Qe wr _)) (More.refl _ _)).keep hks hdr.2.more
   have hrg3 := (HRG.out.keep (Qk G (Qe wr _)) (More.refl _ _)).keep hks hdr.2.more
   have HNB : Hid (wr.heap.size ∉ kb :: rowsOf { v' with vm := .slice (some ⟨g, 0, none⟩) r.length cap }) := hid (fun e => by
    rcases List.mem_cons.1 e with e | e
    · omega
    · rcases mem_rows.1 e with e | e | e
      · have := HT.out.fin _ (HT.out.rows _ (mem_rows.2 (.inl e))); omega
      · have := HT.out.fin _ (HT.out.rows _ (mem_rows.2 (.inr (.inl e)))); omega
      · have e2 : g = wr.heap.size := Option.some.inj e
        omega)
   have hT3 := hdr.1
   obtain ⟨y0, y1, _, _, _⟩ := hT3.cells
   simp only [HVL.out, HVO.out] at y0 y1
   obtain ⟨⟨b0, b1, b2, b3, b4⟩, _⟩ := cells5 hB3
   have HT3 := hid hT3
   have HS3 := hid hS3
   have HX3 := hid hX3
   have HB3 := hid hB3
   have HRL3 := hid hrl3
   have HRG3 := hid hrg3
   clear hdr hkeep hB1 hB3 hX3 hS3 hks hrl3 hrg3 hT3 hTb hown2 t0 t1 t4 tf d0 d1 d2 d3 d4 HDEL
   go_wp2_with fail
   generalize w2.setCell ⟨kb, o + 4, none⟩ (.slice (some ⟨g, 0, none⟩) r.length cap) = w3 at *
   have hfl := fun wx (hb : Below w3.heap.size w3 wx) => QS _ _ _ _ _ _ wx (HRL3.out.1.below hb) (HT3.out.thr.1.1.below hb) ((QV HT3.out.thr.2.1 (Nat.le_trans hl (by decide))).below hb)
   simp only [HVL.out, HVO.out] at hfl
   cases hf : flowsL m.label th.label th.own with
   | false =>
    rw [hf] at hfl
    have HE2 : Hid (takeL th th.mails = takeL th r) := hid (by rw [HEQ.out, takeL, hf]; rfl)
    go_region_held3 (fun w' => w'.cell? ⟨wr.heap.size, 2, none⟩ = some (.slice pul m.label.length cul) ∧ w'.cell? ⟨kb, o, none⟩ = some (.slice ptl th.label.length ctl) ∧ w'.cell? ⟨kb, o + 1, none⟩ = some (.slice po th.own.length co)) (go_keep)
     (first | (go_at_call 31; refine (hfl _ (Below.refl _ _).drew).mono ?_; rintro e w5 ⟨rfl, hw5d⟩; have hw5 := kundrew hw5d; have HB5 := hid hw5; have r0 := hw5.cell (Qb y0); rw [y0] at r0; have r1 := hw5.cell (Qb y1); rw [y1] at r1; have r2 := hw5.cell (Qb b2); rw [b2] at r2; clear hw5d hw5))
    all_goals
     go_wp2
     go_roundg r.length
     case measure => simp at hn; omega
     case rel => exact ⟨_, _, r, Nat.le_refl _, HE2.out, fun x hx => hms x (List.mem_cons_of_mem _ hx), by simp at hml; omega, List.mem_append_left _ HIN.out, Qc HX3.out HB5.out, HT3.out.below HB5.out, HS3.out.trans (TStep.below HB5.out)⟩
   | true =>
    rw [hf] at hfl
    have HE2 : Hid (takeL th th.mails = ({ readL th m with mails := r }, ⟨0, m.host * 4 + m.thread, []⟩)) := hid (by rw [HEQ.out, takeL, hf]; rfl)
    obtain ⟨⟨mh1, mh2⟩, ⟨mt1, mt2⟩, mx⟩ := hms m (by simp)
    have hw1 : wrap64 (m.host * 4) = m.host * 4 := by unfold wrap64; omega
    have hw2 : wrap64 (m.host * 4 + m.thread) = m.host * 4 + m.thread := by unfold wrap64; omega
    have hrd := fun wx (hb : Below w3.heap.size w3 wx) => Qdw kb o _ _ { th with mails := r } m (.slice pul m.label.length cul) (.slice pug m.grants.length cug) wx (HT3.out.below hb) hs hl (HRG3.out.keep (Qk _ hb) (More.refl _ _)) ⟨_, _, _, rfl⟩ (by show th.text.length + m.text.length < _; omega)
    have HRD := hid hrd
    clear hrd
    go_region_held3 (fun w' => w'.cell? ⟨wr.heap.size, 2, none⟩ = some (.slice pul m.label.length cul) ∧ w'.cell? ⟨kb, o, none⟩ = some (.slice ptl th.label.length ctl) ∧ w'.cell? ⟨kb, o + 1, none⟩ = some (.slice po th.own.length co)) (go_keep)
     (first | (go_at_call 31; refine (hfl _ (Below.refl _ _).drew).mono ?_; rintro e w5 ⟨rfl, hw5d⟩; have hw5 := kundrew hw5d; have HB5 := hid hw5; have r0 := hw5.cell (Qb y0); rw [y0] at r0; have r1 := hw5.cell (Qb y1); rw [y1] at r1; have r2 := hw5.cell (Qb b2); rw [b2] at r2; clear hw5d hw5))
    all_goals
     clear r0 r1 r2 y0 y1 b0 b1 b2 b3 b4 hfl
     have hB5 := Qc HB3.out HB5.out
     obtain ⟨⟨b0, b1, b2, b3, b4⟩, _⟩ := cells5 hB5
     have HX5 := hid (Qc HX3.out HB5.out)
     go_wp2_with fail
     refine (HRD.out _ HB5.out).mono ?_
     rintro e w6 ⟨rfl, G6, v6, hT6, hS6⟩
     have hB6 := hS6.kept.heap hB5 HNB.out
     obtain ⟨⟨x0, x1, _⟩, _⟩ := cells5 hB6
     have hX6 := QaC hS6 (HT3.out.below HB5.out) HX5.out (by decide) (by decide) (by decide) (by decide)
     obtain ⟨c0, c1, c2, f0, f1, f2⟩ := cells3 hX6
     obtain ⟨e1, e2, e3⟩ := Qay 0 (m.host * 4 + m.thread) [] hX6 (hS6.more.1 _ (List.mem_append_left _ HIN.out)) hT6 ((HS3.out.trans (TStep.below HB5.out)).trans hS6) hkb
     have E1 := hid e1
     have E2 := hid e2
     have E3 := hid e3
     clear e1 e2 e3 hX6 hB6 hT6 hS6 hB5 b0 b1 b2 b3 b4
     go_wp2
     refine bodyPost_ret (results_cell_row rfl _ _ w.heap.size 52 _ (0, 0) _ rfl E1.out Try.underlying52 rfl (by kernel_rfl)) rfl ⟨?_, ?_⟩
     · rw [HE2.out]; rfl
     · rw [HE2.out]; exact ⟨_, _, E2.out, E3.out⟩
set_option maxRecDepth 100000 in
set_option maxHeartbeats 3200000 in
theorem Qew (kb t : Nat) (F : List Nat) (V : List ThrV) (K : Ker) (c : Cal) (vc : Value) (w : World) (h : KerAt w kb F V K) (h1 : t < V.length) (h2 : t < K.ths.length) (hc : CalAt w vc c) (hk : c.kind = 2) (hx : c.text.length ≤ 64) (hl : K.ths[t].own.length ≤ 1000) (hob : K.ths[t].objs.length ≤ 1000) :
 Calls Try.prog 13 #[.pointer (some ⟨kb, 0, none⟩), .int .i64 t, vc] w fun e w' => e = .returned (repV (objectL K.ths[t] c.label).2) ∧ ∃ G V', KerAt w' kb G V' { K with ths := K.ths.set t (objectL K.ths[t] c.label).1 } ∧ KStep kb w F V w' G V' := by
 obtain ⟨vl, vg, rfl, hlab, hgra⟩ := hc
 obtain ⟨pl, cl, rfl, _⟩ := id hlab
 obtain ⟨pg, cg, rfl, _⟩ := id hgra
 unfold calV
 obtain ⟨ck, ch, ct, cn, cc, clb, cgr, cx⟩ := c
 simp only at hk hx hlab hgra ⊢
 subst hk
 have h4 : t < 4 := by rw [← h.len]; exact h1
 have hx2 : ¬ ((64 : Int) < (cx.length : Int)) := by omega
 have HA := hid ((h.reserve (.cells #[.int .i64 2, .int .i64 ch, .int .i64 ct, .int .i64 cn, .int .i64 cc, .slice pl clb.length cl, .slice pg cgr.length cg, .string ⟨cx.toArray⟩] 40)).reserve (.cells #[.int .i64 0, .int .i64 0, .string ⟨#[]⟩] 52))
 have HS := hid ((KStep.reserve kb w F V (.cells #[.int .i64 2, .int .i64 ch, .int .i64 ct, .int .i64 cn, .int .i64 cc, .slice pl clb.length cl, .slice pg cgr.length cg, .string ⟨cx.toArray⟩] 40)).trans (KStep.reserve kb _ _ V (.cells #[.int .i64 0, .int .i64 0, .string ⟨#[]⟩] 52)))
 have HBX := hid (heap_alloc2_new w (.cells #[.int .i64 2, .int .i64 ch, .int .i64 ct, .int .i64 cn, .int .i64 cc, .slice pl clb.length cl, .slice pg cgr.length cg, .string ⟨cx.toArray⟩] 40) (.cells #[.int .i64 0, .int .i64 0, .string ⟨#[]⟩] 52))
 have HWB : Hid (Below w.heap.size w ((w.alloc (.cells #[.int .i64 2, .int .i64 ch, .int .i64 ct, .int .i64 cn, .int .i64 cc, .slice pl clb.length cl, .slice pg cgr.length cg, .string ⟨cx.toArray⟩] 40)).alloc (.cells #[.int .i64 0, .int .i64 0, .string ⟨#[]⟩] 52))) := hid ((Qe w _).alloc (by simp) _)
 have hin1 := QcN kb (2 + t * 5) _ V[t] K.ths[t] (.slice pl clb.length cl) clb _ (HA.out.tat t h1 h2) hl hob (hlab.below HWB.out)
 have HC := hid hin1
 clear hin1
 generalize (objectL K.ths[t] clb).1 = T at *
 generalize (objectL K.ths[t] clb).2 = R at *
 clear h
 go_enter Try.func13, Try.ntmps13
 go_wp2_with (first
  | (go_at_call 17; refine (Qz kb t _ h4).mono ?_; rintro e w1 ⟨rfl, rfl⟩)
  | (go_at_call 34; refine HC.out.mono ?_; rintro e w2 ⟨rfl, G2, v2, ht2, hs⟩; have hk2 := HA.out.step h1 h2 ht2 hs; have hs2 := KStep.of h1 hs; have hx2' := Qai hs2 HA.out HBX.out (by decide) (by decide) (by decide) (by decide); obtain ⟨c0, c1, c2, f0, f1, f2⟩ := cells3 hx2'; have HX2 := hid hx2'; have HK2 := hid hk2; have HS2 := hid hs2; clear hx2' hk2 hs2; generalize V.set t v2 = V2 at *; unfold repV))
 have hin : w.heap.size + 1 ∈ G2 := HS2.out.more.1 _ (by simp)
 have hg := Qv w2 (w.heap.size + 1) (.int .i64 R.code) (.int .i64 R.n) (.string ⟨R.text.toArray⟩)
 exact bodyPost_ret (results_cell_row rfl _ _ (w.heap.size + 1) 52 _ (0, 0) _ rfl (QA (.int .i64 R.code) (.int .i64 R.n) (.string ⟨R.text.toArray⟩) HX2.out) Try.underlying52 rfl (by kernel_rfl)) rfl ⟨rfl, G2, V2, HK2.out.boxed hg hin HX2.out (by decide) (by decide) (by decide) (by decide), (HS.out.trans HS2.out).boxed hg (by omega)⟩
set_option maxRecDepth 100000 in
set_option maxHeartbeats 3200000 in
theorem Qga (kb t : Nat) (F : List Nat) (V : List ThrV) (K : Ker) (c : Cal) (vc : Value) (w : World) (h : KerAt w kb F V K) (h1 : t < V.length) (h2 : t < K.ths.length) (hc : CalAt w vc c) (hk : c.kind = 7) (hx : c.text.length ≤ 64) (hs : K.ths[t].own.Pairwise (· < ·)) (hl : K.ths[t].own.length ≤ 8) (hxt : K.ths[t].text.length ≤ 1000) (hms : ∀ m ∈ K.ths[t].mails, MailFit m) (hml : K.ths[t].mails.length ≤ 1000) :
 Calls Try.prog 13 #[.pointer (some ⟨kb, 0, none⟩), .int .i64 t, vc] w fun e w' => e = .returned (repV (takeL K.ths[t] K.ths[t].mails).2) ∧ ∃ G V', KerAt w' kb G V' { K with ths := K.ths.set t (takeL K.ths[t] K.ths[t].mails).1 } ∧ KStep kb w F V w' G V' := by
 obtain ⟨vl, vg, rfl, hlab, hgra⟩ := hc
 obtain ⟨pl, cl, rfl, _⟩ := id hlab
 obtain ⟨pg, cg, rfl, _⟩ := id hgra
 unfold calV
 obtain ⟨ck, ch, ct, cn, cc, clb, cgr, cx⟩ := c
 simp only at hk hx hlab hgra ⊢
 subst hk
 have h4 : t < 4 := by rw [← h.len]; exact h1
 have hx2 : ¬ ((64 : Int) < (cx.length : Int)) := by omega
 have HA := hid ((h.reserve (.cells #[.int .i64 7, .int .i64 ch, .int .i64 ct, .int .i64 cn, .int .i64 cc, .slice pl clb.length cl, .slice pg cgr.length cg, .string ⟨cx.toArray⟩] 40)).reserve (.cells #[.int .i64 0, .int .i64 0, .string ⟨#[]⟩] 52))
 have HS := hid ((KStep.reserve kb w F V (.cells #[.int .i64 7, .int .i64 ch, .int .i64 ct, .int .i64 cn, .int .i64 cc, .slice pl clb.length cl, .slice pg cgr.length cg, .string ⟨cx.toArray⟩] 40)).trans (KStep.reserve kb _ _ V (.cells #[.int .i64 0, .int .i64 0, .string ⟨#[]⟩] 52)))
 have HBX := hid (heap_alloc2_new w (.cells #[.int .i64 7, .int .i64 ch, .int .i64 ct, .int .i64 cn, .int .i64 cc, .slice pl clb.length cl, .slice pg cgr.length cg, .string ⟨cx.toArray⟩] 40) (.cells #[.int .i64 0, .int .i64 0, .string ⟨#[]⟩] 52))
 have HWB : Hid (Below w.heap.size w ((w.alloc (.cells #[.int .i64 7, .int .i64 ch, .int .i64 ct, .int .i64 cn, .int .i64 cc, .slice pl clb.length cl, .slice pg cgr.length cg, .string ⟨cx.toArray⟩] 40)).alloc (.cells #[.int .i64 0, .int .i64 0, .string ⟨#[]⟩] 52))) := hid ((Qe w _).alloc (by simp) _)
 have hin1 := QeB kb (2 + t * 5) _ V[t] K.ths[t] _ (HA.out.tat t h1 h2) hs hl hxt hms hml
 have HC := hid hin1
 clear hin1
 generalize (takeL K.ths[t] K.ths[t].mails).1 = T at *
 generalize (takeL K.ths[t] K.ths[t].mails).2 = R at *
 clear h
 go_enter Try.func13, Try.ntmps13
 go_wp2_with (first
  | (go_at_call 17; refine (Qz kb t _ h4).mono ?_; rintro e w1 ⟨rfl, rfl⟩)
  | (go_at_call 38; refine HC.out.mono ?_; rintro e w2 ⟨rfl, G2, v2, ht2, hs⟩; have hk2 := HA.out.step h1 h2 ht2 hs; have hs2 := KStep.of h1 hs; have hx2' := Qai hs2 HA.out HBX.out (by decide) (by decide) (by decide) (by decide); obtain ⟨c0, c1, c2, f0, f1, f2⟩ := cells3 hx2'; have HX2 := hid hx2'; have HK2 := hid hk2; have HS2 := hid hs2; clear hx2' hk2 hs2; generalize V.set t v2 = V2 at *; unfold repV))
 have hin : w.heap.size + 1 ∈ G2 := HS2.out.more.1 _ (by simp)
 have hg := Qv w2 (w.heap.size + 1) (.int .i64 R.code) (.int .i64 R.n) (.string ⟨R.text.toArray⟩)
 exact bodyPost_ret (results_cell_row rfl _ _ (w.heap.size + 1) 52 _ (0, 0) _ rfl (QA (.int .i64 R.code) (.int .i64 R.n) (.string ⟨R.text.toArray⟩) HX2.out) Try.underlying52 rfl (by kernel_rfl)) rfl ⟨rfl, G2, V2, HK2.out.boxed hg hin HX2.out (by decide) (by decide) (by decide) (by decide), (HS.out.trans HS2.out).boxed hg (by omega)⟩
set_option maxRecDepth 100000 in
set_option maxHeartbeats 3200000 in
theorem Qc1 (kb t : Nat) (F : List Nat) (V : List ThrV) (K : Ker) (c : Cal) (vc : Value) (w : World) (h : KerAt w kb F V K) (h1 : t < V.length) (h2 : t < K.ths.length) (hc : CalAt w vc c) (hk : c.kind = 1) (hx : c.text.length ≤ 64) (hs : K.ths[t].own.Pairwise (· < ·)) (hl : K.ths[t].own.length ≤ 8) (hh : 0 ≤ K.host ∧ K.host < 4) (hm : 0 ≤ K.made ∧ K.made ≤ 20) :
 Calls Try.prog 13 #[.pointer (some ⟨kb, 0, none⟩), .int .i64 t, vc] w fun e w' => e = .returned (repV (categoryL K t K.ths[t]).2) ∧ ∃ G V', KerAt w' kb G V' (categoryL K t K.ths[t]).1 ∧ KStep kb w F V w' G V' := by
 obtain ⟨vl, vg, rfl, hlab, hgra⟩ := hc
 obtain ⟨pl, cl, rfl, _⟩ := id hlab
 obtain ⟨pg, cg, rfl, _⟩ := id hgra
 unfold calV
 obtain ⟨ck, ch, ct, cn, cc, clb, cgr, cx⟩ := c
 simp only at hk hx hlab hgra ⊢
 subst hk
 have h4 : t < 4 := by rw [← h.len]; exact h1
 have hx2 : ¬ ((64 : Int) < (cx.length : Int)) := by omega
 have HA := hid ((h.reserve (.cells #[.int .i64 1, .int .i64 ch, .int .i64 ct, .int .i64 cn, .int .i64 cc, .slice pl clb.length cl, .slice pg cgr.length cg, .string ⟨cx.toArray⟩] 40)).reserve (.cells #[.int .i64 0, .int .i64 0, .string ⟨#[]⟩] 52))
 have HS := hid ((KStep.reserve kb w F V (.cells #[.int .i64 1, .int .i64 ch, .int .i64 ct, .int .i64 cn, .int .i64 cc, .slice pl clb.length cl, .slice pg cgr.length cg, .string ⟨cx.toArray⟩] 40)).trans (KStep.reserve kb _ _ V (.cells #[.int .i64 0, .int .i64 0, .string ⟨#[]⟩] 52)))
 have HBX := hid (heap_alloc2_new w (.cells #[.int .i64 1, .int .i64 ch, .int .i64 ct, .int .i64 cn, .int .i64 cc, .slice pl clb.length cl, .slice pg cgr.length cg, .string ⟨cx.toArray⟩] 40) (.cells #[.int .i64 0, .int .i64 0, .string ⟨#[]⟩] 52))
 have HWB : Hid (Below w.heap.size w ((w.alloc (.cells #[.int .i64 1, .int .i64 ch, .int .i64 ct, .int .i64 cn, .int .i64 cc, .slice pl clb.length cl, .slice pg cgr.length cg, .string ⟨cx.toArray⟩] 40)).alloc (.cells #[.int .i64 0, .int .i64 0, .string ⟨#[]⟩] 52))) := hid ((Qe w _).alloc (by simp) _)
 have hin1 := Qb2 kb t _ V K _ HA.out h1 h2 hs hl hh hm
 have HC := hid hin1
 clear hin1
 generalize (categoryL K t K.ths[t]).1 = T at *
 generalize (categoryL K t K.ths[t]).2 = R at *
 clear h
 go_enter Try.func13, Try.ntmps13
 go_wp2_with (first
  | (go_at_call 17; refine (Qz kb t _ h4).mono ?_; rintro e w1 ⟨rfl, rfl⟩)
  | (go_at_call 33; refine HC.out.mono ?_; rintro e w2 ⟨rfl, G2, V2, hk2, hs2⟩; have hx2' := Qai hs2 HA.out HBX.out (by decide) (by decide) (by decide) (by decide); obtain ⟨c0, c1, c2, f0, f1, f2⟩ := cells3 hx2'; have HX2 := hid hx2'; have HK2 := hid hk2; have HS2 := hid hs2; clear hx2' hk2 hs2; unfold repV))
 have hin : w.heap.size + 1 ∈ G2 := HS2.out.more.1 _ (by simp)
 have hg := Qv w2 (w.heap.size + 1) (.int .i64 R.code) (.int .i64 R.n) (.string ⟨R.text.toArray⟩)
 exact bodyPost_ret (results_cell_row rfl _ _ (w.heap.size + 1) 52 _ (0, 0) _ rfl (QA (.int .i64 R.code) (.int .i64 R.n) (.string ⟨R.text.toArray⟩) HX2.out) Try.underlying52 rfl (by kernel_rfl)) rfl ⟨rfl, G2, V2, HK2.out.boxed hg hin HX2.out (by decide) (by decide) (by decide) (by decide), (HS.out.trans HS2.out).boxed hg (by omega)⟩
set_option maxRecDepth 100000 in
set_option maxHeartbeats 3200000 in
theorem Qcx (kb t : Nat) (F : List Nat) (V : List ThrV) (K : Ker) (c : Cal) (vc : Value) (w : World) (h : KerAt w kb F V K) (h1 : t < V.length) (hc : CalAt w vc c) (hk : c.kind = 3) (hx : c.text.length ≤ 64) (K2 : Ker) (R : Rep) (HP : ∀ w1 F1 vc1, KerAt w1 kb F1 V K → CalAt w1 vc1 c → Calls Try.prog 35 #[.pointer (some ⟨kb, 0, none⟩), .pointer (some ⟨kb, 2 + t * 5, none⟩), vc1] w1 fun e w' => e = .returned (repV R) ∧ ∃ G, KerAt w' kb G V K2 ∧ KStep kb w1 F1 V w' G V) :
 Calls Try.prog 13 #[.pointer (some ⟨kb, 0, none⟩), .int .i64 t, vc] w fun e w' => e = .returned (repV R) ∧ ∃ G V', KerAt w' kb G V' K2 ∧ KStep kb w F V w' G V' := by
 obtain ⟨vl, vg, rfl, hlab, hgra⟩ := hc
 obtain ⟨pl, cl, rfl, _⟩ := id hlab
 obtain ⟨pg, cg, rfl, _⟩ := id hgra
 unfold calV
 obtain ⟨ck, ch, ct, cn, cc, clb, cgr, cx⟩ := c
 simp only at hk hx hlab hgra ⊢
 subst hk
 have h4 : t < 4 := by rw [← h.len]; exact h1
 have hx2 : ¬ ((64 : Int) < (cx.length : Int)) := by omega
 have HA := hid ((h.reserve (.cells #[.int .i64 3, .int .i64 ch, .int .i64 ct, .int .i64 cn, .int .i64 cc, .slice pl clb.length cl, .slice pg cgr.length cg, .string ⟨cx.toArray⟩] 40)).reserve (.cells #[.int .i64 0, .int .i64 0, .string ⟨#[]⟩] 52))
 have HS := hid ((KStep.reserve kb w F V (.cells #[.int .i64 3, .int .i64 ch, .int .i64 ct, .int .i64 cn, .int .i64 cc, .slice pl clb.length cl, .slice pg cgr.length cg, .string ⟨cx.toArray⟩] 40)).trans (KStep.reserve kb _ _ V (.cells #[.int .i64 0, .int .i64 0, .string ⟨#[]⟩] 52)))
 have HBX := hid (heap_alloc2_new w (.cells #[.int .i64 3, .int .i64 ch, .int .i64 ct, .int .i64 cn, .int .i64 cc, .slice pl clb.length cl, .slice pg cgr.length cg, .string ⟨cx.toArray⟩] 40) (.cells #[.int .i64 0, .int .i64 0, .string ⟨#[]⟩] 52))
 have HWB : Hid (Below w.heap.size w ((w.alloc (.cells #[.int .i64 3, .int .i64 ch, .int .i64 ct, .int .i64 cn, .int .i64 cc, .slice pl clb.length cl, .slice pg cgr.length cg, .string ⟨cx.toArray⟩] 40)).alloc (.cells #[.int .i64 0, .int .i64 0, .string ⟨#[]⟩] 52))) := hid ((Qe w _).alloc (by simp) _)
 have hin1 := HP _ _ _ HA.out ⟨_, _, rfl, hlab.below HWB.out, hgra.below HWB.out⟩
 have HC := hid hin1
 clear hin1 HP
 clear h
 go_enter Try.func13, Try.ntmps13
 go_wp2_with (first
  | (go_at_call 17; refine (Qz kb t _ h4).mono ?_; rintro e w1 ⟨rfl, rfl⟩)
  | (go_at_call 35; refine HC.out.mono ?_; rintro e w2 ⟨rfl, G2, hk2, hs2⟩; obtain ⟨V2, hk2, hs2⟩ : ∃ V2, KerAt w2 kb G2 V2 K2 ∧ KStep kb _ _ V w2 G2 V2 := ⟨V, hk2, hs2⟩; have hx2' := Qai hs2 HA.out HBX.out (by decide) (by decide) (by decide) (by decide); obtain ⟨c0, c1, c2, f0, f1, f2⟩ := cells3 hx2'; have HX2 := hid hx2'; have HK2 := hid hk2; have HS2 := hid hs2; clear hx2' hk2 hs2; unfold repV))
 have hin : w.heap.size + 1 ∈ G2 := HS2.out.more.1 _ (by simp)
 have hg := Qv w2 (w.heap.size + 1) (.int .i64 R.code) (.int .i64 R.n) (.string ⟨R.text.toArray⟩)
 exact bodyPost_ret (results_cell_row rfl _ _ (w.heap.size + 1) 52 _ (0, 0) _ rfl (QA (.int .i64 R.code) (.int .i64 R.n) (.string ⟨R.text.toArray⟩) HX2.out) Try.underlying52 rfl (by kernel_rfl)) rfl ⟨rfl, G2, V2, HK2.out.boxed hg hin HX2.out (by decide) (by decide) (by decide) (by decide), (HS.out.trans HS2.out).boxed hg (by omega)⟩
set_option maxRecDepth 100000 in
set_option maxHeartbeats 3200000 in
theorem Qcy (kb t : Nat) (F : List Nat) (V : List ThrV) (K : Ker) (c : Cal) (vc : Value) (w : World) (h : KerAt w kb F V K) (h1 : t < V.length) (hc : CalAt w vc c) (hk : c.kind = 4) (hx : c.text.length ≤ 64) (K2 : Ker) (R : Rep) (HP : ∀ w1 F1 vc1, KerAt w1 kb F1 V K → CalAt w1 vc1 c → Calls Try.prog 36 #[.pointer (some ⟨kb, 0, none⟩), .pointer (some ⟨kb, 2 + t * 5, none⟩), vc1] w1 fun e w' => e = .returned (repV R) ∧ ∃ G, KerAt w' kb G V K2 ∧ KStep kb w1 F1 V w' G V) :
 Calls Try.prog 13 #[.pointer (some ⟨kb, 0, none⟩), .int .i64 t, vc] w fun e w' => e = .returned (repV R) ∧ ∃ G V', KerAt w' kb G V' K2 ∧ KStep kb w F V w' G V' := by
 obtain ⟨vl, vg, rfl, hlab, hgra⟩ := hc
 obtain ⟨pl, cl, rfl, _⟩ := id hlab
 obtain ⟨pg, cg, rfl, _⟩ := id hgra
 unfold calV
 obtain ⟨ck, ch, ct, cn, cc, clb, cgr, cx⟩ := c
 simp only at hk hx hlab hgra ⊢
 subst hk
 have h4 : t < 4 := by rw [← h.len]; exact h1
 have hx2 : ¬ ((64 : Int) < (cx.length : Int)) := by omega
 have HA := hid ((h.reserve (.cells #[.int .i64 4, .int .i64 ch, .int .i64 ct, .int .i64 cn, .int .i64 cc, .slice pl clb.length cl, .slice pg cgr.length cg, .string ⟨cx.toArray⟩] 40)).reserve (.cells #[.int .i64 0, .int .i64 0, .string ⟨#[]⟩] 52))
 have HS := hid ((KStep.reserve kb w F V (.cells #[.int .i64 4, .int .i64 ch, .int .i64 ct, .int .i64 cn, .int .i64 cc, .slice pl clb.length cl, .slice pg cgr.length cg, .string ⟨cx.toArray⟩] 40)).trans (KStep.reserve kb _ _ V (.cells #[.int .i64 0, .int .i64 0, .string ⟨#[]⟩] 52)))
 have HBX := hid (heap_alloc2_new w (.cells #[.int .i64 4, .int .i64 ch, .int .i64 ct, .int .i64 cn, .int .i64 cc, .slice pl clb.length cl, .slice pg cgr.length cg, .string ⟨cx.toArray⟩] 40) (.cells #[.int .i64 0, .int .i64 0, .string ⟨#[]⟩] 52))
 have HWB : Hid (Below w.heap.size w ((w.alloc (.cells #[.int .i64 4, .int .i64 ch, .int .i64 ct, .int .i64 cn, .int .i64 cc, .slice pl clb.length cl, .slice pg cgr.length cg, .string ⟨cx.toArray⟩] 40)).alloc (.cells #[.int .i64 0, .int .i64 0, .string ⟨#[]⟩] 52))) := hid ((Qe w _).alloc (by simp) _)
 have hin1 := HP _ _ _ HA.out ⟨_, _, rfl, hlab.below HWB.out, hgra.below HWB.out⟩
 have HC := hid hin1
 clear hin1 HP
 clear h
 go_enter Try.func13, Try.ntmps13
 go_wp2_with (first
  | (go_at_call 17; refine (Qz kb t _ h4).mono ?_; rintro e w1 ⟨rfl, rfl⟩)
  | (go_at_call 36; refine HC.out.mono ?_; rintro e w2 ⟨rfl, G2, hk2, hs2⟩; obtain ⟨V2, hk2, hs2⟩ : ∃ V2, KerAt w2 kb G2 V2 K2 ∧ KStep kb _ _ V w2 G2 V2 := ⟨V, hk2, hs2⟩; have hx2' := Qai hs2 HA.out HBX.out (by decide) (by decide) (by decide) (by decide); obtain ⟨c0, c1, c2, f0, f1, f2⟩ := cells3 hx2'; have HX2 := hid hx2'; have HK2 := hid hk2; have HS2 := hid hs2; clear hx2' hk2 hs2; unfold repV))
 have hin : w.heap.size + 1 ∈ G2 := HS2.out.more.1 _ (by simp)
 have hg := Qv w2 (w.heap.size + 1) (.int .i64 R.code) (.int .i64 R.n) (.string ⟨R.text.toArray⟩)
 exact bodyPost_ret (results_cell_row rfl _ _ (w.heap.size + 1) 52 _ (0, 0) _ rfl (QA (.int .i64 R.code) (.int .i64 R.n) (.string ⟨R.text.toArray⟩) HX2.out) Try.underlying52 rfl (by kernel_rfl)) rfl ⟨rfl, G2, V2, HK2.out.boxed hg hin HX2.out (by decide) (by decide) (by decide) (by decide), (HS.out.trans HS2.out).boxed hg (by omega)⟩
set_option maxRecDepth 100000 in
set_option maxHeartbeats 3200000 in
theorem Qfq (kb t : Nat) (F : List Nat) (V : List ThrV) (K : Ker) (c : Cal) (vc : Value) (w : World) (h : KerAt w kb F V K) (h1 : t < V.length) (h2 : t < K.ths.length) (hc : CalAt w vc c) (hk : c.kind = 5) (hx : c.text.length ≤ 64) (hl : K.ths[t].own.length ≤ 1000) :
 Calls Try.prog 13 #[.pointer (some ⟨kb, 0, none⟩), .int .i64 t, vc] w fun e w' => e = .returned (repV (code (levelL K.ths[t] c.c c.n).2)) ∧ ∃ G V', KerAt w' kb G V' { K with ths := K.ths.set t (levelL K.ths[t] c.c c.n).1 } ∧ KStep kb w F V w' G V' := by
 obtain ⟨vl, vg, rfl, hlab, hgra⟩ := hc
 obtain ⟨pl, cl, rfl, _⟩ := id hlab
 obtain ⟨pg, cg, rfl, _⟩ := id hgra
 unfold calV
 obtain ⟨ck, ch, ct, cn, cc, clb, cgr, cx⟩ := c
 simp only at hk hx hlab hgra ⊢
 subst hk
 have h4 : t < 4 := by rw [← h.len]; exact h1
 have hx2 : ¬ ((64 : Int) < (cx.length : Int)) := by omega
 have HA := hid ((h.reserve (.cells #[.int .i64 5, .int .i64 ch, .int .i64 ct, .int .i64 cn, .int .i64 cc, .slice pl clb.length cl, .slice pg cgr.length cg, .string ⟨cx.toArray⟩] 40)).reserve (.cells #[.int .i64 0, .int .i64 0, .string ⟨#[]⟩] 52))
 have HS := hid ((KStep.reserve kb w F V (.cells #[.int .i64 5, .int .i64 ch, .int .i64 ct, .int .i64 cn, .int .i64 cc, .slice pl clb.length cl, .slice pg cgr.length cg, .string ⟨cx.toArray⟩] 40)).trans (KStep.reserve kb _ _ V (.cells #[.int .i64 0, .int .i64 0, .string ⟨#[]⟩] 52)))
 have HBX := hid (heap_alloc2_new w (.cells #[.int .i64 5, .int .i64 ch, .int .i64 ct, .int .i64 cn, .int .i64 cc, .slice pl clb.length cl, .slice pg cgr.length cg, .string ⟨cx.toArray⟩] 40) (.cells #[.int .i64 0, .int .i64 0, .string ⟨#[]⟩] 52))
 have HWB : Hid (Below w.heap.size w ((w.alloc (.cells #[.int .i64 5, .int .i64 ch, .int .i64 ct, .int .i64 cn, .int .i64 cc, .slice pl clb.length cl, .slice pg cgr.length cg, .string ⟨cx.toArray⟩] 40)).alloc (.cells #[.int .i64 0, .int .i64 0, .string ⟨#[]⟩] 52))) := hid ((Qe w _).alloc (by simp) _)
 have hin1 := Qdv kb (2 + t * 5) _ V[t] K.ths[t] cc cn _ (HA.out.tat t h1 h2) hl
 have HC := hid hin1
 clear hin1
 generalize (levelL K.ths[t] cc cn).1 = T at *
 generalize (levelL K.ths[t] cc cn).2 = R0 at *
 clear h
 go_enter Try.func13, Try.ntmps13
 go_wp2_with (first
  | (go_at_call 17; refine (Qz kb t _ h4).mono ?_; rintro e w1 ⟨rfl, rfl⟩)
  | (go_at_call 37; refine HC.out.mono ?_; rintro e w5 ⟨rfl, v2, ht2, hs⟩; have HK1 := hid (HA.out.step h1 h2 ht2 hs); have HS1 := hid (KStep.of h1 hs); have HX1 := hid (Qai HS1.out HA.out HBX.out (by decide) (by decide) (by decide) (by decide)); clear ht2 hs)
  | (go_at_call 32; refine (QB _ _).mono ?_; rintro e w2 ⟨rfl, hw2⟩; obtain ⟨G2, V2, hk2, hs2⟩ : ∃ G2 V2, KerAt w2 kb G2 V2 { K with ths := K.ths.set t T } ∧ KStep kb _ _ V w2 G2 V2 := ⟨_, _, HK1.out.below hw2, HS1.out.trans (KStep.below hw2)⟩; have hx2' := Qc HX1.out hw2; obtain ⟨c0, c1, c2, f0, f1, f2⟩ := cells3 hx2'; have HX2 := hid hx2'; have HK2 := hid hk2; have HS2 := hid hs2; clear hx2' hk2 hs2 hw2))
 have hin : w.heap.size + 1 ∈ G2 := HS2.out.more.1 _ (by simp)
 have hg := Qv w2 (w.heap.size + 1) (.int .i64 R0) (.int .i64 0) (.string ⟨#[]⟩)
 exact bodyPost_ret (results_cell_row rfl _ _ (w.heap.size + 1) 52 _ (0, 0) _ rfl (QA (.int .i64 R0) (.int .i64 0) (.string ⟨#[]⟩) HX2.out) Try.underlying52 rfl (by kernel_rfl)) rfl ⟨rfl, G2, V2, HK2.out.boxed hg hin HX2.out (by decide) (by decide) (by decide) (by decide), (HS.out.trans HS2.out).boxed hg (by omega)⟩
set_option maxRecDepth 100000 in
set_option maxHeartbeats 3200000 in
theorem Qfp (kb t : Nat) (F : List Nat) (V : List ThrV) (K : Ker) (c : Cal) (vc : Value) (w : World) (h : KerAt w kb F V K) (h1 : t < V.length) (hc : CalAt w vc c) (hx : c.text.length ≤ 64) (n1 : c.kind ≠ 1) (n2 : c.kind ≠ 2) (n3 : c.kind ≠ 3) (n4 : c.kind ≠ 4) (n5 : c.kind ≠ 5) (n7 : c.kind ≠ 7) (n9 : c.kind ≠ 9) (n10 : c.kind ≠ 10) :
 Calls Try.prog 13 #[.pointer (some ⟨kb, 0, none⟩), .int .i64 t, vc] w fun e w' => e = .returned (repV (code 3)) ∧ ∃ G V', KerAt w' kb G V' K ∧ KStep kb w F V w' G V' := by
 obtain ⟨vl, vg, rfl, hlab, hgra⟩ := hc
 obtain ⟨pl, cl, rfl, _⟩ := id hlab
 obtain ⟨pg, cg, rfl, _⟩ := id hgra
 unfold calV
 obtain ⟨ck, ch, ct, cn, cc, clb, cgr, cx⟩ := c
 simp only at hx hlab hgra ⊢
 have h4 : t < 4 := by rw [← h.len]; exact h1
 have hx2 : ¬ ((64 : Int) < (cx.length : Int)) := by omega
 have HA := hid ((h.reserve (.cells #[.int .i64 ck, .int .i64 ch, .int .i64 ct, .int .i64 cn, .int .i64 cc, .slice pl clb.length cl, .slice pg cgr.length cg, .string ⟨cx.toArray⟩] 40)).reserve (.cells #[.int .i64 0, .int .i64 0, .string ⟨#[]⟩] 52))
 have HS := hid ((KStep.reserve kb w F V (.cells #[.int .i64 ck, .int .i64 ch, .int .i64 ct, .int .i64 cn, .int .i64 cc, .slice pl clb.length cl, .slice pg cgr.length cg, .string ⟨cx.toArray⟩] 40)).trans (KStep.reserve kb _ _ V (.cells #[.int .i64 0, .int .i64 0, .string ⟨#[]⟩] 52)))
 have HBX := hid (heap_alloc2_new w (.cells #[.int .i64 ck, .int .i64 ch, .int .i64 ct, .int .i64 cn, .int .i64 cc, .slice pl clb.length cl, .slice pg cgr.length cg, .string ⟨cx.toArray⟩] 40) (.cells #[.int .i64 0, .int .i64 0, .string ⟨#[]⟩] 52))
 have HWB : Hid (Below w.heap.size w ((w.alloc (.cells #[.int .i64 ck, .int .i64 ch, .int .i64 ct, .int .i64 cn, .int .i64 cc, .slice pl clb.length cl, .slice pg cgr.length cg, .string ⟨cx.toArray⟩] 40)).alloc (.cells #[.int .i64 0, .int .i64 0, .string ⟨#[]⟩] 52))) := hid ((Qe w _).alloc (by simp) _)
 simp only at n1 n2 n3 n4 n5 n7 n9 n10
 have HK1 := hid HA.out
 have HS1 := hid (KStep.refl kb ((w.alloc (.cells #[.int .i64 ck, .int .i64 ch, .int .i64 ct, .int .i64 cn, .int .i64 cc, .slice pl clb.length cl, .slice pg cgr.length cg, .string ⟨cx.toArray⟩] 40)).alloc (.cells #[.int .i64 0, .int .i64 0, .string ⟨#[]⟩] 52)) (F ++ [w.heap.size] ++ [(w.alloc (.cells #[.int .i64 ck, .int .i64 ch, .int .i64 ct, .int .i64 cn, .int .i64 cc, .slice pl clb.length cl, .slice pg cgr.length cg, .string ⟨cx.toArray⟩] 40)).heap.size]) V)
 have HX1 := hid HBX.out
 clear h
 go_enter Try.func13, Try.ntmps13
 go_wp2_with (first
  | (go_at_call 17; refine (Qz kb t _ h4).mono ?_; rintro e w1 ⟨rfl, rfl⟩)
  | (go_at_call 32; refine (QB _ _).mono ?_; rintro e w2 ⟨rfl, hw2⟩; obtain ⟨G2, V2, hk2, hs2⟩ : ∃ G2 V2, KerAt w2 kb G2 V2 K ∧ KStep kb _ _ V w2 G2 V2 := ⟨_, _, HK1.out.below hw2, HS1.out.trans (KStep.below hw2)⟩; have hx2' := Qc HX1.out hw2; obtain ⟨c0, c1, c2, f0, f1, f2⟩ := cells3 hx2'; have HX2 := hid hx2'; have HK2 := hid hk2; have HS2 := hid hs2; clear hx2' hk2 hs2 hw2))
 have hin : w.heap.size + 1 ∈ G2 := HS2.out.more.1 _ (by simp)
 have hg := Qv w2 (w.heap.size + 1) (.int .i64 3) (.int .i64 0) (.string ⟨#[]⟩)
 exact bodyPost_ret (results_cell_row rfl _ _ (w.heap.size + 1) 52 _ (0, 0) _ rfl (QA (.int .i64 3) (.int .i64 0) (.string ⟨#[]⟩) HX2.out) Try.underlying52 rfl (by kernel_rfl)) rfl ⟨rfl, G2, V2, HK2.out.boxed hg hin HX2.out (by decide) (by decide) (by decide) (by decide), (HS.out.trans HS2.out).boxed hg (by omega)⟩
set_option maxRecDepth 100000 in
set_option maxHeartbeats 3200000 in
theorem Qgb (kb t : Nat) (F : List Nat) (V : List ThrV) (K : Ker) (c : Cal) (vc : Value) (w : World) (h : KerAt w kb F V K) (h1 : t < V.length) (hc : CalAt w vc c) (hx : 64 < c.text.length) :
 Calls Try.prog 13 #[.pointer (some ⟨kb, 0, none⟩), .int .i64 t, vc] w fun e w' => e = .returned (repV (code 9)) ∧ ∃ G V', KerAt w' kb G V' K ∧ KStep kb w F V w' G V' := by
 obtain ⟨vl, vg, rfl, hlab, hgra⟩ := hc
 obtain ⟨pl, cl, rfl, _⟩ := id hlab
 obtain ⟨pg, cg, rfl, _⟩ := id hgra
 unfold calV
 obtain ⟨ck, ch, ct, cn, cc, clb, cgr, cx⟩ := c
 simp only at hx hlab hgra ⊢
 have h4 : t < 4 := by rw [← h.len]; exact h1
 have hx2 : (64 : Int) < (cx.length : Int) := by omega
 have HA := hid ((h.reserve (.cells #[.int .i64 ck, .int .i64 ch, .int .i64 ct, .int .i64 cn, .int .i64 cc, .slice pl clb.length cl, .slice pg cgr.length cg, .string ⟨cx.toArray⟩] 40)).reserve (.cells #[.int .i64 0, .int .i64 0, .string ⟨#[]⟩] 52))
 have HS := hid ((KStep.reserve kb w F V (.cells #[.int .i64 ck, .int .i64 ch, .int .i64 ct, .int .i64 cn, .int .i64 cc, .slice pl clb.length cl, .slice pg cgr.length cg, .string ⟨cx.toArray⟩] 40)).trans (KStep.reserve kb _ _ V (.cells #[.int .i64 0, .int .i64 0, .string ⟨#[]⟩] 52)))
 have HBX := hid (heap_alloc2_new w (.cells #[.int .i64 ck, .int .i64 ch, .int .i64 ct, .int .i64 cn, .int .i64 cc, .slice pl clb.length cl, .slice pg cgr.length cg, .string ⟨cx.toArray⟩] 40) (.cells #[.int .i64 0, .int .i64 0, .string ⟨#[]⟩] 52))
 have HWB : Hid (Below w.heap.size w ((w.alloc (.cells #[.int .i64 ck, .int .i64 ch, .int .i64 ct, .int .i64 cn, .int .i64 cc, .slice pl clb.length cl, .slice pg cgr.length cg, .string ⟨cx.toArray⟩] 40)).alloc (.cells #[.int .i64 0, .int .i64 0, .string ⟨#[]⟩] 52))) := hid ((Qe w _).alloc (by simp) _)
 have HK1 := hid HA.out
 have HS1 := hid (KStep.refl kb ((w.alloc (.cells #[.int .i64 ck, .int .i64 ch, .int .i64 ct, .int .i64 cn, .int .i64 cc, .slice pl clb.length cl, .slice pg cgr.length cg, .string ⟨cx.toArray⟩] 40)).alloc (.cells #[.int .i64 0, .int .i64 0, .string ⟨#[]⟩] 52)) (F ++ [w.heap.size] ++ [(w.alloc (.cells #[.int .i64 ck, .int .i64 ch, .int .i64 ct, .int .i64 cn, .int .i64 cc, .slice pl clb.length cl, .slice pg cgr.length cg, .string ⟨cx.toArray⟩] 40)).heap.size]) V)
 have HX1 := hid HBX.out
 clear h
 go_enter Try.func13, Try.ntmps13
 go_wp2_with (first
  | (go_at_call 17; refine (Qz kb t _ h4).mono ?_; rintro e w1 ⟨rfl, rfl⟩)
  | (go_at_call 32; refine (QB _ _).mono ?_; rintro e w2 ⟨rfl, hw2⟩; obtain ⟨G2, V2, hk2, hs2⟩ : ∃ G2 V2, KerAt w2 kb G2 V2 K ∧ KStep kb _ _ V w2 G2 V2 := ⟨_, _, HK1.out.below hw2, HS1.out.trans (KStep.below hw2)⟩; have hx2' := Qc HX1.out hw2; obtain ⟨c0, c1, c2, f0, f1, f2⟩ := cells3 hx2'; have HX2 := hid hx2'; have HK2 := hid hk2; have HS2 := hid hs2; clear hx2' hk2 hs2 hw2))
 have hin : w.heap.size + 1 ∈ G2 := HS2.out.more.1 _ (by simp)
 have hg := Qv w2 (w.heap.size + 1) (.int .i64 9) (.int .i64 0) (.string ⟨#[]⟩)
 exact bodyPost_ret (results_cell_row rfl _ _ (w.heap.size + 1) 52 _ (0, 0) _ rfl (QA (.int .i64 9) (.int .i64 0) (.string ⟨#[]⟩) HX2.out) Try.underlying52 rfl (by kernel_rfl)) rfl ⟨rfl, G2, V2, HK2.out.boxed hg hin HX2.out (by decide) (by decide) (by decide) (by decide), (HS.out.trans HS2.out).boxed hg (by omega)⟩
set_option maxRecDepth 100000 in
set_option maxHeartbeats 3200000 in
theorem QgH (kb : Nat) (t : Int) (F : List Nat) (V : List ThrV) (K : Ker) (c : Cal) (vc : Value) (w : World) (h : KerAt w kb F V K) (h4 : ¬ (0 ≤ t ∧ t < 4)) (hc : CalAt w vc c) :
 Calls Try.prog 13 #[.pointer (some ⟨kb, 0, none⟩), .int .i64 t, vc] w fun e w' => e = .returned (repV (code 4)) ∧ ∃ G V', KerAt w' kb G V' K ∧ KStep kb w F V w' G V' := by
 obtain ⟨vl, vg, rfl, hlab, hgra⟩ := hc
 obtain ⟨pl, cl, rfl, _⟩ := id hlab
 obtain ⟨pg, cg, rfl, _⟩ := id hgra
 unfold calV
 obtain ⟨ck, ch, ct, cn, cc, clb, cgr, cx⟩ := c
 simp only at hlab hgra ⊢
 have HA := hid ((h.reserve (.cells #[.int .i64 ck, .int .i64 ch, .int .i64 ct, .int .i64 cn, .int .i64 cc, .slice pl clb.length cl, .slice pg cgr.length cg, .string ⟨cx.toArray⟩] 40)).reserve (.cells #[.int .i64 0, .int .i64 0, .string ⟨#[]⟩] 52))
 have HS := hid ((KStep.reserve kb w F V (.cells #[.int .i64 ck, .int .i64 ch, .int .i64 ct, .int .i64 cn, .int .i64 cc, .slice pl clb.length cl, .slice pg cgr.length cg, .string ⟨cx.toArray⟩] 40)).trans (KStep.reserve kb _ _ V (.cells #[.int .i64 0, .int .i64 0, .string ⟨#[]⟩] 52)))
 have HBX := hid (heap_alloc2_new w (.cells #[.int .i64 ck, .int .i64 ch, .int .i64 ct, .int .i64 cn, .int .i64 cc, .slice pl clb.length cl, .slice pg cgr.length cg, .string ⟨cx.toArray⟩] 40) (.cells #[.int .i64 0, .int .i64 0, .string ⟨#[]⟩] 52))
 have HWB : Hid (Below w.heap.size w ((w.alloc (.cells #[.int .i64 ck, .int .i64 ch, .int .i64 ct, .int .i64 cn, .int .i64 cc, .slice pl clb.length cl, .slice pg cgr.length cg, .string ⟨cx.toArray⟩] 40)).alloc (.cells #[.int .i64 0, .int .i64 0, .string ⟨#[]⟩] 52))) := hid ((Qe w _).alloc (by simp) _)
 have HK1 := hid HA.out
 have HS1 := hid (KStep.refl kb ((w.alloc (.cells #[.int .i64 ck, .int .i64 ch, .int .i64 ct, .int .i64 cn, .int .i64 cc, .slice pl clb.length cl, .slice pg cgr.length cg, .string ⟨cx.toArray⟩] 40)).alloc (.cells #[.int .i64 0, .int .i64 0, .string ⟨#[]⟩] 52)) (F ++ [w.heap.size] ++ [(w.alloc (.cells #[.int .i64 ck, .int .i64 ch, .int .i64 ct, .int .i64 cn, .int .i64 cc, .slice pl clb.length cl, .slice pg cgr.length cg, .string ⟨cx.toArray⟩] 40)).heap.size]) V)
 have HX1 := hid HBX.out
 clear h
 go_enter Try.func13, Try.ntmps13
 go_wp2_with (first
  | (go_at_call 17; refine (QaE kb t _ h4).mono ?_; rintro e w1 ⟨rfl, rfl⟩)
  | (go_at_call 32; refine (QB _ _).mono ?_; rintro e w2 ⟨rfl, hw2⟩; obtain ⟨G2, V2, hk2, hs2⟩ : ∃ G2 V2, KerAt w2 kb G2 V2 K ∧ KStep kb _ _ V w2 G2 V2 := ⟨_, _, HK1.out.below hw2, HS1.out.trans (KStep.below hw2)⟩; have hx2' := Qc HX1.out hw2; obtain ⟨c0, c1, c2, f0, f1, f2⟩ := cells3 hx2'; have HX2 := hid hx2'; have HK2 := hid hk2; have HS2 := hid hs2; clear hx2' hk2 hs2 hw2))
 have hin : w.heap.size + 1 ∈ G2 := HS2.out.more.1 _ (by simp)
 have hg := Qv w2 (w.heap.size + 1) (.int .i64 4) (.int .i64 0) (.string ⟨#[]⟩)
 exact bodyPost_ret (results_cell_row rfl _ _ (w.heap.size + 1) 52 _ (0, 0) _ rfl (QA (.int .i64 4) (.int .i64 0) (.string ⟨#[]⟩) HX2.out) Try.underlying52 rfl (by kernel_rfl)) rfl ⟨rfl, G2, V2, HK2.out.boxed hg hin HX2.out (by decide) (by decide) (by decide) (by decide), (HS.out.trans HS2.out).boxed hg (by omega)⟩
set_option maxRecDepth 100000 in
set_option maxHeartbeats 3200000 in
theorem QgG (kb t : Nat) (F : List Nat) (V : List ThrV) (K : Ker) (c : Cal) (vc : Value) (w : World) (h : KerAt w kb F V K) (h1 : t < V.length) (h2 : t < K.ths.length) (hc : CalAt w vc c) (hk : c.kind = 10) (hx : c.text.length ≤ 64) :
 Calls Try.prog 13 #[.pointer (some ⟨kb, 0, none⟩), .int .i64 t, vc] w fun e w' => e = .returned (repV (⟨0, 0, K.ths[t].text⟩)) ∧ ∃ G V', KerAt w' kb G V' K ∧ KStep kb w F V w' G V' := by
 obtain ⟨vl, vg, rfl, hlab, hgra⟩ := hc
 obtain ⟨pl, cl, rfl, _⟩ := id hlab
 obtain ⟨pg, cg, rfl, _⟩ := id hgra
 unfold calV
 obtain ⟨ck, ch, ct, cn, cc, clb, cgr, cx⟩ := c
 simp only at hk hx hlab hgra ⊢
 subst hk
 have h4 : t < 4 := by rw [← h.len]; exact h1
 have hx2 : ¬ ((64 : Int) < (cx.length : Int)) := by omega
 have HA := hid ((h.reserve (.cells #[.int .i64 10, .int .i64 ch, .int .i64 ct, .int .i64 cn, .int .i64 cc, .slice pl clb.length cl, .slice pg cgr.length cg, .string ⟨cx.toArray⟩] 40)).reserve (.cells #[.int .i64 0, .int .i64 0, .string ⟨#[]⟩] 52))
 have HBX := hid (heap_alloc2_new w (.cells #[.int .i64 10, .int .i64 ch, .int .i64 ct, .int .i64 cn, .int .i64 cc, .slice pl clb.length cl, .slice pg cgr.length cg, .string ⟨cx.toArray⟩] 40) (.cells #[.int .i64 0, .int .i64 0, .string ⟨#[]⟩] 52))
 obtain ⟨t0, t1, t2, t3, t4⟩ := (HA.out.tat t h1 h2).cells
 obtain ⟨c0, c1, c2, f0, f1, f2⟩ := cells3 HBX.out
 have HH := hid h
 clear h
 go_enter Try.func13, Try.ntmps13
 go_wp2_with (go_at_call 17; refine (Qz kb t _ h4).mono ?_; rintro e w1 ⟨rfl, rfl⟩)
 exact bodyPost_ret (results_cell_row rfl _ _ (w.heap.size + 1) 52 _ (0, 0) _ rfl (heap_alloc2_new w _ _) Try.underlying52 rfl (by kernel_rfl)) rfl ⟨rfl, _, V, HH.out.below ((Qe w _).alloc (by simp) _), KStep.below ((Qe w _).alloc (by simp) _)⟩
set_option maxRecDepth 100000 in
set_option maxHeartbeats 3200000 in
theorem Qex (kb t : Nat) (F : List Nat) (V : List ThrV) (K : Ker) (c : Cal) (vc : Value) (w : World) (h : KerAt w kb F V K) (h1 : t < V.length) (h2 : t < K.ths.length) (hc : CalAt w vc c) (hk : c.kind = 9) (hx : c.text.length ≤ 64) :
 Calls Try.prog 13 #[.pointer (some ⟨kb, 0, none⟩), .int .i64 t, vc] w fun e w' => e = .returned (repV (code 0)) ∧ ∃ G V', KerAt w' kb G V' { K with ths := K.ths.set t { K.ths[t] with text := lastL c.text } } ∧ KStep kb w F V w' G V' := by
 obtain ⟨vl, vg, rfl, hlab, hgra⟩ := hc
 obtain ⟨pl, cl, rfl, _⟩ := id hlab
 obtain ⟨pg, cg, rfl, _⟩ := id hgra
 unfold calV
 obtain ⟨ck, ch, ct, cn, cc, clb, cgr, cx⟩ := c
 simp only at hk hx hlab hgra ⊢
 subst hk
 have h4 : t < 4 := by rw [← h.len]; exact h1
 have hx2 : ¬ ((64 : Int) < (cx.length : Int)) := by omega
 have HA := hid ((h.reserve (.cells #[.int .i64 9, .int .i64 ch, .int .i64 ct, .int .i64 cn, .int .i64 cc, .slice pl clb.length cl, .slice pg cgr.length cg, .string ⟨cx.toArray⟩] 40)).reserve (.cells #[.int .i64 0, .int .i64 0, .string ⟨#[]⟩] 52))
 have HS := hid ((KStep.reserve kb w F V (.cells #[.int .i64 9, .int .i64 ch, .int .i64 ct, .int .i64 cn, .int .i64 cc, .slice pl clb.length cl, .slice pg cgr.length cg, .string ⟨cx.toArray⟩] 40)).trans (KStep.reserve kb _ _ V (.cells #[.int .i64 0, .int .i64 0, .string ⟨#[]⟩] 52)))
 have HBX := hid (heap_alloc2_new w (.cells #[.int .i64 9, .int .i64 ch, .int .i64 ct, .int .i64 cn, .int .i64 cc, .slice pl clb.length cl, .slice pg cgr.length cg, .string ⟨cx.toArray⟩] 40) (.cells #[.int .i64 0, .int .i64 0, .string ⟨#[]⟩] 52))
 clear h
 go_enter Try.func13, Try.ntmps13
 go_wp2_with (first
  | (go_at_call 17; refine (Qz kb t _ h4).mono ?_; rintro e w1 ⟨rfl, rfl⟩)
  | (go_at_call 18; refine (QaO cx _ (by omega)).mono ?_; rintro e w5 ⟨rfl, hw5⟩; have hk5 := HA.out.below hw5; have ht5 := hk5.tat t h1 h2; obtain ⟨_, _, d2, _, _⟩ := ht5.cells; have f2 := ht5.frozen (2 + t * 5 + 2); have hst := ht5.text (lastL cx); have HK1 := hid (hk5.step h1 h2 hst.1 hst.2); have HS1 := hid ((KStep.below hw5).trans (KStep.of h1 hst.2)); have HX1 := hid (Qai HS1.out HA.out HBX.out (by decide) (by decide) (by decide) (by decide)); clear hk5 ht5 hst hw5)
  | (go_at_call 32; refine (QB _ _).mono ?_; rintro e w2 ⟨rfl, hw2⟩; obtain ⟨G2, V2, hk2, hs2⟩ : ∃ G2 V2, KerAt w2 kb G2 V2 { K with ths := K.ths.set t { K.ths[t] with text := lastL cx } } ∧ KStep kb _ _ V w2 G2 V2 := ⟨_, _, HK1.out.below hw2, HS1.out.trans (KStep.below hw2)⟩; have hx2' := Qc HX1.out hw2; obtain ⟨c0, c1, c2, f0, f1, f2⟩ := cells3 hx2'; have HX2 := hid hx2'; have HK2 := hid hk2; have HS2 := hid hs2; clear hx2' hk2 hs2 hw2))
 have hin : w.heap.size + 1 ∈ G2 := HS2.out.more.1 _ (by simp)
 have hg := Qv w2 (w.heap.size + 1) (.int .i64 0) (.int .i64 0) (.string ⟨#[]⟩)
 exact bodyPost_ret (results_cell_row rfl _ _ (w.heap.size + 1) 52 _ (0, 0) _ rfl (QA (.int .i64 0) (.int .i64 0) (.string ⟨#[]⟩) HX2.out) Try.underlying52 rfl (by kernel_rfl)) rfl ⟨rfl, G2, V2, HK2.out.boxed hg hin HX2.out (by decide) (by decide) (by decide) (by decide), (HS.out.trans HS2.out).boxed hg (by omega)⟩
theorem Qdm {m : Mal} (h : mailE m = 0) : MailFit m := by
 unfold mailE at h
 split at h
 · rename_i g
   split at h
   · simp only [Bool.and_eq_true] at g
     have g1 := of_decide_eq_true g.1.1.1
     have g2 := of_decide_eq_true g.1.1.2
     exact ⟨g1, g2, by assumption⟩
   · cases h
 · cases h
theorem Qap {K : Ker} {t n : Int} {o : Obt} (h : objAt K t n = some o) : ∃ u i : Nat, t = u ∧ n = i ∧ ∃ (hu : u < K.ths.length) (hi : i < K.ths[u].objs.length), K.ths[u].objs[i] = o := by
 unfold objAt at h
 split at h
 · cases h
 · rename_i th hth
   obtain ⟨u, rfl, hu, rfl⟩ := Q5 hth
   split at h
   · rename_i h0
     obtain ⟨hi, e⟩ := List.getElem?_eq_some_iff.1 h
     exact ⟨u, n.toNat, rfl, by omega, hu, hi, e⟩
   · cases h
theorem QgJ (kb : Nat) (t : Int) (F : List Nat) (V : List ThrV) (K : Ker) (c : Cal) (vc : Value) (w : World) (h : KerAt w kb F V K) (hg : GoodK K) (hc : CalAt w vc c) :
 Calls Try.prog 13 #[.pointer (some ⟨kb, 0, none⟩), .int .i64 t, vc] w fun e w' => e = .returned (repV (callL K t c).2) ∧ ∃ G V', KerAt w' kb G V' (callL K t c).1 ∧ KStep kb w F V w' G V' := by
 have hV : V.length = 4 := h.len
 cases hth : getT K t with
 | none =>
  have e : callL K t c = (K, code 4) := by unfold callL; rw [hth]
  rw [e]
  exact QgH kb t F V K c vc w h (QaB hg.four hth) hc
 | some th =>
  obtain ⟨n, rfl, hn, rfl⟩ := Q5 hth
  have e : callL K n c = callT K n K.ths[n] c := by unfold callL; rw [hth]
  rw [e]
  have h1 : n < V.length := by rw [hV]; have := hg.four; omega
  have gt := hg.ths _ (List.getElem_mem hn)
  have hown : K.ths[n].own.length ≤ 1000 := Nat.le_trans gt.own (by decide)
  have htext : K.ths[n].text.length ≤ 1000 := Nat.le_trans gt.text (by decide)
  unfold callT
  by_cases hx : 64 < c.text.length
  · rw [if_pos hx]
    exact Qgb kb n F V K c vc w h h1 hc hx
  rw [if_neg hx]
  have hx64 : c.text.length ≤ 64 := by omega
  have hx1000 : c.text.length ≤ 1000 := by omega
  by_cases k1 : c.kind = 1
  · rw [if_pos k1]
    exact Qc1 kb n F V K c vc w h h1 hn hc k1 hx64 gt.sorted gt.own hg.host hg.made
  rw [if_neg k1]
  by_cases k2 : c.kind = 2
  · rw [if_pos k2, QC]
    exact Qew kb n F V K c vc w h h1 hn hc k2 hx64 hown (Nat.le_trans gt.objs (by decide))
  rw [if_neg k2]
  by_cases k3 : c.kind = 3
  · rw [if_pos k3]
    cases ho : objAt K c.t c.n with
    | none =>
     have e3 : putL K K.ths[n] c = K := by unfold putL; rw [ho]; cases getT K c.t <;> rfl
     rw [e3]
     exact Qcx kb n F V K c vc w h h1 hc k3 hx64 K (code 0) (fun w1 F1 vc1 g1 g2 => Qgm kb n F1 V K c vc1 w1 g1 g2 ho)
    | some o =>
     obtain ⟨u, i, hct, hcn, hu, hi, rfl⟩ := Qap ho
     have u1 : u < V.length := by rw [hV]; have := hg.four; omega
     have e3 : putL K K.ths[n] c = if flowsL K.ths[n].label K.ths[u].objs[i].label K.ths[n].own then { K with ths := K.ths.set u (putO K.ths[u] i (lastL (K.ths[n].text ++ c.text))) } else K := by
      unfold putL
      rw [ho, hct, Qa4 hu]
      simp only [QC, hcn]
     rw [e3]
     cases hf : flowsL K.ths[n].label K.ths[u].objs[i].label K.ths[n].own with
     | false => exact Qcx kb n F V K c vc w h h1 hc k3 hx64 K (code 0) (fun w1 F1 vc1 g1 g2 => QgU kb n u i F1 V K c vc1 w1 g1 h1 hn u1 hu hown hi hct hcn hx1000 g2 hf)
     | true => exact Qcx kb n F V K c vc w h h1 hc k3 hx64 _ (code 0) (fun w1 F1 vc1 g1 g2 => QgT kb n u i F1 V K c vc1 w1 g1 h1 hn u1 hu hown hi hct hcn hx1000 g2 hf htext)
  rw [if_neg k3]
  by_cases k4 : c.kind = 4
  · rw [if_pos k4]
    cases ho : objAt K c.t c.n with
    | none =>
     have e4 : getL K n K.ths[n] c = (K, code 4) := by unfold getL; rw [ho]
     rw [e4]
     exact Qcy kb n F V K c vc w h h1 hc k4 hx64 K (code 4) (fun w1 F1 vc1 g1 g2 => QgA kb n F1 V K c vc1 w1 g1 g2 ho)
    | some o =>
     obtain ⟨u, i, hct, hcn, hu, hi, rfl⟩ := Qap ho
     have u1 : u < V.length := by rw [hV]; have := hg.four; omega
     have hot : K.ths[u].objs[i].text.length ≤ 1000 := Nat.le_trans ((hg.ths _ (List.getElem_mem hu)).obj _ (List.getElem_mem hi)).1 (by decide)
     have e4 : getL K n K.ths[n] c = if flowsL K.ths[u].objs[i].label K.ths[n].label K.ths[n].own then ({ K with ths := K.ths.set n { K.ths[n] with text := lastL (K.ths[n].text ++ K.ths[u].objs[i].text) } }, ⟨0, (K.ths[u].objs[i].text.length : Int), []⟩) else (K, code 4) := by
      unfold getL
      rw [ho]
      simp only [QC]
     rw [e4]
     cases hf : flowsL K.ths[u].objs[i].label K.ths[n].label K.ths[n].own with
     | false => exact Qcy kb n F V K c vc w h h1 hc k4 hx64 K (code 4) (fun w1 F1 vc1 g1 g2 => QgZ kb n u i F1 V K c vc1 w1 g1 h1 hn u1 hu hown hi hct hcn hx1000 g2 hf)
     | true => exact Qcy kb n F V K c vc w h h1 hc k4 hx64 _ _ (fun w1 F1 vc1 g1 g2 => QgY kb n u i F1 V K c vc1 w1 g1 h1 hn u1 hu hown hi hct hcn hx1000 g2 hf htext hot)
  rw [if_neg k4]
  by_cases k5 : c.kind = 5
  · rw [if_pos k5, QC]
    exact Qfq kb n F V K c vc w h h1 hn hc k5 hx64 hown
  rw [if_neg k5]
  by_cases k7 : c.kind = 7
  · rw [if_pos k7, QC]
    exact Qga kb n F V K c vc w h h1 hn hc k7 hx64 gt.sorted gt.own htext (fun m hm => Qdm (gt.mail m hm)) (Nat.le_trans gt.mails (by decide))
  rw [if_neg k7]
  by_cases k9 : c.kind = 9
  · rw [if_pos k9, QC]
    exact Qex kb n F V K c vc w h h1 hn hc k9 hx64
  rw [if_neg k9]
  by_cases k10 : c.kind = 10
  · rw [if_pos k10]
    exact QgG kb n F V K c vc w h h1 hn hc k10 hx64
  rw [if_neg k10]
  exact Qfp kb n F V K c vc w h h1 hc hx64 k1 k2 k3 k4 k5 k7 k9 k10
theorem Qar {w : World} (ob : Obj) {a : Addr} {v : Value} (h : w.cell? a = some v) : (w.alloc ob).cell? a = some v := by
 rw [(Qe w ob).cell (Qb h), h]
theorem box5k {w w' : World} {a b c d e : Value} {t : TypeId} (h : Below (w.alloc (.cells #[a, b, c, d, e] t)).heap.size (w.alloc (.cells #[a, b, c, d, e] t)) w') :
 w'.cell? ⟨w.heap.size, 0, none⟩ = some a ∧ w'.cell? ⟨w.heap.size, 1, none⟩ = some b ∧ w'.cell? ⟨w.heap.size, 2, none⟩ = some c ∧ w'.cell? ⟨w.heap.size, 3, none⟩ = some d ∧ w'.cell? ⟨w.heap.size, 4, none⟩ = some e :=
 ⟨QW h (by simp) 0, QW h (by simp) 1, QW h (by simp) 2, QW h (by simp) 3, QW h (by simp) 4⟩
theorem QdP {th : Thr} {m : Mal} (h : mailE m ≠ 0) : boxL th m = th := by unfold boxL; rw [if_neg (fun g => h g.1)]
theorem QdO {th : Thr} {m : Mal} (h : flowsL m.label th.label th.own = false) : boxL th m = th := by unfold boxL; rw [if_neg (fun g => by rw [h] at g; cases g.2.1)]
theorem Qdj {th : Thr} {m : Mal} (h : 6 ≤ th.mails.length) : boxL th m = th := by unfold boxL; rw [if_neg (fun g => by omega)]
theorem Q1 {K : Ker} {t : Nat} (h : t < K.ths.length) : { K with ths := K.ths.set t K.ths[t] } = K := by rw [List.set_getElem_self]
set_option maxRecDepth 100000 in
set_option maxHeartbeats 3200000 in
theorem Qet (kb t : Nat) (F : List Nat) (V : List ThrV) (K : Ker) (m : Mal) (vm : Value) (w : World) (h : KerAt w kb F V K) (h1 : t < V.length) (h2 : t < K.ths.length) (hm : MalAt w vm m) (hl : K.ths[t].own.length ≤ 1000) (he : mailE m = 0) (hf : flowsL m.label K.ths[t].label K.ths[t].own = false) :
 Calls Try.prog 10 #[.pointer (some ⟨kb, 0, none⟩), .int .i64 t, vm] w fun e w' => e = .returned (.tuple #[]) ∧ Below w.heap.size w w' := by
 have h4 : t < 4 := by rw [← h.len]; exact h1
 have hT := h.tat t h1 h2
 obtain ⟨t0, t1, t2, t3, t4⟩ := hT.cells
 obtain ⟨ptl, ctl, hvl, _⟩ := id hT.thr.1.1
 obtain ⟨po, co, hvo⟩ := ownV hT.thr.2.1
 have hmal := fun wx (hb : Below w.heap.size w wx) => Qao vm m wx (hm.below hb)
 rw [he] at hmal
 have hm0 := hm
 obtain ⟨vl, vg, rfl, hla, hgr⟩ := hm
 have hfl := fun wx (hb : Below w.heap.size w wx) => QS _ _ _ m.label K.ths[t].label K.ths[t].own wx (hla.below hb) (hT.thr.1.1.below hb) ((QV hT.thr.2.1 hl).below hb)
 rw [hf, hvl, hvo] at hfl
 obtain ⟨pl, cl, rfl, _⟩ := id hla
 obtain ⟨pg, cg, rfl, _⟩ := id hgr
 rw [hvl] at t0
 rw [hvo] at t1
 have hkb := h.fin kb h.kbF
 have s0 := fun ob => Qar ob t0
 have s1 := fun ob => Qar ob t1
 unfold malV at hmal ⊢
 clear hT h hm0 hla hgr
 generalize K.ths[t] = th at *
 go_enter Try.func10, Try.ntmps10
 go_wp2_with (go_at_call 17; refine (Qz kb t _ h4).mono ?_; rintro e w1 ⟨rfl, rfl⟩)
 have HW0 := hid (Below.refl (w.alloc (.cells #[.int .i64 m.host, .int .i64 m.thread, .slice pl m.label.length cl, .slice pg m.grants.length cg, .string ⟨m.text.toArray⟩] 42)).heap.size (w.alloc (.cells #[.int .i64 m.host, .int .i64 m.thread, .slice pl m.label.length cl, .slice pg m.grants.length cg, .string ⟨m.text.toArray⟩] 42)))
 have HB0 := hid (Qe w (.cells #[.int .i64 m.host, .int .i64 m.thread, .slice pl m.label.length cl, .slice pg m.grants.length cg, .string ⟨m.text.toArray⟩] 42))
 have HT0 := hid t0
 have HT1 := hid t1
 go_region_held3 (fun w' => (w'.cell? ⟨w.heap.size, 0, none⟩ = some (.int .i64 m.host) ∧ w'.cell? ⟨w.heap.size, 1, none⟩ = some (.int .i64 m.thread) ∧ w'.cell? ⟨w.heap.size, 2, none⟩ = some (.slice pl m.label.length cl) ∧ w'.cell? ⟨w.heap.size, 3, none⟩ = some (.slice pg m.grants.length cg) ∧ w'.cell? ⟨w.heap.size, 4, none⟩ = some (.string ⟨m.text.toArray⟩)) ∧ w'.cell? ⟨kb, 2 + t * 5, none⟩ = some (.slice ptl th.label.length ctl) ∧ w'.cell? ⟨kb, 2 + t * 5 + 1, none⟩ = some (.slice po th.own.length co)) (go_keep)
  (first
   | (go_at_call 30; refine (hmal _ HB0.out.drew).mono ?_; rintro e w2 ⟨rfl, hwd⟩; have hw := kundrew hwd; have HW2 := hid (Qd HW0.out hw); have HB2 := hid (Qd HB0.out hw); obtain ⟨z0, z1, z2, z3, z4⟩ := box5k HW2.out; have u0 := HB2.out.cell (Qb HT0.out); rw [HT0.out] at u0; have u1 := HB2.out.cell (Qb HT1.out); rw [HT1.out] at u1; clear hw hwd)
   | (go_at_call 31; refine (hfl _ HB2.out).mono ?_; rintro e w3 ⟨rfl, hw⟩; have HW3 := hid (Qd HW2.out hw); have HB3 := hid (Qd HB2.out hw); obtain ⟨y0, y1, y2, y3, y4⟩ := box5k HW3.out; have v0 := HB3.out.cell (Qb HT0.out); rw [HT0.out] at v0; have v1 := HB3.out.cell (Qb HT1.out); rw [HT1.out] at v1; clear hw))
 all_goals
  go_wp2
  exact bodyPost_ret (results_none rfl _ _ _) rfl ⟨rfl, HB3.out⟩
set_option maxRecDepth 100000 in
set_option maxHeartbeats 3200000 in
theorem QdI (kb t : Nat) (F : List Nat) (V : List ThrV) (K : Ker) (m : Mal) (vm : Value) (w : World) (h : KerAt w kb F V K) (h1 : t < V.length) (h2 : t < K.ths.length) (hm : MalAt w vm m) (hl : K.ths[t].own.length ≤ 1000) (he : mailE m = 0) (hf : flowsL m.label K.ths[t].label K.ths[t].own = true) (hfull : 6 ≤ K.ths[t].mails.length) :
 Calls Try.prog 10 #[.pointer (some ⟨kb, 0, none⟩), .int .i64 t, vm] w fun e w' => e = .returned (.tuple #[]) ∧ Below w.heap.size w w' := by
 have h4 : t < 4 := by rw [← h.len]; exact h1
 have hT := h.tat t h1 h2
 obtain ⟨t0, t1, t2, t3, t4⟩ := hT.cells
 obtain ⟨ptl, ctl, hvl, _⟩ := id hT.thr.1.1
 obtain ⟨po, co, hvo⟩ := ownV hT.thr.2.1
 obtain ⟨_, _, hmr, _⟩ := hT.thr.2.2.2
 obtain ⟨pm, cm, hvm⟩ := Qi hmr
 have hmal := fun wx (hb : Below w.heap.size w wx) => Qao vm m wx (hm.below hb)
 rw [he] at hmal
 obtain ⟨vl, vg, rfl, hla, hgr⟩ := hm
 have hfl := fun wx (hb : Below w.heap.size w wx) => QS _ _ _ m.label K.ths[t].label K.ths[t].own wx (hla.below hb) (hT.thr.1.1.below hb) ((QV hT.thr.2.1 hl).below hb)
 rw [hf, hvl, hvo] at hfl
 obtain ⟨pl, cl, rfl, _⟩ := id hla
 obtain ⟨pg, cg, rfl, _⟩ := id hgr
 rw [hvl] at t0
 rw [hvo] at t1
 rw [hvm] at t4
 have hkb := h.fin kb h.kbF
 have s0 := fun ob => Qar ob t0
 have s1 := fun ob => Qar ob t1
 unfold malV at hmal ⊢
 clear hT h hla hgr hmr hvm
 generalize K.ths[t] = th at *
 have hfull2 : ¬ ((th.mails.length : Int) < 6) := by omega
 go_enter Try.func10, Try.ntmps10
 go_wp2_with (go_at_call 17; refine (Qz kb t _ h4).mono ?_; rintro e w1 ⟨rfl, rfl⟩)
 have HW0 := hid (Below.refl (w.alloc (.cells #[.int .i64 m.host, .int .i64 m.thread, .slice pl m.label.length cl, .slice pg m.grants.length cg, .string ⟨m.text.toArray⟩] 42)).heap.size (w.alloc (.cells #[.int .i64 m.host, .int .i64 m.thread, .slice pl m.label.length cl, .slice pg m.grants.length cg, .string ⟨m.text.toArray⟩] 42)))
 have HB0 := hid (Qe w (.cells #[.int .i64 m.host, .int .i64 m.thread, .slice pl m.label.length cl, .slice pg m.grants.length cg, .string ⟨m.text.toArray⟩] 42))
 have HT0 := hid t0
 have HT1 := hid t1
 have HT4 := hid t4
 go_region_held3 (fun w' => (w'.cell? ⟨w.heap.size, 0, none⟩ = some (.int .i64 m.host) ∧ w'.cell? ⟨w.heap.size, 1, none⟩ = some (.int .i64 m.thread) ∧ w'.cell? ⟨w.heap.size, 2, none⟩ = some (.slice pl m.label.length cl) ∧ w'.cell? ⟨w.heap.size, 3, none⟩ = some (.slice pg m.grants.length cg) ∧ w'.cell? ⟨w.heap.size, 4, none⟩ = some (.string ⟨m.text.toArray⟩)) ∧ w'.cell? ⟨kb, 2 + t * 5, none⟩ = some (.slice ptl th.label.length ctl) ∧ w'.cell? ⟨kb, 2 + t * 5 + 1, none⟩ = some (.slice po th.own.length co)) (go_keep)
  (first
   | (go_at_call 30; refine (hmal _ HB0.out.drew).mono ?_; rintro e w2 ⟨rfl, hwd⟩; have hw := kundrew hwd; have HW2 := hid (Qd HW0.out hw); have HB2 := hid (Qd HB0.out hw); obtain ⟨z0, z1, z2, z3, z4⟩ := box5k HW2.out; have u0 := HB2.out.cell (Qb HT0.out); rw [HT0.out] at u0; have u1 := HB2.out.cell (Qb HT1.out); rw [HT1.out] at u1; clear hw hwd)
   | (go_at_call 31; refine (hfl _ HB2.out).mono ?_; rintro e w3 ⟨rfl, hw⟩; have HW3 := hid (Qd HW2.out hw); have HB3 := hid (Qd HB2.out hw); obtain ⟨y0, y1, y2, y3, y4⟩ := box5k HW3.out; have v0 := HB3.out.cell (Qb HT0.out); rw [HT0.out] at v0; have v1 := HB3.out.cell (Qb HT1.out); rw [HT1.out] at v1; clear hw))
 all_goals
  have v4 := HB3.out.cell (Qb HT4.out)
  rw [HT4.out] at v4
  go_wp2
  go_end0
  exact ⟨rfl, HB3.out⟩
set_option maxRecDepth 100000 in
set_option maxHeartbeats 3200000 in
theorem Qeu (kb t : Nat) (m : Mal) (vm : Value) (w : World) (h4 : t < 4) (hm : MalAt w vm m) (he : mailE m ≠ 0) :
 Calls Try.prog 10 #[.pointer (some ⟨kb, 0, none⟩), .int .i64 t, vm] w fun e w' => e = .returned (.tuple #[]) ∧ Below w.heap.size w w' := by
 have hmal := fun wx (hb : Below w.heap.size w wx) => Qao vm m wx (hm.below hb)
 have hne : (mailE m != 0) = true := by simpa using he
 generalize mailE m = E at *
 obtain ⟨vl, vg, rfl, hla, hgr⟩ := hm
 obtain ⟨pl, cl, rfl, _⟩ := id hla
 obtain ⟨pg, cg, rfl, _⟩ := id hgr
 unfold malV at hmal ⊢
 clear hla hgr
 go_enter Try.func10, Try.ntmps10
 go_wp2_with (go_at_call 17; refine (Qz kb t _ h4).mono ?_; rintro e w1 ⟨rfl, rfl⟩)
 have HW0 := hid (Below.refl (w.alloc (.cells #[.int .i64 m.host, .int .i64 m.thread, .slice pl m.label.length cl, .slice pg m.grants.length cg, .string ⟨m.text.toArray⟩] 42)).heap.size (w.alloc (.cells #[.int .i64 m.host, .int .i64 m.thread, .slice pl m.label.length cl, .slice pg m.grants.length cg, .string ⟨m.text.toArray⟩] 42)))
 have HB0 := hid (Qe w (.cells #[.int .i64 m.host, .int .i64 m.thread, .slice pl m.label.length cl, .slice pg m.grants.length cg, .string ⟨m.text.toArray⟩] 42))
 obtain ⟨s0, s1, s2, s3, s4⟩ := box5k HW0.out
 refine wp_region_held_drew (S := (fun w' => w'.cell? ⟨w.heap.size, 0, none⟩ = some (.int .i64 m.host) ∧ w'.cell? ⟨w.heap.size, 1, none⟩ = some (.int .i64 m.thread) ∧ w'.cell? ⟨w.heap.size, 2, none⟩ = some (.slice pl m.label.length cl) ∧ w'.cell? ⟨w.heap.size, 3, none⟩ = some (.slice pg m.grants.length cg) ∧ w'.cell? ⟨w.heap.size, 4, none⟩ = some (.string ⟨m.text.toArray⟩))) (by kernel_rfl) ⟨s0, s1, s2, s3, s4⟩ (fun hHeld => ?_)
 refine takeD 0 10 ?v1 rfl (by kernel_rfl) (by kernel_rfl) (by kernel_rfl) (by kernel_rfl) (fun _ _ _ h => h) (Or.inl ⟨by rfl, ?hy1⟩) (by assumption) ?rest1
 case hy1 => intro wz hSw; (try dsimp only at hSw); go_simp; try with_reducible rfl
 simp only [Act.put, List.setIfInBounds_toArray, List.set_cons_zero, List.set_cons_succ]
 refine takeD 1 11 ?v2 rfl (by kernel_rfl) (by kernel_rfl) (by kernel_rfl) (by kernel_rfl) (fun _ _ _ h => h) (Or.inl ⟨by rfl, ?hy2⟩) (by assumption) ?rest2
 case hy2 => intro wz hSw; (try dsimp only at hSw); go_simp; try with_reducible rfl
 simp only [Act.put, List.setIfInBounds_toArray, List.set_cons_zero, List.set_cons_succ]
 refine takeD 2 12 ?v3 rfl (by kernel_rfl) (by kernel_rfl) (by kernel_rfl) (by kernel_rfl) (fun _ _ _ h => h) (Or.inl ⟨by rfl, ?hy3⟩) (by assumption) ?rest3
 case hy3 => intro wz hSw; (try dsimp only at hSw); go_simp; try with_reducible rfl
 simp only [Act.put, List.setIfInBounds_toArray, List.set_cons_zero, List.set_cons_succ]
 refine takeD 3 13 ?v4 rfl (by kernel_rfl) (by kernel_rfl) (by kernel_rfl) (by kernel_rfl) (fun _ _ _ h => h) (Or.inl ⟨by rfl, ?hy4⟩) (by assumption) ?rest4
 case hy4 => intro wz hSw; (try dsimp only at hSw); go_simp; try with_reducible rfl
 simp only [Act.put, List.setIfInBounds_toArray, List.set_cons_zero, List.set_cons_succ]
 refine wpAnyH_ready (rs := [4]) (by kernel_rfl) (by simp) ?_
 refine AllReadyH.cons rfl (fun K' hK => ?_) AllReadyH.nil
 go_simp
 go_wp2_with (go_at_call 30; refine (hmal _ HB0.out.drew).mono ?_; rintro e w2 ⟨rfl, hwd⟩; have hw := kundrew hwd; have HW2 := hid (Qd HW0.out hw); have HB2 := hid (Qd HB0.out hw); obtain ⟨z0, z1, z2, z3, z4⟩ := box5k HW2.out; clear hw hwd)
 refine hK.out _ _ ⟨z0, z1, z2, z3, z4⟩ (fun hHeld2 => ?_)
 clear hK K' hHeld
 refine takeD 5 15 ?v5 rfl (by kernel_rfl) (by kernel_rfl) (by kernel_rfl) (by kernel_rfl) (fun _ _ _ h => h) (Or.inl ⟨by rfl, ?hy5⟩) (by assumption) ?rest5
 case hy5 => intro wz hSw; (try dsimp only at hSw); go_simp; try with_reducible rfl
 simp only [Act.put, List.setIfInBounds_toArray, List.set_cons_zero, List.set_cons_succ]
 refine takeD 6 16 ?v6 rfl (by kernel_rfl) (by kernel_rfl) (by kernel_rfl) (by kernel_rfl) (fun _ _ _ h => h) (Or.inl ⟨by rfl, ?hy6⟩) (by assumption) ?rest6
 case hy6 => intro wz hSw; (try dsimp only at hSw); go_simp; try with_reducible rfl
 simp only [Act.put, List.setIfInBounds_toArray, List.set_cons_zero, List.set_cons_succ]
 refine takeD 7 17 ?v7 rfl (by kernel_rfl) (by kernel_rfl) (by kernel_rfl) (by kernel_rfl) (fun _ _ _ h => h) (Or.inl ⟨by rfl, ?hy7⟩) (by assumption) ?rest7
 case hy7 => intro wz hSw; (try dsimp only at hSw); go_simp; try with_reducible rfl
 simp only [Act.put, List.setIfInBounds_toArray, List.set_cons_zero, List.set_cons_succ]
 refine skipD 8 18 rfl (by kernel_rfl) (by kernel_rfl) (by kernel_rfl) (by kernel_rfl) (fun _ _ _ h => h) (by kernel_rfl) (by assumption) ?_
 simp only [Act.put, List.setIfInBounds_toArray, List.set_cons_zero, List.set_cons_succ]
 refine skipD 9 19 rfl (by kernel_rfl) (by kernel_rfl) (by kernel_rfl) (by kernel_rfl) (fun _ _ _ h => h) (by kernel_rfl) (by assumption) ?_
 simp only [Act.put, List.setIfInBounds_toArray, List.set_cons_zero, List.set_cons_succ]
 refine skipD 10 20 rfl (by kernel_rfl) (by kernel_rfl) (by kernel_rfl) (by kernel_rfl) (fun _ _ _ h => h) (by kernel_rfl) (by assumption) ?_
 simp only [Act.put, List.setIfInBounds_toArray, List.set_cons_zero, List.set_cons_succ]
 refine skipD 11 21 rfl (by kernel_rfl) (by kernel_rfl) (by kernel_rfl) (by kernel_rfl) (fun _ _ _ h => h) (by kernel_rfl) (by assumption) ?_
 simp only [Act.put, List.setIfInBounds_toArray, List.set_cons_zero, List.set_cons_succ]
 refine skipD 12 22 rfl (by kernel_rfl) (by kernel_rfl) (by kernel_rfl) (by kernel_rfl) (fun _ _ _ h => h) (by kernel_rfl) (by assumption) ?_
 simp only [Act.put, List.setIfInBounds_toArray, List.set_cons_zero, List.set_cons_succ]
 refine skipD 13 23 rfl (by kernel_rfl) (by kernel_rfl) (by kernel_rfl) (by kernel_rfl) (fun _ _ _ h => h) (by kernel_rfl) (by assumption) ?_
 simp only [Act.put, List.setIfInBounds_toArray, List.set_cons_zero, List.set_cons_succ]
 refine skipD 14 24 rfl (by kernel_rfl) (by kernel_rfl) (by kernel_rfl) (by kernel_rfl) (fun _ _ _ h => h) (by kernel_rfl) (by assumption) ?_
 simp only [Act.put, List.setIfInBounds_toArray, List.set_cons_zero, List.set_cons_succ]
 refine skipD 15 25 rfl (by kernel_rfl) (by kernel_rfl) (by kernel_rfl) (by kernel_rfl) (fun _ _ _ h => h) (by kernel_rfl) (by assumption) ?_
 simp only [Act.put, List.setIfInBounds_toArray, List.set_cons_zero, List.set_cons_succ]
 refine skipD 16 26 rfl (by kernel_rfl) (by kernel_rfl) (by kernel_rfl) (by kernel_rfl) (fun _ _ _ h => h) (by kernel_rfl) (by assumption) ?_
 simp only [Act.put, List.setIfInBounds_toArray, List.set_cons_zero, List.set_cons_succ]
 refine skipD 17 27 rfl (by kernel_rfl) (by kernel_rfl) (by kernel_rfl) (by kernel_rfl) (fun _ _ _ h => h) (by kernel_rfl) (by assumption) ?_
 simp only [Act.put, List.setIfInBounds_toArray, List.set_cons_zero, List.set_cons_succ]
 refine skipD 18 28 rfl (by kernel_rfl) (by kernel_rfl) (by kernel_rfl) (by kernel_rfl) (fun _ _ _ h => h) (by kernel_rfl) (by assumption) ?_
 simp only [Act.put, List.setIfInBounds_toArray, List.set_cons_zero, List.set_cons_succ]
 refine skipD 19 29 rfl (by kernel_rfl) (by kernel_rfl) (by kernel_rfl) (by kernel_rfl) (fun _ _ _ h => h) (by kernel_rfl) (by assumption) ?_
 simp only [Act.put, List.setIfInBounds_toArray, List.set_cons_zero, List.set_cons_succ]
 refine takeD 20 30 ?v8 rfl (by kernel_rfl) (by kernel_rfl) (by kernel_rfl) (by kernel_rfl) (fun _ _ _ h => h) (Or.inl ⟨by rfl, ?hy8⟩) (by assumption) ?rest8
 case hy8 => intro wz hSw; (try dsimp only at hSw); go_simp; try with_reducible rfl
 simp only [Act.put, List.setIfInBounds_toArray, List.set_cons_zero, List.set_cons_succ]
 refine wpAnyH_done (by kernel_rfl) ?_ _
 go_wp2
 exact bodyPost_ret (results_none rfl _ _ _) rfl ⟨rfl, HB2.out⟩
theorem QfE {w : World} {ops : Array Oper} {o : Oper} {a0 : Act} {K : Act → World → Prop} {Q : Exit → Act → World → Prop} {E : Prop} (hgd : o.guard = none) (s x : Operand)
 (ho : o.op = .call { callee := .builtin .append, args := #[s, x], argTypes := #[33, 33] }) (v : Value) (n : Nat) (xs : List Value) (hs : a0.eval s = v) (hown : w.ownsRow 0 42 5 v n xs)
 (g : Nat) (x1 x2 x3 x4 x5 : Value) (hx : a0.eval x = .slice (some ⟨g, 0, none⟩) 1 1) (hc : ∀ j u, [x1, x2, x3, x4, x5][j]? = some u → w.cell? ((⟨g, 0, none⟩ : Addr).add j) = some u) (h1 : ∀ u ∈ [x1, x2, x3, x4, x5], u.oneCell' = true) (hn : n ≤ 1000)
 (h : ∀ v' w', w'.ownsRow 0 42 5 v' (n + 1) (xs ++ [x1, x2, x3, x4, x5]) → w.grownBy w' v.ownBlock → (∀ k, v'.ownBlock = some k → v.ownBlock = some k ∨ w.heap.size ≤ k) → K (a0.put o.dst v') w') :
 if Region.wanted o (yielded ops a0.tmps) = true then Oper.wp Try.prog o a0 w K Q else E := by
 have hw : Region.wanted o (yielded ops a0.tmps) = true := by simp [Region.wanted, hgd]
 rw [if_pos hw]
 obtain ⟨i0, hi, hz0, hz1, hz2⟩ := info_parts Qbh
 obtain ⟨v', w', hr, k1, k2, k3⟩ := Qa0 (ty := o.type) (c := 1) Try.underlying33 hi hz0 hz1 hz2 rfl (by decide) hown (m := 1) (news := [x1, x2, x3, x4, x5]) rfl hc h1 (by unfold maxLen; omega) (by omega)
 unfold Oper.wp execOp
 simp only [ho, resolve, invoke, builtin, Sem.run_bind, Sem.run_pure, Result.andThen_ok, List.map_toArray, List.map_cons, List.map_nil, hs, hx, hr]
 exact h v' w' k1 k2 k3
theorem Qcl (args : Array Value) (w : World) : (callFunc 20 args).run Try.prog w = .ok (.enter 20 args) w := by kernel_rfl
theorem Qa8 {w : World} {ops : Array Oper} {o : Oper} {a0 : Act} {K : Act → World → Prop} {Q : Exit → Act → World → Prop} {E : Prop} (hgd : o.guard = none) (x : Operand) (ats : Array TypeId)
 (ho : o.op = .call { callee := .value (.func 20), args := #[x], argTypes := ats }) (v : Value) (m : Mal) (hx : a0.eval x = v) (hv : MalAt w v m) (hxl : m.text.length ≤ 64)
 (h : ∀ p6 c6 q6 d6 w', w'.ownsRow w.heap.size 86 2 (.slice p6 m.label.length c6) m.label.length (flat2 m.label) → w'.ownsRow w.heap.size 3 1 (.slice q6 m.grants.length d6) m.grants.length (flat1 m.grants) → Below w.heap.size w w' → K (a0.put o.dst (.agg #[.int .i64 m.host, .int .i64 m.thread, .slice p6 m.label.length c6, .slice q6 m.grants.length d6, .string ⟨m.text.toArray⟩])) w') :
 if Region.wanted o (yielded ops a0.tmps) = true then Oper.wp Try.prog o a0 w K Q else E := by
 have hw : Region.wanted o (yielded ops a0.tmps) = true := by simp [Region.wanted, hgd]
 rw [if_pos hw]
 unfold Oper.wp
 obtain ⟨dst, op, ty, pos, after, guard⟩ := o
 simp only at ho
 subst ho
 rw [execOp_call_go]
 have e : (#[] ++ #[x].map a0.eval ++ #[] : Array Value) = #[v] := by simp [hx]
 rw [e, Qcl, Oper.upon_enter]
 refine (QbG v m w hv (by omega)).mono ?_
 rintro e w' ⟨vl, vg, rfl, h1, h2, h3⟩
 obtain ⟨p6, c6, rfl⟩ := Qi h1
 obtain ⟨q6, d6, rfl⟩ := Qi h2
 have hx2 := h p6 c6 q6 d6 w' h1 h2 h3
 unfold malV
 rw [Qav hxl]
 exact hx2
theorem QeR {w w1 : World} {G : List Nat} {B : Nat} {v v7 u1 u2 : Value} {vs : List (Value × Value)} {ms : List Mal} {m : Mal} (h1 : vs.length = ms.length) (hold : w.ownsRow 0 42 5 v ms.length (flatM vs ms)) (h3 : ∀ j (g1 : j < vs.length) (g2 : j < ms.length), RoLab w G vs[j].1 ms[j].label ∧ RoInts w G vs[j].2 ms[j].grants)
 (hv : ∀ k, v.ownBlock = some k → k ∈ G) (hl : w.ownsRow B 86 2 u1 m.label.length (flat2 m.label)) (hi : w.ownsRow B 3 1 u2 m.grants.length (flat1 m.grants)) (hlen : m.label.length ≤ 8796093022208) (hlen2 : m.grants.length ≤ 17592186044416) (hB : ∀ k ∈ G, k < B)
 (hown : w1.ownsRow 0 42 5 v7 (ms.length + 1) (flatM vs ms ++ [.int .i64 m.host, .int .i64 m.thread, u1, u2, .string ⟨m.text.toArray⟩])) (hg : w.grownBy w1 v.ownBlock)
 (hwh : ∀ k, v7.ownBlock = some k → v.ownBlock = some k ∨ w.heap.size ≤ k) : MailsAt w1 (G ++ v7.ownBlock.toList) v7 (ms ++ [m]) := by
 have hk : KeptF v.ownBlock.toList w w1 := QD hg fun k e => .inl (by rw [e]; simp)
 have hm := Qau w G hv hwh
 have hl1 := Qdp hl hold (by decide) hg
 have hi1 := Qdp hi hold (by decide) hg
 refine ⟨vs ++ [(u1, u2)], by simp [h1], ?_, fun j g1 g2 => ?_⟩
 · rw [QcF vs ms h1, List.length_append]
   exact hown
 · by_cases hj : j < vs.length
   · rw [List.getElem_append_left hj, List.getElem_append_left (by omega)]
     have hh := h3 j hj (by omega)
     exact ⟨hh.1.keep (hk.sub fun k e => .inl (hv k (Qo e))) hm, hh.2.keep (hk.sub fun k e => .inl (hv k (Qo e))) hm⟩
   · have ej : j = vs.length := by simp at g1; omega
     subst ej
     rw [List.getElem_append_right (Nat.le_refl _), List.getElem_append_right (by omega)]
     simp only [h1, Nat.sub_self, List.getElem_cons_zero]
     refine ⟨⟨QY hl1 hlen, fun _ k e hF => ?_⟩, ⟨QX hi1 hlen2, fun _ k e hF => ?_⟩⟩
     · have hb := QE hl1 e
       rcases List.mem_append.1 hF with g | g
       · have := hB k g; omega
       · exact Qac hl1 hown (by decide) e (Qo g)
     · have hb := QE hi1 e
       rcases List.mem_append.1 hF with g | g
       · have := hB k g; omega
       · exact Qac hi1 hown (by decide) e (Qo g)
end Go.Proofs.Ytpdijobakfpnbaa
