/- kernel.takeMail. -/
import Derived.Test.YtpdijobakfpnbaaGreatJKPut
import Derived.Deep.LoopGhost
import Derived.Test.YtpdijobakfpnbaaGreatJKAns
import Derived.Test.YtpdijobakfpnbaaGreatJPlain
import Derived.Test.YtpdijobakfpnbaaGreatJMem
import Derived.Deep.RegionHeld3
import Derived.Test.YtpdijobakfpnbaaGreatJLClone
namespace Go.Proofs.YtpdijobakfpnbaaGreat
open Go.RowKit Go.Proofs.Parclose
theorem Qc6 {w : World} {F : List Nat} : ∀ (vs : List (Value × Value)) (ms : List Mal), vs.length = ms.length → (∀ j (h1 : j < vs.length) (h2 : j < ms.length), RoLab w F vs[j].1 ms[j].label ∧ RoInts w F vs[j].2 ms[j].grants) → ∀ u ∈ flatM vs ms, u.oneCell' = true
 | [], [], _, _, u, hu => by cases hu
 | [], _ :: _, h, _, _, _ => by simp at h
 | _ :: _, [], h, _, _, _ => by simp at h
 | x :: r, m :: t, h, hr, u, hu => by
  obtain ⟨⟨⟨p1, c1, e1, _⟩, _⟩, ⟨⟨p2, c2, e2, _⟩, _⟩⟩ := hr 0 (by simp) (by simp)
  have ih := Qc6 r t (by simpa using h) (fun j g1 g2 => hr (j + 1) (by simpa using g1) (by simpa using g2))
  have e : flatM (x :: r) (m :: t) = .int .i64 m.host :: .int .i64 m.thread :: x.1 :: x.2 :: .string ⟨m.text.toArray⟩ :: flatM r t := rfl
  rw [e] at hu
  simp only [List.getElem_cons_zero] at e1 e2
  simp only [List.mem_cons] at hu
  rcases hu with rfl | rfl | rfl | rfl | rfl | hu
  · rfl
  · rfl
  · rw [e1]; rfl
  · rw [e2]; rfl
  · rfl
  · exact ih u hu
theorem MailsAt.first {w : World} {F : List Nat} {v : Value} {m : Mal} {r : List Mal} (h : MailsAt w F v (m :: r)) : ∃ g cap ul ug us xs, v = .slice (some ⟨g, 0, none⟩) (r.length + 1) cap ∧ w.ownsRow 0 50 5 (.slice (some ⟨g, 0, none⟩) (r.length + 1) cap) (r.length + 1) xs ∧ xs = .int .i64 m.host :: .int .i64 m.thread :: ul :: ug :: .string ⟨m.text.toArray⟩ :: flatM us r ∧ us.length = r.length ∧ RoLab w F ul m.label ∧ RoInts w F ug m.grants ∧
 (∀ j (h1 : j < us.length) (h2 : j < r.length), RoLab w F us[j].1 r[j].label ∧ RoInts w F us[j].2 r[j].grants) ∧ (∀ u ∈ xs, u.oneCell' = true) ∧ w.cell? ⟨g, 0, none⟩ = some (.int .i64 m.host) ∧ w.cell? ⟨g, 1, none⟩ = some (.int .i64 m.thread) ∧ w.cell? ⟨g, 2, none⟩ = some ul ∧ w.cell? ⟨g, 3, none⟩ = some ug ∧ w.cell? ⟨g, 4, none⟩ = some (.string ⟨m.text.toArray⟩) := by
 obtain ⟨vs, h1, h2, h3⟩ := h
 cases vs with
 | nil => simp at h1
 | cons x us =>
  have hone := Qc6 (x :: us) (m :: r) h1 h3
  rcases h2.2 with ⟨_, hn⟩ | ⟨g, cap, cur, hv, _, hg, _⟩
  · simp at hn
  · subst hv
    have hc := World.ownsRow.cells h2 (g := g) rfl
    have c0 := hc 0 _ rfl
    have c1 := hc 1 _ rfl
    have c2 := hc 2 _ rfl
    have c3 := hc 3 _ rfl
    have c4 := hc 4 _ rfl
    rw [WideShapes.add_plain, Nat.zero_add] at c0 c1 c2 c3 c4
    have h0 := h3 0 (by simp) (by simp)
    exact ⟨g, cap, x.1, x.2, us, _, rfl, h2, rfl, by simpa using h1, h0.1, h0.2, fun j g1 g2 => h3 (j + 1) (by simpa using g1) (by simpa using g2), hone, c0, c1, c2, c3, c4⟩
theorem TAt.drop {w w2 : World} {kb o : Nat} {F : List Nat} {v : ThrV} {th : Thr} {r : List Mal} (h : TAt w kb o F v th) {g cap : Nat} {us : List (Value × Value)} (hv : v.vm = .slice (some ⟨g, 0, none⟩) (r.length + 1) cap) (hus : us.length = r.length)
 (hro : ∀ j (h1 : j < us.length) (h2 : j < r.length), RoLab w F us[j].1 r[j].label ∧ RoInts w F us[j].2 r[j].grants) (ho : w2.ownsRow 0 50 5 (.slice (some ⟨g, 0, none⟩) r.length cap) r.length (flatM us r)) (hg : w.grownBy w2 (some g)) :
 TAt (w2.setCell ⟨kb, o + 4, none⟩ (.slice (some ⟨g, 0, none⟩) r.length cap)) kb o (F ++ [g]) { v with vm := .slice (some ⟨g, 0, none⟩) r.length cap } { th with mails := r } ∧ TStep kb o w F v (w2.setCell ⟨kb, o + 4, none⟩ (.slice (some ⟨g, 0, none⟩) r.length cap)) (F ++ [g]) { v with vm := .slice (some ⟨g, 0, none⟩) r.length cap } := by
 have hgF : g ∈ F := h.rows g (mem_rows.2 (.inr (.inr (by rw [hv]; rfl))))
 have hm : More w F (F ++ [g]) := ⟨fun _ h => List.mem_append_left _ h, fun k hk => by
  rcases List.mem_append.1 hk with e | e
  · exact .inl e
  · simp at e; subst e; exact .inl hgF⟩
 have hk : KeptF F w w2 := QN hg fun k e => .inl (by cases e; exact hgF)
 exact h.mails (u := .slice (some ⟨g, 0, none⟩) r.length cap) (by rw [hv]; exact hg) ⟨us, hus, ho, fun j g1 g2 => ⟨(hro j g1 g2).1.keep hk hm, (hro j g1 g2).2.keep hk hm⟩⟩ (fun k hk => .inl (by rw [hv]; exact hk))
def MailFit (m : Mal) : Prop := (0 ≤ m.host ∧ m.host < 4) ∧ (0 ≤ m.thread ∧ m.thread < 4) ∧ m.text.length ≤ 64
set_option maxRecDepth 100000 in
set_option maxHeartbeats 3200000 in
theorem QhC (kb o : Nat) (F : List Nat) (v : ThrV) (th : Thr) (w : World) (h : TAt w kb o F v th) (hs : th.own.Pairwise (· < ·)) (hl : th.own.length ≤ 8) (hx : th.text.length ≤ 1000) (hms : ∀ m ∈ th.mails, MailFit m) (hml : th.mails.length ≤ 1000) :
 Calls Tryz.prog 96 #[.pointer (some ⟨kb, o, none⟩)] w fun e w' => e = .returned (repV (takeL th th.mails).2) ∧ ∃ G v', TAt w' kb o G v' (takeL th th.mails).1 ∧ TStep kb o w F v w' G v' := by
 have hkb := h.lt
 have hr := h.reserve (.cells #[.int .i64 0, .int .i64 0, .string ⟨#[]⟩] 31)
 have HR := hid hr
 have HBX := hid (Q6 w)
 clear hr h
 go_enter Tryz.func96, Tryz.ntmps96
 go_wp2
 go_loopg [3] th.mails.length (fun n _ wr => ∃ (G : List Nat) (v' : ThrV) (ms : List Mal), ms.length ≤ n ∧ takeL th th.mails = takeL th ms ∧ (∀ m ∈ ms, MailFit m) ∧ ms.length ≤ 1000 ∧ w.heap.size ∈ G ∧ wr.heap[w.heap.size]? = some (.cells #[.int .i64 0, .int .i64 0, .string ⟨#[]⟩] 31 (0, 0)) ∧ TAt wr kb o G v' { th with mails := ms } ∧ TStep kb o w F v wr G v')
 case atStart => exact ⟨_, _, th.mails, Nat.le_refl _, rfl, hms, hml, by simp, HBX.out, HR.out.1, HR.out.2⟩
 case round =>
  clear hms hml HR HBX
  obtain ⟨G, v', ms, hn, heq, hms, hml, hin, hbx, hT, hS⟩ := hrel
  have HEQ := hid heq
  have HIN := hid hin
  have HBX := hid hbx
  have HT := hid hT
  have HS := hid hS
  clear heq hin hbx hS
  obtain ⟨t0, t1, _, _, t4⟩ := hT.cells
  have tf := hT.frozen (o + 4)
  cases ms with
  | nil =>
   obtain ⟨_, _, m2, _⟩ := hT.thr.2.2.2
   obtain ⟨pm, cm, hvm⟩ := Qo m2
   rw [hvm] at t4
   clear hT m2
   go_wp2_with (go_at_call 90; refine (QL _ _).mono ?_; rintro e w2 ⟨rfl, hw2⟩; have HB2 := hid hw2; have hb2 := Qe HBX.out hw2; obtain ⟨c0, c1, c2, f0, f1, f2⟩ := cells3 hb2; have HX2 := hid hb2; clear hb2 hw2)
   obtain ⟨e1, e2, e3⟩ := QaT 4 0 [] HX2.out HIN.out (HT.out.below HB2.out) (HS.out.trans (TStep.below HB2.out)) hkb
   refine bodyPost_ret (results_cell_row rfl _ _ w.heap.size 31 _ (0, 0) _ rfl e1 Tryz.underlying31 rfl (by kernel_rfl)) rfl ⟨?_, ?_⟩
   · rw [HEQ.out]; rfl
   · rw [HEQ.out]; exact ⟨_, _, e2, e3⟩
  | cons m r =>
   obtain ⟨g, cap, ul, ug, us, xs, hvm, hown, hxs, hus, hrl, hrg, hro, hone, d0, d1, d2, d3, d4⟩ := hT.thr.2.2.2.first
   obtain ⟨pul, cul, hul, _⟩ := id hrl.1
   obtain ⟨pug, cug, hug, _⟩ := id hrg.1
   obtain ⟨ptl, ctl, hvl, _⟩ := id hT.thr.1.1
   obtain ⟨po, co, hvo⟩ := ownV hT.thr.2.1
   subst hul
   subst hug
   have hglt : g < wr.heap.size := Qf d0
   have hdel := Qix g r.length cap xs (wr.alloc (.cells #[.int .i64 m.host, .int .i64 m.thread, .slice pul m.label.length cul, .slice pug m.grants.length cug, .string ⟨m.text.toArray⟩] 50)) (Qk hown (Qd _ _)) (by simp at hml; omega) hone
   have hxd : xs.drop 5 = flatM us r := by rw [hxs]; rfl
   rw [hxd] at hdel
   rw [hvm] at t4
   have HDEL := hid hdel
   have HVM := hid hvm
   have HRO := hid hro
   have HUS := hid hus
   have HRL := hid hrl
   have HRG := hid hrg
   have HVL := hid hvl
   have HVO := hid hvo
   have hklt : kb < wr.heap.size := HT.out.lt
   clear hdel hvm hro hus hrl hrg hown hone hxs hxd hT hvl hvo
   go_wp2_with fail
   refine HDEL.out.mono ?_
   rintro e w2 ⟨rfl, hown2, hg2⟩
   have hTb := HT.out.below (Qd wr (.cells #[.int .i64 m.host, .int .i64 m.thread, .slice pul m.label.length cul, .slice pug m.grants.length cug, .string ⟨m.text.toArray⟩] 50))
   obtain ⟨z4, zf⟩ := hTb.after hg2 (fun k hk => mem_rows.2 (.inr (.inr (by rw [HVM.out]; exact hk)))) hTb.cells.2.2.2.2
   have hdr := hTb.drop HVM.out HUS.out (fun j g1 g2 => ⟨(HRO.out j g1 g2).1.keep (Qx _ (Qd _ _)) (More.refl _ _), (HRO.out j g1 g2).2.keep (Qx _ (Qd _ _)) (More.refl _ _)⟩) hown2 hg2
   have hkeep := (QN (F := G) hg2 fun k e => .inl (by cases e; exact HT.out.rows g (mem_rows.2 (.inr (.inr (by rw [HVM.out]; rfl))))))
   have hB1 : w2.heap[wr.heap.size]? = some (.cells #[.int .i64 m.host, .int .i64 m.thread, .slice pul m.label.length cul, .slice pug m.grants.length cug, .string ⟨m.text.toArray⟩] 50 (0, 0)) := by
    rw [hg2.block wr.heap.size (by simp) (fun e => by have := Option.some.inj e; omega)]
    exact heap_alloc_new wr _
   have hB3 := Qr hB1 (show wr.heap.size ≠ kb by omega) (o + 4) (.slice (some ⟨g, 0, none⟩) r.length cap)
   have hX3 := QaY hdr.2 hTb (Qe HBX.out (Qd _ _)) (by decide) (by decide) (by decide) (by decide)
   have hS3 := (HS.out.trans (TStep.below (Qd wr (.cells #[.int .i64 m.host, .int .i64 m.thread, .slice pul m.label.length cul, .slice pug m.grants.length cug, .string ⟨m.text.toArray⟩] 50)))).trans hdr.2
   have hks : KeptF G (wr.alloc (.cells #[.int .i64 m.host, .int .i64 m.thread, .slice pul m.label.length cul, .slice pug m.grants.length cug, .string ⟨m.text.toArray⟩] 50)) (w2.setCell ⟨kb, o + 4, none⟩ (.slice (some ⟨g, 0, none⟩) r.length cap)) := hdr.2.kept.sub fun k e => .inl (by
    rcases List.mem_cons.1 e with rfl | e
    · exact HT.out.kbF
    · exact HT.out.rows k e)
   have hrl3 := (HRL.out.keep (Qx G (Qd wr _)) (More.refl _ _)).keep hks hdr.2.more
   have hrg3 := (HRG.out.keep (Qx G (Qd wr _)) (More.refl _ _)).keep hks hdr.2.more
   have HNB : Hid (wr.heap.size ∉ kb :: rowsOf { v' with vm := .slice (some ⟨g, 0, none⟩) r.length cap }) := hid (fun e => by
    rcases List.mem_cons.1 e with e | e
    · omega
    · rcases mem_rows.1 e with e | e | e
      · have := HT.out.fin _ (HT.out.rows _ (mem_rows.2 (.inl e))); omega
      · have := HT.out.fin _ (HT.out.rows _ (mem_rows.2 (.inr (.inl e)))); omega
      · have e2 : g = wr.heap.size := Option.some.inj e
        omega)
   have hT3 := hdr.1
   obtain ⟨y0, y1, _, _, _⟩ := hT3.cells
   simp only [HVL.out, HVO.out] at y0 y1
   obtain ⟨⟨b0, b1, b2, b3, b4⟩, _⟩ := cells5 hB3
   have HT3 := hid hT3
   have HS3 := hid hS3
   have HX3 := hid hX3
   have HB3 := hid hB3
   have HRL3 := hid hrl3
   have HRG3 := hid hrg3
   clear hdr hkeep hB1 hB3 hX3 hS3 hks hrl3 hrg3 hT3 hTb hown2 t0 t1 t4 tf d0 d1 d2 d3 d4 HDEL
   go_wp2_with fail
   generalize w2.setCell ⟨kb, o + 4, none⟩ (.slice (some ⟨g, 0, none⟩) r.length cap) = w3 at *
   have hfl := fun wx (hb : Below w3.heap.size w3 wx) => Q4 _ _ _ _ _ _ wx (HRL3.out.1.below hb) (HT3.out.thr.1.1.below hb) ((Qag HT3.out.thr.2.1 (Nat.le_trans hl (by decide))).below hb)
   simp only [HVL.out, HVO.out] at hfl
   cases hf : flowsL m.label th.label th.own with
   | false =>
    rw [hf] at hfl
    have HE2 : Hid (takeL th th.mails = takeL th r) := hid (by rw [HEQ.out, takeL, hf]; rfl)
    go_region_held3 (fun w' => w'.cell? ⟨wr.heap.size, 2, none⟩ = some (.slice pul m.label.length cul) ∧ w'.cell? ⟨kb, o, none⟩ = some (.slice ptl th.label.length ctl) ∧ w'.cell? ⟨kb, o + 1, none⟩ = some (.slice po th.own.length co)) (go_keep)
     (first | (go_at_call 14; refine (hfl _ (Below.refl _ _).drew).mono ?_; rintro e w5 ⟨rfl, hw5d⟩; have hw5 := kundrew hw5d; have HB5 := hid hw5; have r0 := hw5.cell (Qf y0); rw [y0] at r0; have r1 := hw5.cell (Qf y1); rw [y1] at r1; have r2 := hw5.cell (Qf b2); rw [b2] at r2; clear hw5d hw5))
    all_goals
     go_wp2
     go_roundg r.length
     case measure => simp at hn; omega
     case rel => exact ⟨_, _, r, Nat.le_refl _, HE2.out, fun x hx => hms x (List.mem_cons_of_mem _ hx), by simp at hml; omega, List.mem_append_left _ HIN.out, Qe HX3.out HB5.out, HT3.out.below HB5.out, HS3.out.trans (TStep.below HB5.out)⟩
   | true =>
    rw [hf] at hfl
    have HE2 : Hid (takeL th th.mails = ({ readL th m with mails := r }, ⟨0, m.host * 4 + m.thread, []⟩)) := hid (by rw [HEQ.out, takeL, hf]; rfl)
    obtain ⟨⟨mh1, mh2⟩, ⟨mt1, mt2⟩, mx⟩ := hms m (by simp)
    have hw1 : wrap64 (m.host * 4) = m.host * 4 := by unfold wrap64; omega
    have hw2 : wrap64 (m.host * 4 + m.thread) = m.host * 4 + m.thread := by unfold wrap64; omega
    have hrd := fun wx (hb : Below w3.heap.size w3 wx) => Qfy kb o _ _ { th with mails := r } m (.slice pul m.label.length cul) (.slice pug m.grants.length cug) wx (HT3.out.below hb) hs hl (HRG3.out.keep (Qx _ hb) (More.refl _ _)) ⟨_, _, _, rfl⟩ (by show th.text.length + m.text.length < _; omega)
    have HRD := hid hrd
    clear hrd
    go_region_held3 (fun w' => w'.cell? ⟨wr.heap.size, 2, none⟩ = some (.slice pul m.label.length cul) ∧ w'.cell? ⟨kb, o, none⟩ = some (.slice ptl th.label.length ctl) ∧ w'.cell? ⟨kb, o + 1, none⟩ = some (.slice po th.own.length co)) (go_keep)
     (first | (go_at_call 14; refine (hfl _ (Below.refl _ _).drew).mono ?_; rintro e w5 ⟨rfl, hw5d⟩; have hw5 := kundrew hw5d; have HB5 := hid hw5; have r0 := hw5.cell (Qf y0); rw [y0] at r0; have r1 := hw5.cell (Qf y1); rw [y1] at r1; have r2 := hw5.cell (Qf b2); rw [b2] at r2; clear hw5d hw5))
    all_goals
     clear r0 r1 r2 y0 y1 b0 b1 b2 b3 b4 hfl
     have hB5 := Qe HB3.out HB5.out
     obtain ⟨⟨b0, b1, b2, b3, b4⟩, _⟩ := cells5 hB5
     have HX5 := hid (Qe HX3.out HB5.out)
     go_wp2_with fail
     refine (HRD.out _ HB5.out).mono ?_
     rintro e w6 ⟨rfl, G6, v6, hT6, hS6⟩
     have hB6 := hS6.kept.heap hB5 HNB.out
     obtain ⟨⟨x0, x1, _⟩, _⟩ := cells5 hB6
     have hX6 := QaY hS6 (HT3.out.below HB5.out) HX5.out (by decide) (by decide) (by decide) (by decide)
     obtain ⟨c0, c1, c2, f0, f1, f2⟩ := cells3 hX6
     obtain ⟨e1, e2, e3⟩ := QaT 0 (m.host * 4 + m.thread) [] hX6 (hS6.more.1 _ (List.mem_append_left _ HIN.out)) hT6 ((HS3.out.trans (TStep.below HB5.out)).trans hS6) hkb
     have E1 := hid e1
     have E2 := hid e2
     have E3 := hid e3
     clear e1 e2 e3 hX6 hB6 hT6 hS6 hB5 b0 b1 b2 b3 b4
     go_wp2
     refine bodyPost_ret (results_cell_row rfl _ _ w.heap.size 31 _ (0, 0) _ rfl E1.out Tryz.underlying31 rfl (by kernel_rfl)) rfl ⟨?_, ?_⟩
     · rw [HE2.out]; rfl
     · rw [HE2.out]; exact ⟨_, _, E2.out, E3.out⟩
set_option maxRecDepth 100000 in
set_option maxHeartbeats 3200000 in
theorem Qho (kb t : Nat) (F : List Nat) (V : List ThrV) (K : Ker) (c : Cal) (vc : Value) (w : World) (h : KerAt w kb F V K) (h1 : t < V.length) (h2 : t < K.ths.length) (hc : CalAt w vc c) (hk : c.kind = 2) (hx : c.text.length ≤ 64) (hl : K.ths[t].own.length ≤ 1000) (hob : K.ths[t].objs.length ≤ 1000) :
 Calls Tryz.prog 55 #[.pointer (some ⟨kb, 0, none⟩), .int .i64 t, vc] w fun e w' => e = .returned (repV (objectL K.ths[t] c.label).2) ∧ ∃ G V', KerAt w' kb G V' { K with ths := K.ths.set t (objectL K.ths[t] c.label).1 } ∧ KStep kb w F V w' G V' := by
 obtain ⟨vl, vg, rfl, hlab, hgra⟩ := hc
 obtain ⟨pl, cl, rfl, _⟩ := id hlab
 obtain ⟨pg, cg, rfl, _⟩ := id hgra
 unfold calV
 obtain ⟨ck, ch, ct, cn, cc, clb, cgr, cx⟩ := c
 simp only at hk hx hlab hgra ⊢
 subst hk
 have h4 : t < 4 := by rw [← h.len]; exact h1
 have hx2 : ¬ ((64 : Int) < (cx.length : Int)) := by omega
 have HA := hid ((h.reserve (.cells #[.int .i64 2, .int .i64 ch, .int .i64 ct, .int .i64 cn, .int .i64 cc, .slice pl clb.length cl, .slice pg cgr.length cg, .string ⟨cx.toArray⟩] 37)).reserve (.cells #[.int .i64 0, .int .i64 0, .string ⟨#[]⟩] 31))
 have HS := hid ((KStep.reserve kb w F V (.cells #[.int .i64 2, .int .i64 ch, .int .i64 ct, .int .i64 cn, .int .i64 cc, .slice pl clb.length cl, .slice pg cgr.length cg, .string ⟨cx.toArray⟩] 37)).trans (KStep.reserve kb _ _ V (.cells #[.int .i64 0, .int .i64 0, .string ⟨#[]⟩] 31)))
 have HBX := hid (heap_alloc2_new w (.cells #[.int .i64 2, .int .i64 ch, .int .i64 ct, .int .i64 cn, .int .i64 cc, .slice pl clb.length cl, .slice pg cgr.length cg, .string ⟨cx.toArray⟩] 37) (.cells #[.int .i64 0, .int .i64 0, .string ⟨#[]⟩] 31))
 have HWB : Hid (Below w.heap.size w ((w.alloc (.cells #[.int .i64 2, .int .i64 ch, .int .i64 ct, .int .i64 cn, .int .i64 cc, .slice pl clb.length cl, .slice pg cgr.length cg, .string ⟨cx.toArray⟩] 37)).alloc (.cells #[.int .i64 0, .int .i64 0, .string ⟨#[]⟩] 31))) := hid ((Qd w _).alloc (by simp) _)
 have hin1 := QeA kb (2 + t * 5) _ V[t] K.ths[t] (.slice pl clb.length cl) clb _ (HA.out.tat t h1 h2) hl hob (hlab.below HWB.out)
 have HC := hid hin1
 clear hin1
 generalize (objectL K.ths[t] clb).1 = T at *
 generalize (objectL K.ths[t] clb).2 = R at *
 clear h
 go_enter Tryz.func55, Tryz.ntmps55
 go_wp2_with (first
  | (go_at_call 59; refine (QJ kb t _ h4).mono ?_; rintro e w1 ⟨rfl, rfl⟩)
  | (go_at_call 92; refine HC.out.mono ?_; rintro e w2 ⟨rfl, G2, v2, ht2, hs⟩; have hk2 := HA.out.step h1 h2 ht2 hs; have hs2 := KStep.of h1 hs; have hx2' := QY hs2 HA.out HBX.out (by decide) (by decide) (by decide) (by decide); obtain ⟨c0, c1, c2, f0, f1, f2⟩ := cells3 hx2'; have HX2 := hid hx2'; have HK2 := hid hk2; have HS2 := hid hs2; clear hx2' hk2 hs2; generalize V.set t v2 = V2 at *; unfold repV))
 have hin : w.heap.size + 1 ∈ G2 := HS2.out.more.1 _ (by simp)
 have hg := QD w2 (w.heap.size + 1) (.int .i64 R.code) (.int .i64 R.n) (.string ⟨R.text.toArray⟩)
 exact bodyPost_ret (results_cell_row rfl _ _ (w.heap.size + 1) 31 _ (0, 0) _ rfl (QO (.int .i64 R.code) (.int .i64 R.n) (.string ⟨R.text.toArray⟩) HX2.out) Tryz.underlying31 rfl (by kernel_rfl)) rfl ⟨rfl, G2, V2, HK2.out.boxed hg hin HX2.out (by decide) (by decide) (by decide) (by decide), (HS.out.trans HS2.out).boxed hg (by omega)⟩
set_option maxRecDepth 100000 in
set_option maxHeartbeats 3200000 in
theorem QkR (kb t : Nat) (F : List Nat) (V : List ThrV) (K : Ker) (c : Cal) (vc : Value) (w : World) (h : KerAt w kb F V K) (h1 : t < V.length) (h2 : t < K.ths.length) (hc : CalAt w vc c) (hk : c.kind = 7) (hx : c.text.length ≤ 64) (hs : K.ths[t].own.Pairwise (· < ·)) (hl : K.ths[t].own.length ≤ 8) (hxt : K.ths[t].text.length ≤ 1000) (hms : ∀ m ∈ K.ths[t].mails, MailFit m) (hml : K.ths[t].mails.length ≤ 1000) :
 Calls Tryz.prog 55 #[.pointer (some ⟨kb, 0, none⟩), .int .i64 t, vc] w fun e w' => e = .returned (repV (takeL K.ths[t] K.ths[t].mails).2) ∧ ∃ G V', KerAt w' kb G V' { K with ths := K.ths.set t (takeL K.ths[t] K.ths[t].mails).1 } ∧ KStep kb w F V w' G V' := by
 obtain ⟨vl, vg, rfl, hlab, hgra⟩ := hc
 obtain ⟨pl, cl, rfl, _⟩ := id hlab
 obtain ⟨pg, cg, rfl, _⟩ := id hgra
 unfold calV
 obtain ⟨ck, ch, ct, cn, cc, clb, cgr, cx⟩ := c
 simp only at hk hx hlab hgra ⊢
 subst hk
 have h4 : t < 4 := by rw [← h.len]; exact h1
 have hx2 : ¬ ((64 : Int) < (cx.length : Int)) := by omega
 have HA := hid ((h.reserve (.cells #[.int .i64 7, .int .i64 ch, .int .i64 ct, .int .i64 cn, .int .i64 cc, .slice pl clb.length cl, .slice pg cgr.length cg, .string ⟨cx.toArray⟩] 37)).reserve (.cells #[.int .i64 0, .int .i64 0, .string ⟨#[]⟩] 31))
 have HS := hid ((KStep.reserve kb w F V (.cells #[.int .i64 7, .int .i64 ch, .int .i64 ct, .int .i64 cn, .int .i64 cc, .slice pl clb.length cl, .slice pg cgr.length cg, .string ⟨cx.toArray⟩] 37)).trans (KStep.reserve kb _ _ V (.cells #[.int .i64 0, .int .i64 0, .string ⟨#[]⟩] 31)))
 have HBX := hid (heap_alloc2_new w (.cells #[.int .i64 7, .int .i64 ch, .int .i64 ct, .int .i64 cn, .int .i64 cc, .slice pl clb.length cl, .slice pg cgr.length cg, .string ⟨cx.toArray⟩] 37) (.cells #[.int .i64 0, .int .i64 0, .string ⟨#[]⟩] 31))
 have HWB : Hid (Below w.heap.size w ((w.alloc (.cells #[.int .i64 7, .int .i64 ch, .int .i64 ct, .int .i64 cn, .int .i64 cc, .slice pl clb.length cl, .slice pg cgr.length cg, .string ⟨cx.toArray⟩] 37)).alloc (.cells #[.int .i64 0, .int .i64 0, .string ⟨#[]⟩] 31))) := hid ((Qd w _).alloc (by simp) _)
 have hin1 := QhC kb (2 + t * 5) _ V[t] K.ths[t] _ (HA.out.tat t h1 h2) hs hl hxt hms hml
 have HC := hid hin1
 clear hin1
 generalize (takeL K.ths[t] K.ths[t].mails).1 = T at *
 generalize (takeL K.ths[t] K.ths[t].mails).2 = R at *
 clear h
 go_enter Tryz.func55, Tryz.ntmps55
 go_wp2_with (first
  | (go_at_call 59; refine (QJ kb t _ h4).mono ?_; rintro e w1 ⟨rfl, rfl⟩)
  | (go_at_call 96; refine HC.out.mono ?_; rintro e w2 ⟨rfl, G2, v2, ht2, hs⟩; have hk2 := HA.out.step h1 h2 ht2 hs; have hs2 := KStep.of h1 hs; have hx2' := QY hs2 HA.out HBX.out (by decide) (by decide) (by decide) (by decide); obtain ⟨c0, c1, c2, f0, f1, f2⟩ := cells3 hx2'; have HX2 := hid hx2'; have HK2 := hid hk2; have HS2 := hid hs2; clear hx2' hk2 hs2; generalize V.set t v2 = V2 at *; unfold repV))
 have hin : w.heap.size + 1 ∈ G2 := HS2.out.more.1 _ (by simp)
 have hg := QD w2 (w.heap.size + 1) (.int .i64 R.code) (.int .i64 R.n) (.string ⟨R.text.toArray⟩)
 exact bodyPost_ret (results_cell_row rfl _ _ (w.heap.size + 1) 31 _ (0, 0) _ rfl (QO (.int .i64 R.code) (.int .i64 R.n) (.string ⟨R.text.toArray⟩) HX2.out) Tryz.underlying31 rfl (by kernel_rfl)) rfl ⟨rfl, G2, V2, HK2.out.boxed hg hin HX2.out (by decide) (by decide) (by decide) (by decide), (HS.out.trans HS2.out).boxed hg (by omega)⟩
set_option maxRecDepth 100000 in
set_option maxHeartbeats 3200000 in
theorem QeT (kb t : Nat) (F : List Nat) (V : List ThrV) (K : Ker) (c : Cal) (vc : Value) (w : World) (h : KerAt w kb F V K) (h1 : t < V.length) (h2 : t < K.ths.length) (hc : CalAt w vc c) (hk : c.kind = 1) (hx : c.text.length ≤ 64) (hs : K.ths[t].own.Pairwise (· < ·)) (hl : K.ths[t].own.length ≤ 8) (hh : 0 ≤ K.host ∧ K.host < 4) (hm : 0 ≤ K.made ∧ K.made ≤ 20) :
 Calls Tryz.prog 55 #[.pointer (some ⟨kb, 0, none⟩), .int .i64 t, vc] w fun e w' => e = .returned (repV (categoryL K t K.ths[t]).2) ∧ ∃ G V', KerAt w' kb G V' (categoryL K t K.ths[t]).1 ∧ KStep kb w F V w' G V' := by
 obtain ⟨vl, vg, rfl, hlab, hgra⟩ := hc
 obtain ⟨pl, cl, rfl, _⟩ := id hlab
 obtain ⟨pg, cg, rfl, _⟩ := id hgra
 unfold calV
 obtain ⟨ck, ch, ct, cn, cc, clb, cgr, cx⟩ := c
 simp only at hk hx hlab hgra ⊢
 subst hk
 have h4 : t < 4 := by rw [← h.len]; exact h1
 have hx2 : ¬ ((64 : Int) < (cx.length : Int)) := by omega
 have HA := hid ((h.reserve (.cells #[.int .i64 1, .int .i64 ch, .int .i64 ct, .int .i64 cn, .int .i64 cc, .slice pl clb.length cl, .slice pg cgr.length cg, .string ⟨cx.toArray⟩] 37)).reserve (.cells #[.int .i64 0, .int .i64 0, .string ⟨#[]⟩] 31))
 have HS := hid ((KStep.reserve kb w F V (.cells #[.int .i64 1, .int .i64 ch, .int .i64 ct, .int .i64 cn, .int .i64 cc, .slice pl clb.length cl, .slice pg cgr.length cg, .string ⟨cx.toArray⟩] 37)).trans (KStep.reserve kb _ _ V (.cells #[.int .i64 0, .int .i64 0, .string ⟨#[]⟩] 31)))
 have HBX := hid (heap_alloc2_new w (.cells #[.int .i64 1, .int .i64 ch, .int .i64 ct, .int .i64 cn, .int .i64 cc, .slice pl clb.length cl, .slice pg cgr.length cg, .string ⟨cx.toArray⟩] 37) (.cells #[.int .i64 0, .int .i64 0, .string ⟨#[]⟩] 31))
 have HWB : Hid (Below w.heap.size w ((w.alloc (.cells #[.int .i64 1, .int .i64 ch, .int .i64 ct, .int .i64 cn, .int .i64 cc, .slice pl clb.length cl, .slice pg cgr.length cg, .string ⟨cx.toArray⟩] 37)).alloc (.cells #[.int .i64 0, .int .i64 0, .string ⟨#[]⟩] 31))) := hid ((Qd w _).alloc (by simp) _)
 have hin1 := Qgx kb t _ V K _ HA.out h1 h2 hs hl hh hm
 have HC := hid hin1
 clear hin1
 generalize (categoryL K t K.ths[t]).1 = T at *
 generalize (categoryL K t K.ths[t]).2 = R at *
 clear h
 go_enter Tryz.func55, Tryz.ntmps55
 go_wp2_with (first
  | (go_at_call 59; refine (QJ kb t _ h4).mono ?_; rintro e w1 ⟨rfl, rfl⟩)
  | (go_at_call 91; refine HC.out.mono ?_; rintro e w2 ⟨rfl, G2, V2, hk2, hs2⟩; have hx2' := QY hs2 HA.out HBX.out (by decide) (by decide) (by decide) (by decide); obtain ⟨c0, c1, c2, f0, f1, f2⟩ := cells3 hx2'; have HX2 := hid hx2'; have HK2 := hid hk2; have HS2 := hid hs2; clear hx2' hk2 hs2; unfold repV))
 have hin : w.heap.size + 1 ∈ G2 := HS2.out.more.1 _ (by simp)
 have hg := QD w2 (w.heap.size + 1) (.int .i64 R.code) (.int .i64 R.n) (.string ⟨R.text.toArray⟩)
 exact bodyPost_ret (results_cell_row rfl _ _ (w.heap.size + 1) 31 _ (0, 0) _ rfl (QO (.int .i64 R.code) (.int .i64 R.n) (.string ⟨R.text.toArray⟩) HX2.out) Tryz.underlying31 rfl (by kernel_rfl)) rfl ⟨rfl, G2, V2, HK2.out.boxed hg hin HX2.out (by decide) (by decide) (by decide) (by decide), (HS.out.trans HS2.out).boxed hg (by omega)⟩
set_option maxRecDepth 100000 in
set_option maxHeartbeats 3200000 in
theorem QdY (kb t : Nat) (F : List Nat) (V : List ThrV) (K : Ker) (c : Cal) (vc : Value) (w : World) (h : KerAt w kb F V K) (h1 : t < V.length) (hc : CalAt w vc c) (hk : c.kind = 3) (hx : c.text.length ≤ 64) (K2 : Ker) (R : Rep) (HP : ∀ w1 F1 vc1, KerAt w1 kb F1 V K → CalAt w1 vc1 c → Calls Tryz.prog 93 #[.pointer (some ⟨kb, 0, none⟩), .pointer (some ⟨kb, 2 + t * 5, none⟩), vc1] w1 fun e w' => e = .returned (repV R) ∧ ∃ G, KerAt w' kb G V K2 ∧ KStep kb w1 F1 V w' G V) :
 Calls Tryz.prog 55 #[.pointer (some ⟨kb, 0, none⟩), .int .i64 t, vc] w fun e w' => e = .returned (repV R) ∧ ∃ G V', KerAt w' kb G V' K2 ∧ KStep kb w F V w' G V' := by
 obtain ⟨vl, vg, rfl, hlab, hgra⟩ := hc
 obtain ⟨pl, cl, rfl, _⟩ := id hlab
 obtain ⟨pg, cg, rfl, _⟩ := id hgra
 unfold calV
 obtain ⟨ck, ch, ct, cn, cc, clb, cgr, cx⟩ := c
 simp only at hk hx hlab hgra ⊢
 subst hk
 have h4 : t < 4 := by rw [← h.len]; exact h1
 have hx2 : ¬ ((64 : Int) < (cx.length : Int)) := by omega
 have HA := hid ((h.reserve (.cells #[.int .i64 3, .int .i64 ch, .int .i64 ct, .int .i64 cn, .int .i64 cc, .slice pl clb.length cl, .slice pg cgr.length cg, .string ⟨cx.toArray⟩] 37)).reserve (.cells #[.int .i64 0, .int .i64 0, .string ⟨#[]⟩] 31))
 have HS := hid ((KStep.reserve kb w F V (.cells #[.int .i64 3, .int .i64 ch, .int .i64 ct, .int .i64 cn, .int .i64 cc, .slice pl clb.length cl, .slice pg cgr.length cg, .string ⟨cx.toArray⟩] 37)).trans (KStep.reserve kb _ _ V (.cells #[.int .i64 0, .int .i64 0, .string ⟨#[]⟩] 31)))
 have HBX := hid (heap_alloc2_new w (.cells #[.int .i64 3, .int .i64 ch, .int .i64 ct, .int .i64 cn, .int .i64 cc, .slice pl clb.length cl, .slice pg cgr.length cg, .string ⟨cx.toArray⟩] 37) (.cells #[.int .i64 0, .int .i64 0, .string ⟨#[]⟩] 31))
 have HWB : Hid (Below w.heap.size w ((w.alloc (.cells #[.int .i64 3, .int .i64 ch, .int .i64 ct, .int .i64 cn, .int .i64 cc, .slice pl clb.length cl, .slice pg cgr.length cg, .string ⟨cx.toArray⟩] 37)).alloc (.cells #[.int .i64 0, .int .i64 0, .string ⟨#[]⟩] 31))) := hid ((Qd w _).alloc (by simp) _)
 have hin1 := HP _ _ _ HA.out ⟨_, _, rfl, hlab.below HWB.out, hgra.below HWB.out⟩
 have HC := hid hin1
 clear hin1 HP
 clear h
 go_enter Tryz.func55, Tryz.ntmps55
 go_wp2_with (first
  | (go_at_call 59; refine (QJ kb t _ h4).mono ?_; rintro e w1 ⟨rfl, rfl⟩)
  | (go_at_call 93; refine HC.out.mono ?_; rintro e w2 ⟨rfl, G2, hk2, hs2⟩; obtain ⟨V2, hk2, hs2⟩ : ∃ V2, KerAt w2 kb G2 V2 K2 ∧ KStep kb _ _ V w2 G2 V2 := ⟨V, hk2, hs2⟩; have hx2' := QY hs2 HA.out HBX.out (by decide) (by decide) (by decide) (by decide); obtain ⟨c0, c1, c2, f0, f1, f2⟩ := cells3 hx2'; have HX2 := hid hx2'; have HK2 := hid hk2; have HS2 := hid hs2; clear hx2' hk2 hs2; unfold repV))
 have hin : w.heap.size + 1 ∈ G2 := HS2.out.more.1 _ (by simp)
 have hg := QD w2 (w.heap.size + 1) (.int .i64 R.code) (.int .i64 R.n) (.string ⟨R.text.toArray⟩)
 exact bodyPost_ret (results_cell_row rfl _ _ (w.heap.size + 1) 31 _ (0, 0) _ rfl (QO (.int .i64 R.code) (.int .i64 R.n) (.string ⟨R.text.toArray⟩) HX2.out) Tryz.underlying31 rfl (by kernel_rfl)) rfl ⟨rfl, G2, V2, HK2.out.boxed hg hin HX2.out (by decide) (by decide) (by decide) (by decide), (HS.out.trans HS2.out).boxed hg (by omega)⟩
set_option maxRecDepth 100000 in
set_option maxHeartbeats 3200000 in
theorem QdZ (kb t : Nat) (F : List Nat) (V : List ThrV) (K : Ker) (c : Cal) (vc : Value) (w : World) (h : KerAt w kb F V K) (h1 : t < V.length) (hc : CalAt w vc c) (hk : c.kind = 4) (hx : c.text.length ≤ 64) (K2 : Ker) (R : Rep) (HP : ∀ w1 F1 vc1, KerAt w1 kb F1 V K → CalAt w1 vc1 c → Calls Tryz.prog 94 #[.pointer (some ⟨kb, 0, none⟩), .pointer (some ⟨kb, 2 + t * 5, none⟩), vc1] w1 fun e w' => e = .returned (repV R) ∧ ∃ G, KerAt w' kb G V K2 ∧ KStep kb w1 F1 V w' G V) :
 Calls Tryz.prog 55 #[.pointer (some ⟨kb, 0, none⟩), .int .i64 t, vc] w fun e w' => e = .returned (repV R) ∧ ∃ G V', KerAt w' kb G V' K2 ∧ KStep kb w F V w' G V' := by
 obtain ⟨vl, vg, rfl, hlab, hgra⟩ := hc
 obtain ⟨pl, cl, rfl, _⟩ := id hlab
 obtain ⟨pg, cg, rfl, _⟩ := id hgra
 unfold calV
 obtain ⟨ck, ch, ct, cn, cc, clb, cgr, cx⟩ := c
 simp only at hk hx hlab hgra ⊢
 subst hk
 have h4 : t < 4 := by rw [← h.len]; exact h1
 have hx2 : ¬ ((64 : Int) < (cx.length : Int)) := by omega
 have HA := hid ((h.reserve (.cells #[.int .i64 4, .int .i64 ch, .int .i64 ct, .int .i64 cn, .int .i64 cc, .slice pl clb.length cl, .slice pg cgr.length cg, .string ⟨cx.toArray⟩] 37)).reserve (.cells #[.int .i64 0, .int .i64 0, .string ⟨#[]⟩] 31))
 have HS := hid ((KStep.reserve kb w F V (.cells #[.int .i64 4, .int .i64 ch, .int .i64 ct, .int .i64 cn, .int .i64 cc, .slice pl clb.length cl, .slice pg cgr.length cg, .string ⟨cx.toArray⟩] 37)).trans (KStep.reserve kb _ _ V (.cells #[.int .i64 0, .int .i64 0, .string ⟨#[]⟩] 31)))
 have HBX := hid (heap_alloc2_new w (.cells #[.int .i64 4, .int .i64 ch, .int .i64 ct, .int .i64 cn, .int .i64 cc, .slice pl clb.length cl, .slice pg cgr.length cg, .string ⟨cx.toArray⟩] 37) (.cells #[.int .i64 0, .int .i64 0, .string ⟨#[]⟩] 31))
 have HWB : Hid (Below w.heap.size w ((w.alloc (.cells #[.int .i64 4, .int .i64 ch, .int .i64 ct, .int .i64 cn, .int .i64 cc, .slice pl clb.length cl, .slice pg cgr.length cg, .string ⟨cx.toArray⟩] 37)).alloc (.cells #[.int .i64 0, .int .i64 0, .string ⟨#[]⟩] 31))) := hid ((Qd w _).alloc (by simp) _)
 have hin1 := HP _ _ _ HA.out ⟨_, _, rfl, hlab.below HWB.out, hgra.below HWB.out⟩
 have HC := hid hin1
 clear hin1 HP
 clear h
 go_enter Tryz.func55, Tryz.ntmps55
 go_wp2_with (first
  | (go_at_call 59; refine (QJ kb t _ h4).mono ?_; rintro e w1 ⟨rfl, rfl⟩)
  | (go_at_call 94; refine HC.out.mono ?_; rintro e w2 ⟨rfl, G2, hk2, hs2⟩; obtain ⟨V2, hk2, hs2⟩ : ∃ V2, KerAt w2 kb G2 V2 K2 ∧ KStep kb _ _ V w2 G2 V2 := ⟨V, hk2, hs2⟩; have hx2' := QY hs2 HA.out HBX.out (by decide) (by decide) (by decide) (by decide); obtain ⟨c0, c1, c2, f0, f1, f2⟩ := cells3 hx2'; have HX2 := hid hx2'; have HK2 := hid hk2; have HS2 := hid hs2; clear hx2' hk2 hs2; unfold repV))
 have hin : w.heap.size + 1 ∈ G2 := HS2.out.more.1 _ (by simp)
 have hg := QD w2 (w.heap.size + 1) (.int .i64 R.code) (.int .i64 R.n) (.string ⟨R.text.toArray⟩)
 exact bodyPost_ret (results_cell_row rfl _ _ (w.heap.size + 1) 31 _ (0, 0) _ rfl (QO (.int .i64 R.code) (.int .i64 R.n) (.string ⟨R.text.toArray⟩) HX2.out) Tryz.underlying31 rfl (by kernel_rfl)) rfl ⟨rfl, G2, V2, HK2.out.boxed hg hin HX2.out (by decide) (by decide) (by decide) (by decide), (HS.out.trans HS2.out).boxed hg (by omega)⟩
set_option maxRecDepth 100000 in
set_option maxHeartbeats 3200000 in
theorem Qi4 (kb t : Nat) (F : List Nat) (V : List ThrV) (K : Ker) (c : Cal) (vc : Value) (w : World) (h : KerAt w kb F V K) (h1 : t < V.length) (h2 : t < K.ths.length) (hc : CalAt w vc c) (hk : c.kind = 5) (hx : c.text.length ≤ 64) (hl : K.ths[t].own.length ≤ 1000) :
 Calls Tryz.prog 55 #[.pointer (some ⟨kb, 0, none⟩), .int .i64 t, vc] w fun e w' => e = .returned (repV (code (levelL K.ths[t] c.c c.n).2)) ∧ ∃ G V', KerAt w' kb G V' { K with ths := K.ths.set t (levelL K.ths[t] c.c c.n).1 } ∧ KStep kb w F V w' G V' := by
 obtain ⟨vl, vg, rfl, hlab, hgra⟩ := hc
 obtain ⟨pl, cl, rfl, _⟩ := id hlab
 obtain ⟨pg, cg, rfl, _⟩ := id hgra
 unfold calV
 obtain ⟨ck, ch, ct, cn, cc, clb, cgr, cx⟩ := c
 simp only at hk hx hlab hgra ⊢
 subst hk
 have h4 : t < 4 := by rw [← h.len]; exact h1
 have hx2 : ¬ ((64 : Int) < (cx.length : Int)) := by omega
 have HA := hid ((h.reserve (.cells #[.int .i64 5, .int .i64 ch, .int .i64 ct, .int .i64 cn, .int .i64 cc, .slice pl clb.length cl, .slice pg cgr.length cg, .string ⟨cx.toArray⟩] 37)).reserve (.cells #[.int .i64 0, .int .i64 0, .string ⟨#[]⟩] 31))
 have HS := hid ((KStep.reserve kb w F V (.cells #[.int .i64 5, .int .i64 ch, .int .i64 ct, .int .i64 cn, .int .i64 cc, .slice pl clb.length cl, .slice pg cgr.length cg, .string ⟨cx.toArray⟩] 37)).trans (KStep.reserve kb _ _ V (.cells #[.int .i64 0, .int .i64 0, .string ⟨#[]⟩] 31)))
 have HBX := hid (heap_alloc2_new w (.cells #[.int .i64 5, .int .i64 ch, .int .i64 ct, .int .i64 cn, .int .i64 cc, .slice pl clb.length cl, .slice pg cgr.length cg, .string ⟨cx.toArray⟩] 37) (.cells #[.int .i64 0, .int .i64 0, .string ⟨#[]⟩] 31))
 have HWB : Hid (Below w.heap.size w ((w.alloc (.cells #[.int .i64 5, .int .i64 ch, .int .i64 ct, .int .i64 cn, .int .i64 cc, .slice pl clb.length cl, .slice pg cgr.length cg, .string ⟨cx.toArray⟩] 37)).alloc (.cells #[.int .i64 0, .int .i64 0, .string ⟨#[]⟩] 31))) := hid ((Qd w _).alloc (by simp) _)
 have hin1 := Qfx kb (2 + t * 5) _ V[t] K.ths[t] cc cn _ (HA.out.tat t h1 h2) hl
 have HC := hid hin1
 clear hin1
 generalize (levelL K.ths[t] cc cn).1 = T at *
 generalize (levelL K.ths[t] cc cn).2 = R0 at *
 clear h
 go_enter Tryz.func55, Tryz.ntmps55
 go_wp2_with (first
  | (go_at_call 59; refine (QJ kb t _ h4).mono ?_; rintro e w1 ⟨rfl, rfl⟩)
  | (go_at_call 95; refine HC.out.mono ?_; rintro e w5 ⟨rfl, v2, ht2, hs⟩; have HK1 := hid (HA.out.step h1 h2 ht2 hs); have HS1 := hid (KStep.of h1 hs); have HX1 := hid (QY HS1.out HA.out HBX.out (by decide) (by decide) (by decide) (by decide)); clear ht2 hs)
  | (go_at_call 90; refine (QL _ _).mono ?_; rintro e w2 ⟨rfl, hw2⟩; obtain ⟨G2, V2, hk2, hs2⟩ : ∃ G2 V2, KerAt w2 kb G2 V2 { K with ths := K.ths.set t T } ∧ KStep kb _ _ V w2 G2 V2 := ⟨_, _, HK1.out.below hw2, HS1.out.trans (KStep.below hw2)⟩; have hx2' := Qe HX1.out hw2; obtain ⟨c0, c1, c2, f0, f1, f2⟩ := cells3 hx2'; have HX2 := hid hx2'; have HK2 := hid hk2; have HS2 := hid hs2; clear hx2' hk2 hs2 hw2))
 have hin : w.heap.size + 1 ∈ G2 := HS2.out.more.1 _ (by simp)
 have hg := QD w2 (w.heap.size + 1) (.int .i64 R0) (.int .i64 0) (.string ⟨#[]⟩)
 exact bodyPost_ret (results_cell_row rfl _ _ (w.heap.size + 1) 31 _ (0, 0) _ rfl (QO (.int .i64 R0) (.int .i64 0) (.string ⟨#[]⟩) HX2.out) Tryz.underlying31 rfl (by kernel_rfl)) rfl ⟨rfl, G2, V2, HK2.out.boxed hg hin HX2.out (by decide) (by decide) (by decide) (by decide), (HS.out.trans HS2.out).boxed hg (by omega)⟩
set_option maxRecDepth 100000 in
set_option maxHeartbeats 3200000 in
theorem Qi3 (kb t : Nat) (F : List Nat) (V : List ThrV) (K : Ker) (c : Cal) (vc : Value) (w : World) (h : KerAt w kb F V K) (h1 : t < V.length) (hc : CalAt w vc c) (hx : c.text.length ≤ 64) (n1 : c.kind ≠ 1) (n2 : c.kind ≠ 2) (n3 : c.kind ≠ 3) (n4 : c.kind ≠ 4) (n5 : c.kind ≠ 5) (n7 : c.kind ≠ 7) (n9 : c.kind ≠ 9) (n10 : c.kind ≠ 10) :
 Calls Tryz.prog 55 #[.pointer (some ⟨kb, 0, none⟩), .int .i64 t, vc] w fun e w' => e = .returned (repV (code 3)) ∧ ∃ G V', KerAt w' kb G V' K ∧ KStep kb w F V w' G V' := by
 obtain ⟨vl, vg, rfl, hlab, hgra⟩ := hc
 obtain ⟨pl, cl, rfl, _⟩ := id hlab
 obtain ⟨pg, cg, rfl, _⟩ := id hgra
 unfold calV
 obtain ⟨ck, ch, ct, cn, cc, clb, cgr, cx⟩ := c
 simp only at hx hlab hgra ⊢
 have h4 : t < 4 := by rw [← h.len]; exact h1
 have hx2 : ¬ ((64 : Int) < (cx.length : Int)) := by omega
 have HA := hid ((h.reserve (.cells #[.int .i64 ck, .int .i64 ch, .int .i64 ct, .int .i64 cn, .int .i64 cc, .slice pl clb.length cl, .slice pg cgr.length cg, .string ⟨cx.toArray⟩] 37)).reserve (.cells #[.int .i64 0, .int .i64 0, .string ⟨#[]⟩] 31))
 have HS := hid ((KStep.reserve kb w F V (.cells #[.int .i64 ck, .int .i64 ch, .int .i64 ct, .int .i64 cn, .int .i64 cc, .slice pl clb.length cl, .slice pg cgr.length cg, .string ⟨cx.toArray⟩] 37)).trans (KStep.reserve kb _ _ V (.cells #[.int .i64 0, .int .i64 0, .string ⟨#[]⟩] 31)))
 have HBX := hid (heap_alloc2_new w (.cells #[.int .i64 ck, .int .i64 ch, .int .i64 ct, .int .i64 cn, .int .i64 cc, .slice pl clb.length cl, .slice pg cgr.length cg, .string ⟨cx.toArray⟩] 37) (.cells #[.int .i64 0, .int .i64 0, .string ⟨#[]⟩] 31))
 have HWB : Hid (Below w.heap.size w ((w.alloc (.cells #[.int .i64 ck, .int .i64 ch, .int .i64 ct, .int .i64 cn, .int .i64 cc, .slice pl clb.length cl, .slice pg cgr.length cg, .string ⟨cx.toArray⟩] 37)).alloc (.cells #[.int .i64 0, .int .i64 0, .string ⟨#[]⟩] 31))) := hid ((Qd w _).alloc (by simp) _)
 simp only at n1 n2 n3 n4 n5 n7 n9 n10
 have HK1 := hid HA.out
 have HS1 := hid (KStep.refl kb ((w.alloc (.cells #[.int .i64 ck, .int .i64 ch, .int .i64 ct, .int .i64 cn, .int .i64 cc, .slice pl clb.length cl, .slice pg cgr.length cg, .string ⟨cx.toArray⟩] 37)).alloc (.cells #[.int .i64 0, .int .i64 0, .string ⟨#[]⟩] 31)) (F ++ [w.heap.size] ++ [(w.alloc (.cells #[.int .i64 ck, .int .i64 ch, .int .i64 ct, .int .i64 cn, .int .i64 cc, .slice pl clb.length cl, .slice pg cgr.length cg, .string ⟨cx.toArray⟩] 37)).heap.size]) V)
 have HX1 := hid HBX.out
 clear h
 go_enter Tryz.func55, Tryz.ntmps55
 go_wp2_with (first
  | (go_at_call 59; refine (QJ kb t _ h4).mono ?_; rintro e w1 ⟨rfl, rfl⟩)
  | (go_at_call 90; refine (QL _ _).mono ?_; rintro e w2 ⟨rfl, hw2⟩; obtain ⟨G2, V2, hk2, hs2⟩ : ∃ G2 V2, KerAt w2 kb G2 V2 K ∧ KStep kb _ _ V w2 G2 V2 := ⟨_, _, HK1.out.below hw2, HS1.out.trans (KStep.below hw2)⟩; have hx2' := Qe HX1.out hw2; obtain ⟨c0, c1, c2, f0, f1, f2⟩ := cells3 hx2'; have HX2 := hid hx2'; have HK2 := hid hk2; have HS2 := hid hs2; clear hx2' hk2 hs2 hw2))
 have hin : w.heap.size + 1 ∈ G2 := HS2.out.more.1 _ (by simp)
 have hg := QD w2 (w.heap.size + 1) (.int .i64 3) (.int .i64 0) (.string ⟨#[]⟩)
 exact bodyPost_ret (results_cell_row rfl _ _ (w.heap.size + 1) 31 _ (0, 0) _ rfl (QO (.int .i64 3) (.int .i64 0) (.string ⟨#[]⟩) HX2.out) Tryz.underlying31 rfl (by kernel_rfl)) rfl ⟨rfl, G2, V2, HK2.out.boxed hg hin HX2.out (by decide) (by decide) (by decide) (by decide), (HS.out.trans HS2.out).boxed hg (by omega)⟩
set_option maxRecDepth 100000 in
set_option maxHeartbeats 3200000 in
theorem QkS (kb t : Nat) (F : List Nat) (V : List ThrV) (K : Ker) (c : Cal) (vc : Value) (w : World) (h : KerAt w kb F V K) (h1 : t < V.length) (hc : CalAt w vc c) (hx : 64 < c.text.length) :
 Calls Tryz.prog 55 #[.pointer (some ⟨kb, 0, none⟩), .int .i64 t, vc] w fun e w' => e = .returned (repV (code 9)) ∧ ∃ G V', KerAt w' kb G V' K ∧ KStep kb w F V w' G V' := by
 obtain ⟨vl, vg, rfl, hlab, hgra⟩ := hc
 obtain ⟨pl, cl, rfl, _⟩ := id hlab
 obtain ⟨pg, cg, rfl, _⟩ := id hgra
 unfold calV
 obtain ⟨ck, ch, ct, cn, cc, clb, cgr, cx⟩ := c
 simp only at hx hlab hgra ⊢
 have h4 : t < 4 := by rw [← h.len]; exact h1
 have hx2 : (64 : Int) < (cx.length : Int) := by omega
 have HA := hid ((h.reserve (.cells #[.int .i64 ck, .int .i64 ch, .int .i64 ct, .int .i64 cn, .int .i64 cc, .slice pl clb.length cl, .slice pg cgr.length cg, .string ⟨cx.toArray⟩] 37)).reserve (.cells #[.int .i64 0, .int .i64 0, .string ⟨#[]⟩] 31))
 have HS := hid ((KStep.reserve kb w F V (.cells #[.int .i64 ck, .int .i64 ch, .int .i64 ct, .int .i64 cn, .int .i64 cc, .slice pl clb.length cl, .slice pg cgr.length cg, .string ⟨cx.toArray⟩] 37)).trans (KStep.reserve kb _ _ V (.cells #[.int .i64 0, .int .i64 0, .string ⟨#[]⟩] 31)))
 have HBX := hid (heap_alloc2_new w (.cells #[.int .i64 ck, .int .i64 ch, .int .i64 ct, .int .i64 cn, .int .i64 cc, .slice pl clb.length cl, .slice pg cgr.length cg, .string ⟨cx.toArray⟩] 37) (.cells #[.int .i64 0, .int .i64 0, .string ⟨#[]⟩] 31))
 have HWB : Hid (Below w.heap.size w ((w.alloc (.cells #[.int .i64 ck, .int .i64 ch, .int .i64 ct, .int .i64 cn, .int .i64 cc, .slice pl clb.length cl, .slice pg cgr.length cg, .string ⟨cx.toArray⟩] 37)).alloc (.cells #[.int .i64 0, .int .i64 0, .string ⟨#[]⟩] 31))) := hid ((Qd w _).alloc (by simp) _)
 have HK1 := hid HA.out
 have HS1 := hid (KStep.refl kb ((w.alloc (.cells #[.int .i64 ck, .int .i64 ch, .int .i64 ct, .int .i64 cn, .int .i64 cc, .slice pl clb.length cl, .slice pg cgr.length cg, .string ⟨cx.toArray⟩] 37)).alloc (.cells #[.int .i64 0, .int .i64 0, .string ⟨#[]⟩] 31)) (F ++ [w.heap.size] ++ [(w.alloc (.cells #[.int .i64 ck, .int .i64 ch, .int .i64 ct, .int .i64 cn, .int .i64 cc, .slice pl clb.length cl, .slice pg cgr.length cg, .string ⟨cx.toArray⟩] 37)).heap.size]) V)
 have HX1 := hid HBX.out
 clear h
 go_enter Tryz.func55, Tryz.ntmps55
 go_wp2_with (first
  | (go_at_call 59; refine (QJ kb t _ h4).mono ?_; rintro e w1 ⟨rfl, rfl⟩)
  | (go_at_call 90; refine (QL _ _).mono ?_; rintro e w2 ⟨rfl, hw2⟩; obtain ⟨G2, V2, hk2, hs2⟩ : ∃ G2 V2, KerAt w2 kb G2 V2 K ∧ KStep kb _ _ V w2 G2 V2 := ⟨_, _, HK1.out.below hw2, HS1.out.trans (KStep.below hw2)⟩; have hx2' := Qe HX1.out hw2; obtain ⟨c0, c1, c2, f0, f1, f2⟩ := cells3 hx2'; have HX2 := hid hx2'; have HK2 := hid hk2; have HS2 := hid hs2; clear hx2' hk2 hs2 hw2))
 have hin : w.heap.size + 1 ∈ G2 := HS2.out.more.1 _ (by simp)
 have hg := QD w2 (w.heap.size + 1) (.int .i64 9) (.int .i64 0) (.string ⟨#[]⟩)
 exact bodyPost_ret (results_cell_row rfl _ _ (w.heap.size + 1) 31 _ (0, 0) _ rfl (QO (.int .i64 9) (.int .i64 0) (.string ⟨#[]⟩) HX2.out) Tryz.underlying31 rfl (by kernel_rfl)) rfl ⟨rfl, G2, V2, HK2.out.boxed hg hin HX2.out (by decide) (by decide) (by decide) (by decide), (HS.out.trans HS2.out).boxed hg (by omega)⟩
set_option maxRecDepth 100000 in
set_option maxHeartbeats 3200000 in
theorem Qmb (kb : Nat) (t : Int) (F : List Nat) (V : List ThrV) (K : Ker) (c : Cal) (vc : Value) (w : World) (h : KerAt w kb F V K) (h4 : ¬ (0 ≤ t ∧ t < 4)) (hc : CalAt w vc c) :
 Calls Tryz.prog 55 #[.pointer (some ⟨kb, 0, none⟩), .int .i64 t, vc] w fun e w' => e = .returned (repV (code 4)) ∧ ∃ G V', KerAt w' kb G V' K ∧ KStep kb w F V w' G V' := by
 obtain ⟨vl, vg, rfl, hlab, hgra⟩ := hc
 obtain ⟨pl, cl, rfl, _⟩ := id hlab
 obtain ⟨pg, cg, rfl, _⟩ := id hgra
 unfold calV
 obtain ⟨ck, ch, ct, cn, cc, clb, cgr, cx⟩ := c
 simp only at hlab hgra ⊢
 have HA := hid ((h.reserve (.cells #[.int .i64 ck, .int .i64 ch, .int .i64 ct, .int .i64 cn, .int .i64 cc, .slice pl clb.length cl, .slice pg cgr.length cg, .string ⟨cx.toArray⟩] 37)).reserve (.cells #[.int .i64 0, .int .i64 0, .string ⟨#[]⟩] 31))
 have HS := hid ((KStep.reserve kb w F V (.cells #[.int .i64 ck, .int .i64 ch, .int .i64 ct, .int .i64 cn, .int .i64 cc, .slice pl clb.length cl, .slice pg cgr.length cg, .string ⟨cx.toArray⟩] 37)).trans (KStep.reserve kb _ _ V (.cells #[.int .i64 0, .int .i64 0, .string ⟨#[]⟩] 31)))
 have HBX := hid (heap_alloc2_new w (.cells #[.int .i64 ck, .int .i64 ch, .int .i64 ct, .int .i64 cn, .int .i64 cc, .slice pl clb.length cl, .slice pg cgr.length cg, .string ⟨cx.toArray⟩] 37) (.cells #[.int .i64 0, .int .i64 0, .string ⟨#[]⟩] 31))
 have HWB : Hid (Below w.heap.size w ((w.alloc (.cells #[.int .i64 ck, .int .i64 ch, .int .i64 ct, .int .i64 cn, .int .i64 cc, .slice pl clb.length cl, .slice pg cgr.length cg, .string ⟨cx.toArray⟩] 37)).alloc (.cells #[.int .i64 0, .int .i64 0, .string ⟨#[]⟩] 31))) := hid ((Qd w _).alloc (by simp) _)
 have HK1 := hid HA.out
 have HS1 := hid (KStep.refl kb ((w.alloc (.cells #[.int .i64 ck, .int .i64 ch, .int .i64 ct, .int .i64 cn, .int .i64 cc, .slice pl clb.length cl, .slice pg cgr.length cg, .string ⟨cx.toArray⟩] 37)).alloc (.cells #[.int .i64 0, .int .i64 0, .string ⟨#[]⟩] 31)) (F ++ [w.heap.size] ++ [(w.alloc (.cells #[.int .i64 ck, .int .i64 ch, .int .i64 ct, .int .i64 cn, .int .i64 cc, .slice pl clb.length cl, .slice pg cgr.length cg, .string ⟨cx.toArray⟩] 37)).heap.size]) V)
 have HX1 := hid HBX.out
 clear h
 go_enter Tryz.func55, Tryz.ntmps55
 go_wp2_with (first
  | (go_at_call 59; refine (Qby kb t _ h4).mono ?_; rintro e w1 ⟨rfl, rfl⟩)
  | (go_at_call 90; refine (QL _ _).mono ?_; rintro e w2 ⟨rfl, hw2⟩; obtain ⟨G2, V2, hk2, hs2⟩ : ∃ G2 V2, KerAt w2 kb G2 V2 K ∧ KStep kb _ _ V w2 G2 V2 := ⟨_, _, HK1.out.below hw2, HS1.out.trans (KStep.below hw2)⟩; have hx2' := Qe HX1.out hw2; obtain ⟨c0, c1, c2, f0, f1, f2⟩ := cells3 hx2'; have HX2 := hid hx2'; have HK2 := hid hk2; have HS2 := hid hs2; clear hx2' hk2 hs2 hw2))
 have hin : w.heap.size + 1 ∈ G2 := HS2.out.more.1 _ (by simp)
 have hg := QD w2 (w.heap.size + 1) (.int .i64 4) (.int .i64 0) (.string ⟨#[]⟩)
 exact bodyPost_ret (results_cell_row rfl _ _ (w.heap.size + 1) 31 _ (0, 0) _ rfl (QO (.int .i64 4) (.int .i64 0) (.string ⟨#[]⟩) HX2.out) Tryz.underlying31 rfl (by kernel_rfl)) rfl ⟨rfl, G2, V2, HK2.out.boxed hg hin HX2.out (by decide) (by decide) (by decide) (by decide), (HS.out.trans HS2.out).boxed hg (by omega)⟩
set_option maxRecDepth 100000 in
set_option maxHeartbeats 3200000 in
theorem Qma (kb t : Nat) (F : List Nat) (V : List ThrV) (K : Ker) (c : Cal) (vc : Value) (w : World) (h : KerAt w kb F V K) (h1 : t < V.length) (h2 : t < K.ths.length) (hc : CalAt w vc c) (hk : c.kind = 10) (hx : c.text.length ≤ 64) :
 Calls Tryz.prog 55 #[.pointer (some ⟨kb, 0, none⟩), .int .i64 t, vc] w fun e w' => e = .returned (repV (⟨0, 0, K.ths[t].text⟩)) ∧ ∃ G V', KerAt w' kb G V' K ∧ KStep kb w F V w' G V' := by
 obtain ⟨vl, vg, rfl, hlab, hgra⟩ := hc
 obtain ⟨pl, cl, rfl, _⟩ := id hlab
 obtain ⟨pg, cg, rfl, _⟩ := id hgra
 unfold calV
 obtain ⟨ck, ch, ct, cn, cc, clb, cgr, cx⟩ := c
 simp only at hk hx hlab hgra ⊢
 subst hk
 have h4 : t < 4 := by rw [← h.len]; exact h1
 have hx2 : ¬ ((64 : Int) < (cx.length : Int)) := by omega
 have HA := hid ((h.reserve (.cells #[.int .i64 10, .int .i64 ch, .int .i64 ct, .int .i64 cn, .int .i64 cc, .slice pl clb.length cl, .slice pg cgr.length cg, .string ⟨cx.toArray⟩] 37)).reserve (.cells #[.int .i64 0, .int .i64 0, .string ⟨#[]⟩] 31))
 have HBX := hid (heap_alloc2_new w (.cells #[.int .i64 10, .int .i64 ch, .int .i64 ct, .int .i64 cn, .int .i64 cc, .slice pl clb.length cl, .slice pg cgr.length cg, .string ⟨cx.toArray⟩] 37) (.cells #[.int .i64 0, .int .i64 0, .string ⟨#[]⟩] 31))
 obtain ⟨t0, t1, t2, t3, t4⟩ := (HA.out.tat t h1 h2).cells
 obtain ⟨c0, c1, c2, f0, f1, f2⟩ := cells3 HBX.out
 have HH := hid h
 clear h
 go_enter Tryz.func55, Tryz.ntmps55
 go_wp2_with (go_at_call 59; refine (QJ kb t _ h4).mono ?_; rintro e w1 ⟨rfl, rfl⟩)
 exact bodyPost_ret (results_cell_row rfl _ _ (w.heap.size + 1) 31 _ (0, 0) _ rfl (heap_alloc2_new w _ _) Tryz.underlying31 rfl (by kernel_rfl)) rfl ⟨rfl, _, V, HH.out.below ((Qd w _).alloc (by simp) _), KStep.below ((Qd w _).alloc (by simp) _)⟩
set_option maxRecDepth 100000 in
set_option maxHeartbeats 3200000 in
theorem Qhp (kb t : Nat) (F : List Nat) (V : List ThrV) (K : Ker) (c : Cal) (vc : Value) (w : World) (h : KerAt w kb F V K) (h1 : t < V.length) (h2 : t < K.ths.length) (hc : CalAt w vc c) (hk : c.kind = 9) (hx : c.text.length ≤ 64) :
 Calls Tryz.prog 55 #[.pointer (some ⟨kb, 0, none⟩), .int .i64 t, vc] w fun e w' => e = .returned (repV (code 0)) ∧ ∃ G V', KerAt w' kb G V' { K with ths := K.ths.set t { K.ths[t] with text := lastL c.text } } ∧ KStep kb w F V w' G V' := by
 obtain ⟨vl, vg, rfl, hlab, hgra⟩ := hc
 obtain ⟨pl, cl, rfl, _⟩ := id hlab
 obtain ⟨pg, cg, rfl, _⟩ := id hgra
 unfold calV
 obtain ⟨ck, ch, ct, cn, cc, clb, cgr, cx⟩ := c
 simp only at hk hx hlab hgra ⊢
 subst hk
 have h4 : t < 4 := by rw [← h.len]; exact h1
 have hx2 : ¬ ((64 : Int) < (cx.length : Int)) := by omega
 have HA := hid ((h.reserve (.cells #[.int .i64 9, .int .i64 ch, .int .i64 ct, .int .i64 cn, .int .i64 cc, .slice pl clb.length cl, .slice pg cgr.length cg, .string ⟨cx.toArray⟩] 37)).reserve (.cells #[.int .i64 0, .int .i64 0, .string ⟨#[]⟩] 31))
 have HS := hid ((KStep.reserve kb w F V (.cells #[.int .i64 9, .int .i64 ch, .int .i64 ct, .int .i64 cn, .int .i64 cc, .slice pl clb.length cl, .slice pg cgr.length cg, .string ⟨cx.toArray⟩] 37)).trans (KStep.reserve kb _ _ V (.cells #[.int .i64 0, .int .i64 0, .string ⟨#[]⟩] 31)))
 have HBX := hid (heap_alloc2_new w (.cells #[.int .i64 9, .int .i64 ch, .int .i64 ct, .int .i64 cn, .int .i64 cc, .slice pl clb.length cl, .slice pg cgr.length cg, .string ⟨cx.toArray⟩] 37) (.cells #[.int .i64 0, .int .i64 0, .string ⟨#[]⟩] 31))
 clear h
 go_enter Tryz.func55, Tryz.ntmps55
 go_wp2_with (first
  | (go_at_call 59; refine (QJ kb t _ h4).mono ?_; rintro e w1 ⟨rfl, rfl⟩)
  | (go_at_call 97; refine (Qbj cx _ (by omega)).mono ?_; rintro e w5 ⟨rfl, hw5⟩; have hk5 := HA.out.below hw5; have ht5 := hk5.tat t h1 h2; obtain ⟨_, _, d2, _, _⟩ := ht5.cells; have f2 := ht5.frozen (2 + t * 5 + 2); have hst := ht5.text (lastL cx); have HK1 := hid (hk5.step h1 h2 hst.1 hst.2); have HS1 := hid ((KStep.below hw5).trans (KStep.of h1 hst.2)); have HX1 := hid (QY HS1.out HA.out HBX.out (by decide) (by decide) (by decide) (by decide)); clear hk5 ht5 hst hw5)
  | (go_at_call 90; refine (QL _ _).mono ?_; rintro e w2 ⟨rfl, hw2⟩; obtain ⟨G2, V2, hk2, hs2⟩ : ∃ G2 V2, KerAt w2 kb G2 V2 { K with ths := K.ths.set t { K.ths[t] with text := lastL cx } } ∧ KStep kb _ _ V w2 G2 V2 := ⟨_, _, HK1.out.below hw2, HS1.out.trans (KStep.below hw2)⟩; have hx2' := Qe HX1.out hw2; obtain ⟨c0, c1, c2, f0, f1, f2⟩ := cells3 hx2'; have HX2 := hid hx2'; have HK2 := hid hk2; have HS2 := hid hs2; clear hx2' hk2 hs2 hw2))
 have hin : w.heap.size + 1 ∈ G2 := HS2.out.more.1 _ (by simp)
 have hg := QD w2 (w.heap.size + 1) (.int .i64 0) (.int .i64 0) (.string ⟨#[]⟩)
 exact bodyPost_ret (results_cell_row rfl _ _ (w.heap.size + 1) 31 _ (0, 0) _ rfl (QO (.int .i64 0) (.int .i64 0) (.string ⟨#[]⟩) HX2.out) Tryz.underlying31 rfl (by kernel_rfl)) rfl ⟨rfl, G2, V2, HK2.out.boxed hg hin HX2.out (by decide) (by decide) (by decide) (by decide), (HS.out.trans HS2.out).boxed hg (by omega)⟩
theorem Qhs {m : Mal} (h : mailE m = 0) : MailFit m := by
 unfold mailE at h
 split at h
 · rename_i g
   split at h
   · simp only [Bool.and_eq_true] at g
     have g1 := of_decide_eq_true g.1.1.1
     have g2 := of_decide_eq_true g.1.1.2
     exact ⟨g1, g2, by assumption⟩
   · cases h
 · cases h
theorem Qec {K : Ker} {t n : Int} {o : Obt} (h : objAt K t n = some o) : ∃ u i : Nat, t = u ∧ n = i ∧ ∃ (hu : u < K.ths.length) (hi : i < K.ths[u].objs.length), K.ths[u].objs[i] = o := by
 unfold objAt at h
 split at h
 · cases h
 · rename_i th hth
   obtain ⟨u, rfl, hu, rfl⟩ := Q9 hth
   split at h
   · rename_i h0
     obtain ⟨hi, e⟩ := List.getElem?_eq_some_iff.1 h
     exact ⟨u, n.toNat, rfl, by omega, hu, hi, e⟩
   · cases h
theorem Qmc (kb : Nat) (t : Int) (F : List Nat) (V : List ThrV) (K : Ker) (c : Cal) (vc : Value) (w : World) (h : KerAt w kb F V K) (hg : GoodK K) (hc : CalAt w vc c) :
 Calls Tryz.prog 55 #[.pointer (some ⟨kb, 0, none⟩), .int .i64 t, vc] w fun e w' => e = .returned (repV (callL K t c).2) ∧ ∃ G V', KerAt w' kb G V' (callL K t c).1 ∧ KStep kb w F V w' G V' := by
 have hV : V.length = 4 := h.len
 cases hth : getT K t with
 | none =>
  have e : callL K t c = (K, code 4) := by unfold callL; rw [hth]
  rw [e]
  exact Qmb kb t F V K c vc w h (Qdd hg.four hth) hc
 | some th =>
  obtain ⟨n, rfl, hn, rfl⟩ := Q9 hth
  have e : callL K n c = callT K n K.ths[n] c := by unfold callL; rw [hth]
  rw [e]
  have h1 : n < V.length := by rw [hV]; have := hg.four; omega
  have gt := hg.ths _ (List.getElem_mem hn)
  have hown : K.ths[n].own.length ≤ 1000 := Nat.le_trans gt.own (by decide)
  have htext : K.ths[n].text.length ≤ 1000 := Nat.le_trans gt.text (by decide)
  unfold callT
  by_cases hx : 64 < c.text.length
  · rw [if_pos hx]
    exact QkS kb n F V K c vc w h h1 hc hx
  rw [if_neg hx]
  have hx64 : c.text.length ≤ 64 := by omega
  have hx1000 : c.text.length ≤ 1000 := by omega
  by_cases k1 : c.kind = 1
  · rw [if_pos k1]
    exact QeT kb n F V K c vc w h h1 hn hc k1 hx64 gt.sorted gt.own hg.host hg.made
  rw [if_neg k1]
  by_cases k2 : c.kind = 2
  · rw [if_pos k2, QaZ]
    exact Qho kb n F V K c vc w h h1 hn hc k2 hx64 hown (Nat.le_trans gt.objs (by decide))
  rw [if_neg k2]
  by_cases k3 : c.kind = 3
  · rw [if_pos k3]
    cases ho : objAt K c.t c.n with
    | none =>
     have e3 : putL K K.ths[n] c = K := by unfold putL; rw [ho]; cases getT K c.t <;> rfl
     rw [e3]
     exact QdY kb n F V K c vc w h h1 hc k3 hx64 K (code 0) (fun w1 F1 vc1 g1 g2 => Qle kb n F1 V K c vc1 w1 g1 g2 ho)
    | some o =>
     obtain ⟨u, i, hct, hcn, hu, hi, rfl⟩ := Qec ho
     have u1 : u < V.length := by rw [hV]; have := hg.four; omega
     have e3 : putL K K.ths[n] c = if flowsL K.ths[n].label K.ths[u].objs[i].label K.ths[n].own then { K with ths := K.ths.set u (putO K.ths[u] i (lastL (K.ths[n].text ++ c.text))) } else K := by
      unfold putL
      rw [ho, hct, QcF hu]
      simp only [QaZ, hcn]
     rw [e3]
     cases hf : flowsL K.ths[n].label K.ths[u].objs[i].label K.ths[n].own with
     | false => exact QdY kb n F V K c vc w h h1 hc k3 hx64 K (code 0) (fun w1 F1 vc1 g1 g2 => Qmh kb n u i F1 V K c vc1 w1 g1 h1 hn u1 hu hown hi hct hcn hx1000 g2 hf)
     | true => exact QdY kb n F V K c vc w h h1 hc k3 hx64 _ (code 0) (fun w1 F1 vc1 g1 g2 => Qmg kb n u i F1 V K c vc1 w1 g1 h1 hn u1 hu hown hi hct hcn hx1000 g2 hf htext)
  rw [if_neg k3]
  by_cases k4 : c.kind = 4
  · rw [if_pos k4]
    cases ho : objAt K c.t c.n with
    | none =>
     have e4 : getL K n K.ths[n] c = (K, code 4) := by unfold getL; rw [ho]
     rw [e4]
     exact QdZ kb n F V K c vc w h h1 hc k4 hx64 K (code 4) (fun w1 F1 vc1 g1 g2 => QlH kb n F1 V K c vc1 w1 g1 g2 ho)
    | some o =>
     obtain ⟨u, i, hct, hcn, hu, hi, rfl⟩ := Qec ho
     have u1 : u < V.length := by rw [hV]; have := hg.four; omega
     have hot : K.ths[u].objs[i].text.length ≤ 1000 := Nat.le_trans ((hg.ths _ (List.getElem_mem hu)).obj _ (List.getElem_mem hi)).1 (by decide)
     have e4 : getL K n K.ths[n] c = if flowsL K.ths[u].objs[i].label K.ths[n].label K.ths[n].own then ({ K with ths := K.ths.set n { K.ths[n] with text := lastL (K.ths[n].text ++ K.ths[u].objs[i].text) } }, ⟨0, (K.ths[u].objs[i].text.length : Int), []⟩) else (K, code 4) := by
      unfold getL
      rw [ho]
      simp only [QaZ]
     rw [e4]
     cases hf : flowsL K.ths[u].objs[i].label K.ths[n].label K.ths[n].own with
     | false => exact QdZ kb n F V K c vc w h h1 hc k4 hx64 K (code 4) (fun w1 F1 vc1 g1 g2 => Qmn kb n u i F1 V K c vc1 w1 g1 h1 hn u1 hu hown hi hct hcn hx1000 g2 hf)
     | true => exact QdZ kb n F V K c vc w h h1 hc k4 hx64 _ _ (fun w1 F1 vc1 g1 g2 => Qmm kb n u i F1 V K c vc1 w1 g1 h1 hn u1 hu hown hi hct hcn hx1000 g2 hf htext hot)
  rw [if_neg k4]
  by_cases k5 : c.kind = 5
  · rw [if_pos k5, QaZ]
    exact Qi4 kb n F V K c vc w h h1 hn hc k5 hx64 hown
  rw [if_neg k5]
  by_cases k7 : c.kind = 7
  · rw [if_pos k7, QaZ]
    exact QkR kb n F V K c vc w h h1 hn hc k7 hx64 gt.sorted gt.own htext (fun m hm => Qhs (gt.mail m hm)) (Nat.le_trans gt.mails (by decide))
  rw [if_neg k7]
  by_cases k9 : c.kind = 9
  · rw [if_pos k9, QaZ]
    exact Qhp kb n F V K c vc w h h1 hn hc k9 hx64
  rw [if_neg k9]
  by_cases k10 : c.kind = 10
  · rw [if_pos k10]
    exact Qma kb n F V K c vc w h h1 hn hc k10 hx64
  rw [if_neg k10]
  exact Qi3 kb n F V K c vc w h h1 hc hx64 k1 k2 k3 k4 k5 k7 k9 k10
theorem QaG {w : World} (ob : Obj) {a : Addr} {v : Value} (h : w.cell? a = some v) : (w.alloc ob).cell? a = some v := by
 rw [(Qd w ob).cell (Qf h), h]
theorem box5k {w w' : World} {a b c d e : Value} {t : TypeId} (h : Below (w.alloc (.cells #[a, b, c, d, e] t)).heap.size (w.alloc (.cells #[a, b, c, d, e] t)) w') :
 w'.cell? ⟨w.heap.size, 0, none⟩ = some a ∧ w'.cell? ⟨w.heap.size, 1, none⟩ = some b ∧ w'.cell? ⟨w.heap.size, 2, none⟩ = some c ∧ w'.cell? ⟨w.heap.size, 3, none⟩ = some d ∧ w'.cell? ⟨w.heap.size, 4, none⟩ = some e :=
 ⟨Qi h (by simp) 0, Qi h (by simp) 1, Qi h (by simp) 2, Qi h (by simp) 3, Qi h (by simp) 4⟩
theorem Ql1 {th : Thr} {m : Mal} (h : mailE m ≠ 0) : boxL th m = th := by unfold boxL; rw [if_neg (fun g => h g.1)]
theorem Ql0 {th : Thr} {m : Mal} (h : flowsL m.label th.label th.own = false) : boxL th m = th := by unfold boxL; rw [if_neg (fun g => by rw [h] at g; cases g.2.1)]
theorem QkE {th : Thr} {m : Mal} (h : 6 ≤ th.mails.length) : boxL th m = th := by unfold boxL; rw [if_neg (fun g => by omega)]
theorem QdP {K : Ker} {t : Nat} (h : t < K.ths.length) : { K with ths := K.ths.set t K.ths[t] } = K := by rw [List.set_getElem_self]
set_option maxRecDepth 100000 in
set_option maxHeartbeats 3200000 in
theorem Qhm (kb t : Nat) (F : List Nat) (V : List ThrV) (K : Ker) (m : Mal) (vm : Value) (w : World) (h : KerAt w kb F V K) (h1 : t < V.length) (h2 : t < K.ths.length) (hm : MalAt w vm m) (hl : K.ths[t].own.length ≤ 1000) (he : mailE m = 0) (hf : flowsL m.label K.ths[t].label K.ths[t].own = false) :
 Calls Tryz.prog 86 #[.pointer (some ⟨kb, 0, none⟩), .int .i64 t, vm] w fun e w' => e = .returned (.tuple #[]) ∧ Below w.heap.size w w' := by
 have h4 : t < 4 := by rw [← h.len]; exact h1
 have hT := h.tat t h1 h2
 obtain ⟨t0, t1, t2, t3, t4⟩ := hT.cells
 obtain ⟨ptl, ctl, hvl, _⟩ := id hT.thr.1.1
 obtain ⟨po, co, hvo⟩ := ownV hT.thr.2.1
 have hmal := fun wx (hb : Below w.heap.size w wx) => QZ vm m wx (hm.below hb)
 rw [he] at hmal
 have hm0 := hm
 obtain ⟨vl, vg, rfl, hla, hgr⟩ := hm
 have hfl := fun wx (hb : Below w.heap.size w wx) => Q4 _ _ _ m.label K.ths[t].label K.ths[t].own wx (hla.below hb) (hT.thr.1.1.below hb) ((Qag hT.thr.2.1 hl).below hb)
 rw [hf, hvl, hvo] at hfl
 obtain ⟨pl, cl, rfl, _⟩ := id hla
 obtain ⟨pg, cg, rfl, _⟩ := id hgr
 rw [hvl] at t0
 rw [hvo] at t1
 have hkb := h.fin kb h.kbF
 have s0 := fun ob => QaG ob t0
 have s1 := fun ob => QaG ob t1
 unfold malV at hmal ⊢
 clear hT h hm0 hla hgr
 generalize K.ths[t] = th at *
 go_enter Tryz.func86, Tryz.ntmps86
 go_wp2_with (go_at_call 59; refine (QJ kb t _ h4).mono ?_; rintro e w1 ⟨rfl, rfl⟩)
 have HW0 := hid (Below.refl (w.alloc (.cells #[.int .i64 m.host, .int .i64 m.thread, .slice pl m.label.length cl, .slice pg m.grants.length cg, .string ⟨m.text.toArray⟩] 50)).heap.size (w.alloc (.cells #[.int .i64 m.host, .int .i64 m.thread, .slice pl m.label.length cl, .slice pg m.grants.length cg, .string ⟨m.text.toArray⟩] 50)))
 have HB0 := hid (Qd w (.cells #[.int .i64 m.host, .int .i64 m.thread, .slice pl m.label.length cl, .slice pg m.grants.length cg, .string ⟨m.text.toArray⟩] 50))
 have HT0 := hid t0
 have HT1 := hid t1
 go_region_held3 (fun w' => (w'.cell? ⟨w.heap.size, 0, none⟩ = some (.int .i64 m.host) ∧ w'.cell? ⟨w.heap.size, 1, none⟩ = some (.int .i64 m.thread) ∧ w'.cell? ⟨w.heap.size, 2, none⟩ = some (.slice pl m.label.length cl) ∧ w'.cell? ⟨w.heap.size, 3, none⟩ = some (.slice pg m.grants.length cg) ∧ w'.cell? ⟨w.heap.size, 4, none⟩ = some (.string ⟨m.text.toArray⟩)) ∧ w'.cell? ⟨kb, 2 + t * 5, none⟩ = some (.slice ptl th.label.length ctl) ∧ w'.cell? ⟨kb, 2 + t * 5 + 1, none⟩ = some (.slice po th.own.length co)) (go_keep)
  (first
   | (go_at_call 127; refine (hmal _ HB0.out.drew).mono ?_; rintro e w2 ⟨rfl, hwd⟩; have hw := kundrew hwd; have HW2 := hid (Qc HW0.out hw); have HB2 := hid (Qc HB0.out hw); obtain ⟨z0, z1, z2, z3, z4⟩ := box5k HW2.out; have u0 := HB2.out.cell (Qf HT0.out); rw [HT0.out] at u0; have u1 := HB2.out.cell (Qf HT1.out); rw [HT1.out] at u1; clear hw hwd)
   | (go_at_call 14; refine (hfl _ HB2.out).mono ?_; rintro e w3 ⟨rfl, hw⟩; have HW3 := hid (Qc HW2.out hw); have HB3 := hid (Qc HB2.out hw); obtain ⟨y0, y1, y2, y3, y4⟩ := box5k HW3.out; have v0 := HB3.out.cell (Qf HT0.out); rw [HT0.out] at v0; have v1 := HB3.out.cell (Qf HT1.out); rw [HT1.out] at v1; clear hw))
 all_goals
  go_wp2
  exact bodyPost_ret (results_none rfl _ _ _) rfl ⟨rfl, HB3.out⟩
set_option maxRecDepth 100000 in
set_option maxHeartbeats 3200000 in
theorem QfX (kb t : Nat) (F : List Nat) (V : List ThrV) (K : Ker) (m : Mal) (vm : Value) (w : World) (h : KerAt w kb F V K) (h1 : t < V.length) (h2 : t < K.ths.length) (hm : MalAt w vm m) (hl : K.ths[t].own.length ≤ 1000) (he : mailE m = 0) (hf : flowsL m.label K.ths[t].label K.ths[t].own = true) (hfull : 6 ≤ K.ths[t].mails.length) :
 Calls Tryz.prog 86 #[.pointer (some ⟨kb, 0, none⟩), .int .i64 t, vm] w fun e w' => e = .returned (.tuple #[]) ∧ Below w.heap.size w w' := by
 have h4 : t < 4 := by rw [← h.len]; exact h1
 have hT := h.tat t h1 h2
 obtain ⟨t0, t1, t2, t3, t4⟩ := hT.cells
 obtain ⟨ptl, ctl, hvl, _⟩ := id hT.thr.1.1
 obtain ⟨po, co, hvo⟩ := ownV hT.thr.2.1
 obtain ⟨_, _, hmr, _⟩ := hT.thr.2.2.2
 obtain ⟨pm, cm, hvm⟩ := Qo hmr
 have hmal := fun wx (hb : Below w.heap.size w wx) => QZ vm m wx (hm.below hb)
 rw [he] at hmal
 obtain ⟨vl, vg, rfl, hla, hgr⟩ := hm
 have hfl := fun wx (hb : Below w.heap.size w wx) => Q4 _ _ _ m.label K.ths[t].label K.ths[t].own wx (hla.below hb) (hT.thr.1.1.below hb) ((Qag hT.thr.2.1 hl).below hb)
 rw [hf, hvl, hvo] at hfl
 obtain ⟨pl, cl, rfl, _⟩ := id hla
 obtain ⟨pg, cg, rfl, _⟩ := id hgr
 rw [hvl] at t0
 rw [hvo] at t1
 rw [hvm] at t4
 have hkb := h.fin kb h.kbF
 have s0 := fun ob => QaG ob t0
 have s1 := fun ob => QaG ob t1
 unfold malV at hmal ⊢
 clear hT h hla hgr hmr hvm
 generalize K.ths[t] = th at *
 have hfull2 : ¬ ((th.mails.length : Int) < 6) := by omega
 go_enter Tryz.func86, Tryz.ntmps86
 go_wp2_with (go_at_call 59; refine (QJ kb t _ h4).mono ?_; rintro e w1 ⟨rfl, rfl⟩)
 have HW0 := hid (Below.refl (w.alloc (.cells #[.int .i64 m.host, .int .i64 m.thread, .slice pl m.label.length cl, .slice pg m.grants.length cg, .string ⟨m.text.toArray⟩] 50)).heap.size (w.alloc (.cells #[.int .i64 m.host, .int .i64 m.thread, .slice pl m.label.length cl, .slice pg m.grants.length cg, .string ⟨m.text.toArray⟩] 50)))
 have HB0 := hid (Qd w (.cells #[.int .i64 m.host, .int .i64 m.thread, .slice pl m.label.length cl, .slice pg m.grants.length cg, .string ⟨m.text.toArray⟩] 50))
 have HT0 := hid t0
 have HT1 := hid t1
 have HT4 := hid t4
 go_region_held3 (fun w' => (w'.cell? ⟨w.heap.size, 0, none⟩ = some (.int .i64 m.host) ∧ w'.cell? ⟨w.heap.size, 1, none⟩ = some (.int .i64 m.thread) ∧ w'.cell? ⟨w.heap.size, 2, none⟩ = some (.slice pl m.label.length cl) ∧ w'.cell? ⟨w.heap.size, 3, none⟩ = some (.slice pg m.grants.length cg) ∧ w'.cell? ⟨w.heap.size, 4, none⟩ = some (.string ⟨m.text.toArray⟩)) ∧ w'.cell? ⟨kb, 2 + t * 5, none⟩ = some (.slice ptl th.label.length ctl) ∧ w'.cell? ⟨kb, 2 + t * 5 + 1, none⟩ = some (.slice po th.own.length co)) (go_keep)
  (first
   | (go_at_call 127; refine (hmal _ HB0.out.drew).mono ?_; rintro e w2 ⟨rfl, hwd⟩; have hw := kundrew hwd; have HW2 := hid (Qc HW0.out hw); have HB2 := hid (Qc HB0.out hw); obtain ⟨z0, z1, z2, z3, z4⟩ := box5k HW2.out; have u0 := HB2.out.cell (Qf HT0.out); rw [HT0.out] at u0; have u1 := HB2.out.cell (Qf HT1.out); rw [HT1.out] at u1; clear hw hwd)
   | (go_at_call 14; refine (hfl _ HB2.out).mono ?_; rintro e w3 ⟨rfl, hw⟩; have HW3 := hid (Qc HW2.out hw); have HB3 := hid (Qc HB2.out hw); obtain ⟨y0, y1, y2, y3, y4⟩ := box5k HW3.out; have v0 := HB3.out.cell (Qf HT0.out); rw [HT0.out] at v0; have v1 := HB3.out.cell (Qf HT1.out); rw [HT1.out] at v1; clear hw))
 all_goals
  have v4 := HB3.out.cell (Qf HT4.out)
  rw [HT4.out] at v4
  go_wp2
  go_end0
  exact ⟨rfl, HB3.out⟩
open Go.RowKit
section
variable {P : Program} {ops : Array Oper} {Q : Exit → Act → World → Prop} {md : Region.Mode} {S : World → Prop}
theorem takeD (i n : Nat) (v : Value) {oi : Oper} {fuel : Nat} {listed : Array Bool} {a : Act} {w : World} (hi : ops[i]? = some oi) (hd : oi.dst = some n)
 (hs : Region.noSelect ops = true) (hf : Region.free md ops listed i = true) (hr : (Region.ready md ops listed).contains i = true)
 (hQ : ∀ c a w, Q (.panic c) (a.put (some n) v) w → Q (.panic c) a w) (hy : YieldsIf P ops S oi v a) (hS : S w)
 (h : wpAnyH P md ops Q S fuel (listed.setIfInBounds i true) (a.put (some n) v) w) : wpAnyH P md ops Q S (fuel + 1) listed a w :=
 wpAnyH_take hi hs hf hr (by rw [hd]; exact hQ) hy hS (by rw [hd]; exact h)
theorem skipD (i n : Nat) {oi : Oper} {fuel : Nat} {listed : Array Bool} {a : Act} {w : World} (hi : ops[i]? = some oi) (hd : oi.dst = some n)
 (hs : Region.noSelect ops = true) (hf : Region.free md ops listed i = true) (hr : (Region.ready md ops listed).contains i = true)
 (hQ : ∀ c a w, Q (.panic c) (a.put (some n) undef) w → Q (.panic c) a w) (hw : Region.wanted oi (yielded ops a.tmps) = false) (hS : S w)
 (h : wpAnyH P md ops Q S fuel (listed.setIfInBounds i true) (a.put (some n) undef) w) : wpAnyH P md ops Q S (fuel + 1) listed a w :=
 wpAnyH_take hi hs hf hr (by rw [hd]; exact hQ) (Or.inr ⟨hw, rfl⟩) hS (by rw [hd]; exact h)
theorem takeF (i n : Nat) (v : Value) {oi : Oper} {fuel : Nat} {listed : Array Bool} {a : Act} {w : World} (hi : ops[i]? = some oi) (hy : YieldsIf P ops S oi v a)
 (h : wpAnyH P md ops Q S fuel (listed.setIfInBounds i true) (a.put (some n) v) w)
 (hc : (oi.dst == some n && Region.noSelect ops && Region.free md ops listed i && (Region.ready md ops listed).contains i) = true := by as_aux_lemma => kernel_rfl)
 (hQ : ∀ c a w, Q (.panic c) (a.put (some n) v) w → Q (.panic c) a w := by exact fun _ _ _ h => h) (hS : S w := by assumption) : wpAnyH P md ops Q S (fuel + 1) listed a w := by
 simp only [Bool.and_eq_true] at hc
 exact takeD i n v hi (eq_of_beq hc.1.1.1) hc.1.1.2 hc.1.2 hc.2 hQ hy hS h
end
open Go.RowKit Go.Proofs.Parclose
set_option maxRecDepth 100000 in
set_option maxHeartbeats 3200000 in
theorem Qhn (kb t : Nat) (m : Mal) (vm : Value) (w : World) (h4 : t < 4) (hm : MalAt w vm m) (he : mailE m ≠ 0) :
 Calls Tryz.prog 86 #[.pointer (some ⟨kb, 0, none⟩), .int .i64 t, vm] w fun e w' => e = .returned (.tuple #[]) ∧ Below w.heap.size w w' := by
 have hmal := fun wx (hb : Below w.heap.size w wx) => QZ vm m wx (hm.below hb)
 have hne : (mailE m != 0) = true := by simpa using he
 generalize mailE m = E at *
 obtain ⟨vl, vg, rfl, hla, hgr⟩ := hm
 obtain ⟨pl, cl, rfl, _⟩ := id hla
 obtain ⟨pg, cg, rfl, _⟩ := id hgr
 unfold malV at hmal ⊢
 clear hla hgr
 go_enter Tryz.func86, Tryz.ntmps86
 go_wp2_with (go_at_call 59; refine (QJ kb t _ h4).mono ?_; rintro e w1 ⟨rfl, rfl⟩)
 have HW0 := hid (Below.refl (w.alloc (.cells #[.int .i64 m.host, .int .i64 m.thread, .slice pl m.label.length cl, .slice pg m.grants.length cg, .string ⟨m.text.toArray⟩] 50)).heap.size (w.alloc (.cells #[.int .i64 m.host, .int .i64 m.thread, .slice pl m.label.length cl, .slice pg m.grants.length cg, .string ⟨m.text.toArray⟩] 50)))
 have HB0 := hid (Qd w (.cells #[.int .i64 m.host, .int .i64 m.thread, .slice pl m.label.length cl, .slice pg m.grants.length cg, .string ⟨m.text.toArray⟩] 50))
 obtain ⟨s0, s1, s2, s3, s4⟩ := box5k HW0.out
 refine wp_region_held_drew (S := (fun w' => w'.cell? ⟨w.heap.size, 0, none⟩ = some (.int .i64 m.host) ∧ w'.cell? ⟨w.heap.size, 1, none⟩ = some (.int .i64 m.thread) ∧ w'.cell? ⟨w.heap.size, 2, none⟩ = some (.slice pl m.label.length cl) ∧ w'.cell? ⟨w.heap.size, 3, none⟩ = some (.slice pg m.grants.length cg) ∧ w'.cell? ⟨w.heap.size, 4, none⟩ = some (.string ⟨m.text.toArray⟩))) (by kernel_rfl) ⟨s0, s1, s2, s3, s4⟩ (fun hHeld => ?_)
 refine takeD 0 10 ?v1 rfl (by kernel_rfl) (by kernel_rfl) (by kernel_rfl) (by kernel_rfl) (fun _ _ _ h => h) (Or.inl ⟨by rfl, ?hy1⟩) (by assumption) ?rest1
 case hy1 => intro wz hSw; (try dsimp only at hSw); go_simp; try with_reducible rfl
 simp only [Act.put, List.setIfInBounds_toArray, List.set_cons_zero, List.set_cons_succ]
 refine takeD 1 11 ?v2 rfl (by kernel_rfl) (by kernel_rfl) (by kernel_rfl) (by kernel_rfl) (fun _ _ _ h => h) (Or.inl ⟨by rfl, ?hy2⟩) (by assumption) ?rest2
 case hy2 => intro wz hSw; (try dsimp only at hSw); go_simp; try with_reducible rfl
 simp only [Act.put, List.setIfInBounds_toArray, List.set_cons_zero, List.set_cons_succ]
 refine takeD 2 12 ?v3 rfl (by kernel_rfl) (by kernel_rfl) (by kernel_rfl) (by kernel_rfl) (fun _ _ _ h => h) (Or.inl ⟨by rfl, ?hy3⟩) (by assumption) ?rest3
 case hy3 => intro wz hSw; (try dsimp only at hSw); go_simp; try with_reducible rfl
 simp only [Act.put, List.setIfInBounds_toArray, List.set_cons_zero, List.set_cons_succ]
 refine takeD 3 13 ?v4 rfl (by kernel_rfl) (by kernel_rfl) (by kernel_rfl) (by kernel_rfl) (fun _ _ _ h => h) (Or.inl ⟨by rfl, ?hy4⟩) (by assumption) ?rest4
 case hy4 => intro wz hSw; (try dsimp only at hSw); go_simp; try with_reducible rfl
 simp only [Act.put, List.setIfInBounds_toArray, List.set_cons_zero, List.set_cons_succ]
 refine wpAnyH_ready (rs := [4]) (by kernel_rfl) (by simp) ?_
 refine AllReadyH.cons rfl (fun K' hK => ?_) AllReadyH.nil
 go_simp
 go_wp2_with (go_at_call 127; refine (hmal _ HB0.out.drew).mono ?_; rintro e w2 ⟨rfl, hwd⟩; have hw := kundrew hwd; have HW2 := hid (Qc HW0.out hw); have HB2 := hid (Qc HB0.out hw); obtain ⟨z0, z1, z2, z3, z4⟩ := box5k HW2.out; clear hw hwd)
 refine hK.out _ _ ⟨z0, z1, z2, z3, z4⟩ (fun hHeld2 => ?_)
 clear hK K' hHeld
 refine takeD 5 15 ?v5 rfl (by kernel_rfl) (by kernel_rfl) (by kernel_rfl) (by kernel_rfl) (fun _ _ _ h => h) (Or.inl ⟨by rfl, ?hy5⟩) (by assumption) ?rest5
 case hy5 => intro wz hSw; (try dsimp only at hSw); go_simp; try with_reducible rfl
 simp only [Act.put, List.setIfInBounds_toArray, List.set_cons_zero, List.set_cons_succ]
 refine takeD 6 16 ?v6 rfl (by kernel_rfl) (by kernel_rfl) (by kernel_rfl) (by kernel_rfl) (fun _ _ _ h => h) (Or.inl ⟨by rfl, ?hy6⟩) (by assumption) ?rest6
 case hy6 => intro wz hSw; (try dsimp only at hSw); go_simp; try with_reducible rfl
 simp only [Act.put, List.setIfInBounds_toArray, List.set_cons_zero, List.set_cons_succ]
 refine takeD 7 17 ?v7 rfl (by kernel_rfl) (by kernel_rfl) (by kernel_rfl) (by kernel_rfl) (fun _ _ _ h => h) (Or.inl ⟨by rfl, ?hy7⟩) (by assumption) ?rest7
 case hy7 => intro wz hSw; (try dsimp only at hSw); go_simp; try with_reducible rfl
 simp only [Act.put, List.setIfInBounds_toArray, List.set_cons_zero, List.set_cons_succ]
 refine skipD 8 18 rfl (by kernel_rfl) (by kernel_rfl) (by kernel_rfl) (by kernel_rfl) (fun _ _ _ h => h) (by kernel_rfl) (by assumption) ?_
 simp only [Act.put, List.setIfInBounds_toArray, List.set_cons_zero, List.set_cons_succ]
 refine skipD 9 19 rfl (by kernel_rfl) (by kernel_rfl) (by kernel_rfl) (by kernel_rfl) (fun _ _ _ h => h) (by kernel_rfl) (by assumption) ?_
 simp only [Act.put, List.setIfInBounds_toArray, List.set_cons_zero, List.set_cons_succ]
 refine skipD 10 20 rfl (by kernel_rfl) (by kernel_rfl) (by kernel_rfl) (by kernel_rfl) (fun _ _ _ h => h) (by kernel_rfl) (by assumption) ?_
 simp only [Act.put, List.setIfInBounds_toArray, List.set_cons_zero, List.set_cons_succ]
 refine skipD 11 21 rfl (by kernel_rfl) (by kernel_rfl) (by kernel_rfl) (by kernel_rfl) (fun _ _ _ h => h) (by kernel_rfl) (by assumption) ?_
 simp only [Act.put, List.setIfInBounds_toArray, List.set_cons_zero, List.set_cons_succ]
 refine skipD 12 22 rfl (by kernel_rfl) (by kernel_rfl) (by kernel_rfl) (by kernel_rfl) (fun _ _ _ h => h) (by kernel_rfl) (by assumption) ?_
 simp only [Act.put, List.setIfInBounds_toArray, List.set_cons_zero, List.set_cons_succ]
 refine skipD 13 23 rfl (by kernel_rfl) (by kernel_rfl) (by kernel_rfl) (by kernel_rfl) (fun _ _ _ h => h) (by kernel_rfl) (by assumption) ?_
 simp only [Act.put, List.setIfInBounds_toArray, List.set_cons_zero, List.set_cons_succ]
 refine skipD 14 24 rfl (by kernel_rfl) (by kernel_rfl) (by kernel_rfl) (by kernel_rfl) (fun _ _ _ h => h) (by kernel_rfl) (by assumption) ?_
 simp only [Act.put, List.setIfInBounds_toArray, List.set_cons_zero, List.set_cons_succ]
 refine skipD 15 25 rfl (by kernel_rfl) (by kernel_rfl) (by kernel_rfl) (by kernel_rfl) (fun _ _ _ h => h) (by kernel_rfl) (by assumption) ?_
 simp only [Act.put, List.setIfInBounds_toArray, List.set_cons_zero, List.set_cons_succ]
 refine skipD 16 26 rfl (by kernel_rfl) (by kernel_rfl) (by kernel_rfl) (by kernel_rfl) (fun _ _ _ h => h) (by kernel_rfl) (by assumption) ?_
 simp only [Act.put, List.setIfInBounds_toArray, List.set_cons_zero, List.set_cons_succ]
 refine skipD 17 27 rfl (by kernel_rfl) (by kernel_rfl) (by kernel_rfl) (by kernel_rfl) (fun _ _ _ h => h) (by kernel_rfl) (by assumption) ?_
 simp only [Act.put, List.setIfInBounds_toArray, List.set_cons_zero, List.set_cons_succ]
 refine skipD 18 28 rfl (by kernel_rfl) (by kernel_rfl) (by kernel_rfl) (by kernel_rfl) (fun _ _ _ h => h) (by kernel_rfl) (by assumption) ?_
 simp only [Act.put, List.setIfInBounds_toArray, List.set_cons_zero, List.set_cons_succ]
 refine skipD 19 29 rfl (by kernel_rfl) (by kernel_rfl) (by kernel_rfl) (by kernel_rfl) (fun _ _ _ h => h) (by kernel_rfl) (by assumption) ?_
 simp only [Act.put, List.setIfInBounds_toArray, List.set_cons_zero, List.set_cons_succ]
 refine takeD 20 30 ?v8 rfl (by kernel_rfl) (by kernel_rfl) (by kernel_rfl) (by kernel_rfl) (fun _ _ _ h => h) (Or.inl ⟨by rfl, ?hy8⟩) (by assumption) ?rest8
 case hy8 => intro wz hSw; (try dsimp only at hSw); go_simp; try with_reducible rfl
 simp only [Act.put, List.setIfInBounds_toArray, List.set_cons_zero, List.set_cons_succ]
 refine wpAnyH_done (by kernel_rfl) ?_ _
 go_wp2
 exact bodyPost_ret (results_none rfl _ _ _) rfl ⟨rfl, HB2.out⟩
theorem Qjp {w : World} {ops : Array Oper} {o : Oper} {a0 : Act} {K : Act → World → Prop} {Q : Exit → Act → World → Prop} {E : Prop} (hgd : o.guard = none) (s x : Operand)
 (ho : o.op = .call { callee := .builtin .append, args := #[s, x], argTypes := #[43, 43] }) (v : Value) (n : Nat) (xs : List Value) (hs : a0.eval s = v) (hown : w.ownsRow 0 50 5 v n xs)
 (g : Nat) (x1 x2 x3 x4 x5 : Value) (hx : a0.eval x = .slice (some ⟨g, 0, none⟩) 1 1) (hc : ∀ j u, [x1, x2, x3, x4, x5][j]? = some u → w.cell? ((⟨g, 0, none⟩ : Addr).add j) = some u) (h1 : ∀ u ∈ [x1, x2, x3, x4, x5], u.oneCell' = true) (hn : n ≤ 1000)
 (h : ∀ v' w', w'.ownsRow 0 50 5 v' (n + 1) (xs ++ [x1, x2, x3, x4, x5]) → w.grownBy w' v.ownBlock → (∀ k, v'.ownBlock = some k → v.ownBlock = some k ∨ w.heap.size ≤ k) → K (a0.put o.dst v') w') :
 if Region.wanted o (yielded ops a0.tmps) = true then Oper.wp Tryz.prog o a0 w K Q else E := by
 have hw : Region.wanted o (yielded ops a0.tmps) = true := by simp [Region.wanted, hgd]
 rw [if_pos hw]
 obtain ⟨i0, hi, hz0, hz1, hz2⟩ := info_parts Qc9
 obtain ⟨v', w', hr, k1, k2, k3⟩ := Qaq (ty := o.type) (c := 1) Tryz.underlying43 hi hz0 hz1 hz2 rfl (by decide) hown (m := 1) (news := [x1, x2, x3, x4, x5]) rfl hc h1 (by unfold maxLen; omega) (by omega)
 unfold Oper.wp execOp
 simp only [ho, resolve, invoke, builtin, Sem.run_bind, Sem.run_pure, Result.andThen_ok, List.map_toArray, List.map_cons, List.map_nil, hs, hx, hr]
 exact h v' w' k1 k2 k3
theorem QdJ (args : Array Value) (w : World) : (callFunc 108 args).run Tryz.prog w = .ok (.enter 108 args) w := by kernel_rfl
theorem QbW {w : World} {ops : Array Oper} {o : Oper} {a0 : Act} {K : Act → World → Prop} {Q : Exit → Act → World → Prop} {E : Prop} (hgd : o.guard = none) (x : Operand) (ats : Array TypeId)
 (ho : o.op = .call { callee := .value (.func 108), args := #[x], argTypes := ats }) (v : Value) (m : Mal) (hx : a0.eval x = v) (hv : MalAt w v m) (hxl : m.text.length ≤ 64)
 (h : ∀ p6 c6 q6 d6 w', w'.ownsRow w.heap.size 54 2 (.slice p6 m.label.length c6) m.label.length (flat2 m.label) → w'.ownsRow w.heap.size 3 1 (.slice q6 m.grants.length d6) m.grants.length (flat1 m.grants) → Below w.heap.size w w' → K (a0.put o.dst (.agg #[.int .i64 m.host, .int .i64 m.thread, .slice p6 m.label.length c6, .slice q6 m.grants.length d6, .string ⟨m.text.toArray⟩])) w') :
 if Region.wanted o (yielded ops a0.tmps) = true then Oper.wp Tryz.prog o a0 w K Q else E := by
 have hw : Region.wanted o (yielded ops a0.tmps) = true := by simp [Region.wanted, hgd]
 rw [if_pos hw]
 unfold Oper.wp
 obtain ⟨dst, op, ty, pos, after, guard⟩ := o
 simp only at ho
 subst ho
 rw [execOp_call_go]
 have e : (#[] ++ #[x].map a0.eval ++ #[] : Array Value) = #[v] := by simp [hx]
 rw [e, QdJ, Oper.upon_enter]
 refine (QcP v m w hv (by omega)).mono ?_
 rintro e w' ⟨vl, vg, rfl, h1, h2, h3⟩
 obtain ⟨p6, c6, rfl⟩ := Qo h1
 obtain ⟨q6, d6, rfl⟩ := Qo h2
 have hx2 := h p6 c6 q6 d6 w' h1 h2 h3
 unfold malV
 rw [QbP hxl]
 exact hx2
theorem Qh1 {w w1 : World} {G : List Nat} {B : Nat} {v v7 u1 u2 : Value} {vs : List (Value × Value)} {ms : List Mal} {m : Mal} (h1 : vs.length = ms.length) (hold : w.ownsRow 0 50 5 v ms.length (flatM vs ms)) (h3 : ∀ j (g1 : j < vs.length) (g2 : j < ms.length), RoLab w G vs[j].1 ms[j].label ∧ RoInts w G vs[j].2 ms[j].grants)
 (hv : ∀ k, v.ownBlock = some k → k ∈ G) (hl : w.ownsRow B 54 2 u1 m.label.length (flat2 m.label)) (hi : w.ownsRow B 3 1 u2 m.grants.length (flat1 m.grants)) (hlen : m.label.length ≤ 8796093022208) (hlen2 : m.grants.length ≤ 17592186044416) (hB : ∀ k ∈ G, k < B)
 (hown : w1.ownsRow 0 50 5 v7 (ms.length + 1) (flatM vs ms ++ [.int .i64 m.host, .int .i64 m.thread, u1, u2, .string ⟨m.text.toArray⟩])) (hg : w.grownBy w1 v.ownBlock)
 (hwh : ∀ k, v7.ownBlock = some k → v.ownBlock = some k ∨ w.heap.size ≤ k) : MailsAt w1 (G ++ v7.ownBlock.toList) v7 (ms ++ [m]) := by
 have hk : KeptF v.ownBlock.toList w w1 := QN hg fun k e => .inl (by rw [e]; simp)
 have hm := QbJ w G hv hwh
 have hl1 := Qbw hl hold (by decide) hg
 have hi1 := Qbw hi hold (by decide) hg
 refine ⟨vs ++ [(u1, u2)], by simp [h1], ?_, fun j g1 g2 => ?_⟩
 · rw [Qip vs ms h1, List.length_append]
   exact hown
 · by_cases hj : j < vs.length
   · rw [List.getElem_append_left hj, List.getElem_append_left (by omega)]
     have hh := h3 j hj (by omega)
     exact ⟨hh.1.keep (hk.sub fun k e => .inl (hv k (QH e))) hm, hh.2.keep (hk.sub fun k e => .inl (hv k (QH e))) hm⟩
   · have ej : j = vs.length := by simp at g1; omega
     subst ej
     rw [List.getElem_append_right (Nat.le_refl _), List.getElem_append_right (by omega)]
     simp only [h1, Nat.sub_self, List.getElem_cons_zero]
     refine ⟨⟨QR hl1 hlen, fun _ k e hF => ?_⟩, ⟨QV hi1 hlen2, fun _ k e hF => ?_⟩⟩
     · have hb := Qs hl1 e
       rcases List.mem_append.1 hF with g | g
       · have := hB k g; omega
       · exact Qac hl1 hown (by decide) e (QH g)
     · have hb := Qs hi1 e
       rcases List.mem_append.1 hF with g | g
       · have := hB k g; omega
       · exact Qac hi1 hown (by decide) e (QH g)
theorem laid5 (w : World) (a b c d e : Value) (t : TypeId) : ∀ j u, [a, b, c, d, e][j]? = some u → (w.alloc (.cells #[a, b, c, d, e] t)).cell? ((⟨w.heap.size, 0, none⟩ : Addr).add j) = some u := by
 intro j u hu
 rw [WideShapes.add_plain, Nat.zero_add, World.cell?_alloc_mark]
 simpa using hu
set_option maxRecDepth 100000 in
set_option maxHeartbeats 6400000 in
theorem Qhk (kb t : Nat) (F : List Nat) (V : List ThrV) (K : Ker) (m : Mal) (vm : Value) (w : World) (h : KerAt w kb F V K) (h1 : t < V.length) (h2 : t < K.ths.length) (hm : MalAt w vm m) (hl : K.ths[t].own.length ≤ 1000) (he : mailE m = 0) (hf : flowsL m.label K.ths[t].label K.ths[t].own = true) (hroom : K.ths[t].mails.length < 6) :
 Calls Tryz.prog 86 #[.pointer (some ⟨kb, 0, none⟩), .int .i64 t, vm] w fun e w' => e = .returned (.tuple #[]) ∧ ∃ G V', KerAt w' kb G V' { K with ths := K.ths.set t { K.ths[t] with mails := K.ths[t].mails ++ [m] } } ∧ KStep kb w F V w' G V' := by
 have h4 : t < 4 := by rw [← h.len]; exact h1
 have hT := h.tat t h1 h2
 obtain ⟨t0, t1, t2, t3, t4⟩ := hT.cells
 obtain ⟨ptl, ctl, hvl, _⟩ := id hT.thr.1.1
 obtain ⟨po, co, hvo⟩ := ownV hT.thr.2.1
 obtain ⟨vs, hvs, hmr, hros⟩ := id hT.thr.2.2.2
 obtain ⟨pm, cm, hvm⟩ := Qo hmr
 have hxl : m.text.length ≤ 64 := (Qhs he).2.2
 have hmal := fun wx (hb : Below w.heap.size w wx) => QZ vm m wx (hm.below hb)
 rw [he] at hmal
 have HM := hid hm
 obtain ⟨vl, vg, rfl, hla, hgr⟩ := hm
 have hlen := hla.len
 have hlen2 := hgr.len
 have hfl := fun wx (hb : Below w.heap.size w wx) => Q4 _ _ _ m.label K.ths[t].label K.ths[t].own wx (hla.below hb) (hT.thr.1.1.below hb) ((Qag hT.thr.2.1 hl).below hb)
 rw [hf, hvl, hvo] at hfl
 obtain ⟨pl, cl, rfl, _⟩ := id hla
 obtain ⟨pg, cg, rfl, _⟩ := id hgr
 rw [hvl] at t0
 rw [hvo] at t1
 rw [hvm] at t4
 have hkb := h.fin kb h.kbF
 have s0 := fun ob => QaG ob t0
 have s1 := fun ob => QaG ob t1
 have HVM := hid hvm
 have HOB := hid hmr
 have HVS := hid hvs
 have HROS := hid hros
 have HT := hid hT
 have HK := hid h
 unfold malV at hmal HM ⊢
 clear hT h hla hgr hmr hvm hvs hros
 generalize hth : K.ths[t] = th at *
 have HTH := hid hth
 clear hth
 go_enter Tryz.func86, Tryz.ntmps86
 go_wp2_with (go_at_call 59; refine (QJ kb t _ h4).mono ?_; rintro e w1 ⟨rfl, rfl⟩)
 have HW0 := hid (Below.refl (w.alloc (.cells #[.int .i64 m.host, .int .i64 m.thread, .slice pl m.label.length cl, .slice pg m.grants.length cg, .string ⟨m.text.toArray⟩] 50)).heap.size (w.alloc (.cells #[.int .i64 m.host, .int .i64 m.thread, .slice pl m.label.length cl, .slice pg m.grants.length cg, .string ⟨m.text.toArray⟩] 50)))
 have HB0 := hid (Qd w (.cells #[.int .i64 m.host, .int .i64 m.thread, .slice pl m.label.length cl, .slice pg m.grants.length cg, .string ⟨m.text.toArray⟩] 50))
 have HT0 := hid t0
 have HT1 := hid t1
 have HT4 := hid t4
 go_region_held3 (fun w' => (w'.cell? ⟨w.heap.size, 0, none⟩ = some (.int .i64 m.host) ∧ w'.cell? ⟨w.heap.size, 1, none⟩ = some (.int .i64 m.thread) ∧ w'.cell? ⟨w.heap.size, 2, none⟩ = some (.slice pl m.label.length cl) ∧ w'.cell? ⟨w.heap.size, 3, none⟩ = some (.slice pg m.grants.length cg) ∧ w'.cell? ⟨w.heap.size, 4, none⟩ = some (.string ⟨m.text.toArray⟩)) ∧ w'.cell? ⟨kb, 2 + t * 5, none⟩ = some (.slice ptl th.label.length ctl) ∧ w'.cell? ⟨kb, 2 + t * 5 + 1, none⟩ = some (.slice po th.own.length co)) (go_keep)
  (first
   | (go_at_call 127; refine (hmal _ HB0.out.drew).mono ?_; rintro e w2 ⟨rfl, hwd⟩; have hw := kundrew hwd; have HW2 := hid (Qc HW0.out hw); have HB2 := hid (Qc HB0.out hw); obtain ⟨z0, z1, z2, z3, z4⟩ := box5k HW2.out; have u0 := HB2.out.cell (Qf HT0.out); rw [HT0.out] at u0; have u1 := HB2.out.cell (Qf HT1.out); rw [HT1.out] at u1; clear hw hwd)
   | (go_at_call 14; refine (hfl _ HB2.out).mono ?_; rintro e w3 ⟨rfl, hw⟩; have HW3 := hid (Qc HW2.out hw); have HB3 := hid (Qc HB2.out hw); obtain ⟨y0, y1, y2, y3, y4⟩ := box5k HW3.out; have v0 := HB3.out.cell (Qf HT0.out); rw [HT0.out] at v0; have v1 := HB3.out.cell (Qf HT1.out); rw [HT1.out] at v1; clear hw))
 all_goals
  have q4 := HB3.out.cell (Qf HT4.out)
  rw [HT4.out] at q4
  have HT3 := hid (HT.out.below HB3.out)
  have hb3 := HB3.out
  have hroom2 : ((th.mails.length : Int)) < 6 := by omega
  have hdec : (54 : Nat) ≠ 50 := by decide
  clear v0 v1 t0 t1 t4 hmal hfl s0 s1
  go_wp2
  go_region_law ((first
   | (refine QbW (by rfl) (.tmp 42) #[50] (by rfl) _ m (by rfl) (HM.out.below hb3.drew) hxl ?_; intro p6 c6 q6 d6 w6 hownL hownG hw6d; have hw6 := kundrew hw6d; have z4 := hw6.cell (Qf q4); rw [q4] at z4; have hlt6 : kb < w6.heap.size := Qf z4; have HOWL := hid hownL; have HOWG := hid hownG; have HW6 := hid hw6; clear hownL hownG hw6d hw6)
   | (refine Qjp (by rfl) (.tmp 41) (.tmp 44) (by rfl) (.slice pm th.mails.length cm) th.mails.length (flatM vs th.mails) (by rfl) (by rw [← HVM.out]; exact Qk (Qk HOB.out (Qc hb3 HW6.out)) (Qd w6 _)) w6.heap.size (.int .i64 m.host) (.int .i64 m.thread) (.slice p6 m.label.length c6) (.slice q6 m.grants.length d6) (.string ⟨m.text.toArray⟩) (by rfl) (laid5 w6 _ _ _ _ _ _) (by intro u hu; simp at hu; rcases hu with rfl | rfl | rfl | rfl | rfl <;> rfl) (by omega) ?_; intro v7 w7 hown7 hg7 hwh7; obtain ⟨p7, c7, rfl⟩ := Qo hown7; have HT6 := hid ((HT3.out.below HW6.out).below (Qd w6 (.cells #[.int .i64 m.host, .int .i64 m.thread, .slice p6 m.label.length c6, .slice q6 m.grants.length d6, .string ⟨m.text.toArray⟩] 50))); have haf := HT6.out.after hg7 (fun k hk => mem_rows.2 (.inr (.inr (by rw [HVM.out]; exact hk)))) HT6.out.cells.2.2.2.2; obtain ⟨y5, yf⟩ := haf; have HOWN7 := hid hown7; have HG7 := hid hg7; have HWH7 := hid hwh7; clear hown7 hg7 hwh7)))
  all_goals
   have hmails := Qh1 (m := m) HVS.out (Qk (Qk HOB.out (Qc hb3 HW6.out)) (Qd w6 (.cells #[.int .i64 m.host, .int .i64 m.thread, .slice p6 m.label.length c6, .slice q6 m.grants.length d6, .string ⟨m.text.toArray⟩] 50))) (fun j g1 g2 => ⟨(HROS.out j g1 g2).1.keep (Qx _ (Qc (Qc hb3 HW6.out) (Qd w6 _))) (More.refl _ _), (HROS.out j g1 g2).2.keep (Qx _ (Qc (Qc hb3 HW6.out) (Qd w6 _))) (More.refl _ _)⟩) (fun k e => HT6.out.rows k (mem_rows.2 (.inr (.inr e)))) (Qk HOWL.out (Qd w6 _)) (Qk HOWG.out (Qd w6 _)) hlen hlen2 (fun k e => HT3.out.fin k e) HOWN7.out (by rw [HVM.out]; exact HG7.out) (by rw [HVM.out]; exact HWH7.out)
   have hst := HT6.out.mails (by rw [HVM.out]; exact HG7.out) hmails (by rw [HVM.out]; exact HWH7.out)
   have HST := hid hst
   clear hst hmails
   go_wp2
   go_end0
   exact ⟨rfl, _, _, ((HK.out.below (Qc (Qc hb3 HW6.out) (Qd w6 _))).step h1 h2 HST.out.1 HST.out.2), (KStep.below (Qc (Qc hb3 HW6.out) (Qd w6 _))).trans (KStep.of h1 HST.out.2)⟩
theorem Qhl (kb : Nat) (t : Int) (v : Value) (m : Mal) (w : World) (hv : MalAt w v m) (ht : ¬ (0 ≤ t ∧ t < 4)) : Calls Tryz.prog 86 #[.pointer (some ⟨kb, 0, none⟩), .int .i64 t, v] w fun e w' => e = .returned (.tuple #[]) ∧ Below w.heap.size w w' := by
 obtain ⟨vl, vg, rfl, ⟨pl, cl, rfl, _⟩, ⟨pg, cg, rfl, _⟩⟩ := hv
 unfold malV
 go_enter Tryz.func86, Tryz.ntmps86
 go_wp2_with (go_at_call 59; refine (Qby kb t _ ht).mono ?_; rintro e w1 ⟨rfl, rfl⟩)
 go_quiet (fail)
 go_wp2
 refine bodyPost_ret (results_none rfl _ _ _) rfl ⟨rfl, Qc (Qd _ _) (Qt _ _)⟩
theorem QdB (kb : Nat) (t : Int) (F : List Nat) (V : List ThrV) (K : Ker) (m : Mal) (vm : Value) (w : World) (h : KerAt w kb F V K) (hg : GoodK K) (hm : MalAt w vm m) :
 Calls Tryz.prog 86 #[.pointer (some ⟨kb, 0, none⟩), .int .i64 t, vm] w fun e w' => e = .returned (.tuple #[]) ∧ ∃ G V', KerAt w' kb G V' (deliverL K t m) ∧ KStep kb w F V w' G V' := by
 have hV : V.length = 4 := h.len
 cases hth : getT K t with
 | none =>
  have e : deliverL K t m = K := by unfold deliverL; rw [hth]
  rw [e]
  exact (Qhl kb t vm m w hm (Qdd hg.four hth)).mono fun _ _ ⟨h1, h2⟩ => ⟨h1, _, _, h.below h2, KStep.below h2⟩
 | some th =>
  obtain ⟨n, rfl, hn, rfl⟩ := Q9 hth
  have e : deliverL K n m = { K with ths := K.ths.set n (boxL K.ths[n] m) } := by unfold deliverL; rw [hth]; exact QaZ K n _
  rw [e]
  have h1 : n < V.length := by rw [hV]; have := hg.four; omega
  have gt := hg.ths _ (List.getElem_mem hn)
  have hown : K.ths[n].own.length ≤ 1000 := Nat.le_trans gt.own (by decide)
  by_cases he : mailE m = 0
  rotate_left
  · rw [Ql1 he, QdP hn]
    exact (Qhn kb n m vm w (by rw [← hV]; exact h1) hm he).mono fun _ _ ⟨h1, h2⟩ => ⟨h1, _, _, h.below h2, KStep.below h2⟩
  cases hf : flowsL m.label K.ths[n].label K.ths[n].own with
  | false =>
   rw [Ql0 hf, QdP hn]
   exact (Qhm kb n F V K m vm w h h1 hn hm hown he hf).mono fun _ _ ⟨h1, h2⟩ => ⟨h1, _, _, h.below h2, KStep.below h2⟩
  | true =>
   by_cases hr : 6 ≤ K.ths[n].mails.length
   · rw [QkE hr, QdP hn]
     exact (QfX kb n F V K m vm w h h1 hn hm hown he hf hr).mono fun _ _ ⟨h1, h2⟩ => ⟨h1, _, _, h.below h2, KStep.below h2⟩
   · have eb : boxL K.ths[n] m = { K.ths[n] with mails := K.ths[n].mails ++ [m] } := by unfold boxL; rw [if_pos ⟨he, hf, by omega⟩]
     rw [eb]
     exact Qhk kb n F V K m vm w h h1 hn hm hown he hf (by omega)
def ObjsNew (w : World) (B : Nat) (v : Value) (os : List Obt) : Prop :=
 ∃ vs, vs.length = os.length ∧ w.ownsRow B 56 2 v os.length (flatO vs os) ∧ ∀ j (h1 : j < vs.length) (h2 : j < os.length), w.ownsRow B 54 2 vs[j] os[j].label.length (flat2 os[j].label)
def MailsNew (w : World) (B : Nat) (v : Value) (ms : List Mal) : Prop :=
 ∃ vs : List (Value × Value), vs.length = ms.length ∧ w.ownsRow B 50 5 v ms.length (flatM vs ms) ∧ ∀ j (h1 : j < vs.length) (h2 : j < ms.length), w.ownsRow B 54 2 vs[j].1 ms[j].label.length (flat2 ms[j].label) ∧ w.ownsRow B 3 1 vs[j].2 ms[j].grants.length (flat1 ms[j].grants)
structure ThrNew (w : World) (B : Nat) (vl vo vj vm : Value) (th : Thr) : Prop where
 lab : w.ownsRow B 54 2 vl th.label.length (flat2 th.label)
 own : w.ownsRow B 3 1 vo th.own.length (flat1 th.own)
 objs : ObjsNew w B vj th.objs
 mails : MailsNew w B vm th.mails
def Far (w : World) (B : Nat) (R : List Nat) : Prop := ∀ k ∈ R, k < B ∨ ∃ C t, w.heap[k]? = some (.cells C t (0, 0)) ∧ (54 : Nat) ≠ t ∧ (3 : Nat) ≠ t ∧ (56 : Nat) ≠ t ∧ (50 : Nat) ≠ t
theorem QcC {w : World} {B : Nat} {R : List Nat} (h : ∀ k ∈ R, k < B) : Far w B R := fun k hk => .inl (h k hk)
theorem Qfr {w w' : World} {B : Nat} {R : List Nat} {v : Value} {n : Nat} {xs : List Value} {s : Nat} (h : w.ownsRow B 54 s v n xs) (hf : Far w B R) (hk : KeptF R w w') : w'.ownsRow B 54 s v n xs :=
 QP h hk fun k e g => by
  rcases hf k g with hlt | ⟨C, t, hC, h1, _⟩
  · have := Qs h e; omega
  · exact Qy h hC h1 e
theorem Qje {w w' : World} {B : Nat} {R : List Nat} {v : Value} {n : Nat} {xs : List Value} {s : Nat} (h : w.ownsRow B 3 s v n xs) (hf : Far w B R) (hk : KeptF R w w') : w'.ownsRow B 3 s v n xs :=
 QP h hk fun k e g => by
  rcases hf k g with hlt | ⟨C, t, hC, _, h1, _⟩
  · have := Qs h e; omega
  · exact Qy h hC h1 e
theorem Qmp {w w' : World} {B : Nat} {R : List Nat} {v : Value} {n : Nat} {xs : List Value} {s : Nat} (h : w.ownsRow B 56 s v n xs) (hf : Far w B R) (hk : KeptF R w w') : w'.ownsRow B 56 s v n xs :=
 QP h hk fun k e g => by
  rcases hf k g with hlt | ⟨C, t, hC, _, _, h1, _⟩
  · have := Qs h e; omega
  · exact Qy h hC h1 e
theorem QlN {w w' : World} {B : Nat} {R : List Nat} {v : Value} {n : Nat} {xs : List Value} {s : Nat} (h : w.ownsRow B 50 s v n xs) (hf : Far w B R) (hk : KeptF R w w') : w'.ownsRow B 50 s v n xs :=
 QP h hk fun k e g => by
  rcases hf k g with hlt | ⟨C, t, hC, _, _, _, h1⟩
  · have := Qs h e; omega
  · exact Qy h hC h1 e
theorem ObjsNew.keep {w w' : World} {B : Nat} {R : List Nat} {v : Value} {os : List Obt} (h : ObjsNew w B v os) (hf : Far w B R) (hk : KeptF R w w') : ObjsNew w' B v os := by
 obtain ⟨vs, h1, h2, h3⟩ := h
 exact ⟨vs, h1, Qmp h2 hf hk, fun j g1 g2 => Qfr (h3 j g1 g2) hf hk⟩
theorem MailsNew.keep {w w' : World} {B : Nat} {R : List Nat} {v : Value} {ms : List Mal} (h : MailsNew w B v ms) (hf : Far w B R) (hk : KeptF R w w') : MailsNew w' B v ms := by
 obtain ⟨vs, h1, h2, h3⟩ := h
 exact ⟨vs, h1, QlN h2 hf hk, fun j g1 g2 => ⟨Qfr (h3 j g1 g2).1 hf hk, Qje (h3 j g1 g2).2 hf hk⟩⟩
theorem ThrNew.keep {w w' : World} {B : Nat} {R : List Nat} {vl vo vj vm : Value} {th : Thr} (h : ThrNew w B vl vo vj vm th) (hf : Far w B R) (hk : KeptF R w w') : ThrNew w' B vl vo vj vm th :=
 ⟨Qfr h.lab hf hk, Qje h.own hf hk, h.objs.keep hf hk, h.mails.keep hf hk⟩
theorem ThrNew.below {w w' : World} {B : Nat} {vl vo vj vm : Value} {th : Thr} (h : ThrNew w B vl vo vj vm th) (hb : Below w.heap.size w w') : ThrNew w' B vl vo vj vm th :=
 h.keep (R := []) (fun _ h => by cases h) (Qx _ hb)
theorem Qio (vs : List Value) (os : List Obt) (h : vs.length = os.length) (i : Nat) (hi : i < os.length) (u : Value) : (flatO vs os).set (i * 2) u = flatO (vs.set i u) os := by
 induction vs generalizing os i with
 | nil => simp at h; omega
 | cons y r ih =>
  cases os with
  | nil => simp at hi
  | cons z t =>
   have e : flatO (y :: r) (z :: t) = y :: .string ⟨z.text.toArray⟩ :: flatO r t := rfl
   cases i with
   | zero => rw [e]; rfl
   | succ i =>
    rw [e, show (i + 1) * 2 = i * 2 + 1 + 1 by omega, List.set_cons_succ, List.set_cons_succ, ih t (by simpa using h) i (by simpa using hi)]
    rfl
theorem Qfh (vs : List (Value × Value)) (ms : List Mal) (h : vs.length = ms.length) (i : Nat) (h1 : i < vs.length) (h2 : i < ms.length) : (flatM vs ms)[i * 5]? = some (.int .i64 ms[i].host) ∧ (flatM vs ms)[i * 5 + 1]? = some (.int .i64 ms[i].thread) ∧ (flatM vs ms)[i * 5 + 2]? = some vs[i].1 ∧ (flatM vs ms)[i * 5 + 3]? = some vs[i].2 ∧ (flatM vs ms)[i * 5 + 4]? = some (.string ⟨ms[i].text.toArray⟩) := by
 induction vs generalizing ms i with
 | nil => simp at h1
 | cons x r ih =>
  cases ms with
  | nil => simp at h2
  | cons y t =>
   have e : flatM (x :: r) (y :: t) = .int .i64 y.host :: .int .i64 y.thread :: x.1 :: x.2 :: .string ⟨y.text.toArray⟩ :: flatM r t := rfl
   cases i with
   | zero => rw [e]; exact ⟨rfl, rfl, rfl, rfl, rfl⟩
   | succ i =>
    have := ih t (by simpa using h) i (by simpa using h1) (by simpa using h2)
    rw [e, show (i + 1) * 5 = i * 5 + 1 + 1 + 1 + 1 + 1 by omega]
    simp only [List.getElem?_cons_succ, List.getElem_cons_succ]
    exact ⟨this.1, this.2.1, this.2.2.1, this.2.2.2.1, this.2.2.2.2⟩
theorem Qiq (vs : List (Value × Value)) (ms : List Mal) (h : vs.length = ms.length) (i : Nat) (h1 : i < vs.length) (hi : i < ms.length) (u1 u2 : Value) :
 (((((flatM vs ms).set (i * 5) (.int .i64 ms[i].host)).set (i * 5 + 1) (.int .i64 ms[i].thread)).set (i * 5 + 2) u1).set (i * 5 + 3) u2).set (i * 5 + 4) (.string ⟨ms[i].text.toArray⟩) = flatM (vs.set i (u1, u2)) ms := by
 induction vs generalizing ms i with
 | nil => simp at h; omega
 | cons y r ih =>
  cases ms with
  | nil => simp at hi
  | cons z t =>
   have e : flatM (y :: r) (z :: t) = .int .i64 z.host :: .int .i64 z.thread :: y.1 :: y.2 :: .string ⟨z.text.toArray⟩ :: flatM r t := rfl
   cases i with
   | zero => rw [e]; rfl
   | succ i =>
    have := ih t (by simpa using h) i (by simpa using h1) (by simpa using hi)
    rw [e, show (i + 1) * 5 = i * 5 + 1 + 1 + 1 + 1 + 1 by omega]
    simp only [List.set_cons_succ, List.getElem_cons_succ]
    rw [this]
    rfl
theorem Qf6 {w : World} {F : List Nat} : ∀ (vs : List Value) (os : List Obt), vs.length = os.length → (∀ j (h1 : j < vs.length) (h2 : j < os.length), RoLab w F vs[j] os[j].label) → ∀ u ∈ flatO vs os, u.oneCell' = true
 | [], _, _, _, u, hu => by simp [flatO] at hu
 | x :: r, [], h, _, _, _ => by simp at h
 | x :: r, y :: t, h, hr, u, hu => by
  have e : flatO (x :: r) (y :: t) = x :: .string ⟨y.text.toArray⟩ :: flatO r t := rfl
  rw [e] at hu
  rcases List.mem_cons.1 hu with rfl | hu
  · obtain ⟨p, c, hp, _⟩ := (hr 0 (by simp) (by simp)).1
    simp only [List.getElem_cons_zero] at hp
    rw [hp]
    rfl
  · rcases List.mem_cons.1 hu with rfl | hu
    · rfl
    · exact Qf6 r t (by simpa using h) (fun j h1 h2 => hr (j + 1) (Nat.succ_lt_succ h1) (Nat.succ_lt_succ h2)) u hu
theorem QiF (v : Value) (n : Nat) (xs : List Value) (w : World) (h : w.ownsRow 0 56 2 v n xs) (hn : n ≤ 1000) (h1 : ∀ u ∈ xs, u.oneCell' = true) :
 Calls Tryz.prog 106 #[v] w fun e w' => ∃ p c, e = .returned (.slice p n c) ∧ w'.ownsRow w.heap.size 56 2 (.slice p n c) n xs ∧ Below w.heap.size w w' := by
 rcases h.2 with ⟨rfl, rfl⟩ | ⟨g, cap, cur, rfl, _⟩
 · have hx : xs = [] := List.length_eq_zero_iff.1 (by simpa using h.1)
   subst hx
   refine (QgY 0 0 w).mono ?_
   rintro e w' ⟨rfl, rfl⟩
   exact ⟨_, _, rfl, World.ownsRow_nil _ _ _ _, Below.refl _ _⟩
 · refine (QgX _ n cap xs w h.1 hn (fun j u hu => World.ownsRow.cells h (g := g) rfl _ _ hu) h1).mono ?_
   rintro e w' ⟨v', rfl, k1, k2⟩
   obtain ⟨p, c, rfl⟩ := Qo k1
   exact ⟨p, c, rfl, k1, k2⟩
theorem QiG (v : Value) (n : Nat) (xs : List Value) (w : World) (h : w.ownsRow 0 50 5 v n xs) (hn : n ≤ 1000) (h1 : ∀ u ∈ xs, u.oneCell' = true) :
 Calls Tryz.prog 107 #[v] w fun e w' => ∃ p c, e = .returned (.slice p n c) ∧ w'.ownsRow w.heap.size 50 5 (.slice p n c) n xs ∧ Below w.heap.size w w' := by
 rcases h.2 with ⟨rfl, rfl⟩ | ⟨g, cap, cur, rfl, _⟩
 · have hx : xs = [] := List.length_eq_zero_iff.1 (by simpa using h.1)
   subst hx
   refine (Qg0 0 0 w).mono ?_
   rintro e w' ⟨rfl, rfl⟩
   exact ⟨_, _, rfl, World.ownsRow_nil _ _ _ _, Below.refl _ _⟩
 · refine (QgZ _ n cap xs w h.1 hn (fun j u hu => World.ownsRow.cells h (g := g) rfl _ _ hu) h1).mono ?_
   rintro e w' ⟨v', rfl, k1, k2⟩
   obtain ⟨p, c, rfl⟩ := Qo k1
   exact ⟨p, c, rfl, k1, k2⟩
structure CpO (w : World) (B : Nat) (vl vo vj vm : Value) (th : Thr) (vs0 : List Value) (k : Nat) (wr : World) : Prop where
 box : wr.heap[B]? = some (.cells #[vl, vo, .string ⟨th.text.toArray⟩, vj, vm] 45 (0, 0))
 res : wr.heap[B + 1]? = some (.cells #[.slice none 0 0, .slice none 0 0, .string ⟨#[]⟩, .slice none 0 0, .slice none 0 0] 45 (0, 0))
 below : Below B w wr
 lab : wr.ownsRow B 54 2 vl th.label.length (flat2 th.label)
 own : wr.ownsRow B 3 1 vo th.own.length (flat1 th.own)
 row : ∃ vs, vs.length = th.objs.length ∧ wr.ownsRow B 56 2 vj th.objs.length (flatO vs th.objs) ∧ ∀ j (h1 : j < vs.length) (h2 : j < th.objs.length), (j < k → wr.ownsRow B 54 2 vs[j] th.objs[j].label.length (flat2 th.objs[j].label)) ∧ (k ≤ j → vs0[j]? = some vs[j])
theorem Qgf {B : Nat} {w a b : World} (h : Below B w a) (hb : Below a.heap.size a b) (hB : B ≤ a.heap.size) : Below B w b := h.trans (hb.mono hB)
theorem CpO.step {w : World} {B : Nat} {vl vo vm : Value} {th : Thr} {vs0 : List Value} {k : Nat} {wr w1 : World} {g cap : Nat} {u : Value} (h : CpO w B vl vo (.slice (some ⟨g, 0, none⟩) th.objs.length cap) vm th vs0 k wr) (hk : k < th.objs.length) (hb : Below wr.heap.size wr w1) (hu : w1.ownsRow B 54 2 u th.objs[k].label.length (flat2 th.objs[k].label)) :
 CpO w B vl vo (.slice (some ⟨g, 0, none⟩) th.objs.length cap) vm th vs0 (k + 1) (w1.setCell ⟨g, k * 2, none⟩ u) := by
 obtain ⟨vs, r1, r2, r3⟩ := h.row
 have q2 := Qk r2 hb
 have hs := Qai (F := [g]) w1 g (k * 2) u (by simp)
 have hgB := Qs r2 (k := g) rfl
 have hBs : B ≤ wr.heap.size := Nat.le_of_lt (Qw h.box)
 have hlab : ∀ {v : Value} {n : Nat} {xs : List Value}, w1.ownsRow B 54 2 v n xs → (w1.setCell ⟨g, k * 2, none⟩ u).ownsRow B 54 2 v n xs := fun hv => QP hv hs fun i e hi => by
  simp at hi; subst hi; exact Qac hv q2 (by decide) e rfl
 have hbox : ∀ {i : Nat} {C : Array Value}, w1.heap[i]? = some (.cells C 45 (0, 0)) → (w1.setCell ⟨g, k * 2, none⟩ u).heap[i]? = some (.cells C 45 (0, 0)) := fun hi => hs.heap hi fun e => by
  simp at e; subst e; exact Qy q2 hi (by decide) rfl
 refine ⟨hbox (Qe h.box hb), hbox (Qe h.res hb), ?_, hlab (Qk h.lab hb), QP (Qk h.own hb) hs (fun i e hi => by simp at hi; subst hi; exact Qac (Qk h.own hb) q2 (by decide) e rfl), vs.set k u, by simpa using r1, ?_, fun j h1 h2 => ⟨fun hj => ?_, fun hj => ?_⟩⟩
 · exact (Qgf h.below hb hBs).grown (Qg w1 g _ u) (Nat.le_trans hBs hb.size) (fun i hi => by have := Option.some.inj hi; omega)
 · rw [← Qio vs th.objs r1 k hk u]
   exact QT q2 (by omega) u
 · rw [List.length_set] at h1
   by_cases e : k = j
   · subst e
     rw [List.getElem_set_self]
     exact hlab hu
   · rw [List.getElem_set_ne e]
     exact hlab (Qk ((r3 j h1 h2).1 (by omega)) hb)
 · rw [List.length_set] at h1
   rw [List.getElem_set_ne (by omega)]
   exact (r3 j h1 h2).2 (by omega)
structure CpM (w : World) (B : Nat) (vl vo vj vm : Value) (th : Thr) (us0 : List (Value × Value)) (k : Nat) (wr : World) : Prop where
 box : wr.heap[B]? = some (.cells #[vl, vo, .string ⟨th.text.toArray⟩, vj, vm] 45 (0, 0))
 res : wr.heap[B + 1]? = some (.cells #[.slice none 0 0, .slice none 0 0, .string ⟨#[]⟩, .slice none 0 0, .slice none 0 0] 45 (0, 0))
 below : Below B w wr
 lab : wr.ownsRow B 54 2 vl th.label.length (flat2 th.label)
 own : wr.ownsRow B 3 1 vo th.own.length (flat1 th.own)
 objs : ObjsNew wr B vj th.objs
 row : ∃ us : List (Value × Value), us.length = th.mails.length ∧ wr.ownsRow B 50 5 vm th.mails.length (flatM us th.mails) ∧ ∀ j (h1 : j < us.length) (h2 : j < th.mails.length), (j < k → wr.ownsRow B 54 2 us[j].1 th.mails[j].label.length (flat2 th.mails[j].label) ∧ wr.ownsRow B 3 1 us[j].2 th.mails[j].grants.length (flat1 th.mails[j].grants)) ∧ (k ≤ j → us0[j]? = some us[j])
theorem CpM.below' {w : World} {B : Nat} {vl vo vj vm : Value} {th : Thr} {us0 : List (Value × Value)} {k : Nat} {wr w1 : World} (h : CpM w B vl vo vj vm th us0 k wr) (hb : Below wr.heap.size wr w1) : CpM w B vl vo vj vm th us0 k w1 := by
 have hBs : B ≤ wr.heap.size := Nat.le_of_lt (Qw h.box)
 obtain ⟨us, r1, r2, r3⟩ := h.row
 exact ⟨Qe h.box hb, Qe h.res hb, Qgf h.below hb hBs, Qk h.lab hb, Qk h.own hb, h.objs.keep (R := []) (fun _ h => by cases h) (Qx _ hb), us, r1, Qk r2 hb, fun j h1 h2 => ⟨fun hj => ⟨Qk ((r3 j h1 h2).1 hj).1 hb, Qk ((r3 j h1 h2).1 hj).2 hb⟩, (r3 j h1 h2).2⟩⟩
theorem CpM.step {w : World} {B : Nat} {vl vo vj : Value} {th : Thr} {us0 : List (Value × Value)} {k : Nat} {w1 : World} {g cap : Nat} {u1 u2 : Value} (h : CpM w B vl vo vj (.slice (some ⟨g, 0, none⟩) th.mails.length cap) th us0 k w1) (hk : k < th.mails.length) (hu1 : w1.ownsRow B 54 2 u1 th.mails[k].label.length (flat2 th.mails[k].label)) (hu2 : w1.ownsRow B 3 1 u2 th.mails[k].grants.length (flat1 th.mails[k].grants)) :
 CpM w B vl vo vj (.slice (some ⟨g, 0, none⟩) th.mails.length cap) th us0 (k + 1) (((((w1.setCell ⟨g, k * 5, none⟩ (.int .i64 th.mails[k].host)).setCell ⟨g, k * 5 + 1, none⟩ (.int .i64 th.mails[k].thread)).setCell ⟨g, k * 5 + 2, none⟩ u1).setCell ⟨g, k * 5 + 3, none⟩ u2).setCell ⟨g, k * 5 + 4, none⟩ (.string ⟨th.mails[k].text.toArray⟩)) := by
 obtain ⟨us, r1, r2, r3⟩ := h.row
 have hg5 := Qh (Qh (Qh (Qh (Qg w1 g (k * 5) (.int .i64 th.mails[k].host)) (Qg _ g (k * 5 + 1) (.int .i64 th.mails[k].thread))) (Qg _ g (k * 5 + 2) u1)) (Qg _ g (k * 5 + 3) u2)) (Qg _ g (k * 5 + 4) (.string ⟨th.mails[k].text.toArray⟩))
 have hrow := QT (j := k * 5 + 4) (QT (j := k * 5 + 3) (QT (j := k * 5 + 2) (QT (j := k * 5 + 1) (QT (j := k * 5) r2 (by omega) (.int .i64 th.mails[k].host)) (by omega) (.int .i64 th.mails[k].thread)) (by omega) u1) (by omega) u2) (by omega) (.string ⟨th.mails[k].text.toArray⟩)
 rw [Qiq us th.mails r1 k (by omega) hk] at hrow
 generalize ((((w1.setCell ⟨g, k * 5, none⟩ (.int .i64 th.mails[k].host)).setCell ⟨g, k * 5 + 1, none⟩ (.int .i64 th.mails[k].thread)).setCell ⟨g, k * 5 + 2, none⟩ u1).setCell ⟨g, k * 5 + 3, none⟩ u2).setCell ⟨g, k * 5 + 4, none⟩ (.string ⟨th.mails[k].text.toArray⟩) = w2 at *
 have hs : KeptF [g] w1 w2 := QN hg5 fun i e => .inl (by have := Option.some.inj e; simp; omega)
 have hgB := Qs r2 (k := g) rfl
 have hlab : ∀ {v : Value} {n : Nat} {xs : List Value}, w1.ownsRow B 54 2 v n xs → w2.ownsRow B 54 2 v n xs := fun hv => QP hv hs fun i e hi => by
  simp at hi; subst hi; exact Qac hv r2 (by decide) e rfl
 have hint : ∀ {v : Value} {n : Nat} {xs : List Value}, w1.ownsRow B 3 1 v n xs → w2.ownsRow B 3 1 v n xs := fun hv => QP hv hs fun i e hi => by
  simp at hi; subst hi; exact Qac hv r2 (by decide) e rfl
 have hbox : ∀ {i : Nat} {C : Array Value}, w1.heap[i]? = some (.cells C 45 (0, 0)) → w2.heap[i]? = some (.cells C 45 (0, 0)) := fun hi => hs.heap hi fun e => by
  simp at e; subst e; exact Qy r2 hi (by decide) rfl
 refine ⟨hbox h.box, hbox h.res, ?_, hlab h.lab, hint h.own, ?_, us.set k (u1, u2), by simpa using r1, hrow, fun j h1 h2 => ⟨fun hj => ?_, fun hj => ?_⟩⟩
 · exact h.below.grown hg5 (Nat.le_of_lt (Qw h.box)) (fun i hi => by have := Option.some.inj hi; omega)
 · obtain ⟨vs, o1, o2, o3⟩ := h.objs
   exact ⟨vs, o1, QP o2 hs (fun i e hi => by simp at hi; subst hi; exact Qac o2 r2 (by decide) e rfl), fun j g1 g2 => hlab (o3 j g1 g2)⟩
 · rw [List.length_set] at h1
   by_cases e : k = j
   · subst e
     rw [List.getElem_set_self]
     exact ⟨hlab hu1, hint hu2⟩
   · rw [List.getElem_set_ne e]
     have := (r3 j h1 h2).1 (by omega)
     exact ⟨hlab this.1, hint this.2⟩
 · rw [List.length_set] at h1
   rw [List.getElem_set_ne (by omega)]
   exact (r3 j h1 h2).2 (by omega)
set_option maxRecDepth 100000 in
set_option maxHeartbeats 6400000 in
theorem QeE (v : ThrV) (th : Thr) (F : List Nat) (w : World) (h : ThrAt w F v th) (hown : th.own.length ≤ 1000) (hob : th.objs.length ≤ 1000) (hml : th.mails.length ≤ 1000) (hxs : ∀ m ∈ th.mails, m.text.length ≤ 64) :
 Calls Tryz.prog 60 #[.agg #[v.vl, v.vo, .string ⟨th.text.toArray⟩, v.vj, v.vm]] w fun e w' => ∃ vl vo vj vm, e = .returned (.agg #[vl, vo, .string ⟨th.text.toArray⟩, vj, vm]) ∧ ThrNew w' w.heap.size vl vo vj vm th ∧ Below w.heap.size w w' := by
 obtain ⟨⟨hl, _⟩, ho, ⟨vs0, hvs, hro, hrl⟩, ⟨us0, hus, hrm, hrml⟩⟩ := h
 have hoi := Qag ho hown
 have HL := hid hl
 have HO := hid hoi
 have HRO := hid hro
 have HRM := hid hrm
 have HRL := hid hrl
 have HRML := hid hrml
 have hone := Qf6 vs0 th.objs hvs hrl
 have hmone := Qc6 us0 th.mails hus hrml
 obtain ⟨pl, cl, hvl, _⟩ := id hl
 obtain ⟨po, co, hvo, _⟩ := id hoi
 obtain ⟨pj, cj, hvj⟩ := Qo hro
 obtain ⟨pm, cm, hvm⟩ := Qo hrm
 rw [hvl] at HL ⊢
 rw [hvo] at HO ⊢
 rw [hvj] at HRO ⊢
 rw [hvm] at HRM ⊢
 clear hl hoi hro hrm hrl hrml ho hvl hvo hvj hvm
 have hb0 : Below w.heap.size w ((w.alloc (.cells #[.slice pl th.label.length cl, .slice po th.own.length co, .string ⟨th.text.toArray⟩, .slice pj th.objs.length cj, .slice pm th.mails.length cm] 45)).alloc (.cells #[.slice none 0 0, .slice none 0 0, .string ⟨#[]⟩, .slice none 0 0, .slice none 0 0] 45)) := (Qd w _).alloc (by simp) _
 go_enter Tryz.func60, Tryz.ntmps60
 go_wp2_with fail
 refine (Qa6 _ th.label _ (HL.out.below hb0)).mono ?_
 rintro e w1 ⟨v1, rfl, hown1, hw1⟩
 obtain ⟨p1, q1, rfl⟩ := Qo hown1
 have hbx1 := Qe (heap_alloc2_old w _ _) hw1
 have hrs1 := Qe (heap_alloc2_new w _ _) hw1
 have hbw1 := Qc hb0 hw1
 have hown1 := Qp (base' := w.heap.size) hown1 hb0.size
 obtain ⟨⟨c0, c1, c2, c3, c4⟩, f0, f1, f2, f3, f4⟩ := cells5 hbx1
 clear hw1 hb0
 go_wp2_with fail
 have hbx2 := heap_setCell (j := 0) hbx1 (.slice p1 th.label.length q1)
 have hrs2 := Qr hrs1 (show w.heap.size + 1 ≠ w.heap.size by omega) 0 (.slice p1 th.label.length q1)
 have hown2 := QA hown1 hbx1 (by decide) 0 (.slice p1 th.label.length q1)
 have hbw2 := hbw1.grown (Qg w1 w.heap.size 0 (.slice p1 th.label.length q1)) hbw1.size (fun k hk => by cases hk; exact Nat.le_refl _)
 clear hbx1 hrs1 hbw1 hown1 c0 c1 c2 c3 c4 f0 f1 f2 f3 f4
 generalize w1.setCell ⟨w.heap.size, 0, none⟩ (.slice p1 th.label.length q1) = w2 at *
 refine (Qcw _ th.own _ (HO.out.below hbw2)).mono ?_
 rintro e w3 ⟨v3, rfl, hown3, hw3⟩
 obtain ⟨p3, q3, rfl⟩ := Qo hown3
 have hbx3 := Qe hbx2 hw3
 have hrs3 := Qe hrs2 hw3
 have hlab3 := Qk hown2 hw3
 have hown3 := Qp (base' := w.heap.size) hown3 hbw2.size
 have hbw3 := Qc hbw2 hw3
 clear hw3 hbx2 hrs2 hbw2 hown2
 obtain ⟨⟨c0, c1, c2, c3, c4⟩, f0, f1, f2, f3, f4⟩ := cells5 hbx3
 go_wp2_with fail
 have hbx4 := heap_setCell (j := 1) hbx3 (.slice p3 th.own.length q3)
 have hrs4 := Qr hrs3 (show w.heap.size + 1 ≠ w.heap.size by omega) 1 (.slice p3 th.own.length q3)
 have hlab4 := QA hlab3 hbx3 (by decide) 1 (.slice p3 th.own.length q3)
 have hown4 := QA hown3 hbx3 (by decide) 1 (.slice p3 th.own.length q3)
 have hbw4 := hbw3.grown (Qg w3 w.heap.size 1 (.slice p3 th.own.length q3)) hbw3.size (fun k hk => by cases hk; exact Nat.le_refl _)
 clear hbx3 hrs3 hbw3 hlab3 hown3 c0 c1 c2 c3 c4 f0 f1 f2 f3 f4
 generalize w3.setCell ⟨w.heap.size, 1, none⟩ (.slice p3 th.own.length q3) = w4 at *
 refine (QiF _ th.objs.length (flatO vs0 th.objs) w4 (Qk HRO.out hbw4) hob hone).mono ?_
 rintro e w5 ⟨p5, q5, rfl, hobj5, hw4⟩
 have hbx5 := Qe hbx4 hw4
 have hrs5 := Qe hrs4 hw4
 have hlab5 := Qk hlab4 hw4
 have hown5 := Qk hown4 hw4
 have hobj5 := Qp (base' := w.heap.size) hobj5 hbw4.size
 have hbw5 := Qc hbw4 hw4
 clear hw4 hbx4 hrs4 hbw4 hlab4 hown4
 obtain ⟨⟨c0, c1, c2, c3, c4⟩, f0, f1, f2, f3, f4⟩ := cells5 hbx5
 go_wp2
 have HCP : Hid (CpO w w.heap.size (.slice p1 th.label.length q1) (.slice p3 th.own.length q3) (.slice p5 th.objs.length q5) (.slice pm th.mails.length cm) th vs0 0 (w5.setCell ⟨w.heap.size, 3, none⟩ (.slice p5 th.objs.length q5))) := hid
  ⟨heap_setCell (j := 3) hbx5 _, Qr hrs5 (show w.heap.size + 1 ≠ w.heap.size by omega) 3 _, hbw5.grown (Qg w5 w.heap.size 3 _) hbw5.size (fun k hk => by cases hk; exact Nat.le_refl _), QA hlab5 hbx5 (by decide) 3 _, QA hown5 hbx5 (by decide) 3 _, vs0, hvs, QA hobj5 hbx5 (by decide) 3 _, fun j h1 _ => ⟨fun h => by omega, fun _ => List.getElem?_eq_getElem h1⟩⟩
 clear hbx5 hrs5 hbw5 hlab5 hown5 hobj5 c0 c1 c2 c3 c4 f0 f1 f2 f3 f4
 generalize w5.setCell ⟨w.heap.size, 3, none⟩ (.slice p5 th.objs.length q5) = w6 at *
 go_loopw [22] (fun i wr => ∃ k : Nat, k ≤ th.objs.length ∧ i = .int .i64 k ∧ CpO w w.heap.size (.slice p1 th.label.length q1) (.slice p3 th.own.length q3) (.slice p5 th.objs.length q5) (.slice pm th.mails.length cm) th vs0 k wr) (fun i _ => th.objs.length - (intOf i).toNat)
 case atStart => exact ⟨0, Nat.zero_le _, rfl, HCP.out⟩
 case round =>
  clear HCP
  obtain ⟨k, hk, rfl, hcp⟩ := hrel
  have HCP := hid hcp
  by_cases hlt : k < th.objs.length
  · obtain ⟨vs, r1, r2, r3⟩ := hcp.row
    obtain ⟨g, hpe⟩ : ∃ g, p5 = some ⟨g, 0, none⟩ := by
     rcases r2.2 with ⟨_, hn⟩ | ⟨g, cap, cur, e, _⟩
     · omega
     · cases e; exact ⟨g, rfl⟩
    subst hpe
    have hvk : k < vs.length := by omega
    have hck := World.ownsRow.cells r2 (g := g) rfl _ _ (Qdf vs th.objs r1 k hvk hlt).1
    rw [WideShapes.add_plain, Nat.zero_add] at hck
    have hlab : LabAt wr vs[k] th.objs[k].label := by
     have e := (r3 k hvk hlt).2 (Nat.le_refl _)
     obtain ⟨h0, e⟩ := List.getElem?_eq_some_iff.1 e
     rw [← e]
     exact (HRL.out k h0 hlt).1.below hcp.below
    have HLK := hid hlab
    have hfr : ∀ w7, Below wr.heap.size wr w7 → w7.frozen? ⟨g, k * 2, none⟩ = false := fun w7 hb => by
     obtain ⟨cur, hg, _⟩ := QaI (Qp (Qk r2 hb) (Nat.zero_le _))
     exact Qb hg _
    have hBs : w.heap.size ≤ wr.heap.size := hcp.below.size
    have c3 := Qa hcp.box 3
    obtain ⟨pk, ck, hpk, _⟩ := id hlab
    rw [hpk] at hck
    rw [hpk] at HLK
    clear r3 r2 hcp hlab
    go_wp2_with fail
    refine (Qa6 _ th.objs[k].label _ HLK.out).mono ?_
    rintro e w7 ⟨v7, rfl, hown7, hw7⟩
    obtain ⟨p7, q7, rfl⟩ := Qo hown7
    have hf7 := hfr w7 hw7
    have hcc := hw7.cell (Qf hck)
    rw [hck] at hcc
    have HC7 := hid (HCP.out.step hlt hw7 (Qp hown7 hBs))
    clear hown7 hw7 hfr
    go_wp2
    go_roundw
    case rel => exact ⟨k + 1, hlt, by go_num, HC7.out⟩
    case measure => simp [intOf]; omega
  · have hkl : k = th.objs.length := by omega
    subst hkl
    have HOBJ : Hid (ObjsNew wr w.heap.size (.slice p5 th.objs.length q5) th.objs) := hid (by
     obtain ⟨vs, r1, r2, r3⟩ := hcp.row
     exact ⟨vs, r1, r2, fun j h1 h2 => (r3 j h1 h2).1 h2⟩)
    obtain ⟨⟨c0, c1, c2, c3, c4⟩, f0, f1, f2, f3, f4⟩ := cells5 hcp.box
    have hmr := Qk HRM.out hcp.below
    clear hcp
    go_wp2_with fail
    refine (QiG _ th.mails.length (flatM us0 th.mails) wr hmr hml hmone).mono ?_
    rintro e w8 ⟨p8, q8, rfl, hml8, hw8⟩
    have hcp8 := HCP.out
    have hbx8 := Qe hcp8.box hw8
    have hrs8 := Qe hcp8.res hw8
    have hbw8 := Qc hcp8.below hw8
    have hlab8 := Qk hcp8.lab hw8
    have hown8 := Qk hcp8.own hw8
    have hobj8 : ObjsNew w8 w.heap.size (.slice p5 th.objs.length q5) th.objs := HOBJ.out.keep (R := []) (fun _ h => by cases h) (Qx _ hw8)
    have hml8 := Qp (base' := w.heap.size) hml8 hcp8.below.size
    clear c0 c1 c2 c3 c4 f0 f1 f2 f3 f4 hmr hw8 hcp8 HCP HOBJ
    obtain ⟨⟨c0, c1, c2, c3, c4⟩, f0, f1, f2, f3, f4⟩ := cells5 hbx8
    go_wp2
    have HCM : Hid (CpM w w.heap.size (.slice p1 th.label.length q1) (.slice p3 th.own.length q3) (.slice p5 th.objs.length q5) (.slice p8 th.mails.length q8) th us0 0 (w8.setCell ⟨w.heap.size, 4, none⟩ (.slice p8 th.mails.length q8))) := hid
     ⟨heap_setCell (j := 4) hbx8 _, Qr hrs8 (show w.heap.size + 1 ≠ w.heap.size by omega) 4 _, hbw8.grown (Qg w8 w.heap.size 4 _) hbw8.size (fun k hk => by cases hk; exact Nat.le_refl _), QA hlab8 hbx8 (by decide) 4 _, QA hown8 hbx8 (by decide) 4 _, hobj8.keep (fun k hk => .inr ⟨_, _, by simp at hk; subst hk; exact hbx8, by decide, by decide, by decide, by decide⟩) (Qai (F := [w.heap.size]) w8 _ _ _ (by simp)), us0, hus, QA hml8 hbx8 (by decide) 4 _, fun j h1 _ => ⟨fun h => by omega, fun _ => List.getElem?_eq_getElem h1⟩⟩
    clear hbx8 hrs8 hbw8 hlab8 hown8 hobj8 hml8 c0 c1 c2 c3 c4 f0 f1 f2 f3 f4
    generalize w8.setCell ⟨w.heap.size, 4, none⟩ (.slice p8 th.mails.length q8) = w9 at *
    go_loopw [45] (fun i wr => ∃ k : Nat, k ≤ th.mails.length ∧ i = .int .i64 k ∧ CpM w w.heap.size (.slice p1 th.label.length q1) (.slice p3 th.own.length q3) (.slice p5 th.objs.length q5) (.slice p8 th.mails.length q8) th us0 k wr) (fun i _ => th.mails.length - (intOf i).toNat)
    case atStart => exact ⟨0, Nat.zero_le _, rfl, HCM.out⟩
    case round =>
     clear HCM
     obtain ⟨k, hk, rfl, hcm⟩ := hrel
     have HCM := hid hcm
     by_cases hlt : k < th.mails.length
     · obtain ⟨us, r1, r2, r3⟩ := hcm.row
       obtain ⟨g, hpe⟩ : ∃ g, p8 = some ⟨g, 0, none⟩ := by
        rcases r2.2 with ⟨_, hn⟩ | ⟨g, cap, cur, e, _⟩
        · omega
        · cases e; exact ⟨g, rfl⟩
       subst hpe
       have huk : k < us.length := by omega
       obtain ⟨m0, m1, m2, m3, m4⟩ := Qfh us th.mails r1 k huk hlt
       have a0 := World.ownsRow.cells r2 (g := g) rfl _ _ m0
       have a1 := World.ownsRow.cells r2 (g := g) rfl _ _ m1
       have a2 := World.ownsRow.cells r2 (g := g) rfl _ _ m2
       have a3 := World.ownsRow.cells r2 (g := g) rfl _ _ m3
       have a4 := World.ownsRow.cells r2 (g := g) rfl _ _ m4
       rw [WideShapes.add_plain, Nat.zero_add] at a0 a1 a2 a3 a4
       have hmal : LabAt wr us[k].1 th.mails[k].label ∧ IntsAt wr us[k].2 th.mails[k].grants := by
        have e := (r3 k huk hlt).2 (Nat.le_refl _)
        obtain ⟨h0, e⟩ := List.getElem?_eq_some_iff.1 e
        rw [← e]
        exact ⟨(HRML.out k h0 hlt).1.1.below hcm.below, (HRML.out k h0 hlt).2.1.below hcm.below⟩
       have hfr : ∀ w7, Below wr.heap.size wr w7 → ∀ j, w7.frozen? ⟨g, j, none⟩ = false := fun w7 hb j => by
        obtain ⟨cur, hg, _⟩ := QaI (Qp (Qk r2 hb) (Nat.zero_le _))
        exact Qb hg _
       have HFR := hid hfr
       have hBs : w.heap.size ≤ wr.heap.size := hcm.below.size
       have hBl : w.heap.size < wr.heap.size := Qw hcm.box
       have hgl : g < wr.heap.size := Qf a0
       have x4 := Qa hcm.box 4
       have hx64 := hxs th.mails[k] (List.getElem_mem hlt)
       obtain ⟨pk, ck, hpk, _⟩ := id hmal.1
       obtain ⟨pi, ci, hpi, _⟩ := id hmal.2
       rw [hpk] at a2
       rw [hpi] at a3
       have HMAL : Hid (MalAt wr (.agg #[.int .i64 th.mails[k].host, .int .i64 th.mails[k].thread, .slice pk th.mails[k].label.length ck, .slice pi th.mails[k].grants.length ci, .string ⟨th.mails[k].text.toArray⟩]) th.mails[k]) := hid ⟨_, _, rfl, by rw [← hpk]; exact hmal.1, by rw [← hpi]; exact hmal.2⟩
       have hbA := Qd wr (.cells #[.int .i64 th.mails[k].host, .int .i64 th.mails[k].thread, .slice pk th.mails[k].label.length ck, .slice pi th.mails[k].grants.length ci, .string ⟨th.mails[k].text.toArray⟩] 50)
       have HSTEP := hid (fun (wx : World) (p6 q6 : Option Addr) (c6 d6 : Nat) (hb : Below wr.heap.size wr wx) (h1 : wx.ownsRow w.heap.size 54 2 (.slice p6 th.mails[k].label.length c6) th.mails[k].label.length (flat2 th.mails[k].label)) (h2 : wx.ownsRow w.heap.size 3 1 (.slice q6 th.mails[k].grants.length d6) th.mails[k].grants.length (flat1 th.mails[k].grants)) => (HCM.out.below' hb).step (u1 := .slice p6 th.mails[k].label.length c6) (u2 := .slice q6 th.mails[k].grants.length d6) hlt h1 h2)
       clear r3 r2 hcm hmal hfr m0 m1 m2 m3 m4 hpk hpi r1 huk
       generalize th.mails[k] = m at *
       have c4A := hbA.cell (Qf x4)
       rw [x4] at c4A
       go_wp2
       go_region_law ((refine QbW (by rfl) (.tmp 53) #[50] (by rfl) _ m (by rfl) (HMAL.out.below hbA.drew) hx64 ?_; intro p6 c6 q6 d6 w10 hownL hownG hw6d; have hw6 := Qc hbA (kundrew hw6d); have z4 := hw6.cell (Qf x4); rw [x4] at z4; have f0 := HFR.out w10 hw6 (k * 5); have f1 := HFR.out w10 hw6 (k * 5 + 1); have f2 := HFR.out w10 hw6 (k * 5 + 2); have f3 := HFR.out w10 hw6 (k * 5 + 3); have f4 := HFR.out w10 hw6 (k * 5 + 4); have e0 := hw6.cell (Qf a0); rw [a0] at e0; have e1 := hw6.cell (Qf a1); rw [a1] at e1; have e2 := hw6.cell (Qf a2); rw [a2] at e2; have e3 := hw6.cell (Qf a3); rw [a3] at e3; have e4 := hw6.cell (Qf a4); rw [a4] at e4; have HOWL := hid (Qp (base' := w.heap.size) hownL (Nat.le_trans hBs hbA.size)); have HOWG := hid (Qp (base' := w.heap.size) hownG (Nat.le_trans hBs hbA.size)); have HW6 := hid hw6; clear hownL hownG hw6d hw6))
       all_goals
        have HC10 := hid (HSTEP.out w10 p6 q6 c6 d6 HW6.out HOWL.out HOWG.out)
        clear HSTEP HW6 HOWL HOWG HMAL HFR
        go_wp2
        go_roundw
        case rel => exact ⟨k + 1, hlt, by go_num, HC10.out⟩
        case measure => simp [intOf]; omega
     · have hkl : k = th.mails.length := by omega
       subst hkl
       have hnew : ThrNew wr w.heap.size (.slice p1 th.label.length q1) (.slice p3 th.own.length q3) (.slice p5 th.objs.length q5) (.slice p8 th.mails.length q8) th := ⟨hcm.lab, hcm.own, hcm.objs, by
        obtain ⟨us, r1, r2, r3⟩ := hcm.row
        exact ⟨us, r1, r2, fun j h1 h2 => (r3 j h1 h2).1 h2⟩⟩
       obtain ⟨⟨c0, c1, c2, c3, c4⟩, f0, f1, f2, f3, f4⟩ := cells5 hcm.box
       obtain ⟨⟨d0, d1, d2, d3, d4⟩, g0, g1, g2, g3, g4⟩ := cells5 hcm.res
       have hne : w.heap.size ≠ w.heap.size + 1 := by omega
       have hne2 : w.heap.size + 1 ≠ w.heap.size := by omega
       have hS := Qb5 wr (w.heap.size + 1) (.slice p1 th.label.length q1) (.slice p3 th.own.length q3) (.string ⟨th.text.toArray⟩) (.slice p5 th.objs.length q5) (.slice p8 th.mails.length q8)
       have HW := hid (QcE (.slice p1 th.label.length q1) (.slice p3 th.own.length q3) (.string ⟨th.text.toArray⟩) (.slice p5 th.objs.length q5) (.slice p8 th.mails.length q8) hcm.res)
       have HN := hid (hnew.keep (R := [w.heap.size + 1]) (fun k hk => .inr ⟨_, _, by simp at hk; subst hk; exact hcm.res, by decide, by decide, by decide, by decide⟩) (QN hS fun k e => .inl (by have := Option.some.inj e; simp; omega)))
       have HB := hid (hcm.below.grown hS hcm.below.size (fun k hk => by have := Option.some.inj hk; omega))
       clear hnew hS hcm HCM
       go_wp2
       exact bodyPost_ret (results_cell_row rfl _ _ (w.heap.size + 1) 45 _ (0, 0) _ rfl HW.out Tryz.underlying45 rfl (by kernel_rfl)) rfl ⟨_, _, _, _, rfl, HN.out, HB.out⟩
theorem ObjsNew.base {w : World} {B B' : Nat} {v : Value} {os : List Obt} (h : ObjsNew w B v os) (hB : B' ≤ B) : ObjsNew w B' v os := by
 obtain ⟨vs, h1, h2, h3⟩ := h
 exact ⟨vs, h1, Qp h2 hB, fun j g1 g2 => Qp (h3 j g1 g2) hB⟩
theorem MailsNew.base {w : World} {B B' : Nat} {v : Value} {ms : List Mal} (h : MailsNew w B v ms) (hB : B' ≤ B) : MailsNew w B' v ms := by
 obtain ⟨vs, h1, h2, h3⟩ := h
 exact ⟨vs, h1, Qp h2 hB, fun j g1 g2 => ⟨Qp (h3 j g1 g2).1 hB, Qp (h3 j g1 g2).2 hB⟩⟩
theorem ThrNew.base {w : World} {B B' : Nat} {vl vo vj vm : Value} {th : Thr} (h : ThrNew w B vl vo vj vm th) (hB : B' ≤ B) : ThrNew w B' vl vo vj vm th :=
 ⟨Qp h.lab hB, Qp h.own hB, h.objs.base hB, h.mails.base hB⟩
theorem QfY (w : World) (B : Nat) : ThrNew w B (.slice none 0 0) (.slice none 0 0) (.slice none 0 0) (.slice none 0 0) zeroThr :=
 ⟨World.ownsRow_nil _ _ _ _, World.ownsRow_nil _ _ _ _, ⟨[], rfl, World.ownsRow_nil _ _ _ _, fun _ h => by simp at h⟩, ⟨[], rfl, World.ownsRow_nil _ _ _ _, fun _ h => by simp at h⟩⟩
theorem Qi2 (kb : Nat) (t : Int) (w : World) (ht : ¬ (0 ≤ t ∧ t < 4)) : Calls Tryz.prog 32 #[.pointer (some ⟨kb, 0, none⟩), .int .i64 t] w fun e w' => e = .returned (.agg #[.slice none 0 0, .slice none 0 0, .string ⟨#[]⟩, .slice none 0 0, .slice none 0 0]) ∧ Below w.heap.size w w' := by
 go_enter Tryz.func32, Tryz.ntmps32
 go_wp2_with (go_at_call 59; refine (Qby kb t _ ht).mono ?_; rintro e w1 ⟨rfl, rfl⟩)
 exact bodyPost_ret (results_cell_row rfl _ _ w.heap.size 45 _ (0, 0) _ rfl (heap_alloc_new w _) Tryz.underlying45 rfl (by kernel_rfl)) rfl ⟨rfl, Qd _ _⟩
set_option maxRecDepth 100000 in
set_option maxHeartbeats 1600000 in
theorem QkP (kb t : Nat) (F : List Nat) (V : List ThrV) (K : Ker) (w : World) (h : KerAt w kb F V K) (hg : GoodK K) (h4 : t < 4) (h2 : t < K.ths.length) :
 Calls Tryz.prog 32 #[.pointer (some ⟨kb, 0, none⟩), .int .i64 t] w fun e w' => ∃ pl cl po co pj cj pm cm, e = .returned (.agg #[.slice pl K.ths[t].label.length cl, .slice po K.ths[t].own.length co, .string ⟨K.ths[t].text.toArray⟩, .slice pj K.ths[t].objs.length cj, .slice pm K.ths[t].mails.length cm]) ∧ ThrNew w' w.heap.size (.slice pl K.ths[t].label.length cl) (.slice po K.ths[t].own.length co) (.slice pj K.ths[t].objs.length cj) (.slice pm K.ths[t].mails.length cm) K.ths[t] ∧ Below w.heap.size w w' := by
 have h1 : t < V.length := by rw [h.len]; exact h4
 have hT := h.tat t h1 h2
 have gt := hg.ths _ (List.getElem_mem h2)
 obtain ⟨t0, t1, t2, t3, t4⟩ := hT.cells
 obtain ⟨ptl, ctl, hvl, _⟩ := id hT.thr.1.1
 obtain ⟨po, co, hvo⟩ := ownV hT.thr.2.1
 obtain ⟨pj, cj, hj⟩ : ∃ p c, V[t].vj = .slice p K.ths[t].objs.length c := by
  obtain ⟨_, _, j2, _⟩ := hT.thr.2.2.1
  exact Qo j2
 obtain ⟨pm, cm, hm⟩ : ∃ p c, V[t].vm = .slice p K.ths[t].mails.length c := by
  obtain ⟨_, _, j2, _⟩ := hT.thr.2.2.2
  exact Qo j2
 have hcp := fun wx (hb : Below w.heap.size w wx) => QeE V[t] K.ths[t] F wx ((hT.below hb).thr) (Nat.le_trans gt.own (by decide)) (Nat.le_trans gt.objs (by decide)) (Nat.le_trans gt.mails (by decide)) (fun m hm => (Qhs (gt.mail m hm)).2.2)
 rw [hvl] at t0
 rw [hvo] at t1
 rw [hj] at t3
 rw [hm] at t4
 rw [hvl, hvo, hj, hm] at hcp
 have hkb := h.fin kb h.kbF
 clear hT h gt hg
 generalize K.ths[t] = th at *
 go_enter Tryz.func32, Tryz.ntmps32
 go_wp2_with (first
  | (go_at_call 59; refine (QJ kb t _ h4).mono ?_; rintro e w1 ⟨rfl, rfl⟩)
  | (go_at_call 60; refine (hcp _ (Qd _ _)).mono ?_; rintro e w2 ⟨vl, vo, vj, vm, rfl, hn, hw2⟩; have HN := hid hn; obtain ⟨p, q, rfl⟩ := Qo hn.lab; obtain ⟨p', q', rfl⟩ := Qo hn.own; obtain ⟨_, _, j2, _⟩ := hn.objs; obtain ⟨p5, q5, rfl⟩ := Qo j2; obtain ⟨_, _, j3, _⟩ := hn.mails; obtain ⟨p6, q6, rfl⟩ := Qo j3; have hx := Qe (heap_alloc_new w _) hw2; obtain ⟨⟨c0, c1, c2, c3, c4⟩, f0, f1, f2, f3, f4⟩ := cells5 hx; have HX := hid hx; have HB := hid (Qc (Qd _ _) hw2); clear hx hw2 hn j2 j3))
 have hW := QcE (.slice p th.label.length q) (.slice p' th.own.length q') (.string ⟨th.text.toArray⟩) (.slice p5 th.objs.length q5) (.slice p6 th.mails.length q6) HX.out
 have hS := Qb5 w2 w.heap.size (.slice p th.label.length q) (.slice p' th.own.length q') (.string ⟨th.text.toArray⟩) (.slice p5 th.objs.length q5) (.slice p6 th.mails.length q6)
 have hb7 := HB.out.grown hS HB.out.size (fun k hk => by cases hk; exact Nat.le_refl _)
 have hn := (HN.out.base (Qd w _).size).keep (R := [w.heap.size]) (fun k hk => .inr ⟨_, _, by simp at hk; subst hk; exact HX.out, by decide, by decide, by decide, by decide⟩) (QN hS fun k e => .inl (by have := Option.some.inj e; simp; omega))
 exact bodyPost_ret (results_cell_row rfl _ _ w.heap.size 45 _ (0, 0) _ rfl hW Tryz.underlying45 rfl (by kernel_rfl)) rfl ⟨_, _, _, _, _, _, _, _, rfl, hn, hb7⟩
theorem Qes (kb : Nat) (t : Int) (F : List Nat) (V : List ThrV) (K : Ker) (w : World) (h : KerAt w kb F V K) (hg : GoodK K) :
 Calls Tryz.prog 32 #[.pointer (some ⟨kb, 0, none⟩), .int .i64 t] w fun e w' => ∃ pl cl po co pj cj pm cm, e = .returned (.agg #[.slice pl (thrOf K t).label.length cl, .slice po (thrOf K t).own.length co, .string ⟨(thrOf K t).text.toArray⟩, .slice pj (thrOf K t).objs.length cj, .slice pm (thrOf K t).mails.length cm]) ∧ ThrNew w' w.heap.size (.slice pl (thrOf K t).label.length cl) (.slice po (thrOf K t).own.length co) (.slice pj (thrOf K t).objs.length cj) (.slice pm (thrOf K t).mails.length cm) (thrOf K t) ∧ Below w.heap.size w w' := by
 cases hth : getT K t with
 | none =>
  have e : thrOf K t = zeroThr := by unfold thrOf; rw [hth]; rfl
  rw [e]
  exact (Qi2 kb t w (Qdd hg.four hth)).mono fun _ _ ⟨h1, h2⟩ => ⟨none, 0, none, 0, none, 0, none, 0, h1, QfY _ _, h2⟩
 | some th =>
  obtain ⟨n, rfl, hn, rfl⟩ := Q9 hth
  rw [Qbp hn]
  exact QkP kb n F V K w h hg (by have := hg.four; omega) hn
theorem MailsNew.get {w : World} {B : Nat} {p : Option Addr} {n cap : Nat} {ms : List Mal} (h : MailsNew w B (.slice p n cap) ms) (i : Nat) (hi : i < ms.length) :
 ∃ g pl cl pg cg, p = some ⟨g, 0, none⟩ ∧ w.cell? ⟨g, i * 5, none⟩ = some (.int .i64 ms[i].host) ∧ w.cell? ⟨g, i * 5 + 1, none⟩ = some (.int .i64 ms[i].thread) ∧ w.cell? ⟨g, i * 5 + 2, none⟩ = some (.slice pl ms[i].label.length cl) ∧ w.cell? ⟨g, i * 5 + 3, none⟩ = some (.slice pg ms[i].grants.length cg) ∧ w.cell? ⟨g, i * 5 + 4, none⟩ = some (.string ⟨ms[i].text.toArray⟩) ∧
  w.ownsRow B 54 2 (.slice pl ms[i].label.length cl) ms[i].label.length (flat2 ms[i].label) ∧ w.ownsRow B 3 1 (.slice pg ms[i].grants.length cg) ms[i].grants.length (flat1 ms[i].grants) := by
 obtain ⟨vs, r1, r2, r3⟩ := h
 obtain ⟨g, hpe⟩ : ∃ g, p = some ⟨g, 0, none⟩ := by
  rcases r2.2 with ⟨_, hn⟩ | ⟨g, cap, cur, e, _⟩
  · omega
  · cases e; exact ⟨g, rfl⟩
 subst hpe
 have huk : i < vs.length := by omega
 obtain ⟨m0, m1, m2, m3, m4⟩ := Qfh vs ms r1 i huk hi
 have a0 := World.ownsRow.cells r2 (g := g) rfl _ _ m0
 have a1 := World.ownsRow.cells r2 (g := g) rfl _ _ m1
 have a2 := World.ownsRow.cells r2 (g := g) rfl _ _ m2
 have a3 := World.ownsRow.cells r2 (g := g) rfl _ _ m3
 have a4 := World.ownsRow.cells r2 (g := g) rfl _ _ m4
 rw [WideShapes.add_plain, Nat.zero_add] at a0 a1 a2 a3 a4
 obtain ⟨o1, o2⟩ := r3 i huk hi
 obtain ⟨pl, cl, el⟩ := Qo o1
 obtain ⟨pg, cg, eg⟩ := Qo o2
 rw [el] at a2 o1
 rw [eg] at a3 o2
 exact ⟨g, pl, cl, pg, cg, rfl, a0, a1, a2, a3, a4, o1, o2⟩
theorem ObjsNew.get {w : World} {B : Nat} {p : Option Addr} {n cap : Nat} {os : List Obt} (h : ObjsNew w B (.slice p n cap) os) (i : Nat) (hi : i < os.length) :
 ∃ g pl cl, p = some ⟨g, 0, none⟩ ∧ w.cell? ⟨g, i * 2, none⟩ = some (.slice pl os[i].label.length cl) ∧ w.cell? ⟨g, i * 2 + 1, none⟩ = some (.string ⟨os[i].text.toArray⟩) ∧
  w.ownsRow B 54 2 (.slice pl os[i].label.length cl) os[i].label.length (flat2 os[i].label) := by
 obtain ⟨vs, r1, r2, r3⟩ := h
 obtain ⟨g, hpe⟩ : ∃ g, p = some ⟨g, 0, none⟩ := by
  rcases r2.2 with ⟨_, hn⟩ | ⟨g, cap, cur, e, _⟩
  · omega
  · cases e; exact ⟨g, rfl⟩
 subst hpe
 have huk : i < vs.length := by omega
 obtain ⟨m0, m1⟩ := Qdf vs os r1 i huk hi
 have a0 := World.ownsRow.cells r2 (g := g) rfl _ _ m0
 have a1 := World.ownsRow.cells r2 (g := g) rfl _ _ m1
 rw [WideShapes.add_plain, Nat.zero_add] at a0 a1
 have o1 := r3 i huk hi
 obtain ⟨pl, cl, el⟩ := Qo o1
 rw [el] at a0 o1
 exact ⟨g, pl, cl, rfl, a0, a1, o1⟩
end Go.Proofs.YtpdijobakfpnbaaGreat
