/- kernel.readMail: a thread knows what mail says, and owns what it grants. -/
import Derived.Test.YtichphepfmafjacQKGet
import Derived.Test.YtichphepfmafjacQPlainAll
namespace Go.Proofs.Ytichphepfmafjac
open Go.RowKit Go.Proofs.Parclose

set_option maxRecDepth 100000 in
set_option maxHeartbeats 3200000 in
theorem readMail_any (kb o : Nat) (F : List Nat) (v : ThrV) (th : Thr) (m : Mal) (vl vg : Value) (w : World) (h : TAt w kb o F v th) (hs : th.own.Pairwise (· < ·)) (hl : th.own.length ≤ 8) (hg : RoInts w F vg m.grants) (hvl : ∃ p n c, vl = .slice p n c) (hx : th.text.length + m.text.length < 4611686018427387904) :
    Calls Try.prog 92 #[.pointer (some ⟨kb, o, none⟩), malV m vl vg] w fun e w' => e = .returned (.tuple #[]) ∧ ∃ G v', TAt w' kb o G v' (readL th m) ∧ TStep kb o w F v w' G v' := by
  obtain ⟨pl, nl, cl, rfl⟩ := hvl
  obtain ⟨pg, cg, rfl, _⟩ := id hg.1
  unfold malV
  have hln := fun wx (hb : Below w.heap.size w wx) => learn_any kb o F v th m.text wx (h.below hb) hx
  have hB : w.heap.size ∉ kb :: rowsOf v := fun e => by
    rcases List.mem_cons.1 e with e | e
    · have := h.fin kb h.kbF; omega
    · have := h.fin _ (h.rows _ e); omega
  have HG := hid hg
  have HT := hid h
  have HLN := hid hln
  have HB := hid hB
  have HR : Hid (readL th m = { th with text := lastL (th.text ++ m.text), own := grantL m.grants th.own }) := hid rfl
  clear h hg hln hB
  go_enter Try.func92, Try.ntmps92
  go_wp2_with fail
  refine (HLN.out _ (below_box _ _)).mono ?_
  rintro e w1 ⟨rfl, hT1, hS1⟩
  have hbx := hS1.kept.heap (heap_alloc_new w _) HB.out
  have c3 := heap_cell hbx 3
  have hS01 := (TStep.below (kb := kb) (o := o) (F := F) (v := v) (below_box w (.cells #[.int .i64 m.host, .int .i64 m.thread, .slice pl nl cl, .slice pg m.grants.length cg, .string ⟨m.text.toArray⟩] 35))).trans hS1
  have HT1 := hid hT1
  have HS01 := hid hS01
  have HG1 : Hid (RoInts w1 F (.slice pg m.grants.length cg) m.grants) := hid (HG.out.keep (hS01.kept.sub fun k e => .inl (by rcases List.mem_cons.1 e with rfl | e; exact HT.out.kbF; exact HT.out.rows k e)) (More.refl _ _))
  clear hT1 hS1 hS01 hbx HLN HB
  go_wp2
  go_loopw [13] (fun i wr => ∃ (k : Nat) (G : List Nat) (v' : ThrV) (ow : List Int), k ≤ m.grants.length ∧ i = .int .i64 k ∧ grantL m.grants th.own = grantL (m.grants.drop k) ow ∧ ow.Pairwise (· < ·) ∧ ow.length ≤ 8 ∧ TAt wr kb o G v' { th with text := lastL (th.text ++ m.text), own := ow } ∧ TStep kb o w F v wr G v' ∧ RoInts wr G (.slice pg m.grants.length cg) m.grants) (fun i _ => m.grants.length - (intOf i).toNat)
  case atStart => exact ⟨0, F, v, th.own, Nat.zero_le _, rfl, rfl, hs, hl, HT1.out, HS01.out, HG1.out⟩
  case round =>
    clear c3 HT1 HS01 HG1 hs hl
    obtain ⟨k, G, v', ow, hk, rfl, hgr, hs, hl, hT, hS, hg⟩ := hrel
    have HGR := hid hgr
    have HTk := hid hT
    have HSk := hid hS
    have HGk := hid hg
    by_cases hlt : k < m.grants.length
    · obtain ⟨b, ob, hpe, hc⟩ := hg.1.cells (by omega)
      have hck := hc k hlt
      subst hpe
      have how := own_any kb o G v' { th with text := lastL (th.text ++ m.text), own := ow } m.grants[k] wr hT hs hl
      have HOW := hid how
      have HD : Hid (m.grants.drop k = m.grants[k] :: m.grants.drop (k + 1)) := hid (List.drop_eq_getElem_cons hlt)
      simp only at HOW
      clear how hT hS hg hgr hc
      by_cases hz : (ownL ow m.grants[k]).1 = 0
      · have hne : ((ownL ow m.grants[k]).1 != 0) = false := by simpa using hz
        have HN : Hid (grantL m.grants th.own = grantL (m.grants.drop (k + 1)) (ownL ow m.grants[k]).2) := hid (by rw [HGR.out, HD.out, grantL_cons, if_pos hz])
        have hs2 := ownL_sorted hs m.grants[k]
        have hl2 := ownL_len hl m.grants[k]
        generalize ownL ow m.grants[k] = R at *
        go_wp2_with (go_at_call 87; refine HOW.out.mono ?_; rintro e w2 ⟨rfl, G2, v2, hT2, hS2⟩)
        go_roundw
        case rel =>
          have hg2 := HGk.out.keep (hS2.kept.sub fun j e => .inl (by rcases List.mem_cons.1 e with rfl | e; exact HTk.out.kbF; exact HTk.out.rows j e)) hS2.more
          exact ⟨k + 1, G2, v2, R.2, hlt, by go_num, HN.out, hs2, hl2, hT2, HSk.out.trans hS2, hg2⟩
        case measure => simp [intOf]; omega
      · have hne : ((ownL ow m.grants[k]).1 != 0) = true := by simpa using hz
        have HN : Hid (grantL m.grants th.own = ow) := hid (by rw [HGR.out, HD.out, grantL_cons, if_neg hz])
        have HF := hid (ownL_fail hz)
        generalize ownL ow m.grants[k] = R at *
        go_wp2_with (go_at_call 87; refine HOW.out.mono ?_; rintro e w2 ⟨rfl, G2, v2, hT2, hS2⟩)
        refine bodyPost_ret (results_none rfl _ _ _) rfl ⟨rfl, G2, v2, ?_, HSk.out.trans hS2⟩
        rw [HR.out, HN.out]
        rw [HF.out] at hT2
        exact hT2
    · have hkl : k = m.grants.length := by omega
      have HN : Hid (grantL m.grants th.own = ow) := hid (by rw [HGR.out, hkl, List.drop_length]; rfl)
      clear hT hS hg hgr
      go_wp2
      go_end0
      refine ⟨rfl, G, v', ?_, HSk.out⟩
      rw [HR.out, HN.out]
      exact HTk.out
end Go.Proofs.Ytichphepfmafjac
