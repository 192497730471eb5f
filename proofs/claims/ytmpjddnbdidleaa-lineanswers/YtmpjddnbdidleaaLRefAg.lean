/- The reference's AgainOn answers as againLn says. -/
import Derived.Test.YtmpjddnbdidleaaLRefAn
import Derived.Test.YtmpjddnbdidleaaLIndex
namespace Go.Proofs.Ytmpjddnbdidleaa
open Go.RowKit Go.Proofs.Parclose

set_option linter.unusedSimpArgs false in
set_option maxRecDepth 100000 in
set_option maxHeartbeats 6400000 in
theorem ragainOn_any (v : Value) (L : Lne) (now : Int) (w0 w : World) (hv : LneAt w0 v L) (hw0 : Below w0.heap.size w0 w) :
    Calls Try.prog 21 #[v, .int .i64 now] w fun e w' => ∃ v' vf, e = .returned (.tuple #[v', vf, .int .i64 (againLn L now).2.2]) ∧ (∀ w'', Since w.heap.size w' w'' → Below w0.heap.size w0 w'' → LneAt w'' v' (againLn L now).1 ∧ FrmsAt w'' vf (againLn L now).2.1) ∧ Below w.heap.size w w' := by
  obtain ⟨nx, st, hi, b0, b1, b2, b3, b4, b5, b6, b7, p, cap, rfl, rfl, hs⟩ := hv.spell
  have hlen := hs.len
  have HS := hid hs
  have HV := hid (hv.below hw0)
  clear hv hs
  have hb0 : Below w.heap.size w ((w.alloc (.cells #[.int .i64 nx, .slice p st.length cap, .int .i64 hi, .bool b0, .bool b1, .bool b2, .bool b3, .bool b4, .bool b5, .bool b6, .bool b7] 25)).alloc (.cells #[.int .i64 0, .slice none 0 0, .int .i64 0, .bool false, .bool false, .bool false, .bool false, .bool false, .bool false, .bool false, .bool false] 25)) := (below_box w _).alloc (by simp) _
  go_enter Try.func21, Try.ntmps21
  go_wp2_with fail
  refine (rgoodLine_any _ _ _ (HV.out.below hb0)).mono ?_
  rintro e w3 ⟨rfl, hw3⟩
  have HX := hid (heap_keep (heap_alloc2_old w _ _) hw3)
  have HR := hid (heap_keep (heap_alloc2_new w _ _) hw3)
  have hbw3 := below_then hb0 hw3
  clear hw3 hb0
  have x0 := heap_cell HX.out 0
  have x1 := heap_cell HX.out 1
  have x2 := heap_cell HX.out 2
  have x3 := heap_cell HX.out 3
  have x4 := heap_cell HX.out 4
  have x5 := heap_cell HX.out 5
  have x6 := heap_cell HX.out 6
  have x7 := heap_cell HX.out 7
  have x8 := heap_cell HX.out 8
  have x9 := heap_cell HX.out 9
  have x10 := heap_cell HX.out 10
  have d0 := heap_cell HR.out 0
  have df0 := heap_frozen HR.out 0
  have d1 := heap_cell HR.out 1
  have df1 := heap_frozen HR.out 1
  have d2 := heap_cell HR.out 2
  have df2 := heap_frozen HR.out 2
  have d3 := heap_cell HR.out 3
  have df3 := heap_frozen HR.out 3
  have d4 := heap_cell HR.out 4
  have df4 := heap_frozen HR.out 4
  have d5 := heap_cell HR.out 5
  have df5 := heap_frozen HR.out 5
  have d6 := heap_cell HR.out 6
  have df6 := heap_frozen HR.out 6
  have d7 := heap_cell HR.out 7
  have df7 := heap_frozen HR.out 7
  have d8 := heap_cell HR.out 8
  have df8 := heap_frozen HR.out 8
  have d9 := heap_cell HR.out 9
  have df9 := heap_frozen HR.out 9
  have d10 := heap_cell HR.out 10
  have df10 := heap_frozen HR.out 10
  have n01 : w.heap.size ≠ w.heap.size + 1 := by omega
  have n10 : w.heap.size + 1 ≠ w.heap.size := by omega
  by_cases hgq : (goodLn ⟨nx, st, hi, [b0, b1, b2, b3, b4, b5, b6, b7]⟩ && timeB now) = true
  · have hgq2 := hgq
    rw [Bool.and_eq_true] at hgq2
    obtain ⟨hg, htm⟩ := hgq2
    have HTK : Hid (againLn ⟨nx, st, hi, [b0, b1, b2, b3, b4, b5, b6, b7]⟩ now = (⟨nx, st.flatMap (againS now), hi, [b0, b1, b2, b3, b4, b5, b6, b7]⟩, st.flatMap (againF now), 0)) := hid (by unfold againLn; rw [if_pos hgq])
    have hh := goodLn_head hg
    rw [headLn_iff] at hh
    have hl8 : st.length ≤ 8 := hh.2.2.2.2
    have HMEM := hid (rises_mem (goodLn_rises hg))
    have htm2 := htm
    simp only [timeB, decide_eq_true_eq] at htm2
    obtain ⟨t1, t2⟩ := htm2
    rw [hg]
    clear hh hgq
    go_wp2_with fail
    refine (rcopyLine_any _ _ _ (HV.out.below hbw3)).mono ?_
    rintro e w4 ⟨v4, rfl, hnew4, hw4⟩
    obtain ⟨v4s, hv4, h84⟩ : ∃ vs, v4 = lneV ⟨nx, st, hi, [b0, b1, b2, b3, b4, b5, b6, b7]⟩ vs ∧ True := by
      obtain ⟨vs, _, h1, _⟩ := hnew4
      exact ⟨vs, h1, trivial⟩
    subst hv4
    obtain ⟨p4, c4, hv4s⟩ : ∃ p4 c4, v4s = .slice p4 st.length c4 := by
      obtain ⟨vs, q4, h1, _, h3, _, h5⟩ := hnew4
      obtain ⟨p4, c4, e⟩ := own_slice h5.own
      have hq : q4.length = st.length := by rw [← List.length_map (f := (·.s)), h3]
      rw [hq] at e
      have h1' := congrArg (fun v => v.cells[1]?) h1
      simp [lneV, Value.cells] at h1'
      exact ⟨p4, c4, by rw [h1', e]⟩
    subst hv4s
    unfold lneV
    have hbw4 := below_then hbw3 hw4
    have HX4 := hid (heap_keep HX.out hw4)
    have HR4 := hid (heap_keep HR.out hw4)
    have hsz4 : w.heap.size + 1 < w4.heap.size := heap_lt HR4.out
    have n1 : w.heap.size ≠ w4.heap.size := by omega
    have n2 : w.heap.size + 1 ≠ w4.heap.size := by omega
    have n3 : w4.heap.size ≠ w.heap.size := by omega
    have n4 : w4.heap.size ≠ w.heap.size + 1 := by omega
    clear hw4 hbw3 HX HR hnew4 HV h84 x0 d0 df0 x1 d1 df1 x2 d2 df2 x3 d3 df3 x4 d4 df4 x5 d5 df5 x6 d6 df6 x7 d7 df7 x8 d8 df8 x9 d9 df9 x10 d10 df10
    have x1 := heap_cell (heap_new HX4.out (.cells #[.int .i64 nx, .slice none 0 0, .int .i64 hi, .bool b0, .bool b1, .bool b2, .bool b3, .bool b4, .bool b5, .bool b6, .bool b7] 25)) 1
    go_wp2_with fail
    clear x1
    go_loopw [8, 29] (fun v8 i wr => ∃ (k : Nat) (sv : Value) (qs : List SntV) (qa : List FrmV), k ≤ st.length ∧ i = .int .i64 k ∧ qs.map (·.s) = (st.take k).flatMap (againS now) ∧ qa.map (·.f) = (st.take k).flatMap (againF now) ∧ wr.ownsRow (w4.heap.size + 1) 56 13 sv qs.length (flatS qs) ∧ wr.ownsRow (w4.heap.size + 1) 33 11 v8 qa.length (flatF qa) ∧ (∀ x ∈ qs, x.Ok w0) ∧ (∀ x ∈ qa, x.Ok w0) ∧ wr.heap[w4.heap.size]? = some (.cells #[.int .i64 nx, sv, .int .i64 hi, .bool b0, .bool b1, .bool b2, .bool b3, .bool b4, .bool b5, .bool b6, .bool b7] 25 (0, 0)) ∧ wr.heap[w.heap.size]? = some (.cells #[.int .i64 nx, .slice p st.length cap, .int .i64 hi, .bool b0, .bool b1, .bool b2, .bool b3, .bool b4, .bool b5, .bool b6, .bool b7] 25 (0, 0)) ∧ wr.heap[w.heap.size + 1]? = some (.cells #[.int .i64 0, .slice none 0 0, .int .i64 0, .bool false, .bool false, .bool false, .bool false, .bool false, .bool false, .bool false, .bool false] 25 (0, 0)) ∧ Below w.heap.size w wr) (fun _ i _ => st.length - (intOf i).toNat)
    case atStart => exact ⟨0, .slice none 0 0, [], [], Nat.zero_le _, rfl, by simp, by simp, World.ownsRow_nil _ _ _ _, World.ownsRow_nil _ _ _ _, by simp, by simp, heap_alloc_new w4 _, heap_new HX4.out _, heap_new HR4.out _, hbw4.alloc hbw4.size _⟩
    case round =>
      obtain ⟨k, sv, qs, qa, hk, rfl, hm, hma, hown, hoa, hok, hka, hO, hX, hR, hb⟩ := hrel
      obtain ⟨pk, ck, hsv⟩ := own_slice hown
      subst hsv
      obtain ⟨pa, ca, hva⟩ := own_slice hoa
      subst hva
      have hqs : qs.length ≤ k := by
        have h1 := congrArg List.length hm
        have h2 := again_length now (st.take k)
        rw [List.length_map] at h1
        rw [List.length_take] at h2
        omega
      have hqa : qa.length ≤ k := by
        have h1 := congrArg List.length hma
        have h2 := flat_len now (st.take k)
        rw [List.length_map] at h1
        rw [List.length_take] at h2
        omega
      have HQK := hid hqs
      have HQA := hid hqa
      have HOK := hid hown
      have HOA := hid hoa
      have HKK := hid hok
      have HKA := hid hka
      have HM := hid hm
      have HMA := hid hma
      have HOX := hid hO
      have HX5 := hid hX
      have HR5 := hid hR
      clear hown hok hm hqs hoa hka hma hqa
      have hszr : w4.heap.size < wr.heap.size := heap_lt hO
      by_cases hlt : k < st.length
      · have hI : (k : Int) < (st.length : Int) := by omega
        obtain ⟨be, oe, pl, cl, pg, cg, pc, cc, hp1, hat0⟩ := HS.out.get k hlt
        subst hp1
        have HOKS : Hid (∀ t d, SntV.Ok w0 ⟨⟨(st[k]).f, t, d⟩, .slice pl (st[k]).f.mail.label.length cl, .slice pg (st[k]).f.mail.grants.length cg, .slice pc (st[k]).f.certs.length cc⟩) := hid (fun _ _ => ⟨hat0.lab, hat0.nums, hat0.crts⟩)
        have HOKF : Hid (FrmV.Ok w0 ⟨(st[k]).f, .slice pl (st[k]).f.mail.label.length cl, .slice pg (st[k]).f.mail.grants.length cg, .slice pc (st[k]).f.certs.length cc⟩) := hid ⟨hat0.lab, hat0.nums, hat0.crts⟩
        have hat := hat0.below (below_then hw0 hb)
        have HST := hid (take_flat st k hlt (againS now))
        have HSF := hid (take_flatF st k hlt (againF now))
        have hmem := HMEM.out st[k] (List.getElem_mem hlt)
        generalize st[k] = s at *
        have hts := hmem.2.2
        simp only [triesB, decide_eq_true_eq] at hts
        obtain ⟨ht1, ht2, hd1, hd2⟩ := hts
        obtain ⟨c0, c1, c2, c3, c4', c5, c6, c7, c8, c9, c10, c11, c12, _, _, _⟩ := hat
        clear hat0 hX hR hO hmem
        have hne : w4.heap.size ≠ wr.heap.size := by omega
        by_cases hdue : now < s.due
        · have HA1 : Hid (againS now s = [s]) := hid (by unfold againS; rw [if_pos hdue])
          have HA2 : Hid (againF now s = []) := hid (by unfold againF; rw [if_pos hdue])
          have HBW : Hid (Below wr.heap.size wr ((wr.alloc (.cells #[.int .i64 s.f.fr, .int .i64 s.f.to, .int .i64 s.f.seq, .bool s.f.ack, .int .i64 s.f.thread, .int .i64 s.f.mail.host, .int .i64 s.f.mail.thread, .slice pl s.f.mail.label.length cl, .slice pg s.f.mail.grants.length cg, .string ⟨s.f.mail.text.toArray⟩, .slice pc s.f.certs.length cc, .int .i64 s.tries, .int .i64 s.due] 56)).alloc (.cells #[.int .i64 s.f.fr, .int .i64 s.f.to, .int .i64 s.f.seq, .bool s.f.ack, .int .i64 s.f.thread, .int .i64 s.f.mail.host, .int .i64 s.f.mail.thread, .slice pl s.f.mail.label.length cl, .slice pg s.f.mail.grants.length cg, .string ⟨s.f.mail.text.toArray⟩, .slice pc s.f.certs.length cc, .int .i64 s.tries, .int .i64 s.due] 56))) := hid (below_then (below_box wr _) (below_box _ _))
          have o1 := heap_cell (heap_new HOX.out (.cells #[.int .i64 s.f.fr, .int .i64 s.f.to, .int .i64 s.f.seq, .bool s.f.ack, .int .i64 s.f.thread, .int .i64 s.f.mail.host, .int .i64 s.f.mail.thread, .slice pl s.f.mail.label.length cl, .slice pg s.f.mail.grants.length cg, .string ⟨s.f.mail.text.toArray⟩, .slice pc s.f.certs.length cc, .int .i64 s.tries, .int .i64 s.due] 56)) 1
          have hdn : ¬ s.due ≤ now := by omega
          go_wp2_with (at_builtin; refine wpList_sentR rfl _ _ rfl (w4.heap.size + 1) _ qs ⟨s, .slice pl s.f.mail.label.length cl, .slice pg s.f.mail.grants.length cg, .slice pc s.f.certs.length cc⟩ rfl (own_later HOK.out HBW.out) (wr.heap.size + 1) 1 rfl ((HOKS.out s.tries s.due).below (below_then hw0 (below_then hb HBW.out))) (sent_laid (size_box wr _) ⟨s, .slice pl s.f.mail.label.length cl, .slice pg s.f.mail.grants.length cg, .slice pc s.f.certs.length cc⟩) (Nat.le_trans (by omega) HBW.out.size) (by have := HQK.out; omega) ?_; intro v9 w9 hown9 hg9 hwh9; have hlow : ∀ b o, b < w4.heap.size + 1 → wr.heap[b]? = some o → w9.heap[b]? = some o := (fun b o h1 h2 => (by rw [hg9.block b (Nat.lt_of_lt_of_le (heap_lt h2) (HBW.out).size) (fun e => by have := own_base HOK.out e.symm; omega)]; exact heap_keep h2 (HBW.out))); have u1 := heap_cell (hlow _ _ (Nat.lt_succ_self _) HOX.out) 1; have uf1 := heap_frozen (hlow _ _ (Nat.lt_succ_self _) HOX.out) 1; have HLOW := hid hlow; clear hlow; obtain ⟨p9, c9, hv9⟩ := own_slice hown9; rw [List.length_append, List.length_singleton] at hv9; subst hv9)
          have hb9 : Below w.heap.size w w9 := (hb.trans (HBW.out.mono hb.size)).grown hg9 (Nat.le_trans hb.size HBW.out.size) (fun i hi => by have := own_base HOK.out hi; omega)
          have hoa9 := own_own (own_later HOA.out HBW.out) (own_later HOK.out HBW.out) (by decide) hg9
          go_roundw
          case rel =>
            have gS := grown_setCell w9 w4.heap.size 1 (.slice p9 (qs.length + 1) c9)
            exact ⟨k + 1, .slice p9 (qs.length + 1) c9, qs ++ [⟨s, .slice pl s.f.mail.label.length cl, .slice pg s.f.mail.grants.length cg, .slice pc s.f.certs.length cc⟩], qa, hlt, by go_num, by rw [List.map_append, HM.out, HST.out, HA1.out]; rfl, by rw [HMA.out, HSF.out, HA2.out, List.append_nil], hown9.kept gS (Or.inr fun e => by have := own_base hown9 e; omega), (hoa9).kept gS (Or.inr fun e => by have := own_base (hoa9) e; omega), fun x hx => (List.mem_append.1 hx).elim (HKK.out x) (fun hx => by rw [List.mem_singleton] at hx; subst hx; exact HOKS.out _ _), HKA.out, heap_setCell (j := 1) (HLOW.out _ _ (Nat.lt_succ_self _) HOX.out) _, heap_store (HLOW.out _ _ (by omega) HX5.out) n1 1 _, heap_store (HLOW.out _ _ (by omega) HR5.out) n2 1 _, hb9.grown gS hb9.size (fun k hk => by have := Option.some.inj hk; omega)⟩
          case measure => simp [intOf]; omega
        · have hdue2 : s.due ≤ now := by omega
          by_cases h5 : s.tries = 5
          · have HA1 : Hid (againS now s = []) := hid (by unfold againS; rw [if_neg hdue, if_pos h5])
            have HA2 : Hid (againF now s = []) := hid (by unfold againF; rw [if_neg hdue, if_pos h5])
            have h5b : (s.tries == 5) = true := beq_iff_eq.2 h5
            clear h5 hdue
            go_wp2
            go_roundw
            case rel => exact ⟨k + 1, _, qs, qa, hlt, by go_num, by rw [HM.out, HST.out, HA1.out, List.append_nil], by rw [HMA.out, HSF.out, HA2.out, List.append_nil], own_later HOK.out (below_box wr _), own_later HOA.out (below_box wr _), HKK.out, HKA.out, heap_new HOX.out _, heap_new HX5.out _, heap_new HR5.out _, hb.alloc hb.size _⟩
            case measure => simp [intOf]; omega
          · obtain ⟨Wt, hWt⟩ : ∃ Wt : Int, Wt = 2 ^ (s.tries + 1).toNat := ⟨_, rfl⟩
            have HA1 : Hid (againS now s = [⟨s.f, s.tries + 1, now + Wt⟩]) := hid (by unfold againS; rw [if_neg hdue, if_neg h5, hWt])
            have HA2 : Hid (againF now s = [s.f]) := hid (by unfold againF; rw [if_neg hdue, if_neg h5])
            have h5b : (s.tries == 5) = false := beq_eq_false_iff_ne.2 h5
            have HDU := hid (fun wx => rwaits_any (s.tries + 1) (by omega) (by omega) wx)
            rw [← hWt] at HDU
            have hW2 : 0 ≤ Wt ∧ Wt ≤ 32 := by
              have h : s.tries = 1 ∨ s.tries = 2 ∨ s.tries = 3 ∨ s.tries = 4 := by omega
              rcases h with e | e | e | e <;> rw [hWt, e] <;> decide
            obtain ⟨hw1, hw2⟩ := hW2
            clear h5 hdue hWt
            go_upto_region 13 with (go_at_call 38; refine (HDU.out _).mono ?_; rintro e w6 ⟨rfl, hw6⟩; have HB6 := hid (heap_keep (heap_alloc_new wr _) hw6); have v12 := heap_cell HB6.out 12; have vf12 := heap_frozen HB6.out 12)
            have hbw6 : Below wr.heap.size wr w6 := below_then (below_box wr _) hw6
            have gS6 := grown_setCell w6 wr.heap.size 12 (.int .i64 (now + Wt))
            have hB7 : (w6.setCell ⟨wr.heap.size, 12, none⟩ (.int .i64 (now + Wt))).heap[wr.heap.size]? = some (.cells #[.int .i64 s.f.fr, .int .i64 s.f.to, .int .i64 s.f.seq, .bool s.f.ack, .int .i64 s.f.thread, .int .i64 s.f.mail.host, .int .i64 s.f.mail.thread, .slice pl s.f.mail.label.length cl, .slice pg s.f.mail.grants.length cg, .string ⟨s.f.mail.text.toArray⟩, .slice pc s.f.certs.length cc, .int .i64 (s.tries + 1), .int .i64 (now + Wt)] 56 (0, 0)) := heap_setCell (j := 12) HB6.out _
            have hbw7 := hbw6.grown gS6 hbw6.size (fun k hk => by have := Option.some.inj hk; omega)
            have HB7 := hid hB7
            have HBW7 := hid hbw7
            clear hw6 v12 vf12 gS6 hbw6 HB6 hbw7 hB7
            generalize w6.setCell ⟨wr.heap.size, 12, none⟩ (.int .i64 (now + Wt)) = w7 at *
            have y0 := heap_cell HB7.out 0
            have y1 := heap_cell HB7.out 1
            have y2 := heap_cell HB7.out 2
            have y3 := heap_cell HB7.out 3
            have y4 := heap_cell HB7.out 4
            have y5 := heap_cell HB7.out 5
            have y6 := heap_cell HB7.out 6
            have y7 := heap_cell HB7.out 7
            have y8 := heap_cell HB7.out 8
            have y9 := heap_cell HB7.out 9
            have y10 := heap_cell HB7.out 10
            go_upto_region 14 with (at_builtin; refine wpList_frmR rfl _ _ rfl (w4.heap.size + 1) _ qa ⟨s.f, .slice pl s.f.mail.label.length cl, .slice pg s.f.mail.grants.length cg, .slice pc s.f.certs.length cc⟩ rfl (own_later (own_later HOA.out HBW7.out) (below_box w7 _)) w7.heap.size 1 rfl ((HOKF.out.below (below_then hw0 (below_then hb HBW7.out))).below (below_box w7 _)) (frm_laid2 rfl ⟨s.f, .slice pl s.f.mail.label.length cl, .slice pg s.f.mail.grants.length cg, .slice pc s.f.certs.length cc⟩) (Nat.le_trans (by omega) (Nat.le_trans HBW7.out.size (below_box w7 _).size)) (by have := HQA.out; omega) ?_; intro v10 w8 hown8 hg8 hwh8)
            have HB78 : Hid (Below wr.heap.size wr (w7.alloc (.cells #[.int .i64 s.f.fr, .int .i64 s.f.to, .int .i64 s.f.seq, .bool s.f.ack, .int .i64 s.f.thread, .int .i64 s.f.mail.host, .int .i64 s.f.mail.thread, .slice pl s.f.mail.label.length cl, .slice pg s.f.mail.grants.length cg, .string ⟨s.f.mail.text.toArray⟩, .slice pc s.f.certs.length cc] 33))) := hid (below_then HBW7.out (below_box w7 _))
            have hst8 : ∀ b o, b ≤ wr.heap.size → (Value.slice pa qa.length ca).ownBlock ≠ some b → w7.heap[b]? = some o → w8.heap[b]? = some o := fun b o h1 h2 h3 => by
              rw [hg8.block b (Nat.lt_of_lt_of_le (heap_lt h3) (below_box w7 _).size) (Ne.symm h2)]
              exact heap_new h3 _
            have HB8 : Hid (w8.heap[wr.heap.size]? = some (.cells #[.int .i64 s.f.fr, .int .i64 s.f.to, .int .i64 s.f.seq, .bool s.f.ack, .int .i64 s.f.thread, .int .i64 s.f.mail.host, .int .i64 s.f.mail.thread, .slice pl s.f.mail.label.length cl, .slice pg s.f.mail.grants.length cg, .string ⟨s.f.mail.text.toArray⟩, .slice pc s.f.certs.length cc, .int .i64 (s.tries + 1), .int .i64 (now + Wt)] 56 (0, 0))) := hid (hst8 _ _ (Nat.le_refl _) (fun e => by have := own_in HOA.out e; omega) HB7.out)
            have HOX8 := hid (hst8 _ _ (by omega) (fun e => by have := own_base HOA.out e; omega) (heap_keep HOX.out HBW7.out))
            have HX8 := hid (hst8 _ _ (by omega) (fun e => by have := own_base HOA.out e; omega) (heap_keep HX5.out HBW7.out))
            have HR8 := hid (hst8 _ _ (by omega) (fun e => by have := own_base HOA.out e; omega) (heap_keep HR5.out HBW7.out))
            have HOK8 := hid (own_own (own_later HOK.out HB78.out) (own_later HOA.out HB78.out) (by decide) hg8)
            have HOA8 := hid hown8
            have hb8 : Below w.heap.size w w8 := (hb.trans (HB78.out.mono hb.size)).grown hg8 (Nat.le_trans hb.size HB78.out.size) (fun i hi => by have := own_base HOA.out hi; omega)
            have hsz8 : wr.heap.size < w8.heap.size := heap_lt HB8.out
            clear hst8 hown8 hg8 hwh8 HB78 HBW7 HB7 HOK HOA HOX HX5 HR5 y0 y1 y2 y3 y4 y5 y6 y7 y8 y9 y10
            have o1 := heap_cell HOX8.out 1
            have y0 := heap_cell HB8.out 0
            have y1 := heap_cell HB8.out 1
            have y2 := heap_cell HB8.out 2
            have y3 := heap_cell HB8.out 3
            have y4 := heap_cell HB8.out 4
            have y5 := heap_cell HB8.out 5
            have y6 := heap_cell HB8.out 6
            have y7 := heap_cell HB8.out 7
            have y8 := heap_cell HB8.out 8
            have y9 := heap_cell HB8.out 9
            have y10 := heap_cell HB8.out 10
            have y11 := heap_cell HB8.out 11
            have y12 := heap_cell HB8.out 12
            have HBW : Hid (Below w8.heap.size w8 (w8.alloc (.cells #[.int .i64 s.f.fr, .int .i64 s.f.to, .int .i64 s.f.seq, .bool s.f.ack, .int .i64 s.f.thread, .int .i64 s.f.mail.host, .int .i64 s.f.mail.thread, .slice pl s.f.mail.label.length cl, .slice pg s.f.mail.grants.length cg, .string ⟨s.f.mail.text.toArray⟩, .slice pc s.f.certs.length cc, .int .i64 (s.tries + 1), .int .i64 (now + Wt)] 56))) := hid (below_box w8 _)
            have HOK := HOK8
            go_wp2_with (at_builtin; refine wpList_sentR rfl _ _ rfl (w4.heap.size + 1) _ qs ⟨⟨s.f, s.tries + 1, now + Wt⟩, .slice pl s.f.mail.label.length cl, .slice pg s.f.mail.grants.length cg, .slice pc s.f.certs.length cc⟩ rfl (own_later HOK8.out HBW.out) (w8.heap.size) 1 rfl ((HOKS.out (s.tries + 1) (now + Wt)).below (below_then hw0 (below_then hb8 HBW.out))) (sent_laid (rfl) ⟨⟨s.f, s.tries + 1, now + Wt⟩, .slice pl s.f.mail.label.length cl, .slice pg s.f.mail.grants.length cg, .slice pc s.f.certs.length cc⟩) (Nat.le_trans (by omega) HBW.out.size) (by have := HQK.out; omega) ?_; intro v9 w9 hown9 hg9 hwh9; have hlow : ∀ b o, b < w4.heap.size + 1 → w8.heap[b]? = some o → w9.heap[b]? = some o := (fun b o h1 h2 => (by rw [hg9.block b (Nat.lt_of_lt_of_le (heap_lt h2) (HBW.out).size) (fun e => by have := own_base HOK.out e.symm; omega)]; exact heap_keep h2 (HBW.out))); have u1 := heap_cell (hlow _ _ (Nat.lt_succ_self _) HOX8.out) 1; have uf1 := heap_frozen (hlow _ _ (Nat.lt_succ_self _) HOX8.out) 1; have HLOW := hid hlow; clear hlow; obtain ⟨p9, c9, hv9⟩ := own_slice hown9; rw [List.length_append, List.length_singleton] at hv9; subst hv9)
            have hb9 : Below w.heap.size w w9 := (hb8.trans (HBW.out.mono hb8.size)).grown hg9 (Nat.le_trans hb8.size HBW.out.size) (fun i hi => by have := own_base HOK.out hi; omega)
            have hoa9 := own_own (own_later HOA8.out HBW.out) (own_later HOK.out HBW.out) (by decide) hg9
            go_roundw
            case rel =>
              have gS := grown_setCell w9 w4.heap.size 1 (.slice p9 (qs.length + 1) c9)
              exact ⟨k + 1, .slice p9 (qs.length + 1) c9, qs ++ [⟨⟨s.f, s.tries + 1, now + Wt⟩, .slice pl s.f.mail.label.length cl, .slice pg s.f.mail.grants.length cg, .slice pc s.f.certs.length cc⟩], qa ++ [⟨s.f, .slice pl s.f.mail.label.length cl, .slice pg s.f.mail.grants.length cg, .slice pc s.f.certs.length cc⟩], hlt, by go_num, by rw [List.map_append, HM.out, HST.out, HA1.out]; rfl, by rw [List.map_append, HMA.out, HSF.out, HA2.out]; rfl, hown9.kept gS (Or.inr fun e => by have := own_base hown9 e; omega), (hoa9).kept gS (Or.inr fun e => by have := own_base (hoa9) e; omega), fun x hx => (List.mem_append.1 hx).elim (HKK.out x) (fun hx => by rw [List.mem_singleton] at hx; subst hx; exact HOKS.out _ _), fun x hx => (List.mem_append.1 hx).elim (HKA.out x) (fun hx => by rw [List.mem_singleton] at hx; subst hx; exact HOKF.out), heap_setCell (j := 1) (HLOW.out _ _ (Nat.lt_succ_self _) HOX8.out) _, heap_store (HLOW.out _ _ (by omega) HX8.out) n1 1 _, heap_store (HLOW.out _ _ (by omega) HR8.out) n2 1 _, hb9.grown gS hb9.size (fun k hk => by have := Option.some.inj hk; omega)⟩
            case measure => simp [intOf]; omega
      · have hI : ¬ (k : Int) < (st.length : Int) := by omega
        have hkl : k = st.length := by omega
        subst hkl
        have o0 := heap_cell hO 0
        have o1 := heap_cell hO 1
        have o2 := heap_cell hO 2
        have o3 := heap_cell hO 3
        have o4 := heap_cell hO 4
        have o5 := heap_cell hO 5
        have o6 := heap_cell hO 6
        have o7 := heap_cell hO 7
        have o8 := heap_cell hO 8
        have o9 := heap_cell hO 9
        have o10 := heap_cell hO 10
        have d0 := heap_cell hR 0
        have df0 := heap_frozen hR 0
        have d1 := heap_cell hR 1
        have df1 := heap_frozen hR 1
        have d2 := heap_cell hR 2
        have df2 := heap_frozen hR 2
        have d3 := heap_cell hR 3
        have df3 := heap_frozen hR 3
        have d4 := heap_cell hR 4
        have df4 := heap_frozen hR 4
        have d5 := heap_cell hR 5
        have df5 := heap_frozen hR 5
        have d6 := heap_cell hR 6
        have df6 := heap_frozen hR 6
        have d7 := heap_cell hR 7
        have df7 := heap_frozen hR 7
        have d8 := heap_cell hR 8
        have df8 := heap_frozen hR 8
        have d9 := heap_cell hR 9
        have df9 := heap_frozen hR 9
        have d10 := heap_cell hR 10
        have df10 := heap_frozen hR 10
        clear hO hX hR
        go_wp2
        have hS := st11_grown wr (w.heap.size + 1) (.int .i64 nx) (.slice pk qs.length ck) (.int .i64 hi) (.bool b0) (.bool b1) (.bool b2) (.bool b3) (.bool b4) (.bool b5) (.bool b6) (.bool b7)
        have hW := st11_heap (.int .i64 nx) (.slice pk qs.length ck) (.int .i64 hi) (.bool b0) (.bool b1) (.bool b2) (.bool b3) (.bool b4) (.bool b5) (.bool b6) (.bool b7) HR5.out
        have hbE := hb.grown hS hb.size (fun k hk => by have := Option.some.inj hk; omega)
        exact bodyPost_ret (lresults_ctt rfl _ _ (w.heap.size + 1) _ rfl (load_line rfl hW)) rfl ⟨_, _, by rw [HTK.out]; rfl, fun w'' ho h0 => by
          rw [HTK.out]
          have hk := HOK.out.kept hS (Or.inr fun e => by have := own_base HOK.out e; omega)
          have ha := HOA.out.kept hS (Or.inr fun e => by have := own_base HOA.out e; omega)
          exact ⟨lne_of (snts_raw (own_since hk (ho.mono (by omega))) (by have := HQK.out; omega) (by have := HM.out; rwa [List.take_length] at this) (fun x hx => (HKK.out x hx).below h0)) nx hi b0 b1 b2 b3 b4 b5 b6 b7, frms_raw (own_since ha (ho.mono (by omega))) (by have := HQA.out; omega) (by have := HMA.out; rwa [List.take_length] at this) (fun x hx => (HKA.out x hx).below h0)⟩, hbE⟩
  · have HTK : Hid (againLn ⟨nx, st, hi, [b0, b1, b2, b3, b4, b5, b6, b7]⟩ now = (⟨nx, st, hi, [b0, b1, b2, b3, b4, b5, b6, b7]⟩, [], 2)) := hid (by unfold againLn; rw [if_neg hgq])
    cases hg : goodLn ⟨nx, st, hi, [b0, b1, b2, b3, b4, b5, b6, b7]⟩ with
    | false =>
      clear hgq
      go_wp2
      have hS := st11_grown w3 (w.heap.size + 1) (.int .i64 nx) (.slice p st.length cap) (.int .i64 hi) (.bool b0) (.bool b1) (.bool b2) (.bool b3) (.bool b4) (.bool b5) (.bool b6) (.bool b7)
      have hW := st11_heap (.int .i64 nx) (.slice p st.length cap) (.int .i64 hi) (.bool b0) (.bool b1) (.bool b2) (.bool b3) (.bool b4) (.bool b5) (.bool b6) (.bool b7) (HR.out)
      have hbE := (hbw3).grown hS (hbw3).size (fun k hk => by have := Option.some.inj hk; omega)
      exact bodyPost_ret (lresults_ctt rfl _ _ (w.heap.size + 1) _ rfl (load_line rfl hW)) rfl ⟨_, _, by rw [HTK.out]; rfl, fun w'' _ h0 => by rw [HTK.out]; exact ⟨lne_of (HS.out.below h0) nx hi b0 b1 b2 b3 b4 b5 b6 b7, frms_raw (q := []) (World.ownsRow_nil _ 0 _ _) (by simp) rfl (by simp)⟩, hbE⟩
    | true =>
      have htm : timeB now = false := by
        rw [hg, Bool.true_and] at hgq
        cases e : timeB now with
        | true => exact absurd e hgq
        | false => rfl
      simp only [timeB, decide_eq_false_iff_not] at htm
      clear hgq
      by_cases h0 : now < 0
      · go_wp2
        have hS := st11_grown w3 (w.heap.size + 1) (.int .i64 nx) (.slice p st.length cap) (.int .i64 hi) (.bool b0) (.bool b1) (.bool b2) (.bool b3) (.bool b4) (.bool b5) (.bool b6) (.bool b7)
        have hW := st11_heap (.int .i64 nx) (.slice p st.length cap) (.int .i64 hi) (.bool b0) (.bool b1) (.bool b2) (.bool b3) (.bool b4) (.bool b5) (.bool b6) (.bool b7) (HR.out)
        have hbE := (hbw3).grown hS (hbw3).size (fun k hk => by have := Option.some.inj hk; omega)
        exact bodyPost_ret (lresults_ctt rfl _ _ (w.heap.size + 1) _ rfl (load_line rfl hW)) rfl ⟨_, _, by rw [HTK.out]; rfl, fun w'' _ h0 => by rw [HTK.out]; exact ⟨lne_of (HS.out.below h0) nx hi b0 b1 b2 b3 b4 b5 b6 b7, frms_raw (q := []) (World.ownsRow_nil _ 0 _ _) (by simp) rfl (by simp)⟩, hbE⟩
      · have h1 : 1099511627776 < now := by omega
        clear htm
        go_wp2
        have hS := st11_grown w3 (w.heap.size + 1) (.int .i64 nx) (.slice p st.length cap) (.int .i64 hi) (.bool b0) (.bool b1) (.bool b2) (.bool b3) (.bool b4) (.bool b5) (.bool b6) (.bool b7)
        have hW := st11_heap (.int .i64 nx) (.slice p st.length cap) (.int .i64 hi) (.bool b0) (.bool b1) (.bool b2) (.bool b3) (.bool b4) (.bool b5) (.bool b6) (.bool b7) (HR.out)
        have hbE := (hbw3).grown hS (hbw3).size (fun k hk => by have := Option.some.inj hk; omega)
        exact bodyPost_ret (lresults_ctt rfl _ _ (w.heap.size + 1) _ rfl (load_line rfl hW)) rfl ⟨_, _, by rw [HTK.out]; rfl, fun w'' _ h0 => by rw [HTK.out]; exact ⟨lne_of (HS.out.below h0) nx hi b0 b1 b2 b3 b4 b5 b6 b7, frms_raw (q := []) (World.ownsRow_nil _ 0 _ _) (by simp) rfl (by simp)⟩, hbE⟩
end Go.Proofs.Ytmpjddnbdidleaa
