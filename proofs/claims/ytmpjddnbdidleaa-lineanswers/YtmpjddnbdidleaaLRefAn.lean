/- The reference's AnsweredOn answers as ansLn says. -/
import Derived.Test.YtmpjddnbdidleaaLRefC
import Derived.Test.YtmpjddnbdidleaaLRefG
import Derived.Test.YtmpjddnbdidleaaLAgain
import Derived.Test.YtmpjddnbdidleaaPlainFirst
namespace Go.Proofs.Ytmpjddnbdidleaa
open Go.RowKit Go.Proofs.Parclose

theorem filter_all (l : List Snt) (q : Int) : ((l.filter (fun s => !(s.f.seq == q))).length = l.length) ↔ l.all (fun s => !(s.f.seq == q)) = true := by
  rw [List.length_filter_eq_length_iff, List.all_eq_true]
set_option linter.unusedSimpArgs false in
set_option maxRecDepth 100000 in
set_option maxHeartbeats 6400000 in
theorem ransweredOn_any (v : Value) (L : Lne) (q : Int) (w : World) (hv : LneAt w v L) :
    Calls Try.prog 19 #[v, .int .i64 q] w fun e w' => ∃ v', e = .returned (.tuple #[v', .int .i64 (ansLn L q).2]) ∧ LneAt w' v' (ansLn L q).1 ∧ Below w.heap.size w w' := by
  obtain ⟨nx, st, hi, b0, b1, b2, b3, b4, b5, b6, b7, p, cap, rfl, rfl, hs⟩ := hv.spell
  have hlen := hs.len
  have HS := hid hs
  have HV := hid hv
  clear hv hs
  have hb0 : Below w.heap.size w ((w.alloc (.cells #[.int .i64 nx, .slice p st.length cap, .int .i64 hi, .bool b0, .bool b1, .bool b2, .bool b3, .bool b4, .bool b5, .bool b6, .bool b7] 25)).alloc (.cells #[.int .i64 0, .slice none 0 0, .int .i64 0, .bool false, .bool false, .bool false, .bool false, .bool false, .bool false, .bool false, .bool false] 25)) := (below_box w _).alloc (by simp) _
  go_enter Try.func19, Try.ntmps19
  go_wp2_with fail
  refine (rgoodLine_any _ _ _ (HV.out.below hb0)).mono ?_
  rintro e w3 ⟨rfl, hw3⟩
  have HX := hid (heap_keep (heap_alloc2_old w _ _) hw3)
  have HR := hid (heap_keep (heap_alloc2_new w _ _) hw3)
  have hbw3 := below_then hb0 hw3
  clear hw3 hb0
  have x0 := heap_cell HX.out 0
  have x1 := heap_cell HX.out 1
  have x2 := heap_cell HX.out 2
  have x3 := heap_cell HX.out 3
  have x4 := heap_cell HX.out 4
  have x5 := heap_cell HX.out 5
  have x6 := heap_cell HX.out 6
  have x7 := heap_cell HX.out 7
  have x8 := heap_cell HX.out 8
  have x9 := heap_cell HX.out 9
  have x10 := heap_cell HX.out 10
  have d0 := heap_cell HR.out 0
  have df0 := heap_frozen HR.out 0
  have d1 := heap_cell HR.out 1
  have df1 := heap_frozen HR.out 1
  have d2 := heap_cell HR.out 2
  have df2 := heap_frozen HR.out 2
  have d3 := heap_cell HR.out 3
  have df3 := heap_frozen HR.out 3
  have d4 := heap_cell HR.out 4
  have df4 := heap_frozen HR.out 4
  have d5 := heap_cell HR.out 5
  have df5 := heap_frozen HR.out 5
  have d6 := heap_cell HR.out 6
  have df6 := heap_frozen HR.out 6
  have d7 := heap_cell HR.out 7
  have df7 := heap_frozen HR.out 7
  have d8 := heap_cell HR.out 8
  have df8 := heap_frozen HR.out 8
  have d9 := heap_cell HR.out 9
  have df9 := heap_frozen HR.out 9
  have d10 := heap_cell HR.out 10
  have df10 := heap_frozen HR.out 10
  have n01 : w.heap.size ≠ w.heap.size + 1 := by omega
  have n10 : w.heap.size + 1 ≠ w.heap.size := by omega
  cases hg : goodLn ⟨nx, st, hi, [b0, b1, b2, b3, b4, b5, b6, b7]⟩ with
  | false =>
    have HTK : Hid (ansLn ⟨nx, st, hi, [b0, b1, b2, b3, b4, b5, b6, b7]⟩ q = (⟨nx, st, hi, [b0, b1, b2, b3, b4, b5, b6, b7]⟩, 2)) := hid (ans_bad hg)
    go_wp2
    have hS := st11_grown w3 (w.heap.size + 1) (.int .i64 nx) (.slice p st.length cap) (.int .i64 hi) (.bool b0) (.bool b1) (.bool b2) (.bool b3) (.bool b4) (.bool b5) (.bool b6) (.bool b7)
    have hW := st11_heap (.int .i64 nx) (.slice p st.length cap) (.int .i64 hi) (.bool b0) (.bool b1) (.bool b2) (.bool b3) (.bool b4) (.bool b5) (.bool b6) (.bool b7) (HR.out)
    have hbE := (hbw3).grown hS (hbw3).size (fun k hk => by have := Option.some.inj hk; omega)
    exact bodyPost_ret (lresults_ct rfl _ _ (w.heap.size + 1) _ rfl (load_line rfl hW)) rfl ⟨_, by rw [HTK.out]; rfl, by rw [HTK.out]; exact lne_of (HS.out.below hbE) nx hi b0 b1 b2 b3 b4 b5 b6 b7, hbE⟩
  | true =>
    have HTK0 : Hid (ansLn ⟨nx, st, hi, [b0, b1, b2, b3, b4, b5, b6, b7]⟩ q = if st.all (fun s => !(s.f.seq == q)) then (⟨nx, st, hi, [b0, b1, b2, b3, b4, b5, b6, b7]⟩, 4) else (⟨nx, st.filter (fun s => !(s.f.seq == q)), hi, [b0, b1, b2, b3, b4, b5, b6, b7]⟩, 0)) := hid (by unfold ansLn; rw [if_pos hg])
    have hh := goodLn_head hg
    rw [headLn_iff] at hh
    have hl8 : st.length ≤ 8 := hh.2.2.2.2
    clear hh
    go_wp2_with fail
    refine (rcopyLine_any _ _ _ (HV.out.below hbw3)).mono ?_
    rintro e w4 ⟨v4, rfl, hnew4, hw4⟩
    obtain ⟨v4s, hv4, h84⟩ : ∃ vs, v4 = lneV ⟨nx, st, hi, [b0, b1, b2, b3, b4, b5, b6, b7]⟩ vs ∧ True := by
      obtain ⟨vs, _, h1, _⟩ := hnew4
      exact ⟨vs, h1, trivial⟩
    subst hv4
    obtain ⟨p4, c4, hv4s⟩ : ∃ p4 c4, v4s = .slice p4 st.length c4 := by
      obtain ⟨vs, q4, h1, _, h3, _, h5⟩ := hnew4
      obtain ⟨p4, c4, e⟩ := own_slice h5.own
      have hq : q4.length = st.length := by rw [← List.length_map (f := (·.s)), h3]
      rw [hq] at e
      have h1' := congrArg (fun v => v.cells[1]?) h1
      simp [lneV, Value.cells] at h1'
      exact ⟨p4, c4, by rw [h1', e]⟩
    subst hv4s
    unfold lneV
    have hbw4 := below_then hbw3 hw4
    have HX4 := hid (heap_keep HX.out hw4)
    have HR4 := hid (heap_keep HR.out hw4)
    have hsz4 : w.heap.size + 1 < w4.heap.size := heap_lt HR4.out
    have n1 : w.heap.size ≠ w4.heap.size := by omega
    have n2 : w.heap.size + 1 ≠ w4.heap.size := by omega
    have n3 : w4.heap.size ≠ w.heap.size := by omega
    have n4 : w4.heap.size ≠ w.heap.size + 1 := by omega
    clear hw4 hbw3 HX HR hnew4 HV h84 x0 d0 df0 x1 d1 df1 x2 d2 df2 x3 d3 df3 x4 d4 df4 x5 d5 df5 x6 d6 df6 x7 d7 df7 x8 d8 df8 x9 d9 df9 x10 d10 df10
    have x1 := heap_cell (heap_new HX4.out (.cells #[.int .i64 nx, .slice none 0 0, .int .i64 hi, .bool b0, .bool b1, .bool b2, .bool b3, .bool b4, .bool b5, .bool b6, .bool b7] 25)) 1
    go_wp2_with fail
    clear x1
    go_loopw [19] (fun i wr => ∃ (k : Nat) (sv : Value) (qs : List SntV), k ≤ st.length ∧ i = .int .i64 k ∧ qs.map (·.s) = (st.take k).filter (fun s => !(s.f.seq == q)) ∧ wr.ownsRow (w4.heap.size + 1) 56 13 sv qs.length (flatS qs) ∧ (∀ x ∈ qs, x.Ok w) ∧ wr.heap[w4.heap.size]? = some (.cells #[.int .i64 nx, sv, .int .i64 hi, .bool b0, .bool b1, .bool b2, .bool b3, .bool b4, .bool b5, .bool b6, .bool b7] 25 (0, 0)) ∧ wr.heap[w.heap.size]? = some (.cells #[.int .i64 nx, .slice p st.length cap, .int .i64 hi, .bool b0, .bool b1, .bool b2, .bool b3, .bool b4, .bool b5, .bool b6, .bool b7] 25 (0, 0)) ∧ wr.heap[w.heap.size + 1]? = some (.cells #[.int .i64 0, .slice none 0 0, .int .i64 0, .bool false, .bool false, .bool false, .bool false, .bool false, .bool false, .bool false, .bool false] 25 (0, 0)) ∧ Below w.heap.size w wr) (fun i _ => st.length - (intOf i).toNat)
    case atStart => exact ⟨0, .slice none 0 0, [], Nat.zero_le _, rfl, by simp, World.ownsRow_nil _ _ _ _, by simp, heap_alloc_new w4 _, heap_new HX4.out _, heap_new HR4.out _, hbw4.alloc hbw4.size _⟩
    case round =>
      obtain ⟨k, sv, qs, hk, rfl, hm, hown, hok, hO, hX, hR, hb⟩ := hrel
      obtain ⟨pk, ck, hsv⟩ := own_slice hown
      subst hsv
      have hqs : qs.length ≤ k := by
        have h1 := congrArg List.length hm
        have h2 := List.length_filter_le (fun s : Snt => !(s.f.seq == q)) (st.take k)
        rw [List.length_map] at h1
        rw [List.length_take] at h2
        omega
      have HQK := hid hqs
      have HOK := hid hown
      have HKK := hid hok
      have HM := hid hm
      have HOX := hid hO
      have HX5 := hid hX
      have HR5 := hid hR
      clear hown hok hm hqs
      have hszr : w4.heap.size < wr.heap.size := heap_lt hO
      by_cases hlt : k < st.length
      · have hI : (k : Int) < (st.length : Int) := by omega
        obtain ⟨be, oe, pl, cl, pg, cg, pc, cc, hp1, hat0⟩ := HS.out.get k hlt
        subst hp1
        have HOKS : Hid (SntV.Ok w ⟨st[k], .slice pl (st[k]).f.mail.label.length cl, .slice pg (st[k]).f.mail.grants.length cg, .slice pc (st[k]).f.certs.length cc⟩) := hid ⟨hat0.lab, hat0.nums, hat0.crts⟩
        have hat := hat0.below hb
        have hstep : (st.take (k + 1)).filter (fun s => !(s.f.seq == q)) = (st.take k).filter (fun s => !(s.f.seq == q)) ++ [st[k]].filter (fun s => !(s.f.seq == q)) := by
          rw [List.take_succ_eq_append_getElem hlt, List.filter_append]
        have HST := hid hstep
        generalize st[k] = s at *
        obtain ⟨c0, c1, c2, c3, c4', c5, c6, c7, c8, c9, c10, c11, c12, _, _, _⟩ := hat
        clear hat0 hstep hX hR hO
        by_cases hsq : s.f.seq = q
        · have hsb : (s.f.seq == q) = true := beq_iff_eq.2 hsq
          have HF : Hid ([s].filter (fun s => !(s.f.seq == q)) = []) := hid (by simp [hsq])
          clear hsq
          go_wp2
          go_roundw
          case rel => exact ⟨k + 1, _, qs, hlt, by go_num, by rw [HM.out, HST.out, HF.out, List.append_nil], own_later HOK.out (below_box wr _), HKK.out, heap_new HOX.out _, heap_new HX5.out _, heap_new HR5.out _, hb.alloc hb.size _⟩
          case measure => simp [intOf]; omega
        · have hsb : (s.f.seq == q) = false := beq_eq_false_iff_ne.2 hsq
          have HF : Hid ([s].filter (fun s => !(s.f.seq == q)) = [s]) := hid (by simp [hsq])
          have HBW : Hid (Below wr.heap.size wr ((wr.alloc (.cells #[.int .i64 s.f.fr, .int .i64 s.f.to, .int .i64 s.f.seq, .bool s.f.ack, .int .i64 s.f.thread, .int .i64 s.f.mail.host, .int .i64 s.f.mail.thread, .slice pl s.f.mail.label.length cl, .slice pg s.f.mail.grants.length cg, .string ⟨s.f.mail.text.toArray⟩, .slice pc s.f.certs.length cc, .int .i64 s.tries, .int .i64 s.due] 56)).alloc (.cells #[.int .i64 s.f.fr, .int .i64 s.f.to, .int .i64 s.f.seq, .bool s.f.ack, .int .i64 s.f.thread, .int .i64 s.f.mail.host, .int .i64 s.f.mail.thread, .slice pl s.f.mail.label.length cl, .slice pg s.f.mail.grants.length cg, .string ⟨s.f.mail.text.toArray⟩, .slice pc s.f.certs.length cc, .int .i64 s.tries, .int .i64 s.due] 56))) := hid (below_then (below_box wr _) (below_box _ _))
          clear hsq
          have hne : w4.heap.size ≠ wr.heap.size := by omega
          have o1 := heap_cell (heap_new HOX.out (.cells #[.int .i64 s.f.fr, .int .i64 s.f.to, .int .i64 s.f.seq, .bool s.f.ack, .int .i64 s.f.thread, .int .i64 s.f.mail.host, .int .i64 s.f.mail.thread, .slice pl s.f.mail.label.length cl, .slice pg s.f.mail.grants.length cg, .string ⟨s.f.mail.text.toArray⟩, .slice pc s.f.certs.length cc, .int .i64 s.tries, .int .i64 s.due] 56)) 1
          go_wp2_with (at_builtin; refine wpList_sentR rfl _ _ rfl (w4.heap.size + 1) _ qs ⟨s, .slice pl s.f.mail.label.length cl, .slice pg s.f.mail.grants.length cg, .slice pc s.f.certs.length cc⟩ rfl (own_later HOK.out HBW.out) (wr.heap.size + 1) 1 rfl (HOKS.out.below (below_then hb HBW.out)) (sent_laid (size_box wr _) ⟨s, .slice pl s.f.mail.label.length cl, .slice pg s.f.mail.grants.length cg, .slice pc s.f.certs.length cc⟩) (Nat.le_trans (by omega) HBW.out.size) (by have := HQK.out; omega) ?_; intro v9 w9 hown9 hg9 hwh9; have hlow : ∀ b o, b < w4.heap.size + 1 → wr.heap[b]? = some o → w9.heap[b]? = some o := (fun b o h1 h2 => (by rw [hg9.block b (Nat.lt_of_lt_of_le (heap_lt h2) HBW.out.size) (fun e => by have := own_base HOK.out e.symm; omega)]; exact heap_keep h2 HBW.out)); have u1 := heap_cell (hlow _ _ (Nat.lt_succ_self _) HOX.out) 1; have uf1 := heap_frozen (hlow _ _ (Nat.lt_succ_self _) HOX.out) 1; have HLOW := hid hlow; clear hlow; obtain ⟨p9, c9, hv9⟩ := own_slice hown9; rw [List.length_append, List.length_singleton] at hv9; subst hv9)
          have hb9 : Below w.heap.size w w9 := (hb.trans (HBW.out.mono hb.size)).grown hg9 (Nat.le_trans hb.size HBW.out.size) (fun i hi => by have := own_base HOK.out hi; omega)
          go_roundw
          case rel =>
            have gS := grown_setCell w9 w4.heap.size 1 (.slice p9 (qs.length + 1) c9)
            exact ⟨k + 1, .slice p9 (qs.length + 1) c9, _, hlt, by go_num, by rw [List.map_append, HM.out, HST.out, HF.out]; rfl, hown9.kept gS (Or.inr fun e => by have := own_base hown9 e; omega), fun x hx => (List.mem_append.1 hx).elim (HKK.out x) (fun hx => by rw [List.mem_singleton] at hx; subst hx; exact HOKS.out), heap_setCell (j := 1) (HLOW.out _ _ (Nat.lt_succ_self _) HOX.out) _, heap_store (HLOW.out _ _ (by omega) HX5.out) n1 1 _, heap_store (HLOW.out _ _ (by omega) HR5.out) n2 1 _, hb9.grown gS hb9.size (fun k hk => by have := Option.some.inj hk; omega)⟩
          case measure => simp [intOf]; omega
      · have hI : ¬ (k : Int) < (st.length : Int) := by omega
        have hkl : k = st.length := by omega
        subst hkl
        have hm := HM.out
        rw [List.take_length] at hm
        have hmq : qs.length = (st.filter (fun s => !(s.f.seq == q))).length := by rw [← hm, List.length_map]
        have HSN : Hid (SntsAt wr (.slice pk qs.length ck) (st.filter (fun s => !(s.f.seq == q)))) := hid (snts_raw HOK.out (by have := HQK.out; omega) hm (fun x hx => (HKK.out x hx).below hb))
        have x0 := heap_cell hX 0
        have x1 := heap_cell hX 1
        have x2 := heap_cell hX 2
        have x3 := heap_cell hX 3
        have x4 := heap_cell hX 4
        have x5 := heap_cell hX 5
        have x6 := heap_cell hX 6
        have x7 := heap_cell hX 7
        have x8 := heap_cell hX 8
        have x9 := heap_cell hX 9
        have x10 := heap_cell hX 10
        have o0 := heap_cell hO 0
        have o1 := heap_cell hO 1
        have o2 := heap_cell hO 2
        have o3 := heap_cell hO 3
        have o4 := heap_cell hO 4
        have o5 := heap_cell hO 5
        have o6 := heap_cell hO 6
        have o7 := heap_cell hO 7
        have o8 := heap_cell hO 8
        have o9 := heap_cell hO 9
        have o10 := heap_cell hO 10
        have d0 := heap_cell hR 0
        have df0 := heap_frozen hR 0
        have d1 := heap_cell hR 1
        have df1 := heap_frozen hR 1
        have d2 := heap_cell hR 2
        have df2 := heap_frozen hR 2
        have d3 := heap_cell hR 3
        have df3 := heap_frozen hR 3
        have d4 := heap_cell hR 4
        have df4 := heap_frozen hR 4
        have d5 := heap_cell hR 5
        have df5 := heap_frozen hR 5
        have d6 := heap_cell hR 6
        have df6 := heap_frozen hR 6
        have d7 := heap_cell hR 7
        have df7 := heap_frozen hR 7
        have d8 := heap_cell hR 8
        have df8 := heap_frozen hR 8
        have d9 := heap_cell hR 9
        have df9 := heap_frozen hR 9
        have d10 := heap_cell hR 10
        have df10 := heap_frozen hR 10
        by_cases hal : qs.length = st.length
        · have hab : ((qs.length : Int) == (st.length : Int)) = true := beq_iff_eq.2 (by omega)
          have HTK : Hid (ansLn ⟨nx, st, hi, [b0, b1, b2, b3, b4, b5, b6, b7]⟩ q = (⟨nx, st, hi, [b0, b1, b2, b3, b4, b5, b6, b7]⟩, 4)) := hid (by rw [HTK0.out, if_pos ((filter_all st q).1 (by omega))])
          clear hmq hm hal hO hX hR
          go_wp2
          have hS := st11_grown wr (w.heap.size + 1) (.int .i64 nx) (.slice p st.length cap) (.int .i64 hi) (.bool b0) (.bool b1) (.bool b2) (.bool b3) (.bool b4) (.bool b5) (.bool b6) (.bool b7)
          have hW := st11_heap (.int .i64 nx) (.slice p st.length cap) (.int .i64 hi) (.bool b0) (.bool b1) (.bool b2) (.bool b3) (.bool b4) (.bool b5) (.bool b6) (.bool b7) (HR5.out)
          have hbE := (hb).grown hS (hb).size (fun k hk => by have := Option.some.inj hk; omega)
          exact bodyPost_ret (lresults_ct rfl _ _ (w.heap.size + 1) _ rfl (load_line rfl hW)) rfl ⟨_, by rw [HTK.out]; rfl, by rw [HTK.out]; exact lne_of (HS.out.below hbE) nx hi b0 b1 b2 b3 b4 b5 b6 b7, hbE⟩
        · have hab : ((qs.length : Int) == (st.length : Int)) = false := beq_eq_false_iff_ne.2 (by omega)
          have HTK : Hid (ansLn ⟨nx, st, hi, [b0, b1, b2, b3, b4, b5, b6, b7]⟩ q = (⟨nx, st.filter (fun s => !(s.f.seq == q)), hi, [b0, b1, b2, b3, b4, b5, b6, b7]⟩, 0)) := hid (by rw [HTK0.out, if_neg (fun h => hal (hmq.trans ((filter_all st q).2 h)))])
          have HMQ := hid hmq
          clear hmq hm hal hO hX hR
          go_wp2
          have hS := st11_grown wr (w.heap.size + 1) (.int .i64 nx) (.slice pk qs.length ck) (.int .i64 hi) (.bool b0) (.bool b1) (.bool b2) (.bool b3) (.bool b4) (.bool b5) (.bool b6) (.bool b7)
          have hW := st11_heap (.int .i64 nx) (.slice pk qs.length ck) (.int .i64 hi) (.bool b0) (.bool b1) (.bool b2) (.bool b3) (.bool b4) (.bool b5) (.bool b6) (.bool b7) HR5.out
          have hbE := hb.grown hS hb.size (fun k hk => by have := Option.some.inj hk; omega)
          have hSE : SntsAt (st11 wr (w.heap.size + 1) (.int .i64 nx) (.slice pk qs.length ck) (.int .i64 hi) (.bool b0) (.bool b1) (.bool b2) (.bool b3) (.bool b4) (.bool b5) (.bool b6) (.bool b7)) (.slice pk qs.length ck) (st.filter (fun s => !(s.f.seq == q))) := snts_raw (HOK.out.kept hS (Or.inr fun e => by have := own_base HOK.out e; omega)) (by have := HQK.out; omega) (by have := HM.out; rwa [List.take_length] at this) (fun x hx => (HKK.out x hx).below hbE)
          exact bodyPost_ret (lresults_ct rfl _ _ (w.heap.size + 1) _ rfl (load_line rfl hW)) rfl ⟨_, by rw [HTK.out]; rfl, by rw [HTK.out]; exact lne_of hSE nx hi b0 b1 b2 b3 b4 b5 b6 b7, hbE⟩
end Go.Proofs.Ytmpjddnbdidleaa
