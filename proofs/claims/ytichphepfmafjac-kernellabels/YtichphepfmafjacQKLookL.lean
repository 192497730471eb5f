/- KernelLabels looks at a thread before and behind a step. -/
import Derived.Test.YtichphepfmafjacQLookAll
namespace Go.Proofs.Ytichphepfmafjac
open Go.RowKit Go.Proofs.Parclose

/-- the boxes of a look: was, the step, the reply; and now -/
structure LookB (w : World) (B N : Nat) (A X R C : Array Value) : Prop where
  was : w.heap[B]? = some (.cells A 31 (0, 0))
  stp : w.heap[B + 1]? = some (.cells X 37 (0, 0))
  rep : w.heap[B + 1 + 1]? = some (.cells R 40 (0, 0))
  now : w.heap[N]? = some (.cells C 31 (0, 0))
theorem LookB.below {w w' : World} {B N : Nat} {A X R C : Array Value} (h : LookB w B N A X R C) (hb : Below w.heap.size w w') : LookB w' B N A X R C :=
  ⟨heap_keep h.was hb, heap_keep h.stp hb, heap_keep h.rep hb, heap_keep h.now hb⟩

set_option maxRecDepth 100000 in
set_option maxHeartbeats 6400000 in
theorem look_labels (ka u : Nat) (F : List Nat) (V : List ThrV) (K : Ker) (x : Stp) (w : World) (hg : GoodK K) (hu : u < 4) (hK : KerAt w ka F V (stepL K u x).1) (B : Nat) (pl po pj pm : Option Addr) (cl co cj cm : Nat)
    (hwas : ThrNew w B (.slice pl (thrOf K u).label.length cl) (.slice po (thrOf K u).own.length co) (.slice pj (thrOf K u).objs.length cj) (.slice pm (thrOf K u).mails.length cm) (thrOf K u)) (pe pf px pn : Option Addr) (ce cf cx cn : Nat) :
    Calls Try.prog 10 #[.pointer (some ⟨ka, 0, none⟩), .int .i64 u, .agg (thrB pl po pj pm cl co cj cm (thrOf K u)), .agg (stpB pe pf px pn ce cf cx cn x), .agg #[.int .i64 (stepL K u x).2.code, .int .i64 (stepL K u x).2.n, .string ⟨(stepL K u x).2.text.toArray⟩]] w fun e w' => e = .returned (.bool true) ∧ Below w.heap.size w w' := by
  have hn : u < K.ths.length := by rw [hg.four]; exact hu
  obtain ⟨hfl, hsm, hown⟩ := step_labels hn x
  have hg' := stepL_good hg u x
  have gt := thrOf_good hg u
  have gt' := thrOf_good hg' u
  have hthr := fun wx (hb : Below w.heap.size w wx) => Thread_any ka u F V (stepL K u x).1 wx (hK.below hb) hg'
  have hwl := hwas.labAt gt
  have hwo := hwas.ownAt gt
  clear hK hg hwas
  generalize thrOf (stepL K u x).1 u = th' at *
  generalize thrOf K u = th at *
  generalize (stepL K u x).2 = r at *
  unfold thrB stpB
  have HTHR := hid hthr
  have HWL := hid hwl
  have HWO := hid hwo
  clear hthr hwl hwo hg'
  go_enter Try.func10, Try.ntmps10
  have hb0 : Below w.heap.size w (((w.alloc (.cells #[.slice pl th.label.length cl, .slice po th.own.length co, .string ⟨th.text.toArray⟩, .slice pj th.objs.length cj, .slice pm th.mails.length cm] 31)).alloc (.cells #[.int .i64 x.t, .bool x.come, .int .i64 x.call.kind, .int .i64 x.call.h, .int .i64 x.call.t, .int .i64 x.call.n, .int .i64 x.call.c, .slice pe x.call.label.length ce, .slice pf x.call.grants.length cf, .string ⟨x.call.text.toArray⟩, .int .i64 x.mail.host, .int .i64 x.mail.thread, .slice px x.mail.label.length cx, .slice pn x.mail.grants.length cn, .string ⟨x.mail.text.toArray⟩] 37)).alloc (.cells #[.int .i64 r.code, .int .i64 r.n, .string ⟨r.text.toArray⟩] 40)) := below_then (below_then (below_box w _) (below_box _ _)) (below_box _ _)
  have HB0 := hid hb0
  go_wp2_with fail
  refine (HTHR.out _ hb0).mono ?_
  rintro e w1 ⟨pl1, cl1, po1, co1, pj1, cj1, pm1, cm1, rfl, hnew, hw1⟩
  have hb1 := below_then hb0 hw1
  have hA : LookB (w1.alloc (.cells #[.slice pl1 th'.label.length cl1, .slice po1 th'.own.length co1, .string ⟨th'.text.toArray⟩, .slice pj1 th'.objs.length cj1, .slice pm1 th'.mails.length cm1] 31)) w.heap.size w1.heap.size #[.slice pl th.label.length cl, .slice po th.own.length co, .string ⟨th.text.toArray⟩, .slice pj th.objs.length cj, .slice pm th.mails.length cm] #[.int .i64 x.t, .bool x.come, .int .i64 x.call.kind, .int .i64 x.call.h, .int .i64 x.call.t, .int .i64 x.call.n, .int .i64 x.call.c, .slice pe x.call.label.length ce, .slice pf x.call.grants.length cf, .string ⟨x.call.text.toArray⟩, .int .i64 x.mail.host, .int .i64 x.mail.thread, .slice px x.mail.label.length cx, .slice pn x.mail.grants.length cn, .string ⟨x.mail.text.toArray⟩] #[.int .i64 r.code, .int .i64 r.n, .string ⟨r.text.toArray⟩] #[.slice pl1 th'.label.length cl1, .slice po1 th'.own.length co1, .string ⟨th'.text.toArray⟩, .slice pj1 th'.objs.length cj1, .slice pm1 th'.mails.length cm1] := by
    refine ⟨heap_keep (heap_keep ?_ hw1) (below_box _ _), heap_keep (heap_keep ?_ hw1) (below_box _ _), heap_keep (heap_keep ?_ hw1) (below_box _ _), heap_alloc_new w1 _⟩
    · exact heap_keep (heap_keep (heap_alloc_new w _) (below_box _ _)) (below_box _ _)
    · have := heap_keep (heap_alloc_new (w.alloc (.cells #[.slice pl th.label.length cl, .slice po th.own.length co, .string ⟨th.text.toArray⟩, .slice pj th.objs.length cj, .slice pm th.mails.length cm] 31)) (.cells #[.int .i64 x.t, .bool x.come, .int .i64 x.call.kind, .int .i64 x.call.h, .int .i64 x.call.t, .int .i64 x.call.n, .int .i64 x.call.c, .slice pe x.call.label.length ce, .slice pf x.call.grants.length cf, .string ⟨x.call.text.toArray⟩, .int .i64 x.mail.host, .int .i64 x.mail.thread, .slice px x.mail.label.length cx, .slice pn x.mail.grants.length cn, .string ⟨x.mail.text.toArray⟩] 37)) (below_box _ (.cells #[.int .i64 r.code, .int .i64 r.n, .string ⟨r.text.toArray⟩] 40))
      rwa [size_box] at this
    · have := heap_alloc_new ((w.alloc (.cells #[.slice pl th.label.length cl, .slice po th.own.length co, .string ⟨th.text.toArray⟩, .slice pj th.objs.length cj, .slice pm th.mails.length cm] 31)).alloc (.cells #[.int .i64 x.t, .bool x.come, .int .i64 x.call.kind, .int .i64 x.call.h, .int .i64 x.call.t, .int .i64 x.call.n, .int .i64 x.call.c, .slice pe x.call.label.length ce, .slice pf x.call.grants.length cf, .string ⟨x.call.text.toArray⟩, .int .i64 x.mail.host, .int .i64 x.mail.thread, .slice px x.mail.label.length cx, .slice pn x.mail.grants.length cn, .string ⟨x.mail.text.toArray⟩] 37)) (.cells #[.int .i64 r.code, .int .i64 r.n, .string ⟨r.text.toArray⟩] 40)
      rwa [size_box, size_box] at this
  have HA := hid hA
  have HN := hid (hnew.below (below_box w1 (.cells #[.slice pl1 th'.label.length cl1, .slice po1 th'.own.length co1, .string ⟨th'.text.toArray⟩, .slice pj1 th'.objs.length cj1, .slice pm1 th'.mails.length cm1] 31)))
  have HB2 := hid (below_then hb1 (below_box w1 (.cells #[.slice pl1 th'.label.length cl1, .slice po1 th'.own.length co1, .string ⟨th'.text.toArray⟩, .slice pj1 th'.objs.length cj1, .slice pm1 th'.mails.length cm1] 31)))
  clear hnew hw1 hb1 hA hb0
  go_wp2_with fail
  have hlb := HN.out.labAt gt'
  have hgo := good_any _ th'.label _ hlb
  rw [(goodB_iff _).2 gt'.label] at hgo
  refine hgo.mono ?_
  rintro e w3 ⟨rfl, hw3⟩
  have HA3 := hid (HA.out.below hw3)
  have HN3 := hid (HN.out.below hw3)
  have HB3 := hid (below_then HB2.out hw3)
  clear hgo hlb hw3 HA HN HB2
  have b1 : ¬ ((8 : Int) < (th'.own.length : Int)) := by have := gt'.own; omega
  have b2 : ¬ ((4 : Int) < (th'.objs.length : Int)) := by have := gt'.objs; omega
  have b3 : ¬ ((6 : Int) < (th'.mails.length : Int)) := by have := gt'.mails; omega
  have b4 : ¬ ((64 : Int) < (th'.text.length : Int)) := by have := gt'.text; omega
  have n0 := heap_cell HA3.out.now 0
  have n1 := heap_cell HA3.out.now 1
  have n2 := heap_cell HA3.out.now 2
  have n3 := heap_cell HA3.out.now 3
  have n4 := heap_cell HA3.out.now 4
  have s0 := heap_cell HA3.out.was 0
  have s1 := heap_cell HA3.out.was 1
  have hflw := flows_any _ _ _ th.label th'.label th.own w3 (HWL.out.below HB3.out) (HN3.out.labAt gt') (HWO.out.below HB3.out)
  rw [hfl] at hflw
  have HFLW := hid hflw
  clear hflw
  go_wp2_with fail
  refine HFLW.out.mono ?_
  rintro e w4 ⟨rfl, hw4⟩
  have HA4 := hid (HA3.out.below hw4)
  have HN4 := hid (HN3.out.below hw4)
  have HB4 := hid (below_then HB3.out hw4)
  clear hw4 HA3 HN3 HB3 HFLW n0 n1 n2 n3 n4 s0 s1
  have n0 := heap_cell HA4.out.now 0
  have s0 := heap_cell HA4.out.was 0
  have hsam := same_any _ _ th.label th'.label w4 (HWL.out.below HB4.out) (HN4.out.labAt gt')
  have HSAM := hid hsam
  clear hsam
  go_wp2_with fail
  refine HSAM.out.mono ?_
  rintro e w5 ⟨rfl, hw5⟩
  have HA5 := hid (HA4.out.below hw5)
  have HN5 := hid (HN4.out.below hw5)
  have HB5 := hid (below_then HB4.out hw5)
  clear hw5 HA4 HN4 HB4 HSAM n0 s0
  have n1 := heap_cell HA5.out.now 1
  have s1 := heap_cell HA5.out.was 1
  have x1 := heap_cell HA5.out.stp 1
  have x2 := heap_cell HA5.out.stp 2
  have r0 := heap_cell HA5.out.rep 0
  have hsd : sameB th.label th'.label = true ∨ (x.come = false ∧ x.call.kind = 5 ∧ r.code = 0) := by
    rcases hsm with h | h
    · exact .inl ((sameB_iff _ _).2 h.symm)
    · exact .inr h
  clear hsm hfl b1 b2 b3 b4
  generalize sameB th.label th'.label = S at *
  have HOW1 := hid (HWO.out.below HB5.out)
  have HOW2 := hid (HN5.out.ownAt gt')
  have HOWN := hid hown
  have ho8 := gt.own
  have ho9 := gt'.own
  clear hown HA5 HN5 HWL HWO HTHR HB0
  have hsd3 : S = true ∨ (S = false ∧ x.come = false ∧ x.call.kind = 5 ∧ r.code = 0) := by
    cases S with
    | true => exact .inl rfl
    | false => exact .inr ⟨rfl, hsd.resolve_left (by simp)⟩
  clear hsd
  obtain ⟨qs1, hq1⟩ : ∃ q : Int → Nat → Bool, q = fun c j => decide (c ∈ th'.own.take j) := ⟨_, rfl⟩
  have HQ := hid hq1
  clear hq1
  rcases hsd3 with rfl | ⟨rfl, h1, h2, h3⟩
  all_goals
    try (rw [h1] at x1; rw [h2] at x2; rw [h3] at r0; clear h1 h2 h3)
    go_wp2
    go_loopw [82] (fun i wr => ∃ k : Nat, k ≤ th.own.length ∧ i = .int .i64 k ∧ w5 = wr) (fun i _ => th.own.length - (intOf i).toNat)
    case atStart => exact ⟨0, Nat.zero_le _, rfl, rfl⟩
    case round =>
      obtain ⟨k, hk, rfl, rfl⟩ := hrel
      by_cases hlt : k < th.own.length
      · obtain ⟨b, ob, hpe, hc⟩ := HOW1.out.cells (by omega)
        have hck := hc k hlt
        subst hpe
        have HIN := hid (HOWN.out th.own[k] (List.getElem_mem hlt))
        clear hc
        generalize th.own[k] = c at *
        go_wp2
        go_loopw [14, 89] (fun s i wr => ∃ j : Nat, j ≤ th'.own.length ∧ i = .int .i64 j ∧ s = .bool (qs1 c j) ∧ w5 = wr) (fun _ i _ => th'.own.length - (intOf i).toNat)
        case atStart => exact ⟨0, Nat.zero_le _, rfl, by rw [HQ.out]; rfl, rfl⟩
        case round =>
          obtain ⟨j, hj, rfl, rfl, rfl⟩ := hrel
          by_cases hlj : j < th'.own.length
          · obtain ⟨b2, ob2, hpe2, hc2⟩ := HOW2.out.cells (by omega)
            have hcj := hc2 j hlj
            subst hpe2
            clear hc2
            have HNX : Hid (qs1 c (j + 1) = (qs1 c j || (c == th'.own[j]))) := hid (by
              rw [HQ.out]
              simp only [List.take_succ_eq_append_getElem hlj, List.mem_append, List.mem_singleton]
              rw [Bool.decide_or]
              congr 1)
            generalize th'.own[j] = d at *
            cases hqq : qs1 c j with
            | true =>
              rw [hqq] at HNX
              go_wp2
              go_roundw
              case rel => exact ⟨j + 1, hlj, by go_num, by rw [HNX.out]; rfl, trivial⟩
              case measure => simp [intOf]; omega
            | false =>
              rw [hqq] at HNX
              go_wp2
              go_roundw
              case rel => exact ⟨j + 1, hlj, by go_num, by rw [HNX.out, Bool.false_or], trivial⟩
              case measure => simp [intOf]; omega
          · have ejl : j = th'.own.length := by omega
            have hyes : qs1 c j = true := by
              rw [HQ.out, ejl]
              show decide (c ∈ th'.own.take th'.own.length) = true
              rw [List.take_length]
              exact decide_eq_true HIN.out
            rw [hyes]
            go_wp2
            go_roundw
            case rel => exact ⟨k + 1, hlt, by go_num, trivial⟩
            case measure => simp [intOf]; omega
      · go_wp2
        go_ret
        exact ⟨rfl, HB5.out⟩
end Go.Proofs.Ytichphepfmafjac
