/- KernelReads looks at a thread before and behind a step: mail that came. -/
import Derived.Test.YtichphepfmafjacQKLookB
import Derived.Deep.DeepCutAuto
namespace Go.Proofs.Ytichphepfmafjac
open Go.RowKit Go.Proofs.Parclose

/-- the boxes of a look: was, the step, the reply; and now -/
structure SeenB (w : World) (B N : Nat) (A X R C : Array Value) : Prop where
  was : w.heap[B]? = some (.cells A 31 (0, 0))
  stp : w.heap[B + 1]? = some (.cells X 37 (0, 0))
  rep : w.heap[B + 1 + 1]? = some (.cells R 40 (0, 0))
  now : w.heap[N]? = some (.cells C 31 (0, 0))
theorem SeenB.below {w w' : World} {B N : Nat} {A X R C : Array Value} (h : SeenB w B N A X R C) (hb : Below w.heap.size w w') : SeenB w' B N A X R C :=
  ⟨heap_keep h.was hb, heap_keep h.stp hb, heap_keep h.rep hb, heap_keep h.now hb⟩

theorem cells15 {w : World} {b : Nat} {t : TypeId} {y0 y1 y2 y3 y4 y5 y6 y7 y8 y9 y10 y11 y12 y13 y14 : Value} (h : w.heap[b]? = some (.cells #[y0, y1, y2, y3, y4, y5, y6, y7, y8, y9, y10, y11, y12, y13, y14] t (0, 0))) : w.cell? ⟨b, 0, none⟩ = some y0 ∧ w.cell? ⟨b, 1, none⟩ = some y1 ∧ w.cell? ⟨b, 2, none⟩ = some y2 ∧ w.cell? ⟨b, 3, none⟩ = some y3 ∧ w.cell? ⟨b, 4, none⟩ = some y4 ∧ w.cell? ⟨b, 5, none⟩ = some y5 ∧ w.cell? ⟨b, 6, none⟩ = some y6 ∧ w.cell? ⟨b, 7, none⟩ = some y7 ∧ w.cell? ⟨b, 8, none⟩ = some y8 ∧ w.cell? ⟨b, 9, none⟩ = some y9 ∧ w.cell? ⟨b, 10, none⟩ = some y10 ∧ w.cell? ⟨b, 11, none⟩ = some y11 ∧ w.cell? ⟨b, 12, none⟩ = some y12 ∧ w.cell? ⟨b, 13, none⟩ = some y13 ∧ w.cell? ⟨b, 14, none⟩ = some y14 :=
  ⟨heap_cell h 0, heap_cell h 1, heap_cell h 2, heap_cell h 3, heap_cell h 4, heap_cell h 5, heap_cell h 6, heap_cell h 7, heap_cell h 8, heap_cell h 9, heap_cell h 10, heap_cell h 11, heap_cell h 12, heap_cell h 13, heap_cell h 14⟩

theorem lookB_of {w w1 : World} {A X R C : Array Value} (hw1 : Below (((w.alloc (.cells A 31)).alloc (.cells X 37)).alloc (.cells R 40)).heap.size (((w.alloc (.cells A 31)).alloc (.cells X 37)).alloc (.cells R 40)) w1) : SeenB (w1.alloc (.cells C 31)) w.heap.size w1.heap.size A X R C := by
  refine ⟨heap_keep (heap_keep ?_ hw1) (below_box _ _), heap_keep (heap_keep ?_ hw1) (below_box _ _), heap_keep (heap_keep ?_ hw1) (below_box _ _), heap_alloc_new w1 _⟩
  · exact heap_keep (heap_keep (heap_alloc_new w _) (below_box _ _)) (below_box _ _)
  · have := heap_keep (heap_alloc_new (w.alloc (.cells A 31)) (.cells X 37)) (below_box _ (.cells R 40))
    rwa [size_box] at this
  · have := heap_alloc_new ((w.alloc (.cells A 31)).alloc (.cells X 37)) (.cells R 40)
    rwa [size_box, size_box] at this

set_option maxRecDepth 100000 in
set_option maxHeartbeats 6400000 in
theorem look_come (ka u : Nat) (F : List Nat) (V : List ThrV) (K : Ker) (x : Stp) (w : World) (hg : GoodK K) (hu : u < 4) (hK : KerAt w ka F V (stepL K u x).1) (B : Nat) (pl po pj pm : Option Addr) (cl co cj cm : Nat)
    (hwas : ThrNew w B (.slice pl (thrOf K u).label.length cl) (.slice po (thrOf K u).own.length co) (.slice pj (thrOf K u).objs.length cj) (.slice pm (thrOf K u).mails.length cm) (thrOf K u)) (pe pf px pn : Option Addr) (ce cf cx cn : Nat)
    (hxl : LabAt w (.slice px x.mail.label.length cx) x.mail.label) (hxg : IntsAt w (.slice pn x.mail.grants.length cn) x.mail.grants) (hcm : x.come = true) :
    Calls Try.prog 21 #[.pointer (some ⟨ka, 0, none⟩), .int .i64 u, .agg (thrB pl po pj pm cl co cj cm (thrOf K u)), .agg (stpB pe pf px pn ce cf cx cn x), .agg #[.int .i64 (stepL K u x).2.code, .int .i64 (stepL K u x).2.n, .string ⟨(stepL K u x).2.text.toArray⟩]] w fun e w' => e = .returned (.bool true) ∧ Below w.heap.size w w' := by
  have hn : u < K.ths.length := by rw [hg.four]; exact hu
  obtain ⟨htx, hmm⟩ := step_come hn x hcm
  have hg' := stepL_good hg u x
  have gt := thrOf_good hg u
  have gt' := thrOf_good hg' u
  have hthr := fun wx (hb : Below w.heap.size w wx) => Thread_any ka u F V (stepL K u x).1 wx (hK.below hb) hg'
  have hwl := hwas.labAt gt
  have hwo := hwas.ownAt gt
  skip
  clear hK hg hwas
  generalize thrOf (stepL K u x).1 u = th' at *
  generalize thrOf K u = th at *
  generalize (stepL K u x).2 = r at *
  unfold thrB stpB
  have HTHR := hid hthr
  have HWL := hid hwl
  have HWO := hid hwo
  have HXL := hid hxl
  have HXG := hid hxg
  have HCM := hid hcm
  have HTX := hid htx
  have HMM := hid hmm
  clear htx hmm
  clear hthr hwl hwo hg' hxl hxg hcm
  go_enter Try.func21, Try.ntmps21
  have hb0 : Below w.heap.size w (((w.alloc (.cells #[.slice pl th.label.length cl, .slice po th.own.length co, .string ⟨th.text.toArray⟩, .slice pj th.objs.length cj, .slice pm th.mails.length cm] 31)).alloc (.cells #[.int .i64 x.t, .bool x.come, .int .i64 x.call.kind, .int .i64 x.call.h, .int .i64 x.call.t, .int .i64 x.call.n, .int .i64 x.call.c, .slice pe x.call.label.length ce, .slice pf x.call.grants.length cf, .string ⟨x.call.text.toArray⟩, .int .i64 x.mail.host, .int .i64 x.mail.thread, .slice px x.mail.label.length cx, .slice pn x.mail.grants.length cn, .string ⟨x.mail.text.toArray⟩] 37)).alloc (.cells #[.int .i64 r.code, .int .i64 r.n, .string ⟨r.text.toArray⟩] 40)) := below_then (below_then (below_box w _) (below_box _ _)) (below_box _ _)
  have HB0 := hid hb0
  go_wp2_with fail
  refine (HTHR.out _ hb0).mono ?_
  rintro e w1 ⟨pl1, cl1, po1, co1, pj1, cj1, pm1, cm1, rfl, hnew, hw1⟩
  have hb1 := below_then hb0 hw1
  have hA : SeenB (w1.alloc (.cells #[.slice pl1 th'.label.length cl1, .slice po1 th'.own.length co1, .string ⟨th'.text.toArray⟩, .slice pj1 th'.objs.length cj1, .slice pm1 th'.mails.length cm1] 31)) w.heap.size w1.heap.size #[.slice pl th.label.length cl, .slice po th.own.length co, .string ⟨th.text.toArray⟩, .slice pj th.objs.length cj, .slice pm th.mails.length cm] #[.int .i64 x.t, .bool x.come, .int .i64 x.call.kind, .int .i64 x.call.h, .int .i64 x.call.t, .int .i64 x.call.n, .int .i64 x.call.c, .slice pe x.call.label.length ce, .slice pf x.call.grants.length cf, .string ⟨x.call.text.toArray⟩, .int .i64 x.mail.host, .int .i64 x.mail.thread, .slice px x.mail.label.length cx, .slice pn x.mail.grants.length cn, .string ⟨x.mail.text.toArray⟩] #[.int .i64 r.code, .int .i64 r.n, .string ⟨r.text.toArray⟩] #[.slice pl1 th'.label.length cl1, .slice po1 th'.own.length co1, .string ⟨th'.text.toArray⟩, .slice pj1 th'.objs.length cj1, .slice pm1 th'.mails.length cm1] := lookB_of hw1
  have HA := hid hA
  have HN := hid (hnew.below (below_box w1 (.cells #[.slice pl1 th'.label.length cl1, .slice po1 th'.own.length co1, .string ⟨th'.text.toArray⟩, .slice pj1 th'.objs.length cj1, .slice pm1 th'.mails.length cm1] 31)))
  have HB2 := hid (below_then hb1 (below_box w1 (.cells #[.slice pl1 th'.label.length cl1, .slice po1 th'.own.length co1, .string ⟨th'.text.toArray⟩, .slice pj1 th'.objs.length cj1, .slice pm1 th'.mails.length cm1] 31)))
  clear hnew hw1 hb1 hA hb0 HB0
  obtain ⟨⟨n0, n1, n2, n3, n4⟩, _⟩ := cells5 HA.out.now
  obtain ⟨⟨s0, s1, s2, s3, s4⟩, _⟩ := cells5 HA.out.was
  obtain ⟨x0, x1, x2, x3, x4, x5, x6, x7, x8, x9, x10, x11, x12, x13, x14⟩ := cells15 HA.out.stp
  obtain ⟨r0, r1, r2, _⟩ := cells3 HA.out.rep
  rw [HCM.out] at x1
  go_upto_region 2 with fail
  generalize w1.alloc (.cells #[.slice pl1 th'.label.length cl1, .slice po1 th'.own.length co1, .string ⟨th'.text.toArray⟩, .slice pj1 th'.objs.length cj1, .slice pm1 th'.mails.length cm1] 31) = w2 at *
  rw [HTX.out] at n2
  rcases HMM.out with hmm | ⟨hmm, hfl⟩
  · have hml : th'.mails.length = th.mails.length := by rw [hmm]
    rw [hml] at n4
    clear hml hmm HMM
    go_wp2
    go_ret
    exact ⟨rfl, HB2.out⟩
  · have hml : th'.mails.length = th.mails.length + 1 := by rw [hmm]; simp
    have h6 := gt'.mails
    have hi : th.mails.length < th'.mails.length := by omega
    obtain ⟨g, pl5, cl5, pg5, cg5, hpe, m0, m1, m2, m3, m4, o1, o2⟩ := HN.out.mails.get th.mails.length hi
    have he : th'.mails[th.mails.length] = x.mail := by simp [hmm]
    rw [he] at m0 m1 m2 m3 m4 o1 o2
    subst hpe
    have hlx := HXL.out.len
    have hgx := HXG.out.len
    have HO1 := hid (labs_of_own o1 hlx)
    have HO2 := hid (nums_of_own o2 hgx)
    clear o1 o2 he hmm hlx hgx
    generalize hL : th.mails.length = L at *
    have hL6 : L + 1 ≤ 6 := by omega
    have HML := hid hml
    rw [hml] at n4
    clear hml hi h6 HMM
    go_upto_region 6 with fail
    have HA6 := hid (HA.out.below (below_box w2 (.cells #[.int .i64 x.mail.host, .int .i64 x.mail.thread, .slice pl5 x.mail.label.length cl5, .slice pg5 x.mail.grants.length cg5, .string ⟨x.mail.text.toArray⟩] 35)))
    have HM6 := hid (heap_alloc_new w2 (.cells #[.int .i64 x.mail.host, .int .i64 x.mail.thread, .slice pl5 x.mail.label.length cl5, .slice pg5 x.mail.grants.length cg5, .string ⟨x.mail.text.toArray⟩] 35))
    have HB6 := hid (below_then HB2.out (below_box w2 (.cells #[.int .i64 x.mail.host, .int .i64 x.mail.thread, .slice pl5 x.mail.label.length cl5, .slice pg5 x.mail.grants.length cg5, .string ⟨x.mail.text.toArray⟩] 35)))
    have HO16 := hid (HO1.out.below (below_box w2 (.cells #[.int .i64 x.mail.host, .int .i64 x.mail.thread, .slice pl5 x.mail.label.length cl5, .slice pg5 x.mail.grants.length cg5, .string ⟨x.mail.text.toArray⟩] 35)))
    have HO26 := hid (HO2.out.below (below_box w2 (.cells #[.int .i64 x.mail.host, .int .i64 x.mail.thread, .slice pl5 x.mail.label.length cl5, .slice pg5 x.mail.grants.length cg5, .string ⟨x.mail.text.toArray⟩] 35)))
    clear n0 n1 n2 n3 n4 s0 s1 s2 s3 s4 x0 x1 x2 x3 x4 x5 x6 x7 x8 x9 x10 x11 x12 x13 x14 r0 r1 r2 m0 m1 m2 m3 m4 HA HN HB2 HO1 HO2
    generalize w2.alloc (.cells #[.int .i64 x.mail.host, .int .i64 x.mail.thread, .slice pl5 x.mail.label.length cl5, .slice pg5 x.mail.grants.length cg5, .string ⟨x.mail.text.toArray⟩] 35) = w6 at *
    have n2 := heap_cell HA6.out.now 2
    have n4 := heap_cell HA6.out.now 4
    have s0 := heap_cell HA6.out.was 0
    have s1 := heap_cell HA6.out.was 1
    have s2 := heap_cell HA6.out.was 2
    have s4 := heap_cell HA6.out.was 4
    have m2 := heap_cell HM6.out 2
    simp only [HTX.out] at n2
    simp only [HML.out] at n4
    have hflw := flows_any _ _ _ x.mail.label th.label th.own w6 HO16.out (HWL.out.below HB6.out) (HWO.out.below HB6.out)
    rw [hfl] at hflw
    have HFLW := hid hflw
    clear hflw
    go_wp2_with fail
    refine HFLW.out.mono ?_
    rintro e w7 ⟨rfl, hw7⟩
    have HM7 := hid (heap_keep HM6.out hw7)
    have HA7 := hid (HA6.out.below hw7)
    have HB7 := hid (below_then HB6.out hw7)
    have hsam := ksameMail_eq (.agg #[.int .i64 x.mail.host, .int .i64 x.mail.thread, .slice pl5 x.mail.label.length cl5, .slice pg5 x.mail.grants.length cg5, .string ⟨x.mail.text.toArray⟩]) (.agg #[.int .i64 x.mail.host, .int .i64 x.mail.thread, .slice px x.mail.label.length cx, .slice pn x.mail.grants.length cn, .string ⟨x.mail.text.toArray⟩]) x.mail w7 ⟨_, _, rfl, HO16.out.below hw7, HO26.out.below hw7⟩ ⟨_, _, rfl, HXL.out.below HB7.out, HXG.out.below HB7.out⟩
    have HSAM := hid hsam
    clear hsam hw7 n2 n4 s0 s1 s2 s4 m2 HA6 HM6 HB6 HO16 HO26 HFLW
    obtain ⟨⟨m0, m1, m2, m3, m4⟩, _⟩ := cells5 HM7.out
    obtain ⟨_, _, _, _, _, _, _, _, _, _, x10, x11, x12, x13, x14⟩ := cells15 HA7.out.stp
    go_wp2_with fail
    refine HSAM.out.mono ?_
    rintro e w8 ⟨rfl, hw8⟩
    go_wp2
    go_ret
    exact ⟨rfl, below_then HB7.out hw8⟩
end Go.Proofs.Ytichphepfmafjac
