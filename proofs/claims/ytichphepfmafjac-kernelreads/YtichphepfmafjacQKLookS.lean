/- KernelReads looks at a thread before and behind a step: its own call. -/
import Derived.Test.YtichphepfmafjacQKLookR
import Derived.Deep.RegionHeld3
namespace Go.Proofs.Ytichphepfmafjac
open Go.RowKit Go.Proofs.Parclose

theorem text_ne {a b : List UInt8} (h : a ≠ b) : (⟨a.toArray⟩ : ByteArray) ≠ ⟨b.toArray⟩ := fun e => h (by
  have := congrArg ByteArray.data e
  simpa using this)

set_option maxRecDepth 100000 in
set_option maxHeartbeats 6400000 in
theorem look_call (ka u : Nat) (F : List Nat) (V : List ThrV) (K : Ker) (x : Stp) (w : World) (hg : GoodK K) (hu : u < 4) (hK : KerAt w ka F V (stepL K u x).1) (B : Nat) (pl po pj pm : Option Addr) (cl co cj cm : Nat)
    (hwas : ThrNew w B (.slice pl (thrOf K u).label.length cl) (.slice po (thrOf K u).own.length co) (.slice pj (thrOf K u).objs.length cj) (.slice pm (thrOf K u).mails.length cm) (thrOf K u)) (pe pf px pn : Option Addr) (ce cf cx cn : Nat)
    (hxl : LabAt w (.slice px x.mail.label.length cx) x.mail.label) (hxg : IntsAt w (.slice pn x.mail.grants.length cn) x.mail.grants) (hcm : x.come = false) :
    Calls Try.prog 21 #[.pointer (some ⟨ka, 0, none⟩), .int .i64 u, .agg (thrB pl po pj pm cl co cj cm (thrOf K u)), .agg (stpB pe pf px pn ce cf cx cn x), .agg #[.int .i64 (stepL K u x).2.code, .int .i64 (stepL K u x).2.n, .string ⟨(stepL K u x).2.text.toArray⟩]] w fun e w' => e = .returned (.bool true) ∧ Below w.heap.size w w' := by
  have hn : u < K.ths.length := by rw [hg.four]; exact hu
  have hk := step_knows hn x hcm
  have hg' := stepL_good hg u x
  have gt := thrOf_good hg u
  have gt' := thrOf_good hg' u
  have hthr := fun wx (hb : Below w.heap.size w wx) => Thread_any ka u F V (stepL K u x).1 wx (hK.below hb) hg'
  have hwl := hwas.labAt gt
  have hwo := hwas.ownAt gt
  have hthr2 := fun wx (hb : Below w.heap.size w wx) => Thread_any ka x.call.t F V (stepL K u x).1 wx (hK.below hb) hg'
  have gt2 := thrOf_good hg' x.call.t
  generalize thrOf (stepL K u x).1 x.call.t = tq at *
  clear hK hg hwas
  generalize thrOf (stepL K u x).1 u = th' at *
  generalize thrOf K u = th at *
  generalize (stepL K u x).2 = r at *
  unfold thrB stpB
  have HTHR := hid hthr
  have HWL := hid hwl
  have HWO := hid hwo
  have HXL := hid hxl
  have HXG := hid hxg
  have HCM := hid hcm
  have HTHR2 := hid hthr2
  have HK := hid hk
  clear hthr2 hk
  clear hthr hwl hwo hg' hxl hxg hcm
  go_enter Try.func21, Try.ntmps21
  have hb0 : Below w.heap.size w (((w.alloc (.cells #[.slice pl th.label.length cl, .slice po th.own.length co, .string ⟨th.text.toArray⟩, .slice pj th.objs.length cj, .slice pm th.mails.length cm] 31)).alloc (.cells #[.int .i64 x.t, .bool x.come, .int .i64 x.call.kind, .int .i64 x.call.h, .int .i64 x.call.t, .int .i64 x.call.n, .int .i64 x.call.c, .slice pe x.call.label.length ce, .slice pf x.call.grants.length cf, .string ⟨x.call.text.toArray⟩, .int .i64 x.mail.host, .int .i64 x.mail.thread, .slice px x.mail.label.length cx, .slice pn x.mail.grants.length cn, .string ⟨x.mail.text.toArray⟩] 37)).alloc (.cells #[.int .i64 r.code, .int .i64 r.n, .string ⟨r.text.toArray⟩] 40)) := below_then (below_then (below_box w _) (below_box _ _)) (below_box _ _)
  have HB0 := hid hb0
  go_wp2_with fail
  refine (HTHR.out _ hb0).mono ?_
  rintro e w1 ⟨pl1, cl1, po1, co1, pj1, cj1, pm1, cm1, rfl, hnew, hw1⟩
  have hb1 := below_then hb0 hw1
  have hA : SeenB (w1.alloc (.cells #[.slice pl1 th'.label.length cl1, .slice po1 th'.own.length co1, .string ⟨th'.text.toArray⟩, .slice pj1 th'.objs.length cj1, .slice pm1 th'.mails.length cm1] 31)) w.heap.size w1.heap.size #[.slice pl th.label.length cl, .slice po th.own.length co, .string ⟨th.text.toArray⟩, .slice pj th.objs.length cj, .slice pm th.mails.length cm] #[.int .i64 x.t, .bool x.come, .int .i64 x.call.kind, .int .i64 x.call.h, .int .i64 x.call.t, .int .i64 x.call.n, .int .i64 x.call.c, .slice pe x.call.label.length ce, .slice pf x.call.grants.length cf, .string ⟨x.call.text.toArray⟩, .int .i64 x.mail.host, .int .i64 x.mail.thread, .slice px x.mail.label.length cx, .slice pn x.mail.grants.length cn, .string ⟨x.mail.text.toArray⟩] #[.int .i64 r.code, .int .i64 r.n, .string ⟨r.text.toArray⟩] #[.slice pl1 th'.label.length cl1, .slice po1 th'.own.length co1, .string ⟨th'.text.toArray⟩, .slice pj1 th'.objs.length cj1, .slice pm1 th'.mails.length cm1] := lookB_of hw1
  have HA := hid hA
  have HN := hid (hnew.below (below_box w1 (.cells #[.slice pl1 th'.label.length cl1, .slice po1 th'.own.length co1, .string ⟨th'.text.toArray⟩, .slice pj1 th'.objs.length cj1, .slice pm1 th'.mails.length cm1] 31)))
  have HB2 := hid (below_then hb1 (below_box w1 (.cells #[.slice pl1 th'.label.length cl1, .slice po1 th'.own.length co1, .string ⟨th'.text.toArray⟩, .slice pj1 th'.objs.length cj1, .slice pm1 th'.mails.length cm1] 31)))
  clear hnew hw1 hb1 hA hb0 HB0
  obtain ⟨⟨n0, n1, n2, n3, n4⟩, _⟩ := cells5 HA.out.now
  obtain ⟨⟨s0, s1, s2, s3, s4⟩, _⟩ := cells5 HA.out.was
  obtain ⟨x0, x1, x2, x3, x4, x5, x6, x7, x8, x9, x10, x11, x12, x13, x14⟩ := cells15 HA.out.stp
  obtain ⟨r0, r1, r2, _⟩ := cells3 HA.out.rep
  rw [HCM.out] at x1
  go_upto_region 2 with fail
  generalize w1.alloc (.cells #[.slice pl1 th'.label.length cl1, .slice po1 th'.own.length co1, .string ⟨th'.text.toArray⟩, .slice pj1 th'.objs.length cj1, .slice pm1 th'.mails.length cm1] 31) = w2 at *
  by_cases htx : th'.text = th.text
  · rw [htx] at n2
    go_wp2
    go_ret
    exact ⟨rfl, HB2.out⟩
  · have hne := text_ne htx
    have hbq : (th'.text == th.text) = false := by simpa using htx
    rcases HK.out.resolve_left htx with h9 | ⟨h7, hr0⟩ | ⟨h4, hr0, i, hi, hni, hfl⟩
    · rw [h9] at x2
      clear HK h9
      go_wp2
      go_ret
      exact ⟨rfl, HB2.out⟩
    · rw [h7] at x2
      rw [hr0] at r0
      clear HK h7 hr0
      go_wp2
      go_ret
      exact ⟨rfl, HB2.out⟩
    · rw [h4] at x2
      rw [hr0] at r0
      rw [hni] at x5
      have hft := field_objects
      have HI := hid hi
      have HFL := hid hfl
      have HNI := hid hni
      have hi4 : (i : Int) < (tq.objs.length : Int) := by omega
      have ho4 := gt2.objs
      have HG2 := hid gt2
      clear HK h4 hr0 hni gt' hfl gt2
      go_wp2_with fail
      refine (HTHR2.out _ HB2.out).mono ?_
      rintro e w5 ⟨pl2, cl2, po2, co2, pj2, cj2, pm2, cm2, rfl, hnew2, hw5⟩
      obtain ⟨g, pl5, cl5, hpe, o1, _, o3⟩ := hnew2.objs.get i HI.out
      subst hpe
      have HA5 := hid (HA.out.below hw5)
      have HB5 := hid (below_then HB2.out hw5)
      have hgl := (HG2.out.obj _ (List.getElem_mem HI.out)).2.1
      have hlab := labs_of_own o3 (Nat.le_trans hgl (by decide))
      obtain ⟨ol, hol⟩ : ∃ ol, (tq.objs[i]'HI.out).label = ol := ⟨_, rfl⟩
      have hfo : flowsL ol th.label th.own = true := by rw [← hol]; exact HFL.out
      rw [hol] at hlab o1
      have hflw := fun wx (hb : Below w5.heap.size w5 wx) => flows_any _ _ _ ol th.label th.own wx (hlab.below hb) (HWL.out.below (below_then HB5.out hb)) (HWO.out.below (below_then HB5.out hb))
      rw [hfo] at hflw
      have HFLW := hid hflw
      clear hflw hgl hnew2 hw5 o3 n0 n1 n2 n3 n4 s0 s1 s2 s3 s4 x0 x1 x2 x3 x4 x5 x6 x7 x8 x9 x10 x11 x12 x13 x14 r0 r1 r2 hne hbq htx HG2 HFL hol hlab hfo
      obtain ⟨⟨s0, s1, s2, s3, s4⟩, _⟩ := cells5 HA5.out.was
      have x5 := heap_cell HA5.out.stp 5
      simp only [HNI.out] at x5
      clear s2 s3 s4
      go_wp2_with fail
      go_region_held3 (fun w' => w'.cell? ⟨w.heap.size + 1, 5, none⟩ = some (.int .i64 i) ∧ w'.cell? ⟨w.heap.size, 0, none⟩ = some (.slice pl th.label.length cl) ∧ w'.cell? ⟨w.heap.size, 1, none⟩ = some (.slice po th.own.length co) ∧ w'.cell? ⟨g, i * 2, none⟩ = some (.slice pl5 ol.length cl5)) (go_keep)
        (first | (go_at_call 13; refine (HFLW.out _ (Below.refl _ _).drew).mono ?_; rintro e w7 ⟨rfl, hw7d⟩; have hw7 := kundrew hw7d; have HB7 := hid (below_then HB5.out hw7); have z5 := hw7.cell (cell_block x5); rw [x5] at z5; have z0 := hw7.cell (cell_block s0); rw [s0] at z0; have z1 := hw7.cell (cell_block s1); rw [s1] at z1; have z2 := hw7.cell (cell_block o1); rw [o1] at z2; clear hw7d hw7))
      all_goals
        go_wp2
        go_ret
        exact ⟨rfl, HB7.out⟩

theorem look_reads (ka u : Nat) (F : List Nat) (V : List ThrV) (K : Ker) (x : Stp) (w : World) (hg : GoodK K) (hu : u < 4) (hK : KerAt w ka F V (stepL K u x).1) (B : Nat) (pl po pj pm : Option Addr) (cl co cj cm : Nat)
    (hwas : ThrNew w B (.slice pl (thrOf K u).label.length cl) (.slice po (thrOf K u).own.length co) (.slice pj (thrOf K u).objs.length cj) (.slice pm (thrOf K u).mails.length cm) (thrOf K u)) (pe pf px pn : Option Addr) (ce cf cx cn : Nat)
    (hxl : LabAt w (.slice px x.mail.label.length cx) x.mail.label) (hxg : IntsAt w (.slice pn x.mail.grants.length cn) x.mail.grants) :
    Calls Try.prog 21 #[.pointer (some ⟨ka, 0, none⟩), .int .i64 u, .agg (thrB pl po pj pm cl co cj cm (thrOf K u)), .agg (stpB pe pf px pn ce cf cx cn x), .agg #[.int .i64 (stepL K u x).2.code, .int .i64 (stepL K u x).2.n, .string ⟨(stepL K u x).2.text.toArray⟩]] w fun e w' => e = .returned (.bool true) ∧ Below w.heap.size w w' := by
  cases hcm : x.come with
  | true => exact look_come ka u F V K x w hg hu hK B pl po pj pm cl co cj cm hwas pe pf px pn ce cf cx cn hxl hxg hcm
  | false => exact look_call ka u F V K x w hg hu hK B pl po pj pm cl co cj cm hwas pe pf px pn ce cf cx cn hxl hxg hcm
end Go.Proofs.Ytichphepfmafjac
