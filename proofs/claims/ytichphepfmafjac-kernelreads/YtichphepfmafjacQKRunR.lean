/- parclosekeep.run with the look of KernelReads. -/
import Derived.Test.YtichphepfmafjacQLookRAll
import Derived.Test.YtichphepfmafjacQLookAll
namespace Go.Proofs.Ytichphepfmafjac
open Go.RowKit Go.Proofs.Parclose

set_option maxRecDepth 100000 in
set_option maxHeartbeats 6400000 in
theorem run_reads (host : Int) (vs : Value) (l : List Stp) (w : World) (hl : StpsAt w vs l) :
    Calls Try.prog 9 #[.int .i64 host, vs, .func (.func 21) #[] #[]] w fun e w' => e = .returned (.bool true) ∧ Below w.heap.size w w' := by
  obtain ⟨ps, cps, rfl, hsc, hsl, hst⟩ := hl
  have HST := hid hst
  clear hst
  go_enter Try.func9, Try.ntmps9
  go_wp2_with (first
    | (go_at_call 16; refine (kpick_any _ _ _ (by omega) (by omega)).mono ?_; rintro e w' ⟨q1, rfl, hq1, hq⟩; have hqq := hq.symm; clear hq; subst hqq)
    | (go_at_call 15; refine (new_ex _ _ ⟨by omega, hq1⟩).mono ?_; rintro e w1 ⟨ka, rfl, hka, hk1, hw1⟩; have HK1 := hid hk1; have HW1 := hid hw1; have HKA := hid hka; clear hk1 hw1 hka)
    | (go_at_call 17; refine (kcalls_any _).mono ?_; rintro e w3 ⟨rfl, hw3⟩; have HW3 := hid (below_then HW1.out hw3); have HK3 := hid (HK1.out.below hw3); clear hw3))
  have HB0 : Hid (Alone w w3 ka [ka] [nilV, nilV, nilV, nilV] (freshKer q1)) := hid ⟨HK3.out, fresh_good ⟨by omega, hq1⟩, HW3.out, fun k hk => by simp at hk; subst hk; have := HKA.out; omega⟩
  clear HKA HK1 HW1 HW3 HK3
  go_loopw [9] (fun i wr => ∃ (k : Nat) (F : List Nat) (V : List ThrV) (K : Ker), k ≤ l.length ∧ k ≤ 120 ∧ i = .int .i64 k ∧ Alone w wr ka F V K) (fun i _ => 120 - (intOf i).toNat)
  case atStart => exact ⟨0, _, _, _, Nat.zero_le _, Nat.zero_le _, rfl, HB0.out⟩
  case round =>
    clear HB0
    obtain ⟨k, F, V, K, hk, hk60, rfl, hbs⟩ := hrel
    have HBS := hid hbs
    by_cases hgo : k < l.length ∧ k < 120
    · obtain ⟨hlt, hlt60⟩ := hgo
      obtain ⟨b, o, rfl, hel⟩ := HST.out (by omega)
      obtain ⟨el, eg, ml, mg, hx⟩ := hel k hlt
      have hx2 := hx.below hbs.below
      have g0 := hx2.c0
      have g1 := hx2.c1
      have g2 := hx2.c2
      have g3 := hx2.c3
      have g4 := hx2.c4
      have g5 := hx2.c5
      have g6 := hx2.c6
      have g7 := hx2.c7
      have g8 := hx2.c8
      have g9 := hx2.c9
      have g10 := hx2.c10
      have g11 := hx2.c11
      have g12 := hx2.c12
      have g13 := hx2.c13
      have g14 := hx2.c14
      obtain ⟨pe, ce, rfl, _⟩ := id hx2.lab
      obtain ⟨pf, cf, rfl, _⟩ := id hx2.gra
      obtain ⟨px, cx, rfl, _⟩ := id hx2.mlab
      obtain ⟨pn, cn, rfl, _⟩ := id hx2.mgra
      have HX := hid hx
      generalize l[k] = x at *
      clear hel hx hx2 hbs
      go_wp2_with fail
      refine (kpick_any _ _ _ (by omega) (by omega)).mono ?_
      rintro e w' ⟨u, rfl, hu, hq⟩
      have hqq := hq.symm
      clear hq
      subst hqq
      have hb1 := below_box wr (.cells #[.int .i64 x.t, .bool x.come, .int .i64 x.call.kind, .int .i64 x.call.h, .int .i64 x.call.t, .int .i64 x.call.n, .int .i64 x.call.c, .slice pe x.call.label.length ce, .slice pf x.call.grants.length cf, .string ⟨x.call.text.toArray⟩, .int .i64 x.mail.host, .int .i64 x.mail.thread, .slice px x.mail.label.length cx, .slice pn x.mail.grants.length cn, .string ⟨x.mail.text.toArray⟩] 37)
      have HB1 := hid (HBS.out.more hb1)
      have hu4 : u < 4 := by omega
      clear g0 g1 g2 g3 g4 g5 g6 g7 g8 g9 g10 g11 g12 g13 g14
      have hthr := Thread_any ka u F V K _ HB1.out.ker HB1.out.good
      have HTHR := hid hthr
      clear hthr
      go_wp2_with fail
      refine HTHR.out.mono ?_
      rintro e w2 ⟨pl, cl, po, co, pj, cj, pm, cm, rfl, hnew, hw2⟩
      clear HTHR
      have hX2 := heap_keep (heap_alloc_new wr (.cells #[.int .i64 x.t, .bool x.come, .int .i64 x.call.kind, .int .i64 x.call.h, .int .i64 x.call.t, .int .i64 x.call.n, .int .i64 x.call.c, .slice pe x.call.label.length ce, .slice pf x.call.grants.length cf, .string ⟨x.call.text.toArray⟩, .int .i64 x.mail.host, .int .i64 x.mail.thread, .slice px x.mail.label.length cx, .slice pn x.mail.grants.length cn, .string ⟨x.mail.text.toArray⟩] 37)) hw2
      have HB2 := hid (HB1.out.more hw2)
      have hsz := Nat.lt_of_lt_of_le (show wr.heap.size < _ from by rw [size_box]; omega) hw2.size
      have hfin : ∀ i ∈ F, i < wr.heap.size := HBS.out.ker.fin
      have hlook := fun (wx : World) (G : List Nat) (V' : List ThrV) (R : Array Value) (h : Round w wx ka G V' (stepL K u x).1 wr.heap.size w2.heap.size (w2.heap.size + 1) #[.int .i64 x.t, .bool x.come, .int .i64 x.call.kind, .int .i64 x.call.h, .int .i64 x.call.t, .int .i64 x.call.n, .int .i64 x.call.c, .slice pe x.call.label.length ce, .slice pf x.call.grants.length cf, .string ⟨x.call.text.toArray⟩, .int .i64 x.mail.host, .int .i64 x.mail.thread, .slice px x.mail.label.length cx, .slice pn x.mail.grants.length cn, .string ⟨x.mail.text.toArray⟩] #[.slice pl (thrOf K u).label.length cl, .slice po (thrOf K u).own.length co, .string ⟨(thrOf K u).text.toArray⟩, .slice pj (thrOf K u).objs.length cj, .slice pm (thrOf K u).mails.length cm] R wr.heap.size (.slice pl (thrOf K u).label.length cl) (.slice po (thrOf K u).own.length co) (.slice pj (thrOf K u).objs.length cj) (.slice pm (thrOf K u).mails.length cm) (thrOf K u)) => look_reads ka u G V' K x wx HB1.out.good hu4 h.al.ker _ pl po pj pm cl co cj cm h.nw pe pf px pn ce cf cx cn (HX.out.mlab.below h.al.below) (HX.out.mgra.below h.al.below)
      simp only [thrB, stpB] at hlook
      have HLOOK := hid hlook
      clear hlook
      generalize hthu : thrOf K u = th at *
      have HR4 : Hid (Round w ((w2.alloc (.cells #[.slice pl th.label.length cl, .slice po th.own.length co, .string ⟨th.text.toArray⟩, .slice pj th.objs.length cj, .slice pm th.mails.length cm] 31)).alloc (.cells #[.int .i64 0, .int .i64 0, .string ⟨#[]⟩] 40)) ka (F ++ [w2.heap.size + 1]) V K wr.heap.size w2.heap.size (w2.heap.size + 1) #[.int .i64 x.t, .bool x.come, .int .i64 x.call.kind, .int .i64 x.call.h, .int .i64 x.call.t, .int .i64 x.call.n, .int .i64 x.call.c, .slice pe x.call.label.length ce, .slice pf x.call.grants.length cf, .string ⟨x.call.text.toArray⟩, .int .i64 x.mail.host, .int .i64 x.mail.thread, .slice px x.mail.label.length cx, .slice pn x.mail.grants.length cn, .string ⟨x.mail.text.toArray⟩] #[.slice pl th.label.length cl, .slice po th.own.length co, .string ⟨th.text.toArray⟩, .slice pj th.objs.length cj, .slice pm th.mails.length cm] #[.int .i64 0, .int .i64 0, .string ⟨#[]⟩] wr.heap.size (.slice pl th.label.length cl) (.slice po th.own.length co) (.slice pj th.objs.length cj) (.slice pm th.mails.length cm) th) := hid (by
        have ha := (HB2.out.more (below_box w2 (.cells #[.slice pl th.label.length cl, .slice po th.own.length co, .string ⟨th.text.toArray⟩, .slice pj th.objs.length cj, .slice pm th.mails.length cm] 31))).reserve (.cells #[.int .i64 0, .int .i64 0, .string ⟨#[]⟩] 40)
        rw [size_box] at ha
        refine ⟨ha, heap_keep (heap_keep hX2 (below_box _ _)) (below_box _ _), heap_alloc2_old w2 _ _, heap_alloc2_new w2 _ _, ((hnew.below (below_box _ _)).below (below_box _ _)).base hb1.size, by simp⟩)
      have hxF : wr.heap.size ∉ F ++ [w2.heap.size + 1] := fun h => by
        rcases List.mem_append.1 h with h | h
        · have := hfin _ h; omega
        · simp at h; omega
      have hwF : w2.heap.size ∉ F ++ [w2.heap.size + 1] := fun h => by
        rcases List.mem_append.1 h with h | h
        · have := hfin _ h; omega
        · simp at h
      have hBF : ∀ i ∈ F ++ [w2.heap.size + 1], i < wr.heap.size ∨ i = w2.heap.size + 1 := fun i h => by
        rcases List.mem_append.1 h with h | h
        · exact .inl (hfin _ h)
        · simp at h; exact .inr h
      obtain ⟨x0, x1, x2, x3, x4, x5, x6, x7, x8, x9, x10, x11, x12, x13, x14⟩ := cells15b hX2
      have HMAL : Hid (MalAt ((w2.alloc (.cells #[.slice pl th.label.length cl, .slice po th.own.length co, .string ⟨th.text.toArray⟩, .slice pj th.objs.length cj, .slice pm th.mails.length cm] 31)).alloc (.cells #[.int .i64 0, .int .i64 0, .string ⟨#[]⟩] 40)) (.agg #[.int .i64 x.mail.host, .int .i64 x.mail.thread, .slice px x.mail.label.length cx, .slice pn x.mail.grants.length cn, .string ⟨x.mail.text.toArray⟩]) x.mail) := hid ⟨_, _, rfl, HX.out.mlab.below HR4.out.al.below, HX.out.mgra.below HR4.out.al.below⟩
      have HCAL : Hid (CalAt ((w2.alloc (.cells #[.slice pl th.label.length cl, .slice po th.own.length co, .string ⟨th.text.toArray⟩, .slice pj th.objs.length cj, .slice pm th.mails.length cm] 31)).alloc (.cells #[.int .i64 0, .int .i64 0, .string ⟨#[]⟩] 40)) (.agg #[.int .i64 x.call.kind, .int .i64 x.call.h, .int .i64 x.call.t, .int .i64 x.call.n, .int .i64 x.call.c, .slice pe x.call.label.length ce, .slice pf x.call.grants.length cf, .string ⟨x.call.text.toArray⟩]) x.call) := hid ⟨_, _, rfl, HX.out.lab.below HR4.out.al.below, HX.out.gra.below HR4.out.al.below⟩
      clear hX2 hnew hw2 hb1 HB1 HB2 HBS hfin
      cases hcm : x.come with
      | true =>
        have e1 : stepL K u x = (deliverL K u x.mail, code 0) := by unfold stepL; rw [hcm]; rfl
        rw [hcm] at x1
        have hdel := Deliver_any ka u _ _ _ x.mail _ _ HR4.out.al.ker HR4.out.al.good HMAL.out
        have HDEL := hid hdel
        have HGD := hid (deliverL_good HR4.out.al.good u x.mail)
        rw [e1, hcm] at HLOOK
        rw [hcm] at HR4
        clear hdel HMAL HCAL
        go_wp2_with fail
        refine HDEL.out.mono ?_
        rintro e w5 ⟨rfl, G, V', hk5, hs5⟩
        have HR5 := hid (HR4.out.step hxF hwF hBF hs5 hk5 HGD.out)
        clear hk5 hs5 HDEL x0 x1 x2 x3 x4 x5 x6 x7 x8 x9 x10 x11 x12 x13 x14 HR4
        obtain ⟨x0, x1, x2, x3, x4, x5, x6, x7, x8, x9, x10, x11, x12, x13, x14⟩ := cells15b HR5.out.xb
        obtain ⟨⟨c0, c1, c2, c3, c4⟩, _⟩ := cells5 HR5.out.wb
        obtain ⟨r0, r1, r2, _⟩ := cells3 HR5.out.rb
        have hlk := HLOOK.out w5 G V' _ HR5.out
        have HLK := hid hlk
        clear hlk HLOOK
        go_wp2_with fail
        refine HLK.out.mono ?_
        rintro e w6 ⟨rfl, hw6⟩
        have HA6 := hid (HR5.out.al.more hw6)
        clear hw6 HR5 HLK x0 x1 x2 x3 x4 x5 x6 x7 x8 x9 x10 x11 x12 x13 x14 c0 c1 c2 c3 c4 r0 r1 r2
        go_wp2
        go_roundw
        case rel => exact ⟨k + 1, G, V', _, hlt, by omega, by go_num, HA6.out⟩
        case measure => simp [intOf]; omega
      | false =>
        have e1 : stepL K u x = callL K u x.call := by unfold stepL; rw [hcm]; rfl
        rw [hcm] at x1
        have hcal := Call_any ka u _ _ _ x.call _ _ HR4.out.al.ker HR4.out.al.good HCAL.out
        have HGD := hid (callL_good HR4.out.al.good u x.call)
        rw [e1, hcm] at HLOOK
        rw [hcm] at HR4
        clear HMAL HCAL e1
        generalize callL K u x.call = r at *
        simp only [repV] at hcal
        have HCALL := hid hcal
        clear hcal
        go_wp2_with fail
        refine HCALL.out.mono ?_
        rintro e w5 ⟨rfl, G, V', hk5, hs5⟩
        have HR5 := hid (HR4.out.step hxF hwF hBF hs5 hk5 HGD.out)
        clear hk5 hs5 HCALL x0 x1 x2 x3 x4 x5 x6 x7 x8 x9 x10 x11 x12 x13 x14 HR4
        obtain ⟨_, _, _, f0, f1, f2⟩ := cells3 HR5.out.rb
        have HR6 := hid (HR5.out.reply (by omega) (by omega) (.int .i64 r.2.code) (.int .i64 r.2.n) (.string ⟨r.2.text.toArray⟩))
        obtain ⟨x0, x1, x2, x3, x4, x5, x6, x7, x8, x9, x10, x11, x12, x13, x14⟩ := cells15b HR5.out.xb
        obtain ⟨⟨c0, c1, c2, c3, c4⟩, _⟩ := cells5 HR5.out.wb
        have hlk := HLOOK.out _ G V' _ HR6.out
        have HLK := hid hlk
        clear hlk HLOOK HR5
        go_wp2_with fail
        refine HLK.out.mono ?_
        rintro e w6 ⟨rfl, hw6⟩
        have HA6 := hid (HR6.out.al.more hw6)
        clear hw6 HR6 HLK x0 x1 x2 x3 x4 x5 x6 x7 x8 x9 x10 x11 x12 x13 x14 c0 c1 c2 c3 c4 f0 f1 f2
        go_wp2
        go_roundw
        case rel => exact ⟨k + 1, G, V', _, hlt, by omega, by go_num, HA6.out⟩
        case measure => simp [intOf]; omega
    · by_cases hl1 : k < l.length
      all_goals
        go_wp2
        go_ret
        exact ⟨rfl, HBS.out.below⟩
end Go.Proofs.Ytichphepfmafjac
