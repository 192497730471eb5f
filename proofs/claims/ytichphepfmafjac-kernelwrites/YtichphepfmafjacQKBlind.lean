/- The statement KernelBlind: who writes is told the same, whatever others have done. -/
import Derived.Test.YtichphepfmafjacQKCallAll
import Derived.Test.YtichphepfmafjacQKCalls
import Derived.Test.YtichphepfmafjacQKSteps
import Derived.Test.YtichphepfmafjacQPick
namespace Go.Proofs.Ytichphepfmafjac
open Go.RowKit Go.Proofs.Parclose

theorem fresh_keep {w ws : World} {kb : Nat} {q : Int} {F : List Nat} (h : KerAt w kb [kb] [nilV, nilV, nilV, nilV] (freshKer q)) (hk : KeptF F w ws) (hn : kb ∉ F) : KerAt ws kb [kb] [nilV, nilV, nilV, nilV] (freshKer q) := by
  obtain ⟨C, hC, c0, c1, hc⟩ := h.box
  refine ⟨rfl, rfl, ⟨C, hk.heap hC hn, c0, c1, hc⟩, fun t h1 h2 => ?_, h.rows, h.apart, h.kbF, fun k hk' => Nat.lt_of_lt_of_le (h.fin k hk') hk.size⟩
  match t, h1, h2 with
  | 0, _, _ => exact nil_thr _ _
  | 1, _, _ => exact nil_thr _ _
  | 2, _, _ => exact nil_thr _ _
  | 3, _, _ => exact nil_thr _ _

theorem new_ex (host : Int) (w : World) (h : 0 ≤ host ∧ host < 4) : Calls Try.prog 15 #[.int .i64 host] w fun e w' => ∃ ka, e = .returned (.tuple #[.pointer (some ⟨ka, 0, none⟩), .int .i64 0]) ∧ ka = w.heap.size ∧ KerAt w' ka [ka] [nilV, nilV, nilV, nilV] (freshKer host) ∧ Below w.heap.size w w' :=
  (new_in host w h).mono fun _ _ ⟨h1, h2, h3⟩ => ⟨_, h1, rfl, h2, h3⟩

/-- one kernel that is called, another one beside it, and a call that waits in a box -/
structure Beside (w : World) (B kb2 : Nat) (q : Int) (Cb : Array Value) (wr : World) (ka : Nat) (F : List Nat) (V : List ThrV) (K : Ker) : Prop where
  ker : KerAt wr ka F V K
  good : GoodK K
  other : KerAt wr kb2 [kb2] [nilV, nilV, nilV, nilV] (freshKer q)
  box : wr.heap[B]? = some (.cells Cb 33 (0, 0))
  below : Below w.heap.size w wr
  far : ∀ k ∈ F, w.heap.size ≤ k ∧ k ≠ kb2 ∧ k ≠ B
  two : w.heap.size ≤ kb2 ∧ kb2 ≠ B

theorem Beside.more {w : World} {B kb2 : Nat} {q : Int} {Cb : Array Value} {wr ws : World} {ka : Nat} {F : List Nat} {V : List ThrV} {K : Ker} (h : Beside w B kb2 q Cb wr ka F V K) (hb : Below wr.heap.size wr ws) : Beside w B kb2 q Cb ws ka F V K :=
  ⟨h.ker.below hb, h.good, h.other.below hb, heap_keep h.box hb, below_then h.below hb, h.far, h.two⟩

theorem Beside.step {w : World} {B kb2 : Nat} {q : Int} {Cb : Array Value} {wr ws : World} {ka : Nat} {F G : List Nat} {V V' : List ThrV} {K K' : Ker} (h : Beside w B kb2 q Cb wr ka F V K) (hs : KStep ka wr F V ws G V') (hk : KerAt ws ka G V' K') (hg : GoodK K') : Beside w B kb2 q Cb ws ka G V' K' := by
  have hF := hs.keptF h.ker
  have h1 := h.below.size
  refine ⟨hk, hg, fresh_keep h.other hF (fun e => (h.far _ e).2.1 rfl), hF.heap h.box (fun e => (h.far _ e).2.2 rfl), ?_, fun k hk' => ?_, h.two⟩
  · exact h.below.trans ⟨hF.os, hF.tape, hF.output, hF.size, fun k hk' => hF.block k (by omega) (fun e => by have := (h.far _ e).1; omega)⟩
  · rcases hs.more.2 k hk' with g | g
    · exact h.far k g
    · have hb2 := h.other.fin kb2 (by simp)
      have hbx := heap_lt h.box
      exact ⟨by omega, by omega, by omega⟩

theorem cells8b {w : World} {b : Nat} {t : TypeId} {y0 y1 y2 y3 y4 y5 y6 y7 : Value} (h : w.heap[b]? = some (.cells #[y0, y1, y2, y3, y4, y5, y6, y7] t (0, 0))) : w.cell? ⟨b, 0, none⟩ = some y0 ∧ w.cell? ⟨b, 1, none⟩ = some y1 ∧ w.cell? ⟨b, 2, none⟩ = some y2 ∧ w.cell? ⟨b, 3, none⟩ = some y3 ∧ w.cell? ⟨b, 4, none⟩ = some y4 ∧ w.cell? ⟨b, 5, none⟩ = some y5 ∧ w.cell? ⟨b, 6, none⟩ = some y6 ∧ w.cell? ⟨b, 7, none⟩ = some y7 :=
  ⟨heap_cell h 0, heap_cell h 1, heap_cell h 2, heap_cell h 3, heap_cell h 4, heap_cell h 5, heap_cell h 6, heap_cell h 7⟩

/-- who writes is told the same of every kernel -/
theorem put_told {K : Ker} (hg : GoodK K) {n : Nat} (hn : n < 4) (c : Cal) (hk : c.kind = 3) : (callL K n c).2 = if 64 < c.text.length then code 9 else code 0 := by
  have h4 : n < K.ths.length := by rw [hg.four]; exact hn
  unfold callL
  rw [getT_nat h4]
  show (callT K n K.ths[n] c).2 = _
  unfold callT
  by_cases hx : 64 < c.text.length
  · rw [if_pos hx, if_pos hx]
  · rw [if_neg hx, if_neg hx, if_neg (by omega), if_neg (by omega), if_pos hk]

theorem eql_reply (e : Int) (w : World) : (binOp .eql 40 (.agg #[.int .i64 e, .int .i64 0, .string ⟨#[]⟩]) (.agg #[.int .i64 e, .int .i64 0, .string ⟨#[]⟩])).run Try.prog w = .ok (.bool true) w := by
  have u3 := Try.underlying3
  have u4 := Try.underlying9
  have u5 := Try.underlying38
  have hS : Try.prog.underlying 40 = some (.struct (Try.prog.fieldsOf 40)) := by kernel_rfl
  have hp : Try.prog.stoodInHeld 40 = false := by kernel_rfl
  rw [run_eql_struct, show (10000 : Nat) = 9999 + 1 from rfl, run_equalIn_agg w 9999 40 _ _ hS hp]
  simp only [Program.fieldsOf, Try.underlying40]
  go_simp

theorem guard_reply (op : BinOp) (a b : Operand) (x y : Array Value) (w : World) : (eqGuard op 40 a b (.agg x) (.agg y)).run Try.prog w = .ok () w :=
  run_eqGuard_agg w op 40 a b x y (by kernel_rfl)
theorem below_kept {w w5 w6 : World} {kb : Nat} (h : Below w.heap.size w w5) (hk : KeptF [kb] w5 w6) (hb : w.heap.size ≤ kb) : Below w.heap.size w w6 :=
  h.trans ⟨hk.os, hk.tape, hk.output, hk.size, fun k hk' => hk.block k (Nat.lt_of_lt_of_le hk' h.size) (by simp; omega)⟩

set_option maxRecDepth 100000 in
set_option maxHeartbeats 6400000 in
theorem kernelBlind_any (host t : Int) (vs vc : Value) (l : List Stp) (c : Cal) (w : World) (hl : StpsAt w vs l) (hc : CalAt w vc c) :
    Calls Try.prog 6 #[.int .i64 host, vs, .int .i64 t, vc] w fun e w' => e = .returned (.bool true) ∧ Below w.heap.size w w' := by
  obtain ⟨vl, vg, rfl, hlab, hgra⟩ := hc
  obtain ⟨pl, cl, rfl, _⟩ := id hlab
  obtain ⟨pg, cg, rfl, _⟩ := id hgra
  obtain ⟨ps, cps, rfl, hsc, hsl, hst⟩ := hl
  have HST := hid hst
  have HLAB := hid hlab
  have HGRA := hid hgra
  unfold calV
  clear hlab hgra hst
  go_enter Try.func6, Try.ntmps6
  go_wp2_with (first
    | (go_at_call 16; (have := HK1; clear this); refine (kpick_any _ _ _ (by omega) (by omega)).mono ?_; rintro e w' ⟨q2, rfl, hq2, hq⟩; have hqq := hq.symm; clear hq; subst hqq)
    | (go_at_call 16; (have := hp; clear this); refine (kpick_any _ _ _ (by omega) (by omega)).mono ?_; rintro e w' ⟨q1, rfl, hq1, hq⟩; have hqq := hq.symm; clear hq; subst hqq)
    | (go_at_call 16; refine (kpick_any _ _ _ (by omega) (by omega)).mono ?_; rintro e w' ⟨p, rfl, hp, hq⟩; have hqq := hq.symm; clear hq; subst hqq)
    | (go_at_call 15; (have := hq2; clear this); refine (new_ex _ _ ⟨by omega, hq2⟩).mono ?_; rintro e w2 ⟨kb2, rfl, hkb, hk2, hw2⟩; have HK2 := hid hk2; have HW2 := hid (below_then HW1.out hw2); have HKA2 := hid (HK1.out.below hw2); have HKB := hid hkb; clear hk2 hw2 hkb)
    | (go_at_call 15; refine (new_ex _ _ ⟨by omega, hq1⟩).mono ?_; rintro e w1 ⟨ka, rfl, hka, hk1, hw1⟩; have HK1 := hid hk1; have HW1 := hid hw1; have HKA := hid hka; clear hk1 hw1 hka)
    | (go_at_call 17; refine (kcalls_any _).mono ?_; rintro e w3 ⟨rfl, hw3⟩; have HW3 := hid (below_then HW2.out hw3); have HA3 := hid (HKA2.out.below hw3); have HB3 := hid (HK2.out.below hw3); have hbox := heap_keep (heap_alloc_new w _) HW3.out; have c0 := heap_cell hbox 0; have f0 := heap_frozen hbox 0; have HBX := hid hbox; clear hbox hw3))
  have hka1 := HKA.out
  rw [size_box] at hka1
  have hkb1 := HKB.out
  have hfin1 := HK1.out.fin ka (by simp)
  have hset := fun (F : List Nat) (hF : w.heap.size ∈ F) => kept_set w3 w.heap.size 0 (.int .i64 3) hF
  have HB0 : Hid (Beside w w.heap.size kb2 q2 #[.int .i64 3, .int .i64 c.h, .int .i64 c.t, .int .i64 c.n, .int .i64 c.c, .slice pl c.label.length cl, .slice pg c.grants.length cg, .string ⟨c.text.toArray⟩] (w3.setCell ⟨w.heap.size, 0, none⟩ (.int .i64 3)) ka [ka] [nilV, nilV, nilV, nilV] (freshKer q1)) := hid
    ⟨fresh_keep HA3.out (hset [w.heap.size] (by simp)) (by simp; omega), fresh_good ⟨by omega, hq1⟩, fresh_keep HB3.out (hset [w.heap.size] (by simp)) (by simp; omega),
      by rw [heap_setCell HBX.out]; rfl,
      (below_then (below_box w _) HW3.out).grown (grown_setCell w3 _ _ _) (below_then (below_box w _) HW3.out).size (fun k hk => by have := Option.some.inj hk; omega),
      fun k hk => by simp at hk; subst hk; exact ⟨by omega, by omega, by omega⟩, ⟨by omega, by omega⟩⟩
  clear hset hka1 hkb1 hfin1 HKA HKB HK1 HK2 HKA2 HW1 HW2 HW3 HA3 HB3 HBX c0 f0
  generalize w3.setCell ⟨w.heap.size, 0, none⟩ (.int .i64 3) = w4 at *
  go_loopw [13] (fun i wr => ∃ (k : Nat) (F : List Nat) (V : List ThrV) (K : Ker), k ≤ l.length ∧ k ≤ 60 ∧ i = .int .i64 k ∧ Beside w w.heap.size kb2 q2 #[.int .i64 3, .int .i64 c.h, .int .i64 c.t, .int .i64 c.n, .int .i64 c.c, .slice pl c.label.length cl, .slice pg c.grants.length cg, .string ⟨c.text.toArray⟩] wr ka F V K) (fun i _ => 60 - (intOf i).toNat)
  case atStart => exact ⟨0, _, _, _, Nat.zero_le _, Nat.zero_le _, rfl, HB0.out⟩
  case round =>
    clear HB0
    obtain ⟨k, F, V, K, hk, hk60, rfl, hbs⟩ := hrel
    have HBS := hid hbs
    by_cases hgo : k < l.length ∧ k < 60
    · obtain ⟨hlt, hlt60⟩ := hgo
      obtain ⟨b, o, rfl, hel⟩ := HST.out (by omega)
      obtain ⟨el, eg, ml, mg, hx⟩ := hel k hlt
      have hx2 := hx.below hbs.below
      have g0 := hx2.c0
      have g1 := hx2.c1
      have g2 := hx2.c2
      have g3 := hx2.c3
      have g4 := hx2.c4
      have g5 := hx2.c5
      have g6 := hx2.c6
      have g7 := hx2.c7
      have g8 := hx2.c8
      have g9 := hx2.c9
      have g10 := hx2.c10
      have g11 := hx2.c11
      have g12 := hx2.c12
      have g13 := hx2.c13
      have g14 := hx2.c14
      have HCAL : Hid (CalAt wr (.agg #[.int .i64 l[k].call.kind, .int .i64 l[k].call.h, .int .i64 l[k].call.t, .int .i64 l[k].call.n, .int .i64 l[k].call.c, el, eg, .string ⟨l[k].call.text.toArray⟩]) l[k].call) := hid ⟨el, eg, rfl, hx2.lab, hx2.gra⟩
      obtain ⟨pe, ce, rfl, _⟩ := id hx2.lab
      obtain ⟨pf, cf, rfl, _⟩ := id hx2.gra
      obtain ⟨pm, cm, rfl, _⟩ := id hx2.mlab
      obtain ⟨pn, cn, rfl, _⟩ := id hx2.mgra
      generalize l[k] = x at *
      clear hel hx hx2 hbs
      go_wp2_with fail
      refine (kpick_any _ _ _ (by omega) (by omega)).mono ?_
      rintro e w' ⟨u, rfl, hu, hq⟩
      have hqq := hq.symm
      clear hq
      subst hqq
      have HB1 := hid (HBS.out.more (below_box wr (.cells #[.int .i64 x.t, .bool x.come, .int .i64 x.call.kind, .int .i64 x.call.h, .int .i64 x.call.t, .int .i64 x.call.n, .int .i64 x.call.c, .slice pe x.call.label.length ce, .slice pf x.call.grants.length cf, .string ⟨x.call.text.toArray⟩, .int .i64 x.mail.host, .int .i64 x.mail.thread, .slice pm x.mail.label.length cm, .slice pn x.mail.grants.length cn, .string ⟨x.mail.text.toArray⟩] 37)))
      cases hup : ((u : Int) == (p : Int)) with
      | true =>
        go_wp2
        go_roundw
        case rel => exact ⟨k + 1, F, V, K, hlt, by omega, by go_num, HB1.out⟩
        case measure => simp [intOf]; omega
      | false =>
        cases hcm : x.come with
        | true =>
          rw [hcm] at HB1
          go_wp2
          go_roundw
          case rel => exact ⟨k + 1, F, V, K, hlt, by omega, by go_num, HB1.out⟩
          case measure => simp [intOf]; omega
        | false =>
          rw [hcm] at HB1
          have hcall := Call_any ka u F V K x.call _ _ HB1.out.ker HB1.out.good (HCAL.out.below (below_box wr _))
          have HG := hid (callL_good HB1.out.good u x.call)
          go_wp2_with (go_at_call 19; refine hcall.mono ?_; rintro e w5 ⟨rfl, G, V', hk5, hs5⟩; have HB5 := hid (HB1.out.step hs5 hk5 HG.out); clear hk5 hs5)
          go_roundw
          case rel => exact ⟨k + 1, G, V', _, hlt, by omega, by go_num, HB5.out⟩
          case measure => simp [intOf]; omega
    · have HCA : Hid (CalAt wr (.agg #[.int .i64 3, .int .i64 c.h, .int .i64 c.t, .int .i64 c.n, .int .i64 c.c, .slice pl c.label.length cl, .slice pg c.grants.length cg, .string ⟨c.text.toArray⟩]) { c with kind := 3 }) := hid ⟨_, _, rfl, HLAB.out.below hbs.below, HGRA.out.below hbs.below⟩
      obtain ⟨y0, y1, y2, y3, y4, y5, y6, y7⟩ := cells8b hbs.box
      have hc1 := fun wx (hb : Below wr.heap.size wr wx) => Call_any ka p F V K { c with kind := 3 } _ wx (hbs.ker.below hb) hbs.good (HCA.out.below hb)
      have hc2 := fun wx (h1 : KerAt wx kb2 [kb2] [nilV, nilV, nilV, nilV] (freshKer q2)) (h2 : CalAt wx (.agg #[.int .i64 3, .int .i64 c.h, .int .i64 c.t, .int .i64 c.n, .int .i64 c.c, .slice pl c.label.length cl, .slice pg c.grants.length cg, .string ⟨c.text.toArray⟩]) { c with kind := 3 }) => Call_any kb2 p _ _ _ { c with kind := 3 } _ wx h1 (fresh_good ⟨by omega, hq2⟩) h2
      have hp4 : p < 4 := by omega
      have hlast : ¬ ((k : Int) < (l.length : Int) ∧ (k : Int) < 60) := by omega
      simp only [put_told hbs.good hp4 { c with kind := 3 } rfl] at hc1
      simp only [put_told (fresh_good (h := (q2 : Int)) ⟨by omega, hq2⟩) hp4 { c with kind := 3 } rfl] at hc2
      obtain ⟨e0, he0⟩ : ∃ e0 : Int, (if 64 < c.text.length then code 9 else code 0) = code e0 := by
        split
        · exact ⟨9, rfl⟩
        · exact ⟨0, rfl⟩
      have e2 : repV (code e0) = .agg #[.int .i64 e0, .int .i64 0, .string ⟨#[]⟩] := rfl
      simp only [he0, e2] at hc1 hc2
      have HC1 := hid hc1
      have HC2 := hid hc2
      have heq := fun wx => eql_reply e0 wx
      have hgd := guard_reply
      have HGK := hid (callL_good hbs.good p { c with kind := 3 })
      have HBD := hid (hbs.more (Below.refl _ _).drew)
      clear hc1 hc2 hbs he0 e2 hlast
      by_cases hl1 : k < l.length
      all_goals
        go_wp2
        go_region_held3 (fun w' => w'.cell? ⟨w.heap.size, 0, none⟩ = some (.int .i64 3) ∧ w'.cell? ⟨w.heap.size, 1, none⟩ = some (.int .i64 c.h) ∧ w'.cell? ⟨w.heap.size, 2, none⟩ = some (.int .i64 c.t) ∧ w'.cell? ⟨w.heap.size, 3, none⟩ = some (.int .i64 c.n) ∧ w'.cell? ⟨w.heap.size, 4, none⟩ = some (.int .i64 c.c) ∧ w'.cell? ⟨w.heap.size, 5, none⟩ = some (.slice pl c.label.length cl) ∧ w'.cell? ⟨w.heap.size, 6, none⟩ = some (.slice pg c.grants.length cg) ∧ w'.cell? ⟨w.heap.size, 7, none⟩ = some (.string ⟨c.text.toArray⟩)) (go_keep)
          (first
            | (go_at_call_of 19 (Value.pointer (some ⟨kb2, 0, none⟩)); refine (HC2.out _ HB5.out.other ⟨_, _, rfl, HLAB.out.below HB5.out.below, HGRA.out.below HB5.out.below⟩).mono ?_; rintro e w6 ⟨rfl, G6, V6, hk6, hs6⟩; have hF6 := hs6.keptF HB5.out.other; obtain ⟨z0, z1, z2, z3, z4, z5, z6, z7⟩ := cells8b (hF6.heap HB5.out.box (by simp; exact fun h => HB5.out.two.2 h.symm)); have HB6 := hid (below_kept HB5.out.below hF6 HB5.out.two.1); clear hk6 hs6 hF6)
            | (go_at_call_of 19 (Value.pointer (some ⟨ka, 0, none⟩)); refine (HC1.out _ (Below.refl _ _).drew).mono ?_; rintro e w5 ⟨rfl, G, V', hk5, hs5⟩; have HB5 := hid (HBD.out.step hs5 hk5 HGK.out); obtain ⟨x0, x1, x2, x3, x4, x5, x6, x7⟩ := cells8b HB5.out.box; clear hk5 hs5))
        all_goals
          go_wp2
          go_ret
          exact ⟨rfl, HB6.out⟩
end Go.Proofs.Ytichphepfmafjac
