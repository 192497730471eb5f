/- wire.takeMail takes mail from what stands in front. -/
import Derived.Test.YtpdijobakfpnbaaGreatJWTaker
import Derived.Deep.RegionLaw
import Derived.BigCall
import Derived.Laws.Rows
namespace Go.Proofs.YtpdijobakfpnbaaGreat
open Go.RowKit Go.Proofs.Parclose
theorem QfM (args : Array Value) (w : World) : (callFunc 179 args).run Tryz.prog w = .ok (.enter 179 args) w := by kernel_rfl
theorem QbN {w : World} {ops : Array Oper} {o : Oper} {a0 : Act} {K : Act → World → Prop} {Q : Exit → Act → World → Prop} {E : Prop} (hgd : o.guard = none) (x y : Operand) (ats : Array TypeId)
 (ho : o.op = .call { callee := .value (.func 179), args := #[x, y], argTypes := ats }) (a : Nat) (t : Tk) (hx : a0.eval x = .pointer (some ⟨a, 0, none⟩)) (hy : a0.eval y = .int .i64 1) (ht : TkAt w a t)
 (h : ∀ w', TkAt w' a (numT 1 t).2 → w.grownBy w' (some a) → K (a0.put o.dst (.int .i64 (numT 1 t).1)) w') :
 if Region.wanted o (yielded ops a0.tmps) = true then Oper.wp Tryz.prog o a0 w K Q else E := by
 have hw : Region.wanted o (yielded ops a0.tmps) = true := by simp [Region.wanted, hgd]
 rw [if_pos hw]
 unfold Oper.wp
 obtain ⟨dst, op, ty, pos, after, guard⟩ := o
 simp only at ho
 subst ho
 rw [execOp_call_go]
 have e : (#[] ++ #[x, y].map a0.eval ++ #[] : Array Value) = #[.pointer (some ⟨a, 0, none⟩), .int .i64 1] := by simp [hx, hy]
 rw [e, QfM, Oper.upon_enter]
 refine (number1 a t w ht).mono ?_
 rintro e w' ⟨rfl, h1, h2⟩
 exact h w' h1 h2
theorem QhE {w : World} {ops : Array Oper} {o : Oper} {a0 : Act} {K : Act → World → Prop} {Q : Exit → Act → World → Prop} {E : Prop} (hgd : o.guard = none) (s x : Operand)
 (ho : o.op = .call { callee := .builtin .append, args := #[s, x], argTypes := #[34, 34] }) (base : Nat) (v : Value) (n : Nat) (xs : List Value) (hs : a0.eval s = v) (hown : w.ownsRow base 54 2 v n xs)
 (g : Nat) (x1 x2 : Int) (hx : a0.eval x = .slice (some ⟨g, 0, none⟩) 1 1) (hc : ∀ j u, [Value.int .i64 x1, .int .i64 x2][j]? = some u → w.cell? ((⟨g, 0, none⟩ : Addr).add j) = some u) (hn : n ≤ 1000) (hbase : base ≤ w.heap.size)
 (h : ∀ v' w', w'.ownsRow base 54 2 v' (n + 1) (xs ++ [.int .i64 x1, .int .i64 x2]) → w.grownBy w' v.ownBlock → K (a0.put o.dst v') w') :
 if Region.wanted o (yielded ops a0.tmps) = true then Oper.wp Tryz.prog o a0 w K Q else E := by
 have hw : Region.wanted o (yielded ops a0.tmps) = true := by simp [Region.wanted, hgd]
 rw [if_pos hw]
 obtain ⟨i0, hi, hz0, hz1, hz2⟩ := info_parts QbB
 exact wp_append_own w s x 34 ho base 54 i0 _ 2 16 Tryz.underlying34 hi hz0 hz1 hz2 rfl (by decide) v n xs hs hown ⟨g, 0, none⟩ 1 1 [.int .i64 x1, .int .i64 x2] hx rfl hc (Qfj [(x1, x2)]) (by unfold maxLen; omega) (by omega) hbase
  (fun v' w' h1 h2 _ => h v' w' h1 h2)
theorem Qk6 {w : World} {ops : Array Oper} {o : Oper} {a0 : Act} {K : Act → World → Prop} {Q : Exit → Act → World → Prop} {E : Prop} (hgd : o.guard = none) (s x : Operand)
 (ho : o.op = .call { callee := .builtin .append, args := #[s, x], argTypes := #[35, 35] }) (base : Nat) (v : Value) (n : Nat) (xs : List Value) (hs : a0.eval s = v) (hown : w.ownsRow base 3 1 v n xs)
 (g : Nat) (x1 : Int) (hx : a0.eval x = .slice (some ⟨g, 0, none⟩) 1 1) (hc : ∀ j u, [Value.int .i64 x1][j]? = some u → w.cell? ((⟨g, 0, none⟩ : Addr).add j) = some u) (hn : n ≤ 1000) (hbase : base ≤ w.heap.size)
 (h : ∀ v' w', w'.ownsRow base 3 1 v' (n + 1) (xs ++ [.int .i64 x1]) → w.grownBy w' v.ownBlock → K (a0.put o.dst v') w') :
 if Region.wanted o (yielded ops a0.tmps) = true then Oper.wp Tryz.prog o a0 w K Q else E := by
 have hw : Region.wanted o (yielded ops a0.tmps) = true := by simp [Region.wanted, hgd]
 rw [if_pos hw]
 obtain ⟨i0, hi, hz0, hz1, hz2⟩ := info_parts QbL
 exact wp_append_own w s x 35 ho base 3 i0 _ 1 8 Tryz.underlying35 hi hz0 hz1 hz2 rfl (by decide) v n xs hs hown ⟨g, 0, none⟩ 1 1 [.int .i64 x1] hx rfl hc (QaW [x1]) (by unfold maxLen; omega) (by omega) hbase
  (fun v' w' h1 h2 _ => h v' w' h1 h2)
theorem Qgy (k : Nat) (t : Tk) : (iterN levStep k ([], t)).1.length = k := by
 induction k with
 | zero => rfl
 | succ k ih =>
  show ((iterN levStep k ([], t)).1 ++ [_]).length = k + 1
  simp [ih]
theorem Qie (k : Nat) (t : Tk) : (iterN grStep k ([], t)).1.length = k := by
 induction k with
 | zero => rfl
 | succ k ih =>
  show ((iterN grStep k ([], t)).1 ++ [_]).length = k + 1
  simp [ih]
theorem Qit (l : List (Int × Int)) (x y : Int) : flat2 (l ++ [(x, y)]) = flat2 l ++ [.int .i64 x, .int .i64 y] := by simp [flat2]
theorem Qiu (l : List Int) (x : Int) : flat1 (l ++ [x]) = flat1 l ++ [.int .i64 x] := by simp [flat1]
def MbAt (w : World) (b : Nat) (fr th : Int) (vl vg : Value) (tx : List UInt8) : Prop := w.heap[b]? = some (.cells #[.int .i64 fr, .int .i64 th, vl, vg, .string ⟨tx.toArray⟩] 50 (0, 0))
set_option maxRecDepth 100000 in
set_option maxHeartbeats 3200000 in
theorem Qfw (a : Nat) (fr : Int) (t : Tk) (w : World) (h : TkAt w a t) (ha : a < w.heap.size) : Calls Tryz.prog 180 #[.pointer (some ⟨a, 0, none⟩), .int .i64 fr] w fun e w' => ∃ v', e = .returned v' ∧ (∀ w'', Since w.heap.size w' w'' → MalAt w'' v' (mailT fr t).1) ∧ TkAt w' a (mailT fr t).2 ∧ w.grownBy w' (some a) := by
 have HM : Hid (mailT fr t = (⟨fr, (numT 1 t).1, (labT (numT 1 t).2).1, (grT (labT (numT 1 t).2).2).1, (txT (grT (labT (numT 1 t).2).2).2).1⟩, (txT (grT (labT (numT 1 t).2).2).2).2)) := hid rfl
 go_enter Tryz.func180, Tryz.ntmps180
 go_wp2_with fail
 refine (number1 a t _ (h.keep (Qd _ _))).mono ?_
 rintro e w1 ⟨rfl, ht1, hg1⟩
 have hr1 := Qn (heap_alloc_new w _) (by omega) hg1
 have hgw1 := Qh (Q1 (Qd w _) (some a)) hg1
 have hs1 := hgw1.size
 have hlt1 := Qw hr1
 generalize (numT 1 t).1 = th at *
 generalize (numT 1 t).2 = t1 at *
 obtain ⟨N, hN, hN2⟩ := Qb8 t1
 have HL : Hid (labT t1 = iterN levStep N ([], (numT 1 t1).2)) := hid (by unfold labT; rw [hN]; rfl)
 clear h hg1
 go_wp2_with fail
 refine (number1 a t1 _ (ht1.keep (Qd _ _))).mono ?_
 rintro e w2 ⟨rfl, ht2, hg2⟩
 rw [hN]
 have hm2 := Qn (heap_alloc_new w1 _) (by omega) hg2
 have hr2 := Qn (Qz hr1 _) (by omega) hg2
 have hgw2 := Qh (Qh hgw1 (Q1 (Qd w1 _) (some a))) hg2
 generalize (numT 1 t1).2 = t2 at *
 clear hN ht1 hr1 hg2 hgw1
 go_wp2
 go_loopw [12] (fun i wr => ∃ (k : Nat) (vl : Value), k ≤ N ∧ i = .int .i64 k ∧ MbAt wr w1.heap.size fr th vl (.slice none 0 0) [] ∧ MbAt wr w.heap.size 0 0 (.slice none 0 0) (.slice none 0 0) [] ∧ wr.ownsRow w.heap.size 54 2 vl (iterN levStep k ([], t2)).1.length (flat2 (iterN levStep k ([], t2)).1) ∧ TkAt wr a (iterN levStep k ([], t2)).2 ∧ w.grownBy wr (some a)) (fun i _ => N - (intOf i).toNat)
 case atStart => exact ⟨0, _, Nat.zero_le _, rfl, hm2, hr2, World.ownsRow_nil _ _ _ _, ht2, hgw2⟩
 case round =>
  clear hm2 hr2 ht2 hgw2
  obtain ⟨k, vl, hk, rfl, hm, hr, hown, ht, hg⟩ := hrel
  have hlen := Qgy k t2
  by_cases hlt : k < N
  · have HS : Hid (iterN levStep (k + 1) ([], t2) = levStep (iterN levStep k ([], t2))) := hid rfl
    have HK : Hid ((iterN levStep k ([], t2)).1.length = k) := hlen
    clear hlen
    generalize iterN levStep k ([], t2) = s at *
    have hsl : s.1.length ≤ 255 := by have := HK.out; omega
    have hcm := Qa hm 2
    have hmlt := Qw hm
    go_wp2
    have hbl : w.heap.size ≤ wr.heap.size := hg.size
    have hdec : (50 : Nat) ≠ 54 := by decide
    go_region_law ((first
     | (refine QhE (by rfl) (.tmp 15) (.tmp 21) (by rfl) w.heap.size vl s.1.length (flat2 s.1) (by rfl) (hownB.alloc _) w4.heap.size (numT 1 s.2).1 (numT 1 (numT 1 s.2).2).1 (by rfl) (laid2 w4 _ _ _) (by omega) (by have := hggB.size; simp; omega) ?_; intro v5 w5 hown5 hgrow5; obtain ⟨p5, c5, rfl, _⟩ := Qad hown5; have Hm5 := Qa0 (Qz HmB _) (hownB.alloc _) hdec hgrow5; have hc5 := Qa Hm5 2; have hf5 := Qb Hm5 2; have Hr5 := Qa0 (Qz HrB _) (hownB.alloc _) hdec hgrow5; have ht5 := Qhq (htB.keep (Qd _ _)) (hownB.alloc _) ha (by have := hggB.size; simp; omega) hgrow5; have hg5 := Qdb (Qh hggB (Q1 (Qd _ _) _)) (hownB.alloc _) (Nat.le_refl _) hgrow5)
     | (refine QbN (by rfl) (.tmp 18) (.const (.int .i64 1)) #[187, 3] (by rfl) a (numT 1 s.2).2 (by rfl) (by rfl) htA ?_; intro w4 htB hgB; have HmB := Qn HmA (by omega) hgB; have hcmB := Qa HmB 2; have hmltB := Qw HmB; have HrB := Qn HrA (by omega) hgB; have hownB := QaA hownA ha hgB; have hggB := Qh hggA hgB; clear hgB)
     | (refine QbN (by rfl) (.tmp 16) (.const (.int .i64 1)) #[187, 3] (by rfl) a s.2 (by rfl) (by rfl) ht ?_; intro w3 htA hgA0; have hgA := QaF hgA0; have HmA := Qn hm (by omega) hgA; have hcmA := Qa HmA 2; have hmltA := Qw HmA; have HrA := Qn hr (by omega) hgA; have hownA := QaA hown ha hgA; have hggA := Qh hg hgA; clear hgA hgA0)))
    all_goals
     have HX : Hid (levStep s = (s.1 ++ [((numT 1 s.2).1, (numT 1 (numT 1 s.2).2).1)], (numT 1 (numT 1 s.2).2).2)) := hid rfl
     have fm : MbAt (w5.setCell ⟨w1.heap.size, 2, none⟩ (.slice p5 (s.1.length + 1) c5)) w1.heap.size fr th (.slice p5 (s.1.length + 1) c5) (.slice none 0 0) [] := heap_setCell Hm5 _
     have fr0 : MbAt (w5.setCell ⟨w1.heap.size, 2, none⟩ (.slice p5 (s.1.length + 1) c5)) w.heap.size 0 0 (.slice none 0 0) (.slice none 0 0) [] := Qr Hr5 (by omega) _ _
     have fo := QA hown5 Hm5 hdec 2 (.slice p5 (s.1.length + 1) c5)
     have ft : TkAt (w5.setCell ⟨w1.heap.size, 2, none⟩ (.slice p5 (s.1.length + 1) c5)) a (numT 1 (numT 1 s.2).2).2 := Qr ht5 (by omega) _ _
     have fg := Qbc hg5 hs1 2 (.slice p5 (s.1.length + 1) c5)
     clear hc5 hf5 Hm5 Hr5 ht5 hg5 hown5 hgrow5 htB HmB hcmB HrB hownB hggB htA HmA hcmA HrA hownA hggA hcm hm hr hown ht hg
     go_wp2
     go_roundw
     case rel =>
      refine ⟨k + 1, _, hlt, by go_num, fm, fr0, ?_, ?_, fg⟩
      · rw [HS.out, HX.out, Qit]; simpa using fo
      · rw [HS.out, HX.out]; exact ft
     case measure => simp [intOf]; omega
  · have hkl : k = N := by omega
    subst hkl
    have hown' : wr.ownsRow w.heap.size 54 2 vl (labT t1).1.length (flat2 (labT t1).1) := by rw [HL.out]; exact hown
    have ht' : TkAt wr a (labT t1).2 := by rw [HL.out]; exact ht
    have hl255 : (labT t1).1.length ≤ 255 := by rw [HL.out, hlen]; omega
    clear hown ht hlen HL
    generalize labT t1 = L at *
    obtain ⟨M, hM, hM2⟩ := Qb8 L.2
    have HG : Hid (grT L.2 = iterN grStep M ([], (numT 1 L.2).2)) := hid (by unfold grT; rw [hM]; rfl)
    go_wp2_with fail
    refine (number1 a L.2 _ ht').mono ?_
    rintro e w6 ⟨rfl, ht6, hg6⟩
    rw [hM]
    have hm6 := Qn hm (by omega) hg6
    have hr6 := Qn hr (by omega) hg6
    have hown6 := QaA hown' ha hg6
    have hgw6 := Qh hg hg6
    generalize (numT 1 L.2).2 = t6 at *
    clear hM hm hr hown' ht' hg hg6
    go_wp2
    go_loopw [27] (fun i wr => ∃ (k : Nat) (vg : Value), k ≤ M ∧ i = .int .i64 k ∧ MbAt wr w1.heap.size fr th vl vg [] ∧ MbAt wr w.heap.size 0 0 (.slice none 0 0) (.slice none 0 0) [] ∧ wr.ownsRow w.heap.size 54 2 vl L.1.length (flat2 L.1) ∧ wr.ownsRow w.heap.size 3 1 vg (iterN grStep k ([], t6)).1.length (flat1 (iterN grStep k ([], t6)).1) ∧ TkAt wr a (iterN grStep k ([], t6)).2 ∧ w.grownBy wr (some a)) (fun i _ => M - (intOf i).toNat)
    case atStart => exact ⟨0, _, Nat.zero_le _, rfl, hm6, hr6, hown6, World.ownsRow_nil _ _ _ _, ht6, hgw6⟩
    case round =>
     clear hm6 hr6 hown6 ht6 hgw6 hk hlt
     obtain ⟨k, vg, hk, rfl, hm, hr, hownL, hown, ht, hg⟩ := hrel
     have hlen := Qie k t6
     by_cases hlt : k < M
     · have HS : Hid (iterN grStep (k + 1) ([], t6) = grStep (iterN grStep k ([], t6))) := hid rfl
       have HK : Hid ((iterN grStep k ([], t6)).1.length = k) := hlen
       clear hlen
       generalize iterN grStep k ([], t6) = s at *
       have hsl : s.1.length ≤ 255 := by have := HK.out; omega
       have hcm := Qa hm 3
       have hmlt := Qw hm
       have hbl : w.heap.size ≤ wr.heap.size := hg.size
       have hdec : (50 : Nat) ≠ 3 := by decide
       have hdec2 : (54 : Nat) ≠ 3 := by decide
       have hdec3 : (50 : Nat) ≠ 54 := by decide
       go_wp2
       go_region_law ((first
        | (refine Qk6 (by rfl) (.tmp 30) (.tmp 33) (by rfl) w.heap.size vg s.1.length (flat1 s.1) (by rfl) (hownA.alloc _) w3.heap.size (numT 1 s.2).1 (by rfl) (laid1 w3 _ _) (by omega) (by have := hggA.size; simp; omega) ?_; intro v5 w5 hown5 hgrow5; obtain ⟨p5, c5, rfl, _⟩ := Qad hown5; have Hm5 := Qa0 (Qz HmA _) (hownA.alloc _) hdec hgrow5; have hc5 := Qa Hm5 3; have hf5 := Qb Hm5 3; have Hr5 := Qa0 (Qz HrA _) (hownA.alloc _) hdec hgrow5; have hL5 := Qbw (hLA.alloc _) (hownA.alloc _) hdec2 hgrow5; have ht5 := Qhq (htA.keep (Qd _ _)) (hownA.alloc _) ha (by have := hggA.size; simp; omega) hgrow5; have hg5 := Qdb (Qh hggA (Q1 (Qd _ _) _)) (hownA.alloc _) (Nat.le_refl _) hgrow5)
        | (refine QbN (by rfl) (.tmp 31) (.const (.int .i64 1)) #[187, 3] (by rfl) a s.2 (by rfl) (by rfl) ht ?_; intro w3 htA hgA0; have hgA := QaF hgA0; have HmA := Qn hm (by omega) hgA; have hcmA := Qa HmA 3; have hmltA := Qw HmA; have HrA := Qn hr (by omega) hgA; have hownA := QaA hown ha hgA; have hLA := QaA hownL ha hgA; have hggA := Qh hg hgA; clear hgA hgA0)))
       all_goals
        have HX : Hid (grStep s = (s.1 ++ [(numT 1 s.2).1], (numT 1 s.2).2)) := hid rfl
        have fm : MbAt (w5.setCell ⟨w1.heap.size, 3, none⟩ (.slice p5 (s.1.length + 1) c5)) w1.heap.size fr th vl (.slice p5 (s.1.length + 1) c5) [] := heap_setCell Hm5 _
        have fr0 : MbAt (w5.setCell ⟨w1.heap.size, 3, none⟩ (.slice p5 (s.1.length + 1) c5)) w.heap.size 0 0 (.slice none 0 0) (.slice none 0 0) [] := Qr Hr5 (by omega) _ _
        have fo := QA hown5 Hm5 hdec 3 (.slice p5 (s.1.length + 1) c5)
        have fl := QA hL5 Hm5 hdec3 3 (.slice p5 (s.1.length + 1) c5)
        have ft : TkAt (w5.setCell ⟨w1.heap.size, 3, none⟩ (.slice p5 (s.1.length + 1) c5)) a (numT 1 s.2).2 := Qr ht5 (by omega) _ _
        have fg := Qbc hg5 hs1 3 (.slice p5 (s.1.length + 1) c5)
        clear hc5 hf5 Hm5 Hr5 ht5 hg5 hown5 hgrow5 hL5 htA HmA hcmA HrA hownA hLA hggA hcm hm hr hown hownL ht hg
        go_wp2
        go_roundw
        case rel =>
         refine ⟨k + 1, _, hlt, by go_num, fm, fr0, fl, ?_, ?_, fg⟩
         · rw [HS.out, HX.out, Qiu]; simpa using fo
         · rw [HS.out, HX.out]; exact ft
        case measure => simp [intOf]; omega
     · have hkl : k = M := by omega
       subst hkl
       have hownG : wr.ownsRow w.heap.size 3 1 vg (grT L.2).1.length (flat1 (grT L.2).1) := by rw [HG.out]; exact hown
       have htG : TkAt wr a (grT L.2).2 := by rw [HG.out]; exact ht
       have hg255 : (grT L.2).1.length ≤ 255 := by rw [HG.out, hlen]; omega
       clear hown ht hlen HG
       generalize grT L.2 = G at *
       obtain ⟨P, hP, hP2⟩ := Qb8 G.2
       have HT : Hid (txT G.2 = textT P (numT 1 G.2).2) := hid (by unfold txT; rw [hP]; rfl)
       go_wp2_with fail
       refine (number1 a G.2 _ htG).mono ?_
       rintro e w7 ⟨rfl, ht7, hg7⟩
       rw [hP]
       have hm7 := Qn hm (by omega) hg7
       have hr7 := Qn hr (by omega) hg7
       have hL7 := QaA hownL ha hg7
       have hG7 := QaA hownG ha hg7
       have hgw7 := Qh hg hg7
       clear hP hm hr hownL hownG htG hg hg7
       go_wp2_with fail
       refine (Qf0 a P _ _ ht7).mono ?_
       rintro e w8 ⟨rfl, ht8, hg8⟩
       have hm8 := Qn hm7 (by omega) hg8
       have hr8 := Qn hr7 (by omega) hg8
       have hL8 := QaA hL7 ha hg8
       have hG8 := QaA hG7 ha hg8
       have hgw8 := Qh hgw7 hg8
       clear ht7 hm7 hr7 hL7 hG7 hgw7 hg8
       have HT1 : Hid ((txT G.2).1 = (textT P (numT 1 G.2).2).1 ∧ (txT G.2).2 = (textT P (numT 1 G.2).2).2) := hid ⟨by rw [HT.out], by rw [HT.out]⟩
       generalize (textT P (numT 1 G.2).2).1 = tx at *
       generalize (textT P (numT 1 G.2).2).2 = t8 at *
       obtain ⟨pl, cl, rfl, _⟩ := Qad hL8
       obtain ⟨pg, cg, rfl, _⟩ := Qad hG8
       have c0 := Qa hm8 0
       have c1 := Qa hm8 1
       have c2 := Qa hm8 2
       have c3 := Qa hm8 3
       have c4 := Qa hm8 4
       have f4 := Qb hm8 4
       have d0 := Qa hr8 0
       have d1 := Qa hr8 1
       have d2 := Qa hr8 2
       have d3 := Qa hr8 3
       have d4 := Qa hr8 4
       have e0 := Qb hr8 0
       have e1 := Qb hr8 1
       have e2 := Qb hr8 2
       have e3 := Qb hr8 3
       have e4 := Qb hr8 4
       have hne : w.heap.size ≠ w1.heap.size := by omega
       have hne2 : w1.heap.size ≠ w.heap.size := by omega
       go_wp2
       have A0 := Qr hr8 hne 4 (.string ⟨tx.toArray⟩)
       have hL9 := QA hL8 hm8 (by decide) 4 (.string ⟨tx.toArray⟩)
       have hG9 := QA hG8 hm8 (by decide) 4 (.string ⟨tx.toArray⟩)
       have ht9 := Qr ht8 (show a ≠ w1.heap.size by omega) 4 (.string ⟨tx.toArray⟩)
       have hg9 := Qbc hgw8 hs1 4 (.string ⟨tx.toArray⟩)
       clear c0 c1 c2 c3 c4 f4 d0 d1 d2 d3 d4 e0 e1 e2 e3 e4 hm8 hr8 hL8 hG8 ht8 hgw8
       generalize w8.setCell ⟨w1.heap.size, 4, none⟩ (.string ⟨tx.toArray⟩) = w9 at *
       have hS := Qh (Qh (Qh (Qh (Qg w9 w.heap.size 0 (.int .i64 fr)) (Qg _ w.heap.size 1 (.int .i64 th))) (Qg _ w.heap.size 2 (.slice pl L.1.length cl))) (Qg _ w.heap.size 3 (.slice pg G.1.length cg))) (Qg _ w.heap.size 4 (.string ⟨tx.toArray⟩))
       have hW := heap_setCell (j := 4) (heap_setCell (j := 3) (heap_setCell (j := 2) (heap_setCell (j := 1) (heap_setCell (j := 0) A0 (.int .i64 fr)) (.int .i64 th)) (.slice pl L.1.length cl)) (.slice pg G.1.length cg)) (.string ⟨tx.toArray⟩)
       have hL10 := Qav hL9 A0 (by decide) hS
       have hG10 := Qav hG9 A0 (by decide) hS
       have ht10 := Qn ht9 (show a ≠ w.heap.size by omega) hS
       have hg10 := Qaw hg9 (Nat.le_refl _) hS
       refine bodyPost_ret (results_cell_row rfl _ _ w.heap.size 50 _ (0, 0) _ rfl hW Tryz.underlying50 rfl (by kernel_rfl)) rfl ⟨_, rfl, ?_, ?_, hg10⟩
       · intro w'' hs
         rw [HM.out]
         have hL10 := Q3 hL10 hs
         have hG10 := Q3 hG10 hs
         exact ⟨.slice pl L.1.length cl, .slice pg G.1.length cg, by rw [HT1.out.1]; rfl, QR hL10 (Nat.le_trans hl255 (by decide)), QV hG10 (Nat.le_trans hg255 (by decide))⟩
       · rw [HM.out, HT1.out.2]
         exact ht10
end Go.Proofs.YtpdijobakfpnbaaGreat
