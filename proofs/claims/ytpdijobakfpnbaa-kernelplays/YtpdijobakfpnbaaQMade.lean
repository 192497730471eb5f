/- parcloseref.made answers a label out of levels by category, whatever the order in which the map gives them. -/
import Derived.Test.YtpdijobakfpnbaaQRefNames
import Derived.Test.YtpdijobakfpnbaaQFromB
import Derived.Test.YtpdijobakfpnbaaQPlain
import Derived.Maps.Ext
import Derived.Deep.RegionLaw
import Derived.Deep.RegionLawGrows
namespace Go.Proofs.Ytpdijobakfpnbaa
open Go.RowKit Go.Proofs.Parclose Go.Maps
structure LevMap (D : DataW Unit) (lev : Int → Option Int) : Prop where
 map : IsMap D
 has : ∀ kl, Maps.has D kl = true ↔ ∃ c n, kl = .int .i64 c ∧ lev c = some n
 at_ : ∀ c n, lev c = some n → ∀ z, D.atKey (.int .i64 c) z = .lit (.int .i64 n)
theorem Qbl {w : World} {ops : Array Oper} {o : Oper} {a : Act} {K : Act → World → Prop} {Q : Exit → Act → World → Prop} {E : Prop} (hgd : o.guard = none) (s x : Operand)
 (ho : o.op = .call { callee := .builtin .append, args := #[s, x], argTypes := #[30, 30] }) (base : Nat) (v : Value) (n : Nat) (xs : List Value) (hs : a.eval s = v) (hown : w.ownsRow base 86 2 v n xs)
 (u : Value) (l : List (Int × Int)) (hx : a.eval x = u) (hu : LabAt w u l) (hn : n + l.length ≤ 8796093022208) (hbase : base ≤ w.heap.size)
 (h : ∀ v' w', w'.ownsRow base 86 2 v' (n + l.length) (xs ++ flat l) → w.grownBy w' v.ownBlock → K (a.put o.dst v') w') :
 if Region.wanted o (yielded ops a.tmps) = true then Oper.wp Try.prog o a w K Q else E := by
 have hw : Region.wanted o (yielded ops a.tmps) = true := by simp [Region.wanted, hgd]
 rw [if_pos hw]
 obtain ⟨i0, hi, hz0, hz1, hz2⟩ := info_parts Qaf
 obtain ⟨p, cap, rfl, hlc, hcap, hcells⟩ := hu
 cases p with
 | none =>
  have e : l = [] := by
   by_cases h0 : 0 < l.length
   · obtain ⟨b, o, e, _⟩ := hcells h0
     cases e
   · exact List.length_eq_zero_iff.1 (by omega)
  subst e
  have ec : cap = 0 := hlc.2 rfl
  subst ec
  have hrun := run_append_owned_none (P := Try.prog) (w := w) base 30 o.type 86 i0 2 Try.underlying30 hi v n xs hown
  unfold Oper.wp
  simp [execOp, ho, resolve, invoke, builtin, hs, hx, hrun, Result.andThen]
  exact h v w (by simpa [flat] using hown) ⟨rfl, rfl, rfl, Nat.le_refl _, fun _ _ _ => rfl⟩
 | some ad =>
  have hnews : ∀ j u, (flat l)[j]? = some u → w.cell? (ad.add j) = some u := by
   by_cases h0 : 0 < l.length
   · obtain ⟨b, o, e, hc⟩ := hcells h0
     cases e
     exact QaW hc
   · have e : l = [] := List.length_eq_zero_iff.1 (by omega)
     subst e
     intro j u hu
     simp [flat] at hu
  exact wp_append_own w s x 30 ho base 86 i0 _ 2 16 Try.underlying30 hi hz0 hz1 hz2 rfl (by decide) v n xs hs hown ad l.length cap (flat l) hx (Qal l) hnews (Qby l) (by unfold maxLen; omega) (by omega) hbase
   (fun v' w' h1 h2 _ => h v' w' h1 h2)
theorem Qbk {w : World} {ops : Array Oper} {o : Oper} {a : Act} {K : Act → World → Prop} {Q : Exit → Act → World → Prop} {E : Prop} (hgd : o.guard = none) (s x : Operand)
 (ho : o.op = .call { callee := .builtin .append, args := #[s, x], argTypes := #[30, 30] }) (k : Nat) (ao : Option Addr) (ls : List (Int × Int)) (hs : a.eval s = .slice ao k k) (hls : ls.length = k) (hao : ao = none → k = 0)
 (hc : ∀ b, ao = some b → ∀ j u, (flat ls)[j]? = some u → w.cell? (b.add j) = some u)
 (base : Nat) (v : Value) (m : Nat) (lx : List (Int × Int)) (hx : a.eval x = v) (hown : w.ownsRow base 86 2 v m (flat lx)) (hm : 0 < m) (hn : k + m ≤ 8796093022208)
 (h : ∀ v' w', w'.ownsRow w.heap.size 86 2 v' (k + m) (flat (ls ++ lx)) → w.grownBy w' none → K (a.put o.dst v') w') :
 if Region.wanted o (yielded ops a.tmps) = true then Oper.wp Try.prog o a w K Q else E := by
 obtain ⟨i0, hi, hz0, hz1, hz2⟩ := info_parts Qaf
 have hown0 := hown
 obtain ⟨hlen, hv⟩ := hown
 rcases hv with ⟨_, h0⟩ | ⟨g, cap, cur, rfl, hb, hh, h1, h2, h3, h4⟩
 · omega
 · refine step_append_grows hgd s x 30 ho 86 i0 _ 2 16 Try.underlying30 hi hz0 hz1 hz2 rfl (by decide) ao k k (flat ls) hs (fun e => ⟨hao e, hao e⟩) (by rw [Qal, hls]) hc ⟨g, 0, none⟩ m cap (flat lx) hx hlen (fun j u hu => ?_) (Qby lx) (by omega) (by unfold maxLen; omega) (by omega) (fun v' w' g1 g2 => h v' w' (by rw [Qb6]; exact g1) g2)
   have hj : j < m * 2 := by
    have := (List.getElem?_eq_some_iff.1 hu).1
    omega
   rw [WideShapes.add_plain, Nat.zero_add, hown0.cellAt j hj]
   exact hu
theorem Qdq {w : World} {base n : Nat} {v : Value} {x m : Int} {l : List (Int × Int)} (h : w.ownsRow base 86 2 v n (flat [(x, m)] ++ flat l)) : Hid (w.ownsRow base 86 2 v n (flat ((x, m) :: l))) := h
theorem Qge {w4 w5 : World} {g H : Nat} {out : List (Int × Int)} (hc : Cells2 w4 g 0 out) (hg : w4.grownBy w5 (some H)) (hgl : g < w4.heap.size) (hne : g ≠ H) (k : Nat) :
 Hid (∀ b, some (⟨g, 0, none⟩ : Addr) = some b → ∀ j u, (flat (out.take k))[j]? = some u → w5.cell? (b.add j) = some u) := by
 intro b e j u hu
 cases e
 have h1 := QaW (hc.take k) j u hu
 rw [WideShapes.add_plain] at h1 ⊢
 rw [World.cell?_of_block (w := w4) (a := ⟨g, 0 + j, none⟩) (hg.block g hgl (by intro e; cases e; exact hne rfl))]
 exact h1
theorem Qbn {H : Type} {R : Value → Option (DataW H × List MemPlace)} {w w3 w5 w6 : World} {r B n cnt N : Nat} {D : DataW H} {left : Lit → Bool} {O : Obj} {v6 : Value} {L : List (Int × Int)}
 (hrg : w3.ranges Try.prog 3 R B r n D left cnt) (hnx : Below r w w3) (hs : r + 1 ≤ w3.heap.size) (hB : B < r) (hg5 : ((w3.alloc O).drew).grownBy w5 (some w3.heap.size)) (hg6 : w5.grownBy w6 none)
 (hown : w6.ownsRow w5.heap.size 86 2 v6 N (flat L)) :
 w6.ranges Try.prog 3 R B r n D left cnt ∧ w6.ownsRow (r + 1) 86 2 v6 N (flat L) ∧ Below r w w6 ∧ r + 1 ≤ w6.heap.size := by
 have hz4 : ((w3.alloc O).drew).heap.size = w3.heap.size + 1 := by show (w3.alloc O).heap.size = _; simp
 have hz5 := hg5.size
 have hz6 := hg6.size
 have h4 : ((w3.alloc O).drew).ranges Try.prog 3 R B r n D left cnt := hrg.alloc O
 have h5 := h4.kept hg5 (by intro e; cases e; omega) (by intro e; cases e; omega)
 refine ⟨h5.kept hg6 (by simp) (by simp), ?_, ?_, by omega⟩
 · obtain ⟨h1, h2⟩ := hown
   refine ⟨h1, ?_⟩
   rcases h2 with h2 | ⟨g, cap, cur, e, hb, rest⟩
   · exact Or.inl h2
   · exact Or.inr ⟨g, cap, cur, e, by omega, rest⟩
 · exact (((hnx.alloc (by omega) O).drew).grown hg5 (by omega) (fun k hk => by cases hk; omega)).grown hg6 (by omega) (fun k hk => by cases hk)
theorem QgK {w : World} {B n : Nat} {D : DataW Unit} {R : Value → Option (DataW Unit × List MemPlace)} (h : w.ownsMap Try.prog 3 R B n D) : Maps.size D ≤ n := by
 obtain ⟨es, clock, _, _, h1, rfl⟩ := h
 simp only [Maps.size, length_sorted, List.length_map, Array.length_toList]
 exact h1
set_option maxHeartbeats 4000000 in
theorem Qgu (B n : Nat) (D : DataW Unit) (lev : Int → Option Int) (want : List (Int × Int)) (w : World) (hown : w.ownsMap Try.prog 3 (plainElem (H := Unit) Try.prog 3) B n D) (hD : LevMap D lev) (hsz : n ≤ 4194304) (hw : canonL want) (hat : ∀ c, atL want c = (lev c).getD 1) :
 Calls Try.prog 62 #[.map (some B)] w fun e w' => ∃ v, e = .returned v ∧ LabAt w' v want ∧ (∀ k, v.ownBlock = some k → w.heap.size ≤ k) ∧ Below w.heap.size w w' := by
 have hBs := hown.lt
 have hsize := QgK hown
 have HD1 : Hid (∀ kl, Maps.has D kl = true ↔ ∃ c n, kl = .int .i64 c ∧ lev c = some n) := hD.has
 have HD2 : Hid (∀ c n, lev c = some n → ∀ z, D.atKey (.int .i64 c) z = .lit (.int .i64 n)) := hD.at_
 have HW : Hid (canonL want ∧ ∀ c, atL want c = (lev c).getD 1) := ⟨hw, hat⟩
 clear hD hw hat
 go_enter Try.func62, Try.ntmps62
 go_wp2_with (at_range; refine wpList_range_own _ rfl _ 98 rfl 3 3 lawInt Try.underlying98 _ _ n D rfl hown ?_; intro w2 hrg0 hg0 hs0)
 go_frame
 have hB2 : Below w.heap.size w w2 := ⟨hg0.os, hg0.tape, hg0.output, hg0.size, fun k hk => hg0.block k hk (by simp)⟩
 generalize hr : w.heap.size = r at *
 have HR : Hid (w.heap.size = r) := hr
 clear hg0 hown hr
 go_loopw [3] (fun v wr => ∃ (left : Lit → Bool) (cnt : Nat) (out : List (Int × Int)), wr.ranges Try.prog 3 (plainElem (H := Unit) Try.prog 3) B r n D left cnt ∧ wr.ownsRow (r + 1) 86 2 v out.length (flat out) ∧ Made lev (fun c => !left (.int .i64 c)) out ∧ out.length + cnt ≤ n ∧ Below r w wr ∧ r + 1 ≤ wr.heap.size)
  (fun _ wr => wr.rangeLeft B r)
 case atStart =>
  refine ⟨_, _, [], hrg0, World.ownsRow_nil _ _ _ _, QeU _ _ (fun c hc => ?_), by simpa using hsize, hB2, by omega⟩
  cases hl : lev c with
  | none => rfl
  | some m =>
   have := (HD1.out (.int .i64 c)).2 ⟨c, m, rfl, hl⟩
   simp [this] at hc
 case round =>
  obtain ⟨left, cnt, out, hrg, hrow, hmade, hcnt, hnx, hws⟩ := hrel
  have HM : Hid (Made lev (fun c => !left (.int .i64 c)) out) := hmade
  clear hmade hrg0 hB2
  go_wp2_with (at_next; refine wpList_next_ranges_ii _ rfl _ rfl 3 3 .i64 .i64 lawInt Try.underlying3 Try.underlying3 B r n _ _ _ rfl hrg ?_ ?_)
  · intro _ hl0
    go_wp2
    go_ret
    have e := HM.out.done (fun c => by simp [hl0]) HW.out.1 HW.out.2
    subst e
    exact ⟨_, rfl, Qbo hrow (by omega), fun k hk => by have := QaY hrow hk; have := HR.out; omega, by rw [HR.out]; exact hnx⟩
  · intro x m w3 cnt3 hwx hwc hlx hat3 hrg3 hlt3 hg3 hs3 hen
    have hlev : lev x = some m := by
     have h1 := (HD1.out (.int .i64 x)).1 (has_true_of_atKey hat3)
     obtain ⟨c', n', e1, e2⟩ := h1
     cases e1
     have h3 := HD2.out x n' e2 (.lit (.int .i64 0))
     rw [hat3] at h3
     cases h3
     exact e2
    have hatx : atL out x = 1 := by
     rw [HM.out.at_ x]
     simp [hlx]
    have hcome : ∀ c, (!(left (.int .i64 c) && !(Lit.int .i64 c).sameKey (.int .i64 x))) = (!left (.int .i64 c) || decide (c = x)) := fun c => by
     by_cases e : c = x
     · subst e
       have : (Lit.int .i64 c).sameKey (.int .i64 c) = true := by simp [Lit.sameKey]
       simp [this]
     · have : (Lit.int .i64 c).sameKey (.int .i64 x) = false := sameKey_ne (by simpa using e)
       simp [this, e]
    have hnx3 : Below r w w3 := hnx.grown hg3 (by omega) (fun k hk => by cases hk; exact Nat.le_refl _)
    have hrow3 : w3.ownsRow (r + 1) 86 2 u3 out.length (flat out) := hrow.kept hg3 (by
     rcases hrow.2 with ⟨e, _⟩ | ⟨g, cap, cur, e, hb, _⟩
     · exact Or.inl (by rw [e]; rfl)
     · refine Or.inr ?_
       rw [e]
       show some g ≠ some r
       intro h
       cases h
       omega)
    have hcx : (!left (.int .i64 x)) = false := by simp [hlx]
    have HL : Hid (cnt3 < cnt) := hlt3
    have HE : Hid (wr.rangeLeft B r = cnt) := hrg.left_eq
    have HG3 : Hid (w3.ranges Try.prog 3 (plainElem (H := Unit) Try.prog 3) B r n D (fun z => left z && !z.sameKey (.int .i64 x)) cnt3) := hrg3
    have hs3' : r + 1 ≤ w3.heap.size := by omega
    have hcnt3 : out.length + 1 + cnt3 ≤ n := by omega
    clear hwx hwc hlx hat3 hrg3 hlt3 hg3 hs3 hrg hrow hnx hws hcnt
    by_cases hm1 : m = 1
    · have hmt : (m == 1) = true := by simp [hm1]
      have HP := HM.out.plain (x := x) (by rw [hlev, hm1]) hcx hcome
      have HP2 : Hid (Made lev (fun c => !(left (.int .i64 c) && !(Lit.int .i64 c).sameKey (.int .i64 x))) out) := HP
      clear HP hm1 hlev hatx hcome hcx
      go_wp2
      go_roundw
      case rel => exact ⟨_, cnt3, out, HG3.out, hrow3, HP2.out, by omega, hnx3, hs3'⟩
      case measure => rw [HG3.out.left_eq, HE.out]; exact HL.out
    · have hmt : (m == 1) = false := by simp [hm1]
      have HP := HM.out.put (x := x) (n := m) hlev hcome
      have HP2 : Hid (Made lev (fun c => !(left (.int .i64 c) && !(Lit.int .i64 c).sameKey (.int .i64 x))) (setL out x m)) := HP
      have HSP : Hid (∀ k, k ≤ out.length → (∀ m (_ : m < k) (hm : m < out.length), out[m].1 < x) → (∀ hm : k < out.length, x ≤ out[k].1) → out.take k ++ (x, m) :: out.drop k = setL out x m) := fun k h1 h2 h3 =>
       Qgh HM.out.canon hm1 (Qff HM.out.canon hatx h1 h2 h3)
      clear HP hm1 hlev hatx hcome hcx HM
      rcases hrow3.2 with ⟨e3, hz⟩ | ⟨g, cap, cur, e3, hg1, hg2, hg3, hg4, hg5, hg6⟩
      · have hz2 : out = [] := List.length_eq_zero_iff.1 hz
        subst hz2
        subst e3
        have HFIN := HSP.out 0 (Nat.le_refl _) (fun m h1 => absurd h1 (Nat.not_lt_zero _)) (fun h => absurd h (by simp))
        have HFIN2 : Hid ([] ++ (x, m) :: [] = setL [] x m) := HFIN
        have HLEN : Hid ((setL [] x m).length = 0 + (1 + ([] : List (Int × Int)).length)) := by
         show _ = _
         rw [← HFIN2.out]
         rfl
        have OWN4 : Hid (((w3.alloc (.cells #[.int .i64 x, .int .i64 m] 86)).drew).ownsRow (r + 1) 86 2 (.slice (some ⟨w3.heap.size, 0, none⟩) 1 1) 1 (flat [(x, m)])) :=
         ⟨rfl, Or.inr ⟨w3.heap.size, 1, #[.int .i64 x, .int .i64 m], rfl, hs3', heap_alloc_new w3 _, Nat.le_refl _, by unfold maxLen; omega, rfl, rfl⟩⟩
        have HU4 : Hid (LabAt ((w3.alloc (.cells #[.int .i64 x, .int .i64 m] 86)).drew) (.slice none 0 0) []) := LabAt.nil _ none 0 (fun _ => rfl)
        clear hrow3 HSP HFIN hz
        go_wp2
        refine wp_loop_rounds 1 ?_
        rw [rounds_succ]
        go_wp2
        go_region_law ((first
         | (refine Qbk (by rfl) (.tmp 34) (.tmp 42) (by rfl) 0 none [] (by rfl) rfl (fun _ => rfl) (fun b h => by cases h) (r + 1) _ (1 + ([] : List (Int × Int)).length) ((x, m) :: []) (by rfl) OWN5.out (by simp) (by simp) ?_; intro v6 w6 hown6 hgrow6)
         | (refine Qbl (by rfl) (.tmp 38) (.tmp 41) (by rfl) (r + 1) _ 1 (flat [(x, m)]) (by rfl) OWN4.out _ [] (by rfl) HU4.out (by simp) (by simp; omega) ?_; intro v5 w5 hown5 hgrow5; have OWN5 := Qdq hown5; have HG5 : Hid (((w3.alloc (.cells #[.int .i64 x, .int .i64 m] 86)).drew).grownBy w5 (some w3.heap.size)) := hgrow5; clear hown5 hgrow5)))
        have HX := Qbn HG3.out hnx3 hs3' hBs HG5.out hgrow6 hown6
        rw [HFIN2.out] at HX
        have HX2 : Hid _ := HX
        clear HX hgrow6 hown6
        show Exit.inBlock 1 _ Exit.normal (Act.put _ (some 3) v6) w6
        go_frame
        go_wp2
        go_roundw
        case rel => exact ⟨_, cnt3, setL [] x m, HX2.out.1, by rw [HLEN.out]; exact HX2.out.2.1, HP2.out, by rw [HLEN.out]; simpa using hcnt3, HX2.out.2.2.1, HX2.out.2.2.2⟩
        case measure => rw [HX2.out.1.left_eq, HE.out]; exact HL.out
      · subst e3
        have hcl : Cells2 w3 g 0 out := by
         intro j hj
         obtain ⟨f1, f2⟩ := Qcu out j hj
         rw [← hg6, List.getElem?_take_of_lt (by omega)] at f1 f2
         simp only [World.cell?, hg2, Nat.zero_add]
         exact ⟨by simpa using f1, by simpa using f2⟩
        have HC : Hid (Cells2 w3 g 0 out) := hcl
        have hgl : g < w3.heap.size := (Array.getElem?_eq_some_iff.1 hg2).1
        clear hcl hg2 hg4 hg5 hg6
        go_wp2
        go_loop [6] (fun i => ∃ k : Nat, k ≤ out.length ∧ i = .int .i64 k ∧ (∀ m (_ : m < k) (hm : m < out.length), out[m].1 < x)) (fun i => out.length - (intOf i).toNat)
        case atStart => exact ⟨0, Nat.zero_le _, rfl, fun m hm => absurd hm (Nat.not_lt_zero _)⟩
        case round =>
         obtain ⟨k, hk, rfl, hlo0⟩ := hrel
         have HLO : Hid (∀ m (_ : m < k) (hm : m < out.length), out[m].1 < x) := hlo0
         clear hlo0
         by_cases hgo : ∃ h : k < out.length, out[k].1 < x
         · obtain ⟨hlt, hx⟩ := hgo
           obtain ⟨hc1, _⟩ := HC.out k hlt
           rw [Nat.zero_add] at hc1
           go_wp2
           go_round
           case rel => exact ⟨k + 1, hlt, by go_num, fun m h1 hm => by
            by_cases e : m = k
            · subst e; exact hx
            · exact HLO.out m (by omega) hm⟩
           case measure => simp [intOf]; omega
         · have HHI : Hid (∀ hm : k < out.length, x ≤ out[k].1) := fun hm => by
            by_cases e : out[k].1 < x
            · exact absurd ⟨hm, e⟩ hgo
            · omega
           have HFIN := HSP.out k hk HLO.out HHI.out
           have HFIN2 : Hid (out.take k ++ (x, m) :: out.drop k = setL out x m) := HFIN
           clear hgo HFIN
           obtain ⟨A, hA, HU⟩ : ∃ A : Addr, (if cap = k then some (⟨g, 0, none⟩ : Addr) else some ⟨g, k * 2, none⟩) = some A ∧ Hid (∀ W, Cells2 W g 0 out → LabAt W (.slice (some A) (out.length - k) (cap - k)) (out.drop k)) := by
            by_cases e : cap = k
            · refine ⟨⟨g, 0, none⟩, by simp [e], fun W h => ?_⟩
              have e2 : out.drop k = [] := List.drop_eq_nil_of_le (by omega)
              rw [e2, show out.length - k = 0 by omega]
              exact LabAt.nil _ _ _ (fun h => by cases h)
            · refine ⟨⟨g, k * 2, none⟩, by simp [e], fun W h => ?_⟩
              refine ⟨_, _, by rw [List.length_drop], ⟨by rw [List.length_drop]; omega, fun h => by cases h⟩, by rw [List.length_drop]; omega, fun _ => ⟨g, k * 2, rfl, ?_⟩⟩
              have := h.drop k
              rwa [Nat.zero_add] at this
           have hal : Below w3.heap.size w3 ((w3.alloc (.cells #[.int .i64 x, .int .i64 m] 86)).drew) := ((Below.refl _ _).alloc (Nat.le_refl _) _).drew
           have own4 : ((w3.alloc (.cells #[.int .i64 x, .int .i64 m] 86)).drew).ownsRow (r + 1) 86 2 (.slice (some ⟨w3.heap.size, 0, none⟩) 1 1) 1 (flat [(x, m)]) :=
            ⟨rfl, Or.inr ⟨w3.heap.size, 1, #[.int .i64 x, .int .i64 m], rfl, hs3', heap_alloc_new w3 _, Nat.le_refl _, by unfold maxLen; omega, rfl, rfl⟩⟩
           have OWN4 : Hid (((w3.alloc (.cells #[.int .i64 x, .int .i64 m] 86)).drew).ownsRow (r + 1) 86 2 (.slice (some ⟨w3.heap.size, 0, none⟩) 1 1) 1 (flat [(x, m)])) := own4
           have HC4 := HC.out.below hal
           have HU4 : Hid (LabAt ((w3.alloc (.cells #[.int .i64 x, .int .i64 m] 86)).drew) (.slice (some A) (out.length - k) (cap - k)) (out.drop k)) := HU.out _ HC4
           have hdl : 1 + (out.drop k).length ≤ 8796093022208 := by rw [List.length_drop]; omega
           have HDL : Hid (1 + (out.drop k).length ≤ 8796093022208) := hdl
           have g1 : (k : Int) ≤ (cap : Int) := by omega
           have g2 : (k : Int) ≤ (out.length : Int) := by omega
           have g3 : ((out.length : Int)) ≤ (cap : Int) := by omega
           have g4 : (0 : Int) ≤ (k : Int) := by omega
           have HLEN : Hid ((setL out x m).length = k + (1 + (out.drop k).length)) := by
            show _ = _
            rw [← HFIN2.out, List.length_append, List.length_take, List.length_cons]
            omega
           have HTK : Hid ((out.take k).length = k) := by show _ = _; rw [List.length_take]; omega
           have HKM : Hid (k + (1 + (out.drop k).length) ≤ 8796093022208) := by show _ ≤ _; rw [List.length_drop]; omega
           have HC4' : Hid (Cells2 ((w3.alloc (.cells #[.int .i64 x, .int .i64 m] 86)).drew) g 0 out) := HC4
           clear hdl own4 HC4 hal
           by_cases hlt : k < out.length
           · obtain ⟨hc1, _⟩ := HC.out k hlt
             rw [Nat.zero_add] at hc1
             have hx : ¬ out[k].1 < x := by have := HHI.out hlt; omega
             go_wp2
             go_region_law ((first
              | (refine Qbk (by rfl) (.tmp 34) (.tmp 42) (by rfl) k (some ⟨g, 0, none⟩) (out.take k) (by rfl) HTK.out (fun h => by cases h) HCC5.out (r + 1) _ (1 + (out.drop k).length) ((x, m) :: out.drop k) (by rfl) OWN5.out (by omega) HKM.out ?_; intro v6 w6 hown6 hgrow6)
              | (refine Qbl (by rfl) (.tmp 38) (.tmp 41) (by rfl) (r + 1) _ 1 (flat [(x, m)]) (by rfl) OWN4.out _ (out.drop k) (by rfl) HU4.out HDL.out (by simp; omega) ?_; intro v5 w5 hown5 hgrow5; have OWN5 := Qdq hown5; have HG5 : Hid (((w3.alloc (.cells #[.int .i64 x, .int .i64 m] 86)).drew).grownBy w5 (some w3.heap.size)) := hgrow5; have HCC5 := Qge HC4'.out HG5.out (by simp; omega) (by omega) k; clear hown5 hgrow5)))
             have HX := Qbn HG3.out hnx3 hs3' hBs HG5.out hgrow6 hown6
             rw [HFIN2.out] at HX
             have HX2 : Hid _ := HX
             clear HX hgrow6 hown6
             show Exit.inBlock 1 _ Exit.normal (Act.put _ (some 3) v6) w6
             go_frame
             go_wp2
             go_roundw
             case rel => exact ⟨_, cnt3, setL out x m, HX2.out.1, by rw [HLEN.out]; exact HX2.out.2.1, HP2.out, by rw [HLEN.out, List.length_drop]; omega, HX2.out.2.2.1, HX2.out.2.2.2⟩
             case measure => rw [HX2.out.1.left_eq, HE.out]; exact HL.out
           · have hk2 : ¬ ((k : Int) < (out.length : Int)) := by omega
             go_wp2
             go_region_law ((first
              | (refine Qbk (by rfl) (.tmp 34) (.tmp 42) (by rfl) k (some ⟨g, 0, none⟩) (out.take k) (by rfl) HTK.out (fun h => by cases h) HCC5.out (r + 1) _ (1 + (out.drop k).length) ((x, m) :: out.drop k) (by rfl) OWN5.out (by omega) HKM.out ?_; intro v6 w6 hown6 hgrow6)
              | (refine Qbl (by rfl) (.tmp 38) (.tmp 41) (by rfl) (r + 1) _ 1 (flat [(x, m)]) (by rfl) OWN4.out _ (out.drop k) (by rfl) HU4.out HDL.out (by simp; omega) ?_; intro v5 w5 hown5 hgrow5; have OWN5 := Qdq hown5; have HG5 : Hid (((w3.alloc (.cells #[.int .i64 x, .int .i64 m] 86)).drew).grownBy w5 (some w3.heap.size)) := hgrow5; have HCC5 := Qge HC4'.out HG5.out (by simp; omega) (by omega) k; clear hown5 hgrow5)))
             have HX := Qbn HG3.out hnx3 hs3' hBs HG5.out hgrow6 hown6
             rw [HFIN2.out] at HX
             have HX2 : Hid _ := HX
             clear HX hgrow6 hown6
             show Exit.inBlock 1 _ Exit.normal (Act.put _ (some 3) v6) w6
             go_frame
             go_wp2
             go_roundw
             case rel => exact ⟨_, cnt3, setL out x m, HX2.out.1, by rw [HLEN.out]; exact HX2.out.2.1, HP2.out, by rw [HLEN.out, List.length_drop]; omega, HX2.out.2.2.1, HX2.out.2.2.2⟩
             case measure => rw [HX2.out.1.left_eq, HE.out]; exact HL.out
theorem Qe0 : LevMap (.map []) (fun _ => none) := ⟨isMap_empty, fun kl => by simp [Maps.has], fun c n h => by cases h⟩
theorem LevMap.put {D : DataW Unit} {lev lev' : Int → Option Int} (h : LevMap D lev) (x v : Int) (hl : ∀ c, lev' c = if c = x then some v else lev c) : LevMap (D.put (.int .i64 x) (.lit (.int .i64 v))) lev' := by
 refine ⟨h.map.put _ _, fun kl => ?_, fun c n hn z => ?_⟩
 · by_cases e : kl = .int .i64 x
   · subst e
     rw [has_put_same (k := .int .i64 x) h.map trivial]
     exact ⟨fun _ => ⟨x, v, rfl, by rw [hl, if_pos rfl]⟩, fun _ => rfl⟩
   · rw [has_put_other e, h.has kl]
     constructor
     · rintro ⟨c, n, rfl, h2⟩
       refine ⟨c, n, rfl, ?_⟩
       rw [hl, if_neg (fun e2 => e (by rw [e2]))]
       exact h2
     · rintro ⟨c, n, rfl, h2⟩
       refine ⟨c, n, rfl, ?_⟩
       rw [hl, if_neg (fun e2 => e (by rw [e2]))] at h2
       exact h2
 · rw [hl] at hn
   by_cases e : c = x
   · subst e
     rw [if_pos rfl] at hn
     cases hn
     exact atKey_put_same (k := .int .i64 c) h.map trivial _ z
   · rw [if_neg e] at hn
     rw [atKey_put_other (by simpa using e)]
     exact h.at_ c n hn z
theorem LevMap.congr {D : DataW Unit} {lev lev' : Int → Option Int} (h : LevMap D lev) (e : ∀ c, lev' c = lev c) : LevMap D lev' := by
 have : lev' = lev := funext e
 rw [this]; exact h
set_option maxHeartbeats 1000000 in
theorem Qgk (v : Value) (l : List (Int × Int)) (c n : Int) (w : World) (hv : LabAt w v l) (hbad : setB l c n = false) :
 Calls Try.prog 42 #[v, .int .i64 c, .int .i64 n] w fun e w' => e = .returned (.tuple #[.slice none 0 0, .int .i64 2]) ∧ Below w.heap.size w w' := by
 have hg := Qbd v l w hv
 unfold setB at hbad
 cases h1 : goodB l with
 | false =>
  rw [h1] at hg
  clear hbad
  go_enter Try.func42, Try.ntmps42
  go_wp2_with (go_at_call 41; refine hg.mono ?_; rintro e w1 ⟨rfl, hw1⟩)
  go_ret2
  exact ⟨rfl, hw1⟩
 | true =>
  rw [h1] at hg
  cases h2 : catB c with
  | false =>
   clear hbad
   go_enter Try.func42, Try.ntmps42
   go_wp2_with (first | (go_at_call 41; refine hg.mono ?_; rintro e w1 ⟨rfl, hw1⟩) | (go_at_call 61; refine (Qbv _ _).mono ?_; rintro e w' ⟨rfl, rfl⟩))
   go_ret2
   exact ⟨rfl, by assumption⟩
  | true =>
   have h3 : bndB n = false := by simpa [h1, h2] using hbad
   have h4 : n < 0 ∨ 3 < n := by
    have := of_decide_eq_false h3
    omega
   clear hbad h3
   by_cases h5 : n < 0
   · clear h4
     go_enter Try.func42, Try.ntmps42
     go_wp2_with (first | (go_at_call 41; refine hg.mono ?_; rintro e w1 ⟨rfl, hw1⟩) | (go_at_call 61; refine (Qbv _ _).mono ?_; rintro e w' ⟨rfl, rfl⟩))
     go_ret2
     exact ⟨rfl, by assumption⟩
   · have h6 : 3 < n := by omega
     clear h4
     go_enter Try.func42, Try.ntmps42
     go_wp2_with (first | (go_at_call 41; refine hg.mono ?_; rintro e w1 ⟨rfl, hw1⟩) | (go_at_call 61; refine (Qbv _ _).mono ?_; rintro e w' ⟨rfl, rfl⟩))
     go_ret2
     exact ⟨rfl, by assumption⟩
def levTo (l : List (Int × Int)) (k : Nat) (c : Int) : Option Int := ((l.take k).reverse.find? fun x => x.1 == c).map (·.2)
theorem QeY (l : List (Int × Int)) (c : Int) : levTo l 0 c = none := by simp [levTo]
theorem QeZ (l : List (Int × Int)) (k : Nat) (hk : k < l.length) (c : Int) : levTo l (k + 1) c = if c = l[k].1 then some l[k].2 else levTo l k c := by
 unfold levTo
 rw [List.take_succ_eq_append_getElem hk, List.reverse_append]
 simp only [List.reverse_cons, List.reverse_nil, List.nil_append, List.singleton_append, List.find?_cons]
 by_cases e : c = l[k].1
 · subst e; simp
 · have : (l[k].1 == c) = false := by simpa using fun h => e h.symm
   simp [this, e]
theorem Qgw {l : List (Int × Int)} (h : canonL l) (c : Int) : (levTo l l.length c).getD 1 = atL l c := by
 unfold levTo
 rw [List.take_length]
 cases hf : l.reverse.find? (fun x => x.1 == c) with
 | none =>
  have hn := List.find?_eq_none.1 hf
  have : c ∉ l.map (·.1) := fun hm => by
   obtain ⟨x, hx, e⟩ := List.mem_map.1 hm
   exact hn x (by simpa using hx) (by simpa using e)
  rw [Qam this]
  rfl
 | some x =>
  have hm : x ∈ l := by simpa using List.mem_of_find?_eq_some hf
  have hx : x.1 = c := by simpa using List.find?_some hf
  obtain ⟨j, hj, e⟩ := List.mem_iff_getElem.1 hm
  have := Qbz l c j hj (fun i hi => by
   have := (List.pairwise_iff_getElem.1 h.2) i j (by omega) hj hi
   rw [e] at this
   omega) (by rw [e]; exact hx)
  rw [this, e]
  rfl
set_option maxRecDepth 100000 in
set_option maxHeartbeats 2000000 in
theorem Qct (v : Value) (l : List (Int × Int)) (c n : Int) (w : World) (hv : LabAt w v l) (hok : setB l c n = true) :
 Calls Try.prog 42 #[v, .int .i64 c, .int .i64 n] w fun e w' => ∃ v' x, e = .returned (.tuple #[v', .int .i64 x]) ∧ (if 8 < (setL l c n).length then x = 5 ∧ v' = .slice none 0 0 else x = 0 ∧ LabAt w' v' (setL l c n) ∧ ∀ k, v'.ownBlock = some k → w.heap.size ≤ k) ∧ Below w.heap.size w w' := by
 have hg := Qbd v l w hv
 unfold setB at hok
 simp only [Bool.and_eq_true] at hok
 obtain ⟨⟨h1, h2⟩, h3⟩ := hok
 rw [h1] at hg
 have hgl := (Qx l).1 h1
 have hcb : 0 ≤ c ∧ c < 80 := of_decide_eq_true h2
 have hnb : 0 ≤ n ∧ n ≤ 3 := of_decide_eq_true h3
 have n1 : ¬ n < 0 := by omega
 have n2 : ¬ 3 < n := by omega
 have wc : (Lit.int .i64 c).wf = true := WalkArith.wf_i64 (by omega)
 have wn : (Lit.int .i64 n).wf = true := WalkArith.wf_i64 (by omega)
 have HWF : Hid (∀ j (hj : j < l.length), (Lit.int .i64 l[j].1).wf = true ∧ (Lit.int .i64 l[j].2).wf = true) := fun j hj => by
  have := hgl.2.1 l[j] (List.getElem_mem hj)
  exact ⟨WalkArith.wf_i64 (by omega), WalkArith.wf_i64 (by omega)⟩
 have hkeyc : keyOf Try.prog 3 (.int .i64 c) = some (.int .i64 c) := keyOf_int_mk Try.underlying3 wc
 have h8 := hgl.1
 have hcan := Qe5 hgl
 have HCN : Hid (canonL (setL l c n)) := QcG hcan c n
 have HAT : Hid (∀ d, atL (setL l c n) d = (if d = c then some n else levTo l l.length d).getD 1) := fun d => by
  rw [QdR]
  by_cases e : d = c
  · rw [if_pos e, if_pos e]; rfl
  · rw [if_neg e, if_neg e]; exact (Qgw hcan d).symm
 have HST : Hid (∀ k (hk : k < l.length) d, levTo l (k + 1) d = if d = l[k].1 then some l[k].2 else levTo l k d) := fun k hk d => QeZ l k hk d
 generalize setL l c n = out at *
 have hv0 := hv
 obtain ⟨p, cap, rfl, hlc, hcap, hcells⟩ := hv
 have HCE : Hid (0 < l.length → ∃ b o, p = some ⟨b, o, none⟩ ∧ Cells2 w b o l) := hcells
 have hmm := @run_makeMap Try.prog
 clear hgl hcan h3 hcb hnb hcells hlc hv0
 go_enter Try.func42, Try.ntmps42
 go_wp2_with (first | (go_at_call 41; refine hg.mono ?_; rintro e w1 ⟨rfl, hw1⟩) | (go_at_call 61; refine (Qbv _ _).mono ?_; rintro e w1 ⟨rfl, rfl⟩))
 have hlo := hw1.size
 go_loopw [31] (fun i wr => ∃ (k : Nat) (E : DataW Unit), k ≤ l.length ∧ i = .int .i64 k ∧ wr.ownsMap Try.prog 3 (plainElem (H := Unit) Try.prog 3) w1.heap.size k E ∧ LevMap E (levTo l k) ∧ Below w.heap.size w wr) (fun i _ => l.length - (intOf i).toNat)
 case atStart => exact ⟨0, _, Nat.zero_le _, rfl, World.ownsMap_made _ _ _ _, Qe0.congr (fun d => QeY l d), hw1.alloc hlo _⟩
 case round =>
  obtain ⟨k, E, hk, rfl, hm, hE, hb⟩ := hrel
  have HE : Hid (LevMap E (levTo l k)) := hE
  have hsz := hb.size
  clear hE
  by_cases hlt : k < l.length
  · obtain ⟨bl, ol, rfl, hc⟩ := HCE.out (by omega)
    obtain ⟨hc1, hc2⟩ := (hc.below hb) k hlt
    obtain ⟨wk1, wk2⟩ := HWF.out k hlt
    have hkey := keyOf_int_mk Try.underlying3 wk1
    have HP : Hid (LevMap (E.put (.int .i64 l[k].1) (.lit (.int .i64 l[k].2))) (levTo l (k + 1))) := HE.out.put _ _ (HST.out k hlt)
    clear hc wk1
    go_wp2_with (at_mapUpdate; refine wpList_mapUpdate_own _ rfl _ _ _ 98 rfl 3 3 lawInt Try.underlying98 _ w1.heap.size k _ rfl (hm.alloc _) (by unfold maxLen; omega) _ _ _ rfl rfl hkey _ [] (plainElem_int Try.underlying3 wk2) ?_; intro w2 hown2 hgrow2)
    go_roundw
    case rel => exact ⟨k + 1, _, hlt, by go_num, hown2, HP.out, (hb.alloc hsz _).grown hgrow2 (by simp; omega) (fun j hj => by cases hj; exact hlo)⟩
    case measure => simp [intOf]; omega
  · have hkl : k = l.length := by omega
    subst hkl
    have HP : Hid (LevMap (E.put (.int .i64 c) (.lit (.int .i64 n))) (fun d => if d = c then some n else levTo l l.length d)) := HE.out.put c n (fun _ => rfl)
    go_wp2_with (at_mapUpdate; refine wpList_mapUpdate_own _ rfl _ _ _ 98 rfl 3 3 lawInt Try.underlying98 _ w1.heap.size l.length _ rfl hm (by unfold maxLen; omega) _ _ _ rfl rfl hkeyc _ [] (plainElem_int Try.underlying3 wn) ?_; intro w2 hown2 hgrow2)
    have hb2 := hb.grown hgrow2 hsz (fun j hj => by cases hj; exact hlo)
    have hmade := Qgu w1.heap.size (l.length + 1) _ _ out w2 hown2 HP.out (by omega) HCN.out HAT.out
    clear hown2 hgrow2 hm
    go_wp2_with (go_at_call 62; refine hmade.mono ?_; rintro e5 w5 ⟨v5, rfl, hv5, hnew5, hw5⟩; have HNEW := hid hnew5; clear hnew5; obtain ⟨p5, c5, e5, _⟩ := id hv5; subst e5)
    all_goals
     have b5 := Qd hb2 hw5
     go_ret2
     refine ⟨_, _, rfl, ?_, b5⟩
     first
     | exact ⟨rfl, hv5, fun k hk => Nat.le_trans hb2.size (HNEW.out k hk)⟩
     | exact ⟨rfl, rfl⟩
     | (exfalso; omega)
end Go.Proofs.Ytpdijobakfpnbaa
