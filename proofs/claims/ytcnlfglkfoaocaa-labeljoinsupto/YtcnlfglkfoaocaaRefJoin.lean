/- parcloseref.Join and Meet answer the greater and the lesser of the levels of two labels, category by category. -/
import Derived.Test.YtcnlfglkfoaocaaMade
import Derived.Test.YtcnlfglkfoaocaaCombine
namespace Go.Proofs.Ytcnlfglkfoaocaa
open Go.RowKit Go.Proofs.Parclose Go.Maps

theorem at_wf {a : List (Int × Int)} (h : WfL a) (c : Int) : (Lit.int .i64 (atL a c)).wf = true := by
  induction a with
  | nil => rfl
  | cons x r ih =>
    simp only [atL]
    by_cases e : x.1 = c
    · rw [if_pos e]; exact (h x (by simp)).2
    · rw [if_neg e]; exact ih (fun y hy => h y (by simp [hy]))
theorem max_wf {x y : Int} (hx : (Lit.int .i64 x).wf = true) (hy : (Lit.int .i64 y).wf = true) : (Lit.int .i64 (max x y)).wf = true := by
  rcases Int.le_total x y with h | h
  · rw [Int.max_eq_right h]; exact hy
  · rw [Int.max_eq_left h]; exact hx
theorem min_wf {x y : Int} (hx : (Lit.int .i64 x).wf = true) (hy : (Lit.int .i64 y).wf = true) : (Lit.int .i64 (min x y)).wf = true := by
  rcases Int.le_total x y with h | h
  · rw [Int.min_eq_left h]; exact hx
  · rw [Int.min_eq_right h]; exact hy

theorem levMap_nil : LevMap (.map []) (fun _ => none) := ⟨isMap_empty, fun kl => by simp [Maps.has], fun c n h => by cases h⟩

theorem LevMap.put {D : DataW Unit} {lev lev' : Int → Option Int} (h : LevMap D lev) (x v : Int) (hl : ∀ c, lev' c = if c = x then some v else lev c) : LevMap (D.put (.int .i64 x) (.lit (.int .i64 v))) lev' := by
  refine ⟨h.map.put _ _, fun kl => ?_, fun c n hn z => ?_⟩
  · by_cases e : kl = .int .i64 x
    · subst e
      rw [has_put_same (k := .int .i64 x) h.map trivial]
      exact ⟨fun _ => ⟨x, v, rfl, by rw [hl, if_pos rfl]⟩, fun _ => rfl⟩
    · rw [has_put_other e, h.has kl]
      constructor
      · rintro ⟨c, n, rfl, h2⟩
        refine ⟨c, n, rfl, ?_⟩
        rw [hl, if_neg (fun e2 => e (by rw [e2]))]
        exact h2
      · rintro ⟨c, n, rfl, h2⟩
        refine ⟨c, n, rfl, ?_⟩
        rw [hl, if_neg (fun e2 => e (by rw [e2]))] at h2
        exact h2
  · rw [hl] at hn
    by_cases e : c = x
    · subst e
      rw [if_pos rfl] at hn
      cases hn
      exact atKey_put_same (k := .int .i64 c) h.map trivial _ z
    · rw [if_neg e] at hn
      rw [atKey_put_other (by simpa using e)]
      exact h.at_ c n hn z

theorem LevMap.congr {D : DataW Unit} {lev lev' : Int → Option Int} (h : LevMap D lev) (e : ∀ c, lev' c = lev c) : LevMap D lev' := by
  have : lev' = lev := funext e
  rw [this]; exact h

/-- the levels of those names that have come -/
def levOf (f : Int → Int → Int) (a b : List (Int × Int)) (nm : List Int) (left : Lit → Bool) (c : Int) : Option Int := if nm.contains c && !left (.int .i64 c) then some (f (atL a c) (atL b c)) else none

theorem levOf_step (f : Int → Int → Int) (a b : List (Int × Int)) (nm : List Int) (left : Lit → Bool) (x : Int) (hx : x ∈ nm) (c : Int) :
    levOf f a b nm (fun z => left z && !z.sameKey (.int .i64 x)) c = if c = x then some (f (atL a x) (atL b x)) else levOf f a b nm left c := by
  unfold levOf
  by_cases e : c = x
  · subst e
    have : (Lit.int .i64 c).sameKey (.int .i64 c) = true := by simp [Lit.sameKey]
    simp [this, hx]
  · have : (Lit.int .i64 c).sameKey (.int .i64 x) = false := sameKey_ne (by simpa using e)
    simp [this, e]

theorem levOf_end (f : Int → Int → Int) (hf : f 1 1 = 1) (a b : List (Int × Int)) (left : Lit → Bool) (hl : ∀ kl, left kl = false) (c : Int) :
    atL (combL f a b) c = (levOf f a b ([a, b].flatMap fun l => l.map (·.1)) left c).getD 1 := by
  rw [atL_combL f hf]
  unfold levOf
  rw [hl]
  by_cases h : c ∈ ([a, b].flatMap fun l => l.map (·.1))
  · rw [List.contains_iff_mem.2 h]; rfl
  · have h2 : ([a, b].flatMap fun l => l.map (·.1)).contains c = false := by simpa using h
    rw [h2]
    simp only [List.flatMap_cons, List.flatMap_nil, List.append_nil, List.mem_append, not_or] at h
    rw [atL_not_mem h.1, atL_not_mem h.2, hf]
    rfl

set_option maxHeartbeats 2000000 in
theorem rjoin_any (va vb : Value) (a b : List (Int × Int)) (w : World) (ha : LabAt w va a) (hb : LabAt w vb b) (hwa : WfL a) (hwb : WfL b) (hla : a.length + b.length ≤ 4194304) :
    Calls Try.prog 23 #[va, vb] w fun e w' => ∃ v, e = .returned v ∧ LabAt w' v (combL max a b) ∧ Below w.heap.size w w' := by
  obtain ⟨pa, ca, hva, _⟩ := id ha
  obtain ⟨pb, cb, hvb, _⟩ := id hb
  subst hva
  subst hvb
  have hal0 := (Below.refl w.heap.size w).alloc (Nat.le_refl _) (.map #[] 0)
  have hls := two_labels (ha.below hal0) (hb.below hal0)
  have hal1 := (Below.refl (w.alloc (.map #[] 0)).heap.size (w.alloc (.map #[] 0))).alloc (Nat.le_refl _) (.cells #[.slice pa a.length ca, .slice pb b.length cb] 23)
  have hB1 := below_then hal0 hal1
  have hnames := rnames_any _ _ _ hls (by simp) (by
    intro l hl
    simp only [List.mem_cons, List.not_mem_nil, or_false] at hl
    rcases hl with rfl | rfl
    · exact hwa
    · exact hwb)
  simp only [World.size_alloc] at hnames
  rw [show w.heap.size + 1 + 1 = w.heap.size + 2 from rfl] at hnames
  have hm0 : (w.alloc (.map #[] 0)).ownsMap Try.prog 3 (plainElem (H := Unit) Try.prog 3) w.heap.size 0 (.map []) := World.ownsMap_made _ _ _ _
  have hm1 := hm0.kept (grown_of_below hal1) (by simp)
  have HNM : Hid (([a, b].flatMap fun l => l.map (·.1)).length = a.length + b.length) := by show _ = _; simp
  have HLE : Hid (∀ left : Lit → Bool, (∀ kl, left kl = false) → ∀ c, atL (combL max a b) c = (levOf max a b ([a, b].flatMap fun l => l.map (·.1)) left c).getD 1) := fun left hl c => levOf_end max rfl a b left hl c
  have HCN : Hid (canonL (combL max a b)) := canon_combL max a b
  have HWF : Hid (∀ c, (Lit.int .i64 (max (atL a c) (atL b c))).wf = true) := fun c => max_wf (at_wf hwa c) (at_wf hwb c)
  generalize ([a, b].flatMap fun l => l.map (·.1)) = nm at *
  have hmm := @run_makeMap Try.prog
  clear hal0 hal1 hls hm0
  go_enter Try.func23, Try.ntmps23
  go_wp2_with (first
    | (go_at_call 31; refine hnames.mono ?_; rintro e w1 ⟨n, D, rfl, hne, hown, hD, hw1⟩; have HNE : Hid (n = nm.length) := hne; clear hne)
    | (at_range; refine wpList_range_own _ rfl _ 44 rfl 3 4 lawInt Try.underlying44 _ _ n D rfl hown ?_; intro w2 hrg0 hg0 hs0))
  go_frame
  have hw1' : Below ((w.alloc (.map #[] 0)).alloc (.cells #[.slice pa a.length ca, .slice pb b.length cb] 23)).heap.size ((w.alloc (.map #[] 0)).alloc (.cells #[.slice pa a.length ca, .slice pb b.length cb] 23)) w1 := by simpa using hw1
  have hB2a := below_then hB1 hw1'
  have hB2 : Below w.heap.size w w2 := below_then hB2a ⟨hg0.os, hg0.tape, hg0.output, hg0.size, fun k hk => hg0.block k hk (by simp)⟩
  have hm2 := (hm1.kept (grown_of_below hw1') (by simp)).kept hg0 (by simp)
  have hsz := size_le hown
  have hrlo : w.heap.size + 2 < w1.heap.size := hown.lt
  have HD : Hid (∀ kl, Maps.has D kl = true ↔ ∃ c ∈ nm, kl = .int .i64 c) := hD.2
  generalize hr : w1.heap.size = r at *
  have HR : Hid (w.heap.size + 2 < r) := hrlo
  clear hnames hw1 hw1' hown hg0 hs0 hD hB2a hm1 hB1 hr hrlo
  go_loopw [6] (fun _ wr => ∃ (left : Lit → Bool) (cnt e : Nat) (E : DataW Unit), wr.ranges Try.prog 3 (plainElem (H := Unit) Try.prog 4) (w.heap.size + 2) r n D left cnt ∧ wr.ownsMap Try.prog 3 (plainElem (H := Unit) Try.prog 3) w.heap.size e E ∧ LevMap E (levOf max a b nm left) ∧ e + cnt ≤ n ∧ Below w.heap.size w wr)
    (fun _ wr => wr.rangeLeft (w.heap.size + 2) r)
  case atStart =>
    refine ⟨_, _, 0, _, hrg0, hm2, levMap_nil.congr (fun c => ?_), by omega, hB2⟩
    unfold levOf
    by_cases h : c ∈ nm
    · have := (HD.out (.int .i64 c)).2 ⟨c, h, rfl⟩
      simp [this]
    · simp [h]
  case round =>
    obtain ⟨left, cnt, e, E, hrg, hmE, hE, hcnt, hnx⟩ := hrel
    have HE : Hid (LevMap E (levOf max a b nm left)) := hE
    clear hE hrg0 hB2 hm2
    go_wp2_with (at_next; refine wpList_next_ranges _ rfl _ rfl 3 lawInt (plainElem (H := Unit) Try.prog 4) (Value.int .i64) (fun u : Value => u) (fun key kl hkey => by obtain ⟨x, rfl, _⟩ := Maps.keyOf_int_inv Try.underlying3 hkey; exact ⟨x, rfl⟩) (fun u y _ => ⟨u, rfl⟩) (w.heap.size + 2) r n _ _ _ rfl hrg ?_ ?_)
    · intro _ hl0
      have hn4 : n ≤ 4194304 := by rw [HNE.out, HNM.out]; exact hla
      have hmade := made_any w.heap.size e E _ (combL max a b) wr hmE HE.out (by omega) HCN.out (HLE.out left hl0)
      clear hn4
      go_wp2_with (go_at_call 37; refine hmade.mono ?_; rintro e5 w5 ⟨v5, rfl, hv5, hw5⟩)
      go_ret
      exact ⟨_, rfl, hv5, below_then hnx hw5⟩
    · intro x cc kl yd yp w3 cnt3 hkey hlk hv3 hat hrg3 hlt3 hg3 hs3 hen
      obtain ⟨x', ex, rfl, hwx⟩ := Maps.keyOf_int_inv Try.underlying3 hkey
      cases ex
      have hxn : x ∈ nm := by
        obtain ⟨c, hc, e⟩ := (HD.out (.int .i64 x)).1 (has_true_of_atKey hat)
        cases e
        exact hc
      have hrw : w.heap.size ≤ r := by have := HR.out; omega
      have hnx3 : Below w.heap.size w w3 := hnx.grown hg3 hnx.size (fun k hk => by cases hk; exact hrw)
      have hmE3 := hmE.kept hg3 (by intro e; cases e; have := HR.out; omega)
      have HP : Hid (∀ v, v = max (atL a x) (atL b x) → LevMap (E.put (.int .i64 x) (.lit (.int .i64 v))) (levOf max a b nm (fun z => left z && !z.sameKey (.int .i64 x)))) := fun v hv => by
        subst hv
        exact HE.out.put x _ (levOf_step max a b nm left x hxn)
      have HL : Hid (cnt3 < cnt) := hlt3
      have HEQ : Hid (wr.rangeLeft (w.heap.size + 2) r = cnt) := hrg.left_eq
      have HG3 : Hid (w3.ranges Try.prog 3 (plainElem (H := Unit) Try.prog 4) (w.heap.size + 2) r n D (fun z => left z && !z.sameKey (.int .i64 x)) cnt3) := hrg3
      have HWX := HWF.out x
      have ha3 := ha.below hnx3
      have hb3 := hb.below hnx3
      clear hlk hv3 hat hrg3 hlt3 hg3 hs3 hrg hnx hmE hxn hrw
      have hA := rat_any _ a x w3 ha3
      go_wp2_with fail
      refine hA.mono ?_
      rintro e5 w5 ⟨rfl, hw5⟩
      go_wp2_with fail
      refine (rat_any _ b x w5 (hb3.below hw5)).mono ?_
      rintro e6 w6 ⟨rfl, hw6⟩
      have hw56 := below_then hw5 hw6
      have hm6 := hmE3.kept (grown_of_below hw56) (by simp)
      have hnx6 := below_then hnx3 hw56
      have HG6 : Hid (w6.ranges Try.prog 3 (plainElem (H := Unit) Try.prog 4) (w.heap.size + 2) r n D (fun z => left z && !z.sameKey (.int .i64 x)) cnt3) := HG3.out.kept (grown_of_below hw56) (by simp) (by simp)
      clear hA hw5 hw6 hw56 hmE3 ha3 hb3 HG3 hnx3
      generalize atL a x = ax at *
      generalize atL b x = bx at *
      go_wp2_with (at_mapUpdate; refine wpList_mapUpdate_own _ rfl _ _ _ 50 rfl 3 3 lawInt Try.underlying50 _ w.heap.size e _ rfl hm6 (by unfold maxLen; have := HNE.out; have := HNM.out; omega) _ _ _ rfl rfl hkey _ [] (plainElem_int Try.underlying3 HWX) ?_; intro w7 hown7 hgrow7)
      go_frame
      go_roundw
      case rel => exact ⟨_, cnt3, e + 1, _, HG6.out.kept hgrow7 (by intro e; have := Option.some.inj e; omega) (by intro e; have := Option.some.inj e; have := HR.out; omega), hown7, HP.out _ rfl, by have := HL.out; omega, hnx6.grown hgrow7 hnx6.size (fun k hk => by cases hk; exact Nat.le_refl _)⟩
      case measure =>
        rw [(HG6.out.kept hgrow7 (by intro e; have := Option.some.inj e; omega) (by intro e; have := Option.some.inj e; have := HR.out; omega)).left_eq, HEQ.out]
        exact HL.out

set_option maxHeartbeats 2000000 in
theorem rmeet_any (va vb : Value) (a b : List (Int × Int)) (w : World) (ha : LabAt w va a) (hb : LabAt w vb b) (hwa : WfL a) (hwb : WfL b) (hla : a.length + b.length ≤ 4194304) :
    Calls Try.prog 25 #[va, vb] w fun e w' => ∃ v, e = .returned v ∧ LabAt w' v (combL min a b) ∧ Below w.heap.size w w' := by
  obtain ⟨pa, ca, hva, _⟩ := id ha
  obtain ⟨pb, cb, hvb, _⟩ := id hb
  subst hva
  subst hvb
  have hal0 := (Below.refl w.heap.size w).alloc (Nat.le_refl _) (.map #[] 0)
  have hls := two_labels (ha.below hal0) (hb.below hal0)
  have hal1 := (Below.refl (w.alloc (.map #[] 0)).heap.size (w.alloc (.map #[] 0))).alloc (Nat.le_refl _) (.cells #[.slice pa a.length ca, .slice pb b.length cb] 23)
  have hB1 := below_then hal0 hal1
  have hnames := rnames_any _ _ _ hls (by simp) (by
    intro l hl
    simp only [List.mem_cons, List.not_mem_nil, or_false] at hl
    rcases hl with rfl | rfl
    · exact hwa
    · exact hwb)
  simp only [World.size_alloc] at hnames
  rw [show w.heap.size + 1 + 1 = w.heap.size + 2 from rfl] at hnames
  have hm0 : (w.alloc (.map #[] 0)).ownsMap Try.prog 3 (plainElem (H := Unit) Try.prog 3) w.heap.size 0 (.map []) := World.ownsMap_made _ _ _ _
  have hm1 := hm0.kept (grown_of_below hal1) (by simp)
  have HNM : Hid (([a, b].flatMap fun l => l.map (·.1)).length = a.length + b.length) := by show _ = _; simp
  have HLE : Hid (∀ left : Lit → Bool, (∀ kl, left kl = false) → ∀ c, atL (combL min a b) c = (levOf min a b ([a, b].flatMap fun l => l.map (·.1)) left c).getD 1) := fun left hl c => levOf_end min rfl a b left hl c
  have HCN : Hid (canonL (combL min a b)) := canon_combL min a b
  have HWF : Hid (∀ c, (Lit.int .i64 (min (atL a c) (atL b c))).wf = true) := fun c => min_wf (at_wf hwa c) (at_wf hwb c)
  generalize ([a, b].flatMap fun l => l.map (·.1)) = nm at *
  have hmm := @run_makeMap Try.prog
  clear hal0 hal1 hls hm0
  go_enter Try.func25, Try.ntmps25
  go_wp2_with (first
    | (go_at_call 31; refine hnames.mono ?_; rintro e w1 ⟨n, D, rfl, hne, hown, hD, hw1⟩; have HNE : Hid (n = nm.length) := hne; clear hne)
    | (at_range; refine wpList_range_own _ rfl _ 44 rfl 3 4 lawInt Try.underlying44 _ _ n D rfl hown ?_; intro w2 hrg0 hg0 hs0))
  go_frame
  have hw1' : Below ((w.alloc (.map #[] 0)).alloc (.cells #[.slice pa a.length ca, .slice pb b.length cb] 23)).heap.size ((w.alloc (.map #[] 0)).alloc (.cells #[.slice pa a.length ca, .slice pb b.length cb] 23)) w1 := by simpa using hw1
  have hB2a := below_then hB1 hw1'
  have hB2 : Below w.heap.size w w2 := below_then hB2a ⟨hg0.os, hg0.tape, hg0.output, hg0.size, fun k hk => hg0.block k hk (by simp)⟩
  have hm2 := (hm1.kept (grown_of_below hw1') (by simp)).kept hg0 (by simp)
  have hsz := size_le hown
  have hrlo : w.heap.size + 2 < w1.heap.size := hown.lt
  have HD : Hid (∀ kl, Maps.has D kl = true ↔ ∃ c ∈ nm, kl = .int .i64 c) := hD.2
  generalize hr : w1.heap.size = r at *
  have HR : Hid (w.heap.size + 2 < r) := hrlo
  clear hnames hw1 hw1' hown hg0 hs0 hD hB2a hm1 hB1 hr hrlo
  go_loopw [6] (fun _ wr => ∃ (left : Lit → Bool) (cnt e : Nat) (E : DataW Unit), wr.ranges Try.prog 3 (plainElem (H := Unit) Try.prog 4) (w.heap.size + 2) r n D left cnt ∧ wr.ownsMap Try.prog 3 (plainElem (H := Unit) Try.prog 3) w.heap.size e E ∧ LevMap E (levOf min a b nm left) ∧ e + cnt ≤ n ∧ Below w.heap.size w wr)
    (fun _ wr => wr.rangeLeft (w.heap.size + 2) r)
  case atStart =>
    refine ⟨_, _, 0, _, hrg0, hm2, levMap_nil.congr (fun c => ?_), by omega, hB2⟩
    unfold levOf
    by_cases h : c ∈ nm
    · have := (HD.out (.int .i64 c)).2 ⟨c, h, rfl⟩
      simp [this]
    · simp [h]
  case round =>
    obtain ⟨left, cnt, e, E, hrg, hmE, hE, hcnt, hnx⟩ := hrel
    have HE : Hid (LevMap E (levOf min a b nm left)) := hE
    clear hE hrg0 hB2 hm2
    go_wp2_with (at_next; refine wpList_next_ranges _ rfl _ rfl 3 lawInt (plainElem (H := Unit) Try.prog 4) (Value.int .i64) (fun u : Value => u) (fun key kl hkey => by obtain ⟨x, rfl, _⟩ := Maps.keyOf_int_inv Try.underlying3 hkey; exact ⟨x, rfl⟩) (fun u y _ => ⟨u, rfl⟩) (w.heap.size + 2) r n _ _ _ rfl hrg ?_ ?_)
    · intro _ hl0
      have hn4 : n ≤ 4194304 := by rw [HNE.out, HNM.out]; exact hla
      have hmade := made_any w.heap.size e E _ (combL min a b) wr hmE HE.out (by omega) HCN.out (HLE.out left hl0)
      clear hn4
      go_wp2_with (go_at_call 37; refine hmade.mono ?_; rintro e5 w5 ⟨v5, rfl, hv5, hw5⟩)
      go_ret
      exact ⟨_, rfl, hv5, below_then hnx hw5⟩
    · intro x cc kl yd yp w3 cnt3 hkey hlk hv3 hat hrg3 hlt3 hg3 hs3 hen
      obtain ⟨x', ex, rfl, hwx⟩ := Maps.keyOf_int_inv Try.underlying3 hkey
      cases ex
      have hxn : x ∈ nm := by
        obtain ⟨c, hc, e⟩ := (HD.out (.int .i64 x)).1 (has_true_of_atKey hat)
        cases e
        exact hc
      have hrw : w.heap.size ≤ r := by have := HR.out; omega
      have hnx3 : Below w.heap.size w w3 := hnx.grown hg3 hnx.size (fun k hk => by cases hk; exact hrw)
      have hmE3 := hmE.kept hg3 (by intro e; cases e; have := HR.out; omega)
      have HP : Hid (∀ v, v = min (atL a x) (atL b x) → LevMap (E.put (.int .i64 x) (.lit (.int .i64 v))) (levOf min a b nm (fun z => left z && !z.sameKey (.int .i64 x)))) := fun v hv => by
        subst hv
        exact HE.out.put x _ (levOf_step min a b nm left x hxn)
      have HL : Hid (cnt3 < cnt) := hlt3
      have HEQ : Hid (wr.rangeLeft (w.heap.size + 2) r = cnt) := hrg.left_eq
      have HG3 : Hid (w3.ranges Try.prog 3 (plainElem (H := Unit) Try.prog 4) (w.heap.size + 2) r n D (fun z => left z && !z.sameKey (.int .i64 x)) cnt3) := hrg3
      have HWX := HWF.out x
      have ha3 := ha.below hnx3
      have hb3 := hb.below hnx3
      clear hlk hv3 hat hrg3 hlt3 hg3 hs3 hrg hnx hmE hxn hrw
      have hA := rat_any _ a x w3 ha3
      go_wp2_with fail
      refine hA.mono ?_
      rintro e5 w5 ⟨rfl, hw5⟩
      go_wp2_with fail
      refine (rat_any _ b x w5 (hb3.below hw5)).mono ?_
      rintro e6 w6 ⟨rfl, hw6⟩
      have hw56 := below_then hw5 hw6
      have hm6 := hmE3.kept (grown_of_below hw56) (by simp)
      have hnx6 := below_then hnx3 hw56
      have HG6 : Hid (w6.ranges Try.prog 3 (plainElem (H := Unit) Try.prog 4) (w.heap.size + 2) r n D (fun z => left z && !z.sameKey (.int .i64 x)) cnt3) := HG3.out.kept (grown_of_below hw56) (by simp) (by simp)
      clear hA hw5 hw6 hw56 hmE3 ha3 hb3 HG3 hnx3
      generalize atL a x = ax at *
      generalize atL b x = bx at *
      go_wp2_with (at_mapUpdate; refine wpList_mapUpdate_own _ rfl _ _ _ 50 rfl 3 3 lawInt Try.underlying50 _ w.heap.size e _ rfl hm6 (by unfold maxLen; have := HNE.out; have := HNM.out; omega) _ _ _ rfl rfl hkey _ [] (plainElem_int Try.underlying3 HWX) ?_; intro w7 hown7 hgrow7)
      go_frame
      go_roundw
      case rel => exact ⟨_, cnt3, e + 1, _, HG6.out.kept hgrow7 (by intro e; have := Option.some.inj e; omega) (by intro e; have := Option.some.inj e; have := HR.out; omega), hown7, HP.out _ rfl, by have := HL.out; omega, hnx6.grown hgrow7 hnx6.size (fun k hk => by cases hk; exact Nat.le_refl _)⟩
      case measure =>
        rw [(HG6.out.kept hgrow7 (by intro e; have := Option.some.inj e; omega) (by intro e; have := Option.some.inj e; have := HR.out; omega)).left_eq, HEQ.out]
        exact HL.out

end Go.Proofs.Ytcnlfglkfoaocaa
