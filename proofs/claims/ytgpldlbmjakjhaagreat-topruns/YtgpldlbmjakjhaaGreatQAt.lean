/- label.At answers the level of a category in a label, and turns nothing that was there. -/
import Derived.Test.YtgpldlbmjakjhaaGreatQPlain
import Derived.Test.YtgpldlbmjakjhaaGreatQTTrusted
import Derived.Test.YtgpldlbmjakjhaaGreatQCat
import Derived.Test.YtgpldlbmjakjhaaGreatQPlainWire
import Derived.Laws.AppendOwnNone
namespace Go.Proofs.YtgpldlbmjakjhaaGreat
open Go.RowKit Go.Proofs.Parclose

set_option maxHeartbeats 400000 in
theorem at_any (v : Value) (l : List (Int × Int)) (c : Int) (w : World) (hv : LabAt w v l) :
    Calls Tryz.prog 52 #[v, .int .i64 c] w fun e w' => e = .returned (.int .i64 (atL l c)) ∧ Below w.heap.size w w' := by
  obtain ⟨p, cap, rfl, hlc, hcap, hcells⟩ := hv
  go_enter Tryz.func52, Tryz.ntmps52
  go_wp2
  go_loopw [9] (fun i wr => ∃ k : Nat, k ≤ l.length ∧ i = .int .i64 k ∧ (∀ j (hj : j < k) (hj' : j < l.length), l[j].1 ≠ c) ∧ Below w.heap.size w wr) (fun i _ => l.length - (intOf i).toNat)
  case atStart => exact ⟨0, Nat.zero_le _, rfl, fun j hj => absurd hj (Nat.not_lt_zero _), Below.refl _ _⟩
  case round =>
    obtain ⟨k, hk, rfl, hno, hb⟩ := hrel
    by_cases hlt : k < l.length
    · obtain ⟨b, o, rfl, hc⟩ := hcells (by omega)
      obtain ⟨hc1, hc2⟩ := (hc.below hb) k hlt
      have hsz := hb.size
      have HN : Hid (∀ j (hj : j < k) (hj' : j < l.length), l[j].1 ≠ c) := hno
      clear hno hcells
      by_cases heq : l[k].1 = c
      · have he : (l[k].1 == c) = true := by simpa using heq
        have HE := atL_some l c k hlt (fun j hj => HN.out j hj (by omega)) heq
        have HH : Hid (atL l c = l[k].2) := HE
        clear HE heq
        go_wp2
        go_ret
        exact ⟨ret_int HH.out.symm, hb.alloc hsz _⟩
      · have he : (l[k].1 == c) = false := by simpa using heq
        have HH : Hid (l[k].1 ≠ c) := heq
        clear heq
        go_wp2
        go_roundw
        case rel => exact ⟨k + 1, hlt, by go_num, fun j hj hj' => by
          by_cases e : j = k
          · subst e; exact HH.out
          · exact HN.out j (by omega) hj', hb.alloc hsz _⟩
        case measure => simp [intOf]; omega
    · go_wp2
      go_ret
      have e : atL l c = 1 := atL_none l c fun j hj => hno j (by omega) hj
      exact ⟨ret_int e.symm, hb⟩
end Go.Proofs.YtgpldlbmjakjhaaGreat

namespace Go.Proofs.YtgpldlbmjakjhaaGreat
open Go.RowKit Go.Proofs.Parclose

theorem contains_any (v : Value) (zs : List Int) (c : Int) (w : World) (hv : IntsAt w v zs) :
    Calls Tryz.prog 53 #[v, .int .i64 c] w fun e w' => e = .returned (.bool (hasB zs c)) ∧ w' = w := by
  obtain ⟨p, cap, rfl, hlc, hcap, hcells⟩ := hv
  by_cases h0 : 0 < zs.length
  · obtain ⟨b, o, rfl, hc⟩ := hcells h0
    refine (Tryz.slices_Contains_int b o zs.length cap zs c w (Nat.le_refl _) (by omega) ?_).mono ?_
    · intro j hj
      rw [hc j hj]
      simp [List.getD, hj]
    · rintro e w' ⟨rfl, rfl⟩
      exact ⟨ret_bool (by rw [List.take_length]; rfl), rfl⟩
  · have hz : zs = [] := List.length_eq_zero_iff.1 (by omega)
    subst hz
    refine (Tryz.slices_Contains_int_empty p cap c w).mono ?_
    rintro e w' ⟨rfl, rfl⟩
    exact ⟨rfl, rfl⟩

set_option maxHeartbeats 1000000 in
theorem flows_any (va vb vo : Value) (a b : List (Int × Int)) (own : List Int) (w : World) (ha : LabAt w va a) (hb : LabAt w vb b) (ho : IntsAt w vo own) :
    Calls Tryz.prog 23 #[va, vb, vo] w fun e w' => e = .returned (.bool (flowsL a b own)) ∧ Below w.heap.size w w' := by
  go_enter Tryz.func23, Tryz.ntmps23
  go_wp2_with (go_at_call 51; refine (named_any _ _ a b _ ha hb).mono ?_; rintro e w1 ⟨v, rfl, ⟨p, cap, rfl, hlc, hcap, hcells⟩, hw1⟩)
  have HF : Hid (∀ j (hj : j < (catsL a b).length), atL b (catsL a b)[j] < atL a (catsL a b)[j] → hasB own (catsL a b)[j] = false → flowsL a b own = false) := fun j hj h1 h2 => flowsL_false_of h1 h2
  have HT : Hid ((∀ j (hj : j < (catsL a b).length), atL a (catsL a b)[j] ≤ atL b (catsL a b)[j] ∨ hasB own (catsL a b)[j] = true) → flowsL a b own = true) := flowsL_true_of
  generalize hres : flowsL a b own = res at *
  have HR : Hid (flowsL a b own = res) := hres
  clear hres
  generalize catsL a b = cs at *
  go_loopw [13] (fun i wr => ∃ k : Nat, k ≤ cs.length ∧ i = .int .i64 k ∧ (∀ j (hj : j < k) (hj' : j < cs.length), atL a cs[j] ≤ atL b cs[j] ∨ hasB own cs[j] = true) ∧ Below w1.heap.size w1 wr) (fun i _ => cs.length - (intOf i).toNat)
  case atStart => exact ⟨0, Nat.zero_le _, rfl, fun j hj => absurd hj (Nat.not_lt_zero _), Below.refl _ _⟩
  case round =>
    obtain ⟨k, hk, rfl, hok, hbr⟩ := hrel
    have HO : Hid (∀ j (hj : j < k) (hj' : j < cs.length), atL a cs[j] ≤ atL b cs[j] ∨ hasB own cs[j] = true) := hok
    clear hok
    have hwr := below_then hw1 hbr
    by_cases hlt : k < cs.length
    · obtain ⟨bn, on, rfl, hc⟩ := hcells (by omega)
      have hck := (hc.below hbr) k hlt
      clear hcells hc
      have ha1 := ha.below hwr
      have hb1 := hb.below hwr
      have ho1 := ho.below hwr
      go_wp2_with fail
      refine (at_any va a _ _ ha1).mono ?_
      rintro e w2 ⟨rfl, hw2⟩
      have hb2 := hb1.below hw2
      go_wp2_with fail
      refine (at_any vb b _ _ hb2).mono ?_
      rintro e w3 ⟨rfl, hw3⟩
      have ho3 := (ho1.below hw2).below hw3
      have hr3 := below_then (below_then hbr hw2) hw3
      have HC : Hid (atL b cs[k] < atL a cs[k] → hasB own cs[k] = false → res = false) := HF.out k hlt
      clear ha1 hb1 ho1 hb2
      generalize hat : atL a cs[k] = x at *
      generalize hbt : atL b cs[k] = y at *
      generalize hct : hasB own cs[k] = z at *
      have HA : Hid (atL a cs[k] = x ∧ atL b cs[k] = y ∧ hasB own cs[k] = z) := ⟨hat, hbt, hct⟩
      clear hat hbt
      by_cases hyx : y < x
      · cases z with
        | true =>
          go_wp2_with (go_at_call 53; refine (contains_any vo own _ _ ho3).mono ?_; rintro e w4 ⟨rfl, rfl⟩; rw [hct])
          go_roundw
          case rel => exact ⟨k + 1, hlt, by go_num, fun j hj hj' => by
            by_cases e : j = k
            · subst e; exact Or.inr HA.out.2.2
            · exact HO.out j (by omega) hj', hr3⟩
          case measure => simp [intOf]; omega
        | false =>
          go_wp2_with (go_at_call 53; refine (contains_any vo own _ _ ho3).mono ?_; rintro e w4 ⟨rfl, rfl⟩; rw [hct])
          go_ret
          exact ⟨ret_bool ((HC.out hyx (by first | rfl | trivial)).symm.trans HR.out.symm), below_then hw1 hr3⟩
      · go_wp2
        go_roundw
        case rel => exact ⟨k + 1, hlt, by go_num, fun j hj hj' => by
          by_cases e : j = k
          · subst e; exact Or.inl (by rw [HA.out.1, HA.out.2.1]; omega)
          · exact HO.out j (by omega) hj', hr3⟩
        case measure => simp [intOf]; omega
    · go_wp2
      go_ret
      exact ⟨ret_bool ((HT.out fun j hj => HO.out j (by omega) hj).symm.trans HR.out.symm), hwr⟩
end Go.Proofs.YtgpldlbmjakjhaaGreat

namespace Go.Proofs.YtgpldlbmjakjhaaGreat
open Go.RowKit Go.Proofs.Parclose

end Go.Proofs.YtgpldlbmjakjhaaGreat

namespace Go.Proofs.YtgpldlbmjakjhaaGreat
open Go.RowKit Go.Proofs.Parclose

/-- the cells of a label -/
def flat (l : List (Int × Int)) : List Value := l.flatMap fun x => [.int .i64 x.1, .int .i64 x.2]

theorem flat_length (l : List (Int × Int)) : (flat l).length = l.length * 2 := by
  induction l with
  | nil => rfl
  | cons x r ih =>
    have e : flat (x :: r) = .int .i64 x.1 :: .int .i64 x.2 :: flat r := rfl
    rw [e]
    simp only [List.length_cons, ih]
    omega

theorem flat_get (l : List (Int × Int)) (i : Nat) (hi : i < l.length) : (flat l)[i * 2]? = some (.int .i64 l[i].1) ∧ (flat l)[i * 2 + 1]? = some (.int .i64 l[i].2) := by
  induction l generalizing i with
  | nil => simp at hi
  | cons x r ih =>
    have e : flat (x :: r) = .int .i64 x.1 :: .int .i64 x.2 :: flat r := rfl
    cases i with
    | zero => rw [e]; exact ⟨rfl, rfl⟩
    | succ i =>
      obtain ⟨h1, h2⟩ := ih i (by simpa using hi)
      rw [e, show (i + 1) * 2 = i * 2 + 1 + 1 by omega]
      simp only [List.getElem?_cons_succ, List.getElem_cons_succ]
      exact ⟨h1, h2⟩

theorem flat_append (a b : List (Int × Int)) : flat (a ++ b) = flat a ++ flat b := by simp [flat]

theorem flat_one (l : List (Int × Int)) : ∀ u ∈ flat l, u.oneCell' = true := by
  intro u hu
  obtain ⟨x, _, hx⟩ := List.mem_flatMap.1 hu
  simp at hx
  rcases hx with rfl | rfl <;> rfl

theorem flat_cells {w : World} {b o : Nat} {l : List (Int × Int)} (h : Cells2 w b o l) : ∀ j u, (flat l)[j]? = some u → w.cell? ((⟨b, o, none⟩ : Addr).add j) = some u := by
  intro j u hu
  have hj : j < l.length * 2 := by
    have := (List.getElem?_eq_some_iff.1 hu).1
    rwa [flat_length] at this
  obtain ⟨h1, h2⟩ := h (j / 2) (by omega)
  obtain ⟨g1, g2⟩ := flat_get l (j / 2) (by omega)
  rw [WideShapes.add_plain]
  by_cases hp : j % 2 = 0
  · have e : j = j / 2 * 2 := by omega
    rw [e] at hu ⊢
    rw [g1] at hu
    rw [h1, ← hu]
  · have e : j = j / 2 * 2 + 1 := by omega
    rw [e] at hu ⊢
    rw [g2] at hu
    rw [← Nat.add_assoc, h2, ← hu]

/-- what a slice of its own owns is a label -/
theorem lab_of_row {w : World} {base : Nat} {v : Value} {n : Nat} {l : List (Int × Int)} (h : w.ownsRow base 74 2 v n (flat l)) (hl : l.length ≤ 8796093022208) : LabAt w v l := by
  have h0 := h
  obtain ⟨hlen, h⟩ := h
  rw [flat_length] at hlen
  have hn : n = l.length := by omega
  subst hn
  rcases h with ⟨rfl, h⟩ | ⟨g, cap, cur, rfl, hb, hh, h1, h2, h3, h4⟩
  · have : l = [] := List.length_eq_zero_iff.1 h
    subst this
    exact LabAt.nil w none 0 (fun _ => rfl)
  · refine ⟨_, cap, rfl, ⟨h1, fun h => by cases h⟩, hl, fun _ => ⟨g, 0, rfl, fun j hj => ?_⟩⟩
    obtain ⟨g1, g2⟩ := flat_get l j hj
    rw [← h4] at g1 g2
    rw [List.getElem?_take_of_lt (by omega)] at g1 g2
    simp only [World.cell?, hh, Nat.zero_add]
    exact ⟨by simpa using g1, by simpa using g2⟩

theorem ownsRow_base {w : World} {base : Nat} {e : TypeId} {size : Nat} {v : Value} {n : Nat} {xs : List Value} (h : w.ownsRow base e size v n xs) {k : Nat} (hk : v.ownBlock = some k) : base ≤ k := by
  rcases h.2 with ⟨rfl, _⟩ | ⟨g, cap, cur, rfl, hb, _⟩
  · cases hk
  · cases hk; exact hb

end Go.Proofs.YtgpldlbmjakjhaaGreat

namespace Go.Proofs.YtgpldlbmjakjhaaGreat
open Go.RowKit Go.Proofs.Parclose

/-- append of a label, nil or not, to a list of its own -/
theorem wpList_append_lab {w : World} {ops : Array Oper} {rest : List Oper} {o : Oper} {a : Act} {Q : Exit → Act → World → Prop} (hgd : o.guard = none) (s x : Operand)
    (ho : o.op = .call { callee := .builtin .append, args := #[s, x], argTypes := #[27, 27] }) (base : Nat) (v : Value) (n : Nat) (xs : List Value) (hs : a.eval s = v) (hown : w.ownsRow base 74 2 v n xs)
    (u : Value) (l : List (Int × Int)) (hx : a.eval x = u) (hu : LabAt w u l) (hn : n + l.length ≤ 8796093022208) (hbase : base ≤ w.heap.size)
    (h : ∀ v' w', w'.ownsRow base 74 2 v' (n + l.length) (xs ++ flat l) → w.grownBy w' v.ownBlock → wpList Tryz.prog ops Q rest (a.put o.dst v') w') : wpList Tryz.prog ops Q (o :: rest) a w := by
  obtain ⟨i0, hi, hz0, hz1, hz2⟩ := info_parts info_level
  obtain ⟨p, cap, rfl, hlc, hcap, hcells⟩ := hu
  cases p with
  | none =>
    have e : l = [] := by
      by_cases h0 : 0 < l.length
      · obtain ⟨b, o, e, _⟩ := hcells h0
        cases e
      · exact List.length_eq_zero_iff.1 (by omega)
    subst e
    have ec : cap = 0 := hlc.2 rfl
    subst ec
    exact wpList_append_own_none hgd s x 27 ho base 74 i0 2 Tryz.underlying27 hi v n xs hs hown hx (h v w (by simpa [flat] using hown) ⟨rfl, rfl, rfl, Nat.le_refl _, fun _ _ _ => rfl⟩)
  | some ad =>
    have hnews : ∀ j u, (flat l)[j]? = some u → w.cell? (ad.add j) = some u := by
      by_cases h0 : 0 < l.length
      · obtain ⟨b, o, e, hc⟩ := hcells h0
        cases e
        exact flat_cells hc
      · have e : l = [] := List.length_eq_zero_iff.1 (by omega)
        subst e
        intro j u hu
        simp [flat] at hu
    exact wpList_append_own w hgd s x 27 ho base 74 i0 _ 2 16 Tryz.underlying27 hi hz0 hz1 hz2 rfl (by decide) v n xs hs hown ad l.length cap (flat l) hx (flat_length l) hnews (flat_one l) (by unfold maxLen; omega) (by omega) hbase
      (fun v' w' h1 h2 _ => h v' w' h1 h2)

theorem zeroCells_size (z : Array Value) (n : Nat) : (Builtin.zeroCells z n).size = n * z.size := by
  unfold Builtin.zeroCells
  simp

theorem grow_any (n : Nat) (w : World) (hn : n ≤ 1000) :
    Calls Tryz.prog 162 #[.slice none 0 0, .int .i64 n] w fun e w' => ∃ v, e = .returned v ∧ w'.ownsRow w.heap.size 74 2 v 0 [] ∧ Below w.heap.size w w' := by
  obtain ⟨i0, hi, hz0, hz1, hz2⟩ := info_parts info_level
  by_cases h0 : n = 0
  · subst h0
    refine (Any8.slices_Grow_room Tryz.layGrow none 0 0 0 w (Nat.le_refl _) (by omega) (by omega) (by omega)).mono ?_
    rintro e w' ⟨rfl, rfl⟩
    exact ⟨_, rfl, World.ownsRow_nil _ _ _ _, Below.refl _ _⟩
  · refine (Any8.slices_Grow_grow Tryz.layGrow i0 _ hi hz0 (by omega) none 0 0 n [] w (Nat.le_refl _) (by omega) (by rw [hz2]; omega) (by omega) (by simp) (fun _ => rfl) (fun a h => by cases h)).mono ?_
    rintro e w' ⟨rfl, rfl⟩
    have hG := grownCap_ge w (0 + n) 0 74
    have hM := grownCap_le_maxLen w (0 + n) 0 74 (by unfold maxLen; omega)
    have hzc : (Value.agg #[.int .i64 0, .int .i64 0]).cells.size = 2 := rfl
    refine ⟨_, rfl, ⟨rfl, Or.inr ⟨w.heap.size, grownCap w (0 + n) 0 74, _, rfl, Nat.le_refl _, heap_alloc_new w.drew _, Nat.zero_le _, hM, ?_, by simp⟩⟩, (Below.refl _ w).drew.alloc (Nat.le_refl _) _⟩
    show ([].toArray ++ Builtin.zeroCells (Value.agg #[.int .i64 0, .int .i64 0]).cells (0 + n - 0) ++ Builtin.zeroCells (Value.agg #[.int .i64 0, .int .i64 0]).cells (grownCap w (0 + n) 0 74 - (0 + n))).size = _
    generalize grownCap w (0 + n) 0 74 = G at *
    simp only [Array.size_append, zeroCells_size, hzc]
    simp
    omega

theorem labs_elem {w : World} {b o : Nat} {ls : List (List (Int × Int))} (h : ∀ j (_ : j < ls.length), ∃ u, w.cell? ⟨b, o + j, none⟩ = some u ∧ LabAt w u ls[j]) (j : Nat) (hj : j < ls.length) {wr : World} (hb : Below w.heap.size w wr) :
    ∃ p cap, wr.cell? ⟨b, o + j, none⟩ = some (.slice p ls[j].length cap) ∧ LabAt wr (.slice p ls[j].length cap) ls[j] := by
  obtain ⟨u, h1, h2⟩ := h j hj
  have h3 := h2.below hb
  obtain ⟨p, cap, rfl, _⟩ := id h3
  exact ⟨p, cap, by rw [hb.cell (cell_block h1), h1], h3⟩

/-- how many levels the labels have in all -/
def flen (ls : List (List (Int × Int))) : Nat := ls.flatten.length

theorem flatten_take (ls : List (List (Int × Int))) (k : Nat) (hk : k < ls.length) : (ls.take (k + 1)).flatten = (ls.take k).flatten ++ ls[k] := by
  rw [List.take_succ_eq_append_getElem hk, List.flatten_append]; simp

theorem len_flatten_take {ls : List (List (Int × Int))} (h : ∀ l ∈ ls, l.length ≤ 9) (k : Nat) : (ls.take k).flatten.length ≤ k * 9 := by
  induction k with
  | zero => simp
  | succ k ih =>
    by_cases hk : k < ls.length
    · rw [flatten_take ls k hk, List.length_append]
      have := h ls[k] (List.getElem_mem hk)
      omega
    · rw [List.take_of_length_le (by omega)]
      rw [List.take_of_length_le (by omega)] at ih
      omega

/-- a label that lies in blocks from B on -/
def LabNew (B : Nat) (w : World) (v : Value) (l : List (Int × Int)) : Prop := LabAt w v l ∧ ∀ k, v.ownBlock = some k → B ≤ k

set_option maxHeartbeats 1000000 in
theorem concat_new (v : Value) (ls : List (List (Int × Int))) (w : World) (hv : LabsAt w v ls) (hls : ls.length ≤ 4) (h9 : ∀ l ∈ ls, l.length ≤ 9) :
    Calls Tryz.prog 140 #[v] w fun e w' => ∃ v', e = .returned v' ∧ LabNew w.heap.size w' v' ls.flatten ∧ Below w.heap.size w w' := by
  obtain ⟨b, o, cap, rfl, hcells⟩ := hv
  have HT : Hid (∀ k (hk : k < ls.length), (ls.take (k + 1)).flatten = (ls.take k).flatten ++ ls[k]) := flatten_take ls
  have HN : Hid (∀ k, (ls.take k).flatten.length ≤ k * 9) := len_flatten_take h9
  have H9 : Hid (∀ l ∈ ls, l.length ≤ 9) := h9
  clear h9
  go_enter Tryz.func140, Tryz.ntmps140
  go_wp2
  go_loopw [3, 11] (fun s i wr => ∃ k : Nat, k ≤ ls.length ∧ i = .int .i64 k ∧ s = .int .i64 (flen (ls.take k) : Nat) ∧ w = wr) (fun _ i _ => ls.length - (intOf i).toNat)
  case atStart => exact ⟨0, Nat.zero_le _, rfl, rfl, rfl⟩
  case round =>
    obtain ⟨k, hk, rfl, rfl, rfl⟩ := hrel
    have hnk : flen (ls.take k) ≤ k * 9 := HN.out k
    by_cases hlt : k < ls.length
    · obtain ⟨p, cp, hc1, hl1⟩ := labs_elem hcells k hlt (Below.refl _ _)
      have h9k := H9.out ls[k] (List.getElem_mem hlt)
      have HS : Hid (flen (ls.take (k + 1)) = flen (ls.take k) + ls[k].length) := by
        show (ls.take (k + 1)).flatten.length = (ls.take k).flatten.length + ls[k].length
        rw [HT.out k hlt, List.length_append]
      clear hcells hl1
      generalize flen (ls.take k) = n at *
      generalize ls[k].length = m at *
      go_wp2
      all_goals go_roundw
      case rel => exact ⟨k + 1, hlt, by go_num, by rw [HS.out]; go_num, by first | rfl | trivial⟩
      case measure => simp [intOf]; omega
    · have hkl : k = ls.length := by omega
      subst hkl
      rw [List.take_length]
      rw [List.take_length] at hnk
      have hgrow := grow_any (flen ls) w (by omega)
      go_wp2_with fail
      refine hgrow.mono ?_
      rintro e w1 ⟨v1, rfl, hown1, hw1⟩
      clear hgrow
      go_wp2
      go_loopw [6, 27] (fun v i wr => ∃ k : Nat, k ≤ ls.length ∧ i = .int .i64 k ∧ wr.ownsRow w.heap.size 74 2 v (ls.take k).flatten.length (flat (ls.take k).flatten) ∧ Below w.heap.size w wr) (fun _ i _ => ls.length - (intOf i).toNat)
      case atStart => exact ⟨0, Nat.zero_le _, rfl, hown1, hw1⟩
      case round =>
        clear hown1 hw1 hnk
        obtain ⟨k, hk, rfl, hown, hb⟩ := hrel
        have hnk := HN.out k
        have hsz := hb.size
        by_cases hlt2 : k < ls.length
        · obtain ⟨p, cp, hc1, hl1⟩ := labs_elem hcells k hlt2 hb
          have h9k := H9.out ls[k] (List.getElem_mem hlt2)
          have HS := HT.out k hlt2
          have HS2 : Hid ((ls.take (k + 1)).flatten = (ls.take k).flatten ++ ls[k]) := HS
          clear HS hcells
          generalize (ls.take k).flatten = out at *
          generalize ls[k] = l at *
          go_wp2_with (at_builtin; refine wpList_append_lab rfl _ _ rfl w.heap.size _ _ _ rfl hown _ l rfl hl1 (by omega) hsz ?_; intro v2 w2 hown2 hgrow2)
          go_roundw
          case rel => exact ⟨k + 1, hlt2, by go_num, by rw [HS2.out, flat_append, List.length_append]; exact hown2, hb.grown hgrow2 hsz (fun j hj => ownsRow_base hown hj)⟩
          case measure => simp [intOf]; omega
        · have hkl : k = ls.length := by omega
          subst hkl
          rw [List.take_length] at hown hnk
          go_wp2
          go_ret
          exact ⟨_, rfl, ⟨lab_of_row hown (by omega), fun k hk => ownsRow_base hown hk⟩, hb⟩
end Go.Proofs.YtgpldlbmjakjhaaGreat
