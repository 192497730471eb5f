/- slices.Concat answers the certs one behind the other, in a list of its own. -/
import Derived.Test.YtgpldlbmjakjhaaGreatSShelf
import Derived.Test.YtgpldlbmjakjhaaGreatSRows0
import Derived.Test.YtgpldlbmjakjhaaGreatSTTrust
namespace Go.Proofs.YtgpldlbmjakjhaaGreat
open Go.RowKit Go.Proofs.Parclose
theorem flat4_len (l : List Crt) : (flat4 l).length = l.length * 4 := by
  induction l with
  | nil => rfl
  | cons x r ih =>
    have e : flat4 (x :: r) = .int .i64 x.c :: .int .i64 x.b :: .int .i64 x.h :: .int .i64 x.u :: flat4 r := rfl
    rw [e]
    simp only [List.length_cons, ih]
    omega
theorem flat4_app (a b : List Crt) : flat4 (a ++ b) = flat4 a ++ flat4 b := by simp [flat4]
theorem flat4_cell {w : World} {b o : Nat} {l : List Crt} (h : Cells4 w b o l) : ∀ j u, (flat4 l)[j]? = some u → w.cell? ((⟨b, o, none⟩ : Addr).add j) = some u := by
  intro j u hu
  have hj : j < l.length * 4 := by
    have := (List.getElem?_eq_some_iff.1 hu).1
    rwa [flat4_len] at this
  obtain ⟨h1, h2, h3, h4⟩ := h (j / 4) (by omega)
  obtain ⟨g1, g2, g3, g4⟩ := flat4_get l (j / 4) (by omega)
  rw [WideShapes.add_plain]
  have hc : j % 4 = 0 ∨ j % 4 = 1 ∨ j % 4 = 2 ∨ j % 4 = 3 := by omega
  rcases hc with hp | hp | hp | hp
  · have e : j = j / 4 * 4 := by omega
    rw [e] at hu ⊢
    rw [g1] at hu
    rw [h1, ← hu]
  · have e : j = j / 4 * 4 + 1 := by omega
    rw [e] at hu ⊢
    rw [g2] at hu
    rw [← Nat.add_assoc, h2, ← hu]
  · have e : j = j / 4 * 4 + 2 := by omega
    rw [e] at hu ⊢
    rw [g3] at hu
    rw [← Nat.add_assoc, h3, ← hu]
  · have e : j = j / 4 * 4 + 3 := by omega
    rw [e] at hu ⊢
    rw [g4] at hu
    rw [← Nat.add_assoc, h4, ← hu]
def CrtssAt (w : World) (v : Value) (ls : List (List Crt)) : Prop :=
  ∃ b o cap, v = .slice (some ⟨b, o, none⟩) ls.length cap ∧ ∀ j (_ : j < ls.length), ∃ u, w.cell? ⟨b, o + j, none⟩ = some u ∧ CrtsAt w u ls[j]
theorem wpList_append_crts {w : World} {ops : Array Oper} {rest : List Oper} {o : Oper} {a : Act} {Q : Exit → Act → World → Prop} (hgd : o.guard = none) (s x : Operand)
    (ho : o.op = .call { callee := .builtin .append, args := #[s, x], argTypes := #[37, 37] }) (base : Nat) (v : Value) (n : Nat) (xs : List Value) (hs : a.eval s = v) (hown : w.ownsRow base 78 4 v n xs)
    (u : Value) (l : List Crt) (hx : a.eval x = u) (hu : CrtsAt w u l) (hn : n + l.length ≤ 4398046511104) (hbase : base ≤ w.heap.size)
    (h : ∀ v' w', w'.ownsRow base 78 4 v' (n + l.length) (xs ++ flat4 l) → w.grownBy w' v.ownBlock → wpList Tryz.prog ops Q rest (a.put o.dst v') w') : wpList Tryz.prog ops Q (o :: rest) a w := by
  obtain ⟨i0, hi, hz0, hz1, hz2⟩ := info_parts info_cert
  obtain ⟨p, cap, rfl, hlc, hcap, hcells⟩ := hu
  cases p with
  | none =>
    have e : l = [] := by
      by_cases h0 : 0 < l.length
      · obtain ⟨b, o, e, _⟩ := hcells h0
        cases e
      · exact List.length_eq_zero_iff.1 (by omega)
    subst e
    have ec : cap = 0 := hlc.2 rfl
    subst ec
    exact wpList_append_own_none hgd s x 37 ho base 78 i0 4 Tryz.underlying37 hi v n xs hs hown hx (h v w (by simpa [flat4] using hown) ⟨rfl, rfl, rfl, Nat.le_refl _, fun _ _ _ => rfl⟩)
  | some ad =>
    have hnews : ∀ j u, (flat4 l)[j]? = some u → w.cell? (ad.add j) = some u := by
      by_cases h0 : 0 < l.length
      · obtain ⟨b, o, e, hc⟩ := hcells h0
        cases e
        exact flat4_cell hc
      · have e : l = [] := List.length_eq_zero_iff.1 (by omega)
        subst e
        intro j u hu
        simp [flat4] at hu
    exact wpList_append_own w hgd s x 37 ho base 78 i0 _ 4 32 Tryz.underlying37 hi hz0 hz1 hz2 rfl (by decide) v n xs hs hown ad l.length cap (flat4 l) hx (flat4_len l) hnews (flat4_one l) (by unfold maxLen; omega) (by omega) hbase
      (fun v' w' h1 h2 _ => h v' w' h1 h2)
theorem zeroCellsC_size (z : Array Value) (n : Nat) : (Builtin.zeroCells z n).size = n * z.size := by
  unfold Builtin.zeroCells
  simp
theorem growC_any (n : Nat) (w : World) (hn : n ≤ 1000) :
    Calls Tryz.prog 156 #[.slice none 0 0, .int .i64 n] w fun e w' => ∃ v, e = .returned v ∧ w'.ownsRow w.heap.size 78 4 v 0 [] ∧ Below w.heap.size w w' := by
  obtain ⟨i0, hi, hz0, hz1, hz2⟩ := info_parts info_cert
  by_cases h0 : n = 0
  · subst h0
    refine (Any8.slices_Grow_room Tryz.layGrowC none 0 0 0 w (Nat.le_refl _) (by omega) (by omega) (by omega)).mono ?_
    rintro e w' ⟨rfl, rfl⟩
    exact ⟨_, rfl, World.ownsRow_nil _ _ _ _, Below.refl _ _⟩
  · refine (Any8.slices_Grow_grow Tryz.layGrowC i0 _ hi hz0 (by omega) none 0 0 n [] w (Nat.le_refl _) (by omega) (by rw [hz2]; omega) (by omega) (by simp) (fun _ => rfl) (fun a h => by cases h)).mono ?_
    rintro e w' ⟨rfl, rfl⟩
    have hG := grownCap_ge w (0 + n) 0 78
    have hM := grownCap_le_maxLen w (0 + n) 0 78 (by unfold maxLen; omega)
    have hzc : (Value.agg #[.int .i64 0, .int .i64 0, .int .i64 0, .int .i64 0]).cells.size = 4 := rfl
    refine ⟨_, rfl, ⟨rfl, Or.inr ⟨w.heap.size, grownCap w (0 + n) 0 78, _, rfl, Nat.le_refl _, heap_alloc_new w.drew _, Nat.zero_le _, hM, ?_, by simp⟩⟩, (Below.refl _ w).drew.alloc (Nat.le_refl _) _⟩
    show ([].toArray ++ Builtin.zeroCells (Value.agg #[.int .i64 0, .int .i64 0, .int .i64 0, .int .i64 0]).cells (0 + n - 0) ++ Builtin.zeroCells (Value.agg #[.int .i64 0, .int .i64 0, .int .i64 0, .int .i64 0]).cells (grownCap w (0 + n) 0 78 - (0 + n))).size = _
    generalize grownCap w (0 + n) 0 78 = G at *
    simp only [Array.size_append, zeroCellsC_size, hzc]
    simp
    omega
theorem crtss_elem {w : World} {b o : Nat} {ls : List (List Crt)} (h : ∀ j (_ : j < ls.length), ∃ u, w.cell? ⟨b, o + j, none⟩ = some u ∧ CrtsAt w u ls[j]) (j : Nat) (hj : j < ls.length) {wr : World} (hb : Below w.heap.size w wr) :
    ∃ p cap, wr.cell? ⟨b, o + j, none⟩ = some (.slice p ls[j].length cap) ∧ CrtsAt wr (.slice p ls[j].length cap) ls[j] := by
  obtain ⟨u, h1, h2⟩ := h j hj
  have h3 := h2.below hb
  obtain ⟨p, cap, rfl, _⟩ := id h3
  exact ⟨p, cap, by rw [hb.cell (cell_block h1), h1], h3⟩
def flenC (ls : List (List Crt)) : Nat := ls.flatten.length
theorem flattenC_take (ls : List (List Crt)) (k : Nat) (hk : k < ls.length) : (ls.take (k + 1)).flatten = (ls.take k).flatten ++ ls[k] := by
  rw [List.take_succ_eq_append_getElem hk, List.flatten_append]; simp
theorem lenC_flatten_take {ls : List (List Crt)} (h : ∀ l ∈ ls, l.length ≤ 24) (k : Nat) : (ls.take k).flatten.length ≤ k * 24 := by
  induction k with
  | zero => simp
  | succ k ih =>
    by_cases hk : k < ls.length
    · rw [flattenC_take ls k hk, List.length_append]
      have := h ls[k] (List.getElem_mem hk)
      omega
    · rw [List.take_of_length_le (by omega)]
      rw [List.take_of_length_le (by omega)] at ih
      omega
def CrtsNew (B : Nat) (w : World) (v : Value) (l : List Crt) : Prop := CrtsAt w v l ∧ ∀ k, v.ownBlock = some k → B ≤ k
set_option maxHeartbeats 1000000 in
theorem concatC_new (v : Value) (ls : List (List Crt)) (w : World) (hv : CrtssAt w v ls) (hls : ls.length ≤ 4) (h9 : ∀ l ∈ ls, l.length ≤ 24) :
    Calls Tryz.prog 137 #[v] w fun e w' => ∃ v', e = .returned v' ∧ CrtsNew w.heap.size w' v' ls.flatten ∧ Below w.heap.size w w' := by
  obtain ⟨b, o, cap, rfl, hcells⟩ := hv
  have HT : Hid (∀ k (hk : k < ls.length), (ls.take (k + 1)).flatten = (ls.take k).flatten ++ ls[k]) := flattenC_take ls
  have HN : Hid (∀ k, (ls.take k).flatten.length ≤ k * 24) := lenC_flatten_take h9
  have H9 : Hid (∀ l ∈ ls, l.length ≤ 24) := h9
  clear h9
  go_enter Tryz.func137, Tryz.ntmps137
  go_wp2
  go_loopw [3, 11] (fun s i wr => ∃ k : Nat, k ≤ ls.length ∧ i = .int .i64 k ∧ s = .int .i64 (flenC (ls.take k) : Nat) ∧ w = wr) (fun _ i _ => ls.length - (intOf i).toNat)
  case atStart => exact ⟨0, Nat.zero_le _, rfl, rfl, rfl⟩
  case round =>
    obtain ⟨k, hk, rfl, rfl, rfl⟩ := hrel
    have hnk : flenC (ls.take k) ≤ k * 24 := HN.out k
    by_cases hlt : k < ls.length
    · obtain ⟨p, cp, hc1, hl1⟩ := crtss_elem hcells k hlt (Below.refl _ _)
      have h9k := H9.out ls[k] (List.getElem_mem hlt)
      have HS : Hid (flenC (ls.take (k + 1)) = flenC (ls.take k) + ls[k].length) := by
        show (ls.take (k + 1)).flatten.length = (ls.take k).flatten.length + ls[k].length
        rw [HT.out k hlt, List.length_append]
      clear hcells hl1
      generalize flenC (ls.take k) = n at *
      generalize ls[k].length = m at *
      go_wp2
      all_goals go_roundw
      case rel => exact ⟨k + 1, hlt, by go_num, by rw [HS.out]; go_num, by first | rfl | trivial⟩
      case measure => simp [intOf]; omega
    · have hkl : k = ls.length := by omega
      subst hkl
      rw [List.take_length]
      rw [List.take_length] at hnk
      have hgrow := growC_any (flenC ls) w (by omega)
      go_wp2_with fail
      refine hgrow.mono ?_
      rintro e w1 ⟨v1, rfl, hown1, hw1⟩
      clear hgrow
      go_wp2
      go_loopw [6, 27] (fun v i wr => ∃ k : Nat, k ≤ ls.length ∧ i = .int .i64 k ∧ wr.ownsRow w.heap.size 78 4 v (ls.take k).flatten.length (flat4 (ls.take k).flatten) ∧ Below w.heap.size w wr) (fun _ i _ => ls.length - (intOf i).toNat)
      case atStart => exact ⟨0, Nat.zero_le _, rfl, hown1, hw1⟩
      case round =>
        clear hown1 hw1 hnk
        obtain ⟨k, hk, rfl, hown, hb⟩ := hrel
        have hnk := HN.out k
        have hsz := hb.size
        by_cases hlt2 : k < ls.length
        · obtain ⟨p, cp, hc1, hl1⟩ := crtss_elem hcells k hlt2 hb
          have h9k := H9.out ls[k] (List.getElem_mem hlt2)
          have HS := HT.out k hlt2
          have HS2 : Hid ((ls.take (k + 1)).flatten = (ls.take k).flatten ++ ls[k]) := HS
          clear HS hcells
          generalize (ls.take k).flatten = out at *
          generalize ls[k] = l at *
          go_wp2_with (at_builtin; refine wpList_append_crts rfl _ _ rfl w.heap.size _ _ _ rfl hown _ l rfl hl1 (by omega) hsz ?_; intro v2 w2 hown2 hgrow2)
          go_roundw
          case rel => exact ⟨k + 1, hlt2, by go_num, by rw [HS2.out, flat4_app, List.length_append]; exact hown2, hb.grown hgrow2 hsz (fun j hj => own_base hown hj)⟩
          case measure => simp [intOf]; omega
        · have hkl : k = ls.length := by omega
          subst hkl
          rw [List.take_length] at hown hnk
          go_wp2
          go_ret
          exact ⟨_, rfl, ⟨crts_of_own hown (by omega), fun k hk => own_base hown hk⟩, hb⟩
end Go.Proofs.YtgpldlbmjakjhaaGreat
