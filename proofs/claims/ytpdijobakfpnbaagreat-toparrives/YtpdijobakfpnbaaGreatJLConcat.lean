/- slices.Concat of rows of what was sent: one row in memory of its own. -/
import Derived.Test.YtpdijobakfpnbaaGreatJLClone
import Derived.Test.YtpdijobakfpnbaaGreatJShelf
namespace Go.Proofs.YtpdijobakfpnbaaGreat
open Go.RowKit Go.Proofs.Parclose
def RowsAt (w : World) (v : Value) (ls : List (List SntV)) : Prop :=
 ∃ b o cap, v = .slice (some ⟨b, o, none⟩) ls.length cap ∧ ∀ j (_ : j < ls.length), ∃ u, w.cell? ⟨b, o + j, none⟩ = some u ∧ RowAt w u ls[j]
theorem QcT {w : World} {ops : Array Oper} {rest : List Oper} {o : Oper} {a : Act} {Q : Exit → Act → World → Prop} (hgd : o.guard = none) (s x : Operand)
 (ho : o.op = .call { callee := .builtin .append, args := #[s, x], argTypes := #[68, 68] }) (base : Nat) (v : Value) (n : Nat) (xs : List Value) (hs : a.eval s = v) (hown : w.ownsRow base 146 13 v n xs)
 (u : Value) (l : List SntV) (hx : a.eval x = u) (hu : RowAt w u l) (hone : ∀ u ∈ flatS l, u.oneCell' = true) (hn : n + l.length ≤ 879609302220) (hbase : base ≤ w.heap.size)
 (h : ∀ v' w', w'.ownsRow base 146 13 v' (n + l.length) (xs ++ flatS l) → w.grownBy w' v.ownBlock → wpList Tryz.prog ops Q rest (a.put o.dst v') w') : wpList Tryz.prog ops Q (o :: rest) a w := by
 obtain ⟨i0, hi, hz0, hz1, hz2⟩ := info_parts Qbs
 obtain ⟨p, cap, rfl, hlc, hcap, hcells⟩ := hu
 cases p with
 | none =>
  have e : l = [] := by
   by_cases h0 : 0 < l.length
   · obtain ⟨b, o, e, _⟩ := hcells h0
     cases e
   · exact List.length_eq_zero_iff.1 (by omega)
  subst e
  have ec : cap = 0 := hlc.2 rfl
  subst ec
  exact wpList_append_own_none hgd s x 68 ho base 146 i0 13 Tryz.underlying68 hi v n xs hs hown hx (h v w (by simpa [flatS] using hown) ⟨rfl, rfl, rfl, Nat.le_refl _, fun _ _ _ => rfl⟩)
 | some ad =>
  have hnews : ∀ j u, (flatS l)[j]? = some u → w.cell? (ad.add j) = some u := by
   by_cases h0 : 0 < l.length
   · obtain ⟨b, o, e, hc⟩ := hcells h0
     cases e
     intro j u hu
     rw [WideShapes.add_plain]
     exact hc j u hu
   · have e : l = [] := List.length_eq_zero_iff.1 (by omega)
     subst e
     intro j u hu
     simp [flatS] at hu
  exact wpList_append_own w hgd s x 68 ho base 146 i0 _ 13 160 Tryz.underlying68 hi hz0 hz1 hz2 rfl (by decide) v n xs hs hown ad l.length cap (flatS l) hx (Qbt l) hnews hone (by unfold maxLen; omega) (by omega) hbase
   (fun v' w' h1 h2 _ => h v' w' h1 h2)
theorem QdC (z : Array Value) (n : Nat) : (Builtin.zeroCells z n).size = n * z.size := by
 unfold Builtin.zeroCells
 simp
theorem QjZ (n : Nat) (w : World) (hn : n ≤ 1000) :
 Calls Tryz.prog 189 #[.slice none 0 0, .int .i64 n] w fun e w' => ∃ v, e = .returned v ∧ w'.ownsRow w.heap.size 146 13 v 0 [] ∧ Below w.heap.size w w' := by
 obtain ⟨i0, hi, hz0, hz1, hz2⟩ := info_parts Qbs
 by_cases h0 : n = 0
 · subst h0
   refine (Any8.slices_Grow_room Tryz.layGrowS none 0 0 0 w (Nat.le_refl _) (by omega) (by omega) (by omega)).mono ?_
   rintro e w' ⟨rfl, rfl⟩
   exact ⟨_, rfl, World.ownsRow_nil _ _ _ _, Below.refl _ _⟩
 · refine (Any8.slices_Grow_grow Tryz.layGrowS i0 _ hi hz0 (by omega) none 0 0 n [] w (Nat.le_refl _) (by omega) (by rw [hz2]; omega) (by omega) (by simp) (fun _ => rfl) (fun a h => by cases h)).mono ?_
   rintro e w' ⟨rfl, rfl⟩
   have hG := grownCap_ge w (0 + n) 0 146
   have hM := grownCap_le_maxLen w (0 + n) 0 146 (by unfold maxLen; omega)
   have hzc : (Value.agg #[.int .i64 0, .int .i64 0, .int .i64 0, .bool false, .int .i64 0, .int .i64 0, .int .i64 0, .slice none 0 0, .slice none 0 0, .string ⟨#[]⟩, .slice none 0 0, .int .i64 0, .int .i64 0]).cells.size = 13 := rfl
   refine ⟨_, rfl, ⟨rfl, Or.inr ⟨w.heap.size, grownCap w (0 + n) 0 146, _, rfl, Nat.le_refl _, heap_alloc_new w.drew _, Nat.zero_le _, hM, ?_, by simp⟩⟩, (Below.refl _ w).drew.alloc (Nat.le_refl _) _⟩
   show ([].toArray ++ Builtin.zeroCells (Value.agg #[.int .i64 0, .int .i64 0, .int .i64 0, .bool false, .int .i64 0, .int .i64 0, .int .i64 0, .slice none 0 0, .slice none 0 0, .string ⟨#[]⟩, .slice none 0 0, .int .i64 0, .int .i64 0]).cells (0 + n - 0) ++ Builtin.zeroCells (Value.agg #[.int .i64 0, .int .i64 0, .int .i64 0, .bool false, .int .i64 0, .int .i64 0, .int .i64 0, .slice none 0 0, .slice none 0 0, .string ⟨#[]⟩, .slice none 0 0, .int .i64 0, .int .i64 0]).cells (grownCap w (0 + n) 0 146 - (0 + n))).size = _
   generalize grownCap w (0 + n) 0 146 = G at *
   simp only [Array.size_append, QdC, hzc]
   simp
   omega
theorem Qe6 {w : World} {b o : Nat} {ls : List (List SntV)} (h : ∀ j (_ : j < ls.length), ∃ u, w.cell? ⟨b, o + j, none⟩ = some u ∧ RowAt w u ls[j]) (j : Nat) (hj : j < ls.length) {wr : World} (hb : Below w.heap.size w wr) :
 ∃ p cap, wr.cell? ⟨b, o + j, none⟩ = some (.slice p ls[j].length cap) ∧ RowAt wr (.slice p ls[j].length cap) ls[j] := by
 obtain ⟨u, h1, h2⟩ := h j hj
 have h3 := h2.below hb
 obtain ⟨p, cap, rfl, _⟩ := id h3
 exact ⟨p, cap, by rw [hb.cell (Qf h1), h1], h3⟩
def flenS (ls : List (List SntV)) : Nat := ls.flatten.length
theorem Qci (ls : List (List SntV)) (k : Nat) (hk : k < ls.length) : (ls.take (k + 1)).flatten = (ls.take k).flatten ++ ls[k] := by
 rw [List.take_succ_eq_append_getElem hk, List.flatten_append]; simp
theorem QcW {ls : List (List SntV)} (h : ∀ l ∈ ls, l.length ≤ 24) (k : Nat) : (ls.take k).flatten.length ≤ k * 24 := by
 induction k with
 | zero => simp
 | succ k ih =>
  by_cases hk : k < ls.length
  · rw [Qci ls k hk, List.length_append]
    have := h ls[k] (List.getElem_mem hk)
    omega
  · rw [List.take_of_length_le (by omega)]
    rw [List.take_of_length_le (by omega)] at ih
    omega
set_option maxHeartbeats 1000000 in
theorem Qdx (v : Value) (ls : List (List SntV)) (w : World) (hv : RowsAt w v ls) (hls : ls.length ≤ 4) (h9 : ∀ l ∈ ls, l.length ≤ 24) (h1 : ∀ l ∈ ls, ∀ u ∈ flatS l, u.oneCell' = true) :
 Calls Tryz.prog 146 #[v] w fun e w' => ∃ v', e = .returned v' ∧ w'.ownsRow w.heap.size 146 13 v' ls.flatten.length (flatS ls.flatten) ∧ Below w.heap.size w w' := by
 obtain ⟨b, o, cap, rfl, hcells⟩ := hv
 have HT : Hid (∀ k (hk : k < ls.length), (ls.take (k + 1)).flatten = (ls.take k).flatten ++ ls[k]) := Qci ls
 have HN : Hid (∀ k, (ls.take k).flatten.length ≤ k * 24) := QcW h9
 have H9 : Hid (∀ l ∈ ls, l.length ≤ 24) := h9
 clear h9
 have H1 : Hid (∀ l ∈ ls, ∀ u ∈ flatS l, u.oneCell' = true) := h1
 clear h1
 go_enter Tryz.func146, Tryz.ntmps146
 go_wp2
 go_loopw [3, 11] (fun s i wr => ∃ k : Nat, k ≤ ls.length ∧ i = .int .i64 k ∧ s = .int .i64 (flenS (ls.take k) : Nat) ∧ w = wr) (fun _ i _ => ls.length - (intOf i).toNat)
 case atStart => exact ⟨0, Nat.zero_le _, rfl, rfl, rfl⟩
 case round =>
  obtain ⟨k, hk, rfl, rfl, rfl⟩ := hrel
  have hnk : flenS (ls.take k) ≤ k * 24 := HN.out k
  by_cases hlt : k < ls.length
  · obtain ⟨p, cp, hc1, hl1⟩ := Qe6 hcells k hlt (Below.refl _ _)
    have h9k := H9.out ls[k] (List.getElem_mem hlt)
    have HS : Hid (flenS (ls.take (k + 1)) = flenS (ls.take k) + ls[k].length) := by
     show (ls.take (k + 1)).flatten.length = (ls.take k).flatten.length + ls[k].length
     rw [HT.out k hlt, List.length_append]
    clear hcells hl1
    generalize flenS (ls.take k) = n at *
    generalize ls[k].length = m at *
    go_wp2
    all_goals go_roundw
    case rel => exact ⟨k + 1, hlt, by go_num, by rw [HS.out]; go_num, by first | rfl | trivial⟩
    case measure => simp [intOf]; omega
  · have hkl : k = ls.length := by omega
    subst hkl
    rw [List.take_length]
    rw [List.take_length] at hnk
    have hgrow := QjZ (flenS ls) w (by omega)
    go_wp2_with fail
    refine hgrow.mono ?_
    rintro e w1 ⟨v1, rfl, hown1, hw1⟩
    clear hgrow
    go_wp2
    go_loopw [6, 27] (fun v i wr => ∃ k : Nat, k ≤ ls.length ∧ i = .int .i64 k ∧ wr.ownsRow w.heap.size 146 13 v (ls.take k).flatten.length (flatS (ls.take k).flatten) ∧ Below w.heap.size w wr) (fun _ i _ => ls.length - (intOf i).toNat)
    case atStart => exact ⟨0, Nat.zero_le _, rfl, hown1, hw1⟩
    case round =>
     clear hown1 hw1 hnk
     obtain ⟨k, hk, rfl, hown, hb⟩ := hrel
     have hnk := HN.out k
     have hsz := hb.size
     by_cases hlt2 : k < ls.length
     · obtain ⟨p, cp, hc1, hl1⟩ := Qe6 hcells k hlt2 hb
       have h9k := H9.out ls[k] (List.getElem_mem hlt2)
       have h1k := H1.out ls[k] (List.getElem_mem hlt2)
       have HS := HT.out k hlt2
       have HS2 : Hid ((ls.take (k + 1)).flatten = (ls.take k).flatten ++ ls[k]) := HS
       clear HS hcells
       generalize (ls.take k).flatten = out at *
       generalize ls[k] = l at *
       go_wp2_with (at_builtin; refine QcT rfl _ _ rfl w.heap.size _ _ _ rfl hown _ l rfl hl1 h1k (by omega) hsz ?_; intro v2 w2 hown2 hgrow2)
       go_roundw
       case rel => exact ⟨k + 1, hlt2, by go_num, by rw [HS2.out, QaE, List.length_append]; exact hown2, hb.grown hgrow2 hsz (fun j hj => Qs hown hj)⟩
       case measure => simp [intOf]; omega
     · have hkl : k = ls.length := by omega
       subst hkl
       rw [List.take_length] at hown hnk
       go_wp2
       go_ret
       exact ⟨_, rfl, hown, hb⟩
end Go.Proofs.YtpdijobakfpnbaaGreat
