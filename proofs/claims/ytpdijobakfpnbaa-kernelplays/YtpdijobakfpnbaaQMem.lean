/- How labels and lists of numbers lie in memory, and what keeps them there. -/
import Derived.Test.YtpdijobakfpnbaaRows
import Derived.Test.YtpdijobakfpnbaaQPlain
import Derived.WalkKit
import Derived.WalkSpells
import Derived.WalkLawsBesides
import Derived.Deep.RegionHeld3
namespace Go.Proofs.Ytpdijobakfpnbaa
open Go.RowKit Go.Proofs.Parclose
theorem QH {k : IntKind} {a b : Int} (h : a = b) : Ending.returned (.int k a) = .returned (.int k b) := by rw [h]
theorem Qm {a b : Bool} (h : a = b) : Ending.returned (.bool a) = .returned (.bool b) := by rw [h]
theorem Qb {w : World} {a : Addr} {v : Value} (h : w.cell? a = some v) : a.block < w.heap.size := by
 simp only [World.cell?] at h
 by_cases hb : a.block < w.heap.size
 · exact hb
 · rw [Array.getElem?_eq_none (by omega)] at h
   simp at h
def Cells2 (w : World) (b o : Nat) (l : List (Int × Int)) : Prop :=
 ∀ j (_ : j < l.length), w.cell? ⟨b, o + j * 2, none⟩ = some (.int .i64 (l[j]).1) ∧ w.cell? ⟨b, o + j * 2 + 1, none⟩ = some (.int .i64 (l[j]).2)
theorem Cells2.below {w wr : World} {b o : Nat} {l : List (Int × Int)} (h : Cells2 w b o l) (hb : Below w.heap.size w wr) : Cells2 wr b o l := by
 intro j hj
 obtain ⟨h1, h2⟩ := h j hj
 exact ⟨by rw [hb.cell (Qb h1), h1], by rw [hb.cell (Qb h2), h2]⟩
def LabAt (w : World) (v : Value) (l : List (Int × Int)) : Prop :=
 ∃ p cap, v = .slice p l.length cap ∧ (l.length ≤ cap ∧ (p = none → cap = 0)) ∧ l.length ≤ 8796093022208 ∧ (0 < l.length → ∃ b o, p = some ⟨b, o, none⟩ ∧ Cells2 w b o l)
theorem LabAt.below {w wr : World} {v : Value} {l : List (Int × Int)} (h : LabAt w v l) (hb : Below w.heap.size w wr) : LabAt wr v l := by
 obtain ⟨p, cap, h1, h2, h3, h4⟩ := h
 refine ⟨p, cap, h1, h2, h3, fun g => ?_⟩
 obtain ⟨b, o, h5, h6⟩ := h4 g
 exact ⟨b, o, h5, h6.below hb⟩
theorem LabAt.len {w : World} {v : Value} {l : List (Int × Int)} (h : LabAt w v l) : l.length ≤ 8796093022208 := by
 obtain ⟨p, cap, h1, h2, h3, h4⟩ := h
 omega
theorem LabAt.nil (w : World) (p : Option Addr) (cap : Nat) (hp : p = none → cap = 0) : LabAt w (.slice p 0 cap) [] := ⟨p, cap, rfl, ⟨Nat.zero_le _, hp⟩, Nat.zero_le _, fun h => absurd h (by simp)⟩
def LabsAt (w : World) (v : Value) (ls : List (List (Int × Int))) : Prop :=
 ∃ b o cap, v = .slice (some ⟨b, o, none⟩) ls.length cap ∧ ∀ j (_ : j < ls.length), ∃ u, w.cell? ⟨b, o + j, none⟩ = some u ∧ LabAt w u ls[j]
theorem LabsAt.below {w wr : World} {v : Value} {ls : List (List (Int × Int))} (h : LabsAt w v ls) (hb : Below w.heap.size w wr) : LabsAt wr v ls := by
 obtain ⟨b, o, cap, rfl, h1⟩ := h
 refine ⟨b, o, cap, rfl, fun j hj => ?_⟩
 obtain ⟨u, h2, h3⟩ := h1 j hj
 exact ⟨u, by rw [hb.cell (Qb h2), h2], h3.below hb⟩
def WfL (l : List (Int × Int)) : Prop := ∀ x ∈ l, (Lit.int .i64 x.1).wf = true ∧ (Lit.int .i64 x.2).wf = true
def Cells1 (w : World) (b o : Nat) (zs : List Int) : Prop := ∀ j (_ : j < zs.length), w.cell? ⟨b, o + j, none⟩ = some (.int .i64 zs[j])
theorem Cells1.below {w wr : World} {b o : Nat} {zs : List Int} (h : Cells1 w b o zs) (hb : Below w.heap.size w wr) : Cells1 wr b o zs := by
 intro j hj
 have h1 := h j hj
 rw [hb.cell (Qb h1), h1]
def IntsAt (w : World) (v : Value) (zs : List Int) : Prop :=
 ∃ p cap, v = .slice p zs.length cap ∧ (zs.length ≤ cap ∧ (p = none → cap = 0)) ∧ zs.length ≤ 17592186044416 ∧ (0 < zs.length → ∃ b o, p = some ⟨b, o, none⟩ ∧ Cells1 w b o zs)
theorem IntsAt.below {w wr : World} {v : Value} {zs : List Int} (h : IntsAt w v zs) (hb : Below w.heap.size w wr) : IntsAt wr v zs := by
 obtain ⟨p, cap, h1, h2, h3, h4⟩ := h
 refine ⟨p, cap, h1, h2, h3, fun g => ?_⟩
 obtain ⟨b, o, h5, h6⟩ := h4 g
 exact ⟨b, o, h5, h6.below hb⟩
theorem IntsAt.len {w : World} {v : Value} {zs : List Int} (h : IntsAt w v zs) : zs.length ≤ 17592186044416 := by
 obtain ⟨p, cap, h1, h2, h3, h4⟩ := h
 omega
theorem IntsAt.nil (w : World) (p : Option Addr) (cap : Nat) (hp : p = none → cap = 0) : IntsAt w (.slice p 0 cap) [] := ⟨p, cap, rfl, ⟨Nat.zero_le _, hp⟩, Nat.zero_le _, fun h => absurd h (by simp)⟩
theorem QcO {w w' : World} (h : Below w.heap.size w w') : w.grownBy w' none := ⟨h.os, h.tape, h.output, h.size, fun k hk _ => h.block k hk⟩
theorem Qd {w a b : World} (h : Below w.heap.size w a) (k : Below a.heap.size a b) : Below w.heap.size w b := h.trans (k.mono h.size)
theorem Qq (w : World) (n : Nat) : Below w.heap.size w (w.drewN n) := by
 induction n with
 | zero => exact Below.refl _ _
 | succ n ih => exact ⟨rfl, rfl, rfl, Nat.le_refl _, fun _ _ => rfl⟩
open Go.RowKit
section
variable {P : Program} {ops : Array Oper} {Q : Exit → Act → World → Prop} {md : Region.Mode} {S : World → Prop}
theorem takeD (i n : Nat) (v : Value) {oi : Oper} {fuel : Nat} {listed : Array Bool} {a : Act} {w : World} (hi : ops[i]? = some oi) (hd : oi.dst = some n)
 (hs : Region.noSelect ops = true) (hf : Region.free md ops listed i = true) (hr : (Region.ready md ops listed).contains i = true)
 (hQ : ∀ c a w, Q (.panic c) (a.put (some n) v) w → Q (.panic c) a w) (hy : YieldsIf P ops S oi v a) (hS : S w)
 (h : wpAnyH P md ops Q S fuel (listed.setIfInBounds i true) (a.put (some n) v) w) : wpAnyH P md ops Q S (fuel + 1) listed a w :=
 wpAnyH_take hi hs hf hr (by rw [hd]; exact hQ) hy hS (by rw [hd]; exact h)
theorem skipD (i n : Nat) {oi : Oper} {fuel : Nat} {listed : Array Bool} {a : Act} {w : World} (hi : ops[i]? = some oi) (hd : oi.dst = some n)
 (hs : Region.noSelect ops = true) (hf : Region.free md ops listed i = true) (hr : (Region.ready md ops listed).contains i = true)
 (hQ : ∀ c a w, Q (.panic c) (a.put (some n) undef) w → Q (.panic c) a w) (hw : Region.wanted oi (yielded ops a.tmps) = false) (hS : S w)
 (h : wpAnyH P md ops Q S fuel (listed.setIfInBounds i true) (a.put (some n) undef) w) : wpAnyH P md ops Q S (fuel + 1) listed a w :=
 wpAnyH_take hi hs hf hr (by rw [hd]; exact hQ) (Or.inr ⟨hw, rfl⟩) hS (by rw [hd]; exact h)
theorem takeF (i n : Nat) (v : Value) {oi : Oper} {fuel : Nat} {listed : Array Bool} {a : Act} {w : World} (hi : ops[i]? = some oi) (hy : YieldsIf P ops S oi v a)
 (h : wpAnyH P md ops Q S fuel (listed.setIfInBounds i true) (a.put (some n) v) w)
 (hc : (oi.dst == some n && Region.noSelect ops && Region.free md ops listed i && (Region.ready md ops listed).contains i) = true := by as_aux_lemma => kernel_rfl)
 (hQ : ∀ c a w, Q (.panic c) (a.put (some n) v) w → Q (.panic c) a w := by exact fun _ _ _ h => h) (hS : S w := by assumption) : wpAnyH P md ops Q S (fuel + 1) listed a w := by
 simp only [Bool.and_eq_true] at hc
 exact takeD i n v hi (eq_of_beq hc.1.1.1) hc.1.1.2 hc.1.2 hc.2 hQ hy hS h
theorem skipF (i n : Nat) {oi : Oper} {fuel : Nat} {listed : Array Bool} {a : Act} {w : World} (hi : ops[i]? = some oi)
 (h : wpAnyH P md ops Q S fuel (listed.setIfInBounds i true) (a.put (some n) undef) w)
 (hc : (oi.dst == some n && Region.noSelect ops && Region.free md ops listed i && (Region.ready md ops listed).contains i) = true := by as_aux_lemma => kernel_rfl)
 (hw : Region.wanted oi (yielded ops a.tmps) = false := by as_aux_lemma => kernel_rfl)
 (hQ : ∀ c a w, Q (.panic c) (a.put (some n) undef) w → Q (.panic c) a w := by exact fun _ _ _ h => h) (hS : S w := by assumption) : wpAnyH P md ops Q S (fuel + 1) listed a w := by
 simp only [Bool.and_eq_true] at hc
 exact skipD i n hi (eq_of_beq hc.1.1.1) hc.1.1.2 hc.1.2 hc.2 hQ hw hS h
end
end Go.Proofs.Ytpdijobakfpnbaa
