/- How labels and lists of numbers lie in memory, and what keeps them there. -/
import Derived.Test.YtpdijobakfpnbaaGreatRows
import Derived.Test.YtpdijobakfpnbaaGreatJPlain
import Derived.WalkKit
import Derived.WalkSpells
import Derived.WalkLawsBesides
namespace Go.Proofs.YtpdijobakfpnbaaGreat
open Go.RowKit Go.Proofs.Parclose
theorem QE {k : IntKind} {a b : Int} (h : a = b) : Ending.returned (.int k a) = .returned (.int k b) := by rw [h]
theorem Qm {a b : Bool} (h : a = b) : Ending.returned (.bool a) = .returned (.bool b) := by rw [h]
theorem Qf {w : World} {a : Addr} {v : Value} (h : w.cell? a = some v) : a.block < w.heap.size := by
 simp only [World.cell?] at h
 by_cases hb : a.block < w.heap.size
 · exact hb
 · rw [Array.getElem?_eq_none (by omega)] at h
   simp at h
def Cells2 (w : World) (b o : Nat) (l : List (Int × Int)) : Prop :=
 ∀ j (_ : j < l.length), w.cell? ⟨b, o + j * 2, none⟩ = some (.int .i64 (l[j]).1) ∧ w.cell? ⟨b, o + j * 2 + 1, none⟩ = some (.int .i64 (l[j]).2)
theorem Cells2.below {w wr : World} {b o : Nat} {l : List (Int × Int)} (h : Cells2 w b o l) (hb : Below w.heap.size w wr) : Cells2 wr b o l := by
 intro j hj
 obtain ⟨h1, h2⟩ := h j hj
 exact ⟨by rw [hb.cell (Qf h1), h1], by rw [hb.cell (Qf h2), h2]⟩
def LabAt (w : World) (v : Value) (l : List (Int × Int)) : Prop :=
 ∃ p cap, v = .slice p l.length cap ∧ (l.length ≤ cap ∧ (p = none → cap = 0)) ∧ l.length ≤ 8796093022208 ∧ (0 < l.length → ∃ b o, p = some ⟨b, o, none⟩ ∧ Cells2 w b o l)
theorem LabAt.below {w wr : World} {v : Value} {l : List (Int × Int)} (h : LabAt w v l) (hb : Below w.heap.size w wr) : LabAt wr v l := by
 obtain ⟨p, cap, h1, h2, h3, h4⟩ := h
 refine ⟨p, cap, h1, h2, h3, fun g => ?_⟩
 obtain ⟨b, o, h5, h6⟩ := h4 g
 exact ⟨b, o, h5, h6.below hb⟩
theorem LabAt.len {w : World} {v : Value} {l : List (Int × Int)} (h : LabAt w v l) : l.length ≤ 8796093022208 := by
 obtain ⟨p, cap, h1, h2, h3, h4⟩ := h
 omega
theorem LabAt.nil (w : World) (p : Option Addr) (cap : Nat) (hp : p = none → cap = 0) : LabAt w (.slice p 0 cap) [] := ⟨p, cap, rfl, ⟨Nat.zero_le _, hp⟩, Nat.zero_le _, fun h => absurd h (by simp)⟩
def LabsAt (w : World) (v : Value) (ls : List (List (Int × Int))) : Prop :=
 ∃ b o cap, v = .slice (some ⟨b, o, none⟩) ls.length cap ∧ ∀ j (_ : j < ls.length), ∃ u, w.cell? ⟨b, o + j, none⟩ = some u ∧ LabAt w u ls[j]
theorem LabsAt.below {w wr : World} {v : Value} {ls : List (List (Int × Int))} (h : LabsAt w v ls) (hb : Below w.heap.size w wr) : LabsAt wr v ls := by
 obtain ⟨b, o, cap, rfl, h1⟩ := h
 refine ⟨b, o, cap, rfl, fun j hj => ?_⟩
 obtain ⟨u, h2, h3⟩ := h1 j hj
 exact ⟨u, by rw [hb.cell (Qf h2), h2], h3.below hb⟩
def WfL (l : List (Int × Int)) : Prop := ∀ x ∈ l, (Lit.int .i64 x.1).wf = true ∧ (Lit.int .i64 x.2).wf = true
def Cells1 (w : World) (b o : Nat) (zs : List Int) : Prop := ∀ j (_ : j < zs.length), w.cell? ⟨b, o + j, none⟩ = some (.int .i64 zs[j])
theorem Cells1.below {w wr : World} {b o : Nat} {zs : List Int} (h : Cells1 w b o zs) (hb : Below w.heap.size w wr) : Cells1 wr b o zs := by
 intro j hj
 have h1 := h j hj
 rw [hb.cell (Qf h1), h1]
def IntsAt (w : World) (v : Value) (zs : List Int) : Prop :=
 ∃ p cap, v = .slice p zs.length cap ∧ (zs.length ≤ cap ∧ (p = none → cap = 0)) ∧ zs.length ≤ 17592186044416 ∧ (0 < zs.length → ∃ b o, p = some ⟨b, o, none⟩ ∧ Cells1 w b o zs)
theorem IntsAt.below {w wr : World} {v : Value} {zs : List Int} (h : IntsAt w v zs) (hb : Below w.heap.size w wr) : IntsAt wr v zs := by
 obtain ⟨p, cap, h1, h2, h3, h4⟩ := h
 refine ⟨p, cap, h1, h2, h3, fun g => ?_⟩
 obtain ⟨b, o, h5, h6⟩ := h4 g
 exact ⟨b, o, h5, h6.below hb⟩
theorem IntsAt.len {w : World} {v : Value} {zs : List Int} (h : IntsAt w v zs) : zs.length ≤ 17592186044416 := by
 obtain ⟨p, cap, h1, h2, h3, h4⟩ := h
 omega
theorem IntsAt.nil (w : World) (p : Option Addr) (cap : Nat) (hp : p = none → cap = 0) : IntsAt w (.slice p 0 cap) [] := ⟨p, cap, rfl, ⟨Nat.zero_le _, hp⟩, Nat.zero_le _, fun h => absurd h (by simp)⟩
theorem Qc {w a b : World} (h : Below w.heap.size w a) (k : Below a.heap.size a b) : Below w.heap.size w b := h.trans (k.mono h.size)
theorem Qt (w : World) (n : Nat) : Below w.heap.size w (w.drewN n) := by
 induction n with
 | zero => exact Below.refl _ _
 | succ n ih => exact ⟨rfl, rfl, rfl, Nat.le_refl _, fun _ _ => rfl⟩
set_option maxHeartbeats 400000 in
theorem QkV (v : Value) (l : List (Int × Int)) (c : Int) (w : World) (hv : LabAt w v l) :
 Calls Tryz.prog 34 #[v, .int .i64 c] w fun e w' => e = .returned (.int .i64 (atL l c)) ∧ Below w.heap.size w w' := by
 obtain ⟨p, cap, rfl, hlc, hcap, hcells⟩ := hv
 go_enter Tryz.func34, Tryz.ntmps34
 go_wp2
 go_loopw [9] (fun i wr => ∃ k : Nat, k ≤ l.length ∧ i = .int .i64 k ∧ (∀ j (hj : j < k) (hj' : j < l.length), l[j].1 ≠ c) ∧ Below w.heap.size w wr) (fun i _ => l.length - (intOf i).toNat)
 case atStart => exact ⟨0, Nat.zero_le _, rfl, fun j hj => absurd hj (Nat.not_lt_zero _), Below.refl _ _⟩
 case round =>
  obtain ⟨k, hk, rfl, hno, hb⟩ := hrel
  by_cases hlt : k < l.length
  · obtain ⟨b, o, rfl, hc⟩ := hcells (by omega)
    obtain ⟨hc1, hc2⟩ := (hc.below hb) k hlt
    have hsz := hb.size
    have HN : Hid (∀ j (hj : j < k) (hj' : j < l.length), l[j].1 ≠ c) := hno
    clear hno hcells
    by_cases heq : l[k].1 = c
    · have he : (l[k].1 == c) = true := by simpa using heq
      have HE := Ql3 l c k hlt (fun j hj => HN.out j hj (by omega)) heq
      have HH : Hid (atL l c = l[k].2) := HE
      clear HE heq
      go_wp2
      go_ret
      exact ⟨QE HH.out.symm, hb.alloc hsz _⟩
    · have he : (l[k].1 == c) = false := by simpa using heq
      have HH : Hid (l[k].1 ≠ c) := heq
      clear heq
      go_wp2
      go_roundw
      case rel => exact ⟨k + 1, hlt, by go_num, fun j hj hj' => by
       by_cases e : j = k
       · subst e; exact HH.out
       · exact HN.out j (by omega) hj', hb.alloc hsz _⟩
      case measure => simp [intOf]; omega
  · go_wp2
    go_ret
    have e : atL l c = 1 := Ql4 l c fun j hj => hno j (by omega) hj
    exact ⟨QE e.symm, hb⟩
end Go.Proofs.YtpdijobakfpnbaaGreat
