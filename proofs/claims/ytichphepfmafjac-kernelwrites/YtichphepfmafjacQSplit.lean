/- label.split answers what stands in a good label in front of a category, and what stands behind it. -/
import Derived.Test.YtichphepfmafjacQSearch
import Derived.Deep.QuietTactic
import Derived.BigQuiet
namespace Go.Proofs.Ytichphepfmafjac
open Go.RowKit Go.Proofs.Parclose

theorem Cells2.drop {w : World} {b o : Nat} {l : List (Int × Int)} (h : Cells2 w b o l) (k : Nat) : Cells2 w b (o + k * 2) (l.drop k) := by
  intro j hj
  simp only [List.length_drop] at hj
  obtain ⟨h1, h2⟩ := h (k + j) (by omega)
  rw [List.getElem_drop]
  rw [show o + k * 2 + j * 2 = o + (k + j) * 2 by omega]
  exact ⟨h1, h2⟩
theorem Cells2.take {w : World} {b o : Nat} {l : List (Int × Int)} (h : Cells2 w b o l) (k : Nat) : Cells2 w b o (l.take k) := by
  intro j hj
  simp only [List.length_take] at hj
  obtain ⟨h1, h2⟩ := h j (by omega)
  rw [List.getElem_take]
  exact ⟨h1, h2⟩

theorem lab_front {w : World} {b o cap i : Nat} {l : List (Int × Int)} (hc : Cells2 w b o l) (hi : i ≤ l.length) (hl : l.length ≤ 8) (hcap : i ≤ cap) : LabAt w (.slice (some ⟨b, o, none⟩) i cap) (l.take i) := by
  have e : (l.take i).length = i := by simp; omega
  refine ⟨some ⟨b, o, none⟩, cap, by rw [e], ⟨by omega, fun h => by cases h⟩, by omega, fun _ => ⟨b, o, rfl, hc.take i⟩⟩
theorem lab_behind {w : World} {b o cap k n : Nat} {q : Option Addr} {l : List (Int × Int)} (hc : Cells2 w b o l) (hn : n = l.length - k) (hl : l.length ≤ 8) (h1 : n ≤ cap) (h2 : k < l.length → q = some ⟨b, o + k * 2, none⟩) (h3 : q = none → cap = 0) :
    LabAt w (.slice q n cap) (l.drop k) := by
  have e : (l.drop k).length = n := by simp; omega
  refine ⟨q, cap, by rw [e], ⟨by omega, h3⟩, by omega, fun h => ⟨b, o + k * 2, h2 (by omega), hc.drop k⟩⟩

set_option maxHeartbeats 1000000 in
theorem split_any (v : Value) (l : List (Int × Int)) (c : Int) (w : World) (hv : LabAt w v l) (h8 : l.length ≤ 8) (hr : l.Pairwise fun x y => x.1 < y.1) :
    Calls Try.prog 105 #[v, .int .i64 c] w fun e w' => ∃ v1 v2, e = .returned (.tuple #[v1, v2]) ∧ LabAt w' v1 (frontL l c) ∧ LabAt w' v2 (behindL l c) ∧ Below w.heap.size w w' := by
  have hs := bsearch_any v l c w hv h8 hr
  obtain ⟨p, cap, rfl, hlc, hcap, hcells⟩ := hv
  go_enter Try.func105, Try.ntmps105
  go_wp2_with fail
  refine hs.mono ?_
  rintro e w1 ⟨i, f, rfl, hsp, hb⟩
  have hil := hsp.le
  cases f with
  | true =>
    have hf := hsp.front
    have hbh := hsp.behind_yes hr
    obtain ⟨hi2, _⟩ := hsp.yes rfl
    obtain ⟨b, o, rfl, hc⟩ := hcells (by omega)
    have hc1 := hc.below hb
    have g1 : l.length ≤ cap := hlc.1
    have g2 : ((i : Int)) ≤ (cap : Int) := by omega
    have g3 : ((i : Int)) + 1 ≤ (l.length : Int) := by omega
    have g4 : ((l.length : Int)) ≤ (cap : Int) := by omega
    have g5 : (0 : Int) ≤ (i : Int) := by omega
    have g6 : IntKind.i64.wrap ((i : Int) + 1) = (i : Int) + 1 := by
      simp [IntKind.wrap, IntKind.signed, IntKind.bits]
      omega
    have HF : Hid (l.take i = frontL l c) := hf
    have HB : Hid (l.drop (i + 1) = behindL l c) := hbh
    clear hf hbh hcells hc hs hlc
    go_wp2_with fail
    go_quiet (fail)
    go_wp2
    all_goals go_ret2
    all_goals
      have hd := below_drewN w1 nq
      refine ⟨_, _, rfl, by rw [← HF.out]; exact lab_front (hc1.below hd) (by omega) h8 (by omega), ?_, below_then hb hd⟩
      rw [← HB.out]
      refine lab_behind (hc1.below hd) (by omega) h8 (by omega) (fun h => ?_) (fun h => by first | (cases h; done) | omega)
      first | rfl | (exfalso; omega)
  | false =>
    have hf := hsp.front
    have hbh := hsp.behind_no hr
    have HF : Hid (l.take i = frontL l c) := hf
    have HB : Hid (l.drop i = behindL l c) := hbh
    clear hf hbh hs
    by_cases h0 : 0 < l.length
    · obtain ⟨b, o, rfl, hc⟩ := hcells h0
      have hc1 := hc.below hb
      have g1 : l.length ≤ cap := hlc.1
      have g2 : ((i : Int)) ≤ (cap : Int) := by omega
      have g3 : ((i : Int)) ≤ (l.length : Int) := by omega
      have g4 : ((l.length : Int)) ≤ (cap : Int) := by omega
      have g5 : (0 : Int) ≤ (i : Int) := by omega
      clear hcells hc hlc
      go_wp2_with fail
      go_quiet (fail)
      go_wp2
      all_goals go_ret2
      all_goals
        have hd := below_drewN w1 nq
        refine ⟨_, _, rfl, by rw [← HF.out]; exact lab_front (hc1.below hd) (by omega) h8 (by omega), ?_, below_then hb hd⟩
        rw [← HB.out]
        refine lab_behind (hc1.below hd) (by omega) h8 (by omega) (fun h => ?_) (fun h => by first | (cases h; done) | omega)
        first | rfl | (exfalso; omega)
    · have hz : l = [] := List.length_eq_zero_iff.1 (by omega)
      subst hz
      simp at hil
      subst hil
      clear HF HB hcells hsp
      have gc : (0 : Int) ≤ (cap : Int) := by omega
      cases p with
      | none =>
        have hc0 : cap = 0 := hlc.2 rfl
        subst hc0
        go_wp2_with fail
        go_quiet (fail)
        go_wp2
        all_goals go_ret2
        all_goals exact ⟨_, _, rfl, LabAt.nil _ _ _ (fun _ => rfl), LabAt.nil _ _ _ (fun _ => rfl), below_then hb (below_drewN w1 nq)⟩
      | some ad =>
        clear hlc
        go_wp2_with fail
        go_quiet (fail)
        go_wp2
        all_goals go_ret2
        all_goals exact ⟨_, _, rfl, LabAt.nil _ _ _ (fun h => by cases h), LabAt.nil _ _ _ (fun h => by first | (cases h; done) | omega), below_then hb (below_drewN w1 nq)⟩
end Go.Proofs.Ytichphepfmafjac
