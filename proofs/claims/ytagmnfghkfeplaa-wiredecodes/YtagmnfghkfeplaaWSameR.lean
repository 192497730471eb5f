/- The reference: SameNumbers, SameCerts, SameMail and SameFrame answer true of two that are the same. -/
import Derived.Test.YtagmnfghkfeplaaWRefF
import Derived.Test.YtagmnfghkfeplaaWSameF
namespace Go.Proofs.Ytagmnfghkfeplaa
open Go.RowKit Go.Proofs.Parclose

set_option maxHeartbeats 800000 in
theorem rsameNumbers_eq (va vb : Value) (l : List Int) (w : World) (ha : IntsAt w va l) (hb : IntsAt w vb l) :
    Calls Try.prog 52 #[va, vb] w fun e w' => e = .returned (.bool true) ∧ Below w.heap.size w w' := by
  obtain ⟨p, cap, rfl, _, _, hca⟩ := ha
  obtain ⟨q, cap', rfl, _, _, hcb⟩ := hb
  go_enter Try.func52, Try.ntmps52
  go_wp2
  go_loopw [13] (fun i wr => ∃ k n : Nat, k ≤ l.length ∧ i = .int .i64 k ∧ wr = w.drewN n) (fun i _ => l.length - (intOf i).toNat)
  case atStart => exact ⟨0, 0, Nat.zero_le _, rfl, rfl⟩
  case round =>
    obtain ⟨k, n, hk, rfl, rfl⟩ := hrel
    by_cases hlt : k < l.length
    · obtain ⟨ba, oa, rfl, hcA⟩ := hca (by omega)
      obtain ⟨bb, ob, rfl, hcB⟩ := hcb (by omega)
      have ga := hcA k hlt
      have gb := hcB k hlt
      have hI : (k : Int) < (l.length : Int) := by omega
      clear hca hcb hcA hcB
      go_wp2_with fail
      go_quiet (fail)
      go_wp2
      go_roundw
      case rel => exact ⟨k + 1, _, hlt, by go_num, by first | rfl | (rw [World.drewN_drewN])⟩
      case measure => simp [intOf]; omega
    · go_wp2
      go_ret
      exact ⟨rfl, below_drewN _ _⟩

set_option maxHeartbeats 800000 in
theorem rsameCerts_eq (va vb : Value) (l : List Crt) (w : World) (ha : CrtsAt w va l) (hb : CrtsAt w vb l) :
    Calls Try.prog 47 #[va, vb] w fun e w' => e = .returned (.bool true) ∧ Below w.heap.size w w' := by
  obtain ⟨p, cap, rfl, _, _, hca⟩ := ha
  obtain ⟨q, cap', rfl, _, _, hcb⟩ := hb
  have hgd := guard_cert
  go_enter Try.func47, Try.ntmps47
  go_wp2
  go_loopw [13] (fun i wr => ∃ k n : Nat, k ≤ l.length ∧ i = .int .i64 k ∧ wr = w.drewN n) (fun i _ => l.length - (intOf i).toNat)
  case atStart => exact ⟨0, 0, Nat.zero_le _, rfl, rfl⟩
  case round =>
    obtain ⟨k, n, hk, rfl, rfl⟩ := hrel
    by_cases hlt : k < l.length
    · obtain ⟨ba, oa, rfl, hcA⟩ := hca (by omega)
      obtain ⟨bb, ob, rfl, hcB⟩ := hcb (by omega)
      obtain ⟨a1, a2, a3, a4⟩ := hcA k hlt
      obtain ⟨b1, b2, b3, b4⟩ := hcB k hlt
      have hI : (k : Int) < (l.length : Int) := by omega
      have hne := fun wx => neq_cert l[k] wx
      clear hca hcb hcA hcB
      go_wp2_with fail
      go_quiet (fail)
      go_wp2
      go_roundw
      case rel => exact ⟨k + 1, _, hlt, by go_num, by first | rfl | (rw [World.drewN_drewN])⟩
      case measure => simp [intOf]; omega
    · go_wp2
      go_ret
      exact ⟨rfl, below_drewN _ _⟩

theorem rsameMail_eq (va vb : Value) (m : Mal) (w : World) (ha : MalAt w va m) (hb : MalAt w vb m) :
    Calls Try.prog 36 #[va, vb] w fun e w' => e = .returned (.bool true) ∧ Below w.heap.size w w' := by
  obtain ⟨vl, vg, rfl, hl, hg⟩ := ha
  obtain ⟨vl', vg', rfl, hl', hg'⟩ := hb
  obtain ⟨pl, cl, rfl, _⟩ := id hl
  obtain ⟨pg, cg, rfl, _⟩ := id hg
  obtain ⟨pl', cl', rfl, _⟩ := id hl'
  obtain ⟨pg', cg', rfl, _⟩ := id hg'
  unfold malV
  have hsame : sameB m.label m.label = true := (sameB_iff _ _).2 rfl
  have hsl := fun wx (h : Below w.heap.size w wx) => rsame_any _ _ m.label m.label wx (hl.below h) (hl'.below h)
  rw [hsame] at hsl
  have hsn := fun wx (h : Below w.heap.size w wx) => rsameNumbers_eq _ _ m.grants wx (hg.below h) (hg'.below h)
  go_enter Try.func36, Try.ntmps36
  go_wp2_with fail
  refine (hsl _ ((below_box w _).alloc (by simp) _)).mono ?_
  rintro e w1 ⟨rfl, hw1⟩
  have c3 : w1.cell? ⟨w.heap.size, 3, none⟩ = some (.slice pg m.grants.length cg) := by rw [hw1.cell (p := ⟨w.heap.size, 3, none⟩) (by simp; omega)]; simp
  have d3 : w1.cell? ⟨w.heap.size + 1, 3, none⟩ = some (.slice pg' m.grants.length cg') := by rw [hw1.cell (p := ⟨w.heap.size + 1, 3, none⟩) (by simp)]; simp
  have hb1 := below_then ((below_box w _).alloc (by simp) _) hw1
  clear hw1
  go_wp2_with fail
  refine (hsn _ hb1).mono ?_
  rintro e w2 ⟨rfl, hw2⟩
  go_wp2
  go_ret
  exact ⟨rfl, below_then hb1 hw2⟩

set_option maxHeartbeats 1600000 in
theorem rsameFrame_eq (va vb : Value) (f : Frm) (w : World) (ha : FrmAt w va f) (hb : FrmAt w vb f) :
    Calls Try.prog 21 #[va, vb] w fun e w' => e = .returned (.bool true) ∧ Below w.heap.size w w' := by
  obtain ⟨vl, vg, vc, rfl, hl, hg, hc⟩ := ha
  obtain ⟨vl', vg', vc', rfl, hl', hg', hc'⟩ := hb
  have hm := mal_of_frm hl hg
  have hm' := mal_of_frm hl' hg'
  obtain ⟨pl, cl, rfl, _⟩ := id hl
  obtain ⟨pg, cg, rfl, _⟩ := id hg
  obtain ⟨pc, cc, rfl, _⟩ := id hc
  obtain ⟨pl', cl', rfl, _⟩ := id hl'
  obtain ⟨pg', cg', rfl, _⟩ := id hg'
  obtain ⟨pc', cc', rfl, _⟩ := id hc'
  unfold frmV
  have hsm := fun wx (h : Below w.heap.size w wx) => rsameMail_eq _ _ f.mail wx (hm.below h) (hm'.below h)
  have hsc := fun wx (h : Below w.heap.size w wx) => rsameCerts_eq _ _ f.certs wx (hc.below h) (hc'.below h)
  go_enter Try.func21, Try.ntmps21
  go_wp2_with fail
  refine (hsm _ ((below_box w _).alloc (by simp) _)).mono ?_
  rintro e w1 ⟨rfl, hw1⟩
  have c10 : w1.cell? ⟨w.heap.size, 10, none⟩ = some (.slice pc f.certs.length cc) := by rw [hw1.cell (p := ⟨w.heap.size, 10, none⟩) (by simp; omega)]; simp
  have d10 : w1.cell? ⟨w.heap.size + 1, 10, none⟩ = some (.slice pc' f.certs.length cc') := by rw [hw1.cell (p := ⟨w.heap.size + 1, 10, none⟩) (by simp)]; simp
  have hb1 := below_then ((below_box w _).alloc (by simp) _) hw1
  clear hw1
  go_wp2_with fail
  refine (hsc _ hb1).mono ?_
  rintro e w2 ⟨rfl, hw2⟩
  go_wp2
  go_ret
  exact ⟨rfl, below_then hb1 hw2⟩
end Go.Proofs.Ytagmnfghkfeplaa
