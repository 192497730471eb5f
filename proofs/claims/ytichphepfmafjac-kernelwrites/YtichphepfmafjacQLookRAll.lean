/- parclosekeep.sameNumbers and sameMail answer true of two that are the same, and turn nothing. -/
import Derived.Test.YtichphepfmafjacQWGoodM
import Derived.Test.YtichphepfmafjacQLabelAll
import Derived.BigQuiet
import Derived.Test.YtichphepfmafjacQLookAll
namespace Go.Proofs.Ytichphepfmafjac
open Go.RowKit Go.Proofs.Parclose

set_option maxHeartbeats 800000 in
theorem ksameNumbers_eq (va vb : Value) (l : List Int) (w : World) (ha : IntsAt w va l) (hb : IntsAt w vb l) :
    Calls Try.prog 20 #[va, vb] w fun e w' => e = .returned (.bool true) ∧ Below w.heap.size w w' := by
  obtain ⟨p, cap, rfl, _, _, hca⟩ := ha
  obtain ⟨q, cap', rfl, _, _, hcb⟩ := hb
  go_enter Try.func20, Try.ntmps20
  go_wp2
  go_loopw [5] (fun i wr => ∃ k n : Nat, k ≤ l.length ∧ i = .int .i64 k ∧ wr = w.drewN n) (fun i _ => l.length - (intOf i).toNat)
  case atStart => exact ⟨0, 0, Nat.zero_le _, rfl, rfl⟩
  case round =>
    obtain ⟨k, n, hk, rfl, rfl⟩ := hrel
    by_cases hlt : k < l.length
    · obtain ⟨ba, oa, rfl, hcA⟩ := hca (by omega)
      obtain ⟨bb, ob, rfl, hcB⟩ := hcb (by omega)
      have ga := hcA k hlt
      have gb := hcB k hlt
      have hI : (k : Int) < (l.length : Int) := by omega
      clear hca hcb hcA hcB
      go_wp2_with fail
      go_quiet (fail)
      go_wp2
      go_roundw
      case rel => exact ⟨k + 1, _, hlt, by go_num, by first | rfl | (rw [World.drewN_drewN])⟩
      case measure => simp [intOf]; omega
    · go_wp2
      go_ret
      exact ⟨rfl, below_drewN _ _⟩

theorem ksameMail_eq (va vb : Value) (m : Mal) (w : World) (ha : MalAt w va m) (hb : MalAt w vb m) :
    Calls Try.prog 22 #[va, vb] w fun e w' => e = .returned (.bool true) ∧ Below w.heap.size w w' := by
  obtain ⟨vl, vg, rfl, hl, hg⟩ := ha
  obtain ⟨vl', vg', rfl, hl', hg'⟩ := hb
  obtain ⟨pl, cl, rfl, _⟩ := id hl
  obtain ⟨pg, cg, rfl, _⟩ := id hg
  obtain ⟨pl', cl', rfl, _⟩ := id hl'
  obtain ⟨pg', cg', rfl, _⟩ := id hg'
  unfold malV
  have hsame : sameB m.label m.label = true := (sameB_iff _ _).2 rfl
  have hsl := fun wx (h : Below w.heap.size w wx) => same_any _ _ m.label m.label wx (hl.below h) (hl'.below h)
  rw [hsame] at hsl
  have hsn := fun wx (h : Below w.heap.size w wx) => ksameNumbers_eq _ _ m.grants wx (hg.below h) (hg'.below h)
  go_enter Try.func22, Try.ntmps22
  go_wp2_with fail
  refine (hsl _ ((below_box w _).alloc (by simp) _)).mono ?_
  rintro e w1 ⟨rfl, hw1⟩
  have c3 : w1.cell? ⟨w.heap.size, 3, none⟩ = some (.slice pg m.grants.length cg) := by rw [hw1.cell (p := ⟨w.heap.size, 3, none⟩) (by simp; omega)]; simp
  have d3 : w1.cell? ⟨w.heap.size + 1, 3, none⟩ = some (.slice pg' m.grants.length cg') := by rw [hw1.cell (p := ⟨w.heap.size + 1, 3, none⟩) (by simp)]; simp
  have hb1 := below_then ((below_box w _).alloc (by simp) _) hw1
  clear hw1
  go_wp2_with fail
  refine (hsn _ hb1).mono ?_
  rintro e w2 ⟨rfl, hw2⟩
  go_wp2
  go_ret
  exact ⟨rfl, below_then hb1 hw2⟩
end Go.Proofs.Ytichphepfmafjac

namespace Go.Proofs.Ytichphepfmafjac
open Go.RowKit Go.Proofs.Parclose

theorem step_come {K : Ker} {n : Nat} (hn : n < K.ths.length) (x : Stp) (hc : x.come = true) :
    (thrOf (stepL K n x).1 n).text = (thrOf K n).text ∧
    ((thrOf (stepL K n x).1 n).mails = (thrOf K n).mails ∨ ((thrOf (stepL K n x).1 n).mails = (thrOf K n).mails ++ [x.mail] ∧ flowsL x.mail.label (thrOf K n).label (thrOf K n).own = true)) := by
  unfold stepL
  rw [if_pos hc]
  rw [thrOf_set hn (deliver_moves hn x.mail), if_pos rfl, thrOf_nat hn]
  unfold boxL
  split
  · rename_i h
    exact ⟨rfl, .inr ⟨rfl, h.2.1⟩⟩
  · exact ⟨rfl, .inl rfl⟩

theorem step_knows {K : Ker} {n : Nat} (hn : n < K.ths.length) (x : Stp) (hc : x.come = false) :
    (thrOf (stepL K n x).1 n).text = (thrOf K n).text ∨ x.call.kind = 9 ∨ (x.call.kind = 7 ∧ (stepL K n x).2.code = 0) ∨
    (x.call.kind = 4 ∧ (stepL K n x).2.code = 0 ∧ ∃ (i : Nat) (hi : i < (thrOf (stepL K n x).1 x.call.t).objs.length), x.call.n = i ∧ flowsL (thrOf (stepL K n x).1 x.call.t).objs[i].label (thrOf K n).label (thrOf K n).own = true) := by
  unfold stepL
  rw [if_neg (by rw [hc]; decide)]
  rcases call_moves hn x.call with ⟨th2, e, hs⟩ | ⟨_, u, hu, i, hi, y, e, _⟩
  · rw [thrOf_set hn e, if_pos rfl, thrOf_nat hn]
    rcases hs.text with g | g | g | ⟨g1, g2, g3, o, ho, hf⟩
    · exact .inl g
    · exact .inr (.inl g)
    · exact .inr (.inr (.inl g))
    · refine .inr (.inr (.inr ⟨g1, g2, ?_⟩))
      have eo : (thrOf (callL K n x.call).1 x.call.t).objs = (thrOf K x.call.t).objs := by
        rw [thrOf_set hn e]
        split
        · rename_i hq
          rw [g3, hq, thrOf_nat hn]
        · rfl
      unfold objAt at ho
      cases hth : getT K x.call.t with
      | none => rw [hth] at ho; cases ho
      | some tt =>
        rw [hth] at ho
        simp only at ho
        split at ho
        · rename_i h0
          rw [thrOf_some hth] at eo
          obtain ⟨hi, ei⟩ := List.getElem?_eq_some_iff.1 ho
          refine ⟨x.call.n.toNat, by rw [eo]; exact hi, by omega, ?_⟩
          simp only [eo, ei]
          exact hf
        · cases ho
  · left
    rw [thrOf_set hu e, thrOf_nat hn]
    split
    · rename_i hq
      have : n = u := by omega
      subst this
      rfl
    · rfl

/-- the mail at a place of a copy -/
theorem MailsNew.get {w : World} {B : Nat} {p : Option Addr} {n cap : Nat} {ms : List Mal} (h : MailsNew w B (.slice p n cap) ms) (i : Nat) (hi : i < ms.length) :
    ∃ g pl cl pg cg, p = some ⟨g, 0, none⟩ ∧ w.cell? ⟨g, i * 5, none⟩ = some (.int .i64 ms[i].host) ∧ w.cell? ⟨g, i * 5 + 1, none⟩ = some (.int .i64 ms[i].thread) ∧ w.cell? ⟨g, i * 5 + 2, none⟩ = some (.slice pl ms[i].label.length cl) ∧ w.cell? ⟨g, i * 5 + 3, none⟩ = some (.slice pg ms[i].grants.length cg) ∧ w.cell? ⟨g, i * 5 + 4, none⟩ = some (.string ⟨ms[i].text.toArray⟩) ∧
      w.ownsRow B 84 2 (.slice pl ms[i].label.length cl) ms[i].label.length (flat2 ms[i].label) ∧ w.ownsRow B 3 1 (.slice pg ms[i].grants.length cg) ms[i].grants.length (flat1 ms[i].grants) := by
  obtain ⟨vs, r1, r2, r3⟩ := h
  obtain ⟨g, hpe⟩ : ∃ g, p = some ⟨g, 0, none⟩ := by
    rcases r2.2 with ⟨_, hn⟩ | ⟨g, cap, cur, e, _⟩
    · omega
    · cases e; exact ⟨g, rfl⟩
  subst hpe
  have huk : i < vs.length := by omega
  obtain ⟨m0, m1, m2, m3, m4⟩ := flatM_get vs ms r1 i huk hi
  have a0 := World.ownsRow.cells r2 (g := g) rfl _ _ m0
  have a1 := World.ownsRow.cells r2 (g := g) rfl _ _ m1
  have a2 := World.ownsRow.cells r2 (g := g) rfl _ _ m2
  have a3 := World.ownsRow.cells r2 (g := g) rfl _ _ m3
  have a4 := World.ownsRow.cells r2 (g := g) rfl _ _ m4
  rw [WideShapes.add_plain, Nat.zero_add] at a0 a1 a2 a3 a4
  obtain ⟨o1, o2⟩ := r3 i huk hi
  obtain ⟨pl, cl, el⟩ := own_slice o1
  obtain ⟨pg, cg, eg⟩ := own_slice o2
  rw [el] at a2 o1
  rw [eg] at a3 o2
  exact ⟨g, pl, cl, pg, cg, rfl, a0, a1, a2, a3, a4, o1, o2⟩

/-- the object at a place of a copy -/
theorem ObjsNew.get {w : World} {B : Nat} {p : Option Addr} {n cap : Nat} {os : List Obt} (h : ObjsNew w B (.slice p n cap) os) (i : Nat) (hi : i < os.length) :
    ∃ g pl cl, p = some ⟨g, 0, none⟩ ∧ w.cell? ⟨g, i * 2, none⟩ = some (.slice pl os[i].label.length cl) ∧ w.cell? ⟨g, i * 2 + 1, none⟩ = some (.string ⟨os[i].text.toArray⟩) ∧
      w.ownsRow B 84 2 (.slice pl os[i].label.length cl) os[i].label.length (flat2 os[i].label) := by
  obtain ⟨vs, r1, r2, r3⟩ := h
  obtain ⟨g, hpe⟩ : ∃ g, p = some ⟨g, 0, none⟩ := by
    rcases r2.2 with ⟨_, hn⟩ | ⟨g, cap, cur, e, _⟩
    · omega
    · cases e; exact ⟨g, rfl⟩
  subst hpe
  have huk : i < vs.length := by omega
  obtain ⟨m0, m1⟩ := flatO_get vs os r1 i huk hi
  have a0 := World.ownsRow.cells r2 (g := g) rfl _ _ m0
  have a1 := World.ownsRow.cells r2 (g := g) rfl _ _ m1
  rw [WideShapes.add_plain, Nat.zero_add] at a0 a1
  have o1 := r3 i huk hi
  obtain ⟨pl, cl, el⟩ := own_slice o1
  rw [el] at a0 o1
  exact ⟨g, pl, cl, rfl, a0, a1, o1⟩

theorem field_objects (a b c d e : Value) (w : World) : (Instr.field 31 (.agg #[a, b, c, d, e]) 3).run Try.prog w = .ok d w := by kernel_rfl
end Go.Proofs.Ytichphepfmafjac
