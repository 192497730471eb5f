/- line.copyLine answers the same line, in memory of its own: what is set in each round. -/
import Derived.Test.YtmpjddnbdidleaaLRow
namespace Go.Proofs.Ytmpjddnbdidleaa
open Go.RowKit Go.Proofs.Parclose

/-- all blocks but a row and two boxes are as they were -/
def Off3 (B : Nat) (r : Option Nat) (w w' : World) : Prop := ∀ k, k < w.heap.size → r ≠ some k → k ≠ B → k ≠ B + 1 → w'.heap[k]? = w.heap[k]?
theorem off3_below {B : Nat} {r : Option Nat} {w w1 w2 : World} (hb : Below w.heap.size w w1) (h : Off3 B r w1 w2) : Off3 B r w w2 := fun k hk hr h1 h2 => by rw [h k (Nat.lt_of_lt_of_le hk hb.size) hr h1 h2, hb.block k hk]
theorem off3_grown {B : Nat} {r : Option Nat} {w w1 w2 : World} (hg : w.grownBy w1 r) (h : Off3 B r w1 w2) : Off3 B r w w2 := fun k hk hr h1 h2 => by rw [h k (Nat.lt_of_lt_of_le hk hg.size) hr h1 h2, hg.block k hk (Ne.symm hr)]
abbrev zeroL : Array Value := #[.int .i64 0, .slice none 0 0, .int .i64 0, .bool false, .bool false, .bool false, .bool false, .bool false, .bool false, .bool false, .bool false]

structure CpL (w : World) (C : Array Value) (v : Value) (st : List Snt) (k : Nat) (wr : World) : Prop where
  box : wr.heap[w.heap.size]? = some (.cells C 25 (0, 0))
  res : wr.heap[w.heap.size + 1]? = some (.cells zeroL 25 (0, 0))
  below : Below w.heap.size w wr
  row : ∃ q : List SntV, q.map (·.s) = st ∧ wr.ownsRow w.heap.size 56 13 v q.length (flatS q) ∧ (∀ x ∈ q, ∀ w', Off3 w.heap.size v.ownBlock wr w' → x.Ok w') ∧ ∀ j (hj : j < q.length), j < k → ∀ w', Off (w.heap.size + 2) v.ownBlock wr w' → (q[j]).Ok w'

theorem CpL.below' {w wr w1 : World} {C : Array Value} {v : Value} {st : List Snt} {k : Nat} (h : CpL w C v st k wr) (hb : Below wr.heap.size wr w1) : CpL w C v st k w1 := by
  obtain ⟨q, r1, r2, r3, r4⟩ := h.row
  exact ⟨heap_keep h.box hb, heap_keep h.res hb, below_then h.below hb, q, r1, own_later r2 hb, fun x hx w' ho => r3 x hx w' (off3_below hb ho), fun j hj hk w' ho => r4 j hj hk w' (off_below hb ho)⟩

theorem CpL.step {w w1 : World} {C : Array Value} {g n cap : Nat} {st : List Snt} {u1 u2 u3 : Value} {k : Nat} {s : Snt} (h : CpL w C (.slice (some ⟨g, 0, none⟩) n cap) st k w1) (hn : n = st.length) (hk : k < st.length) (hs : st[k] = s)
    (hu : ∀ w', Off (w.heap.size + 2) (some g) w1 w' → LabAt w' u1 s.f.mail.label ∧ IntsAt w' u2 s.f.mail.grants ∧ CrtsAt w' u3 s.f.certs) :
    CpL w C (.slice (some ⟨g, 0, none⟩) n cap) st (k + 1) (((((((((((w1.setCell ⟨g, k * 13, none⟩ (.int .i64 s.f.fr)).setCell ⟨g, k * 13 + 1, none⟩ (.int .i64 s.f.to)).setCell ⟨g, k * 13 + 2, none⟩ (.int .i64 s.f.seq)).setCell ⟨g, k * 13 + 3, none⟩ (.bool s.f.ack)).setCell ⟨g, k * 13 + 4, none⟩ (.int .i64 s.f.thread)).setCell ⟨g, k * 13 + 5, none⟩ (.int .i64 s.f.mail.host)).setCell ⟨g, k * 13 + 6, none⟩ (.int .i64 s.f.mail.thread)).setCell ⟨g, k * 13 + 7, none⟩ (u1)).setCell ⟨g, k * 13 + 8, none⟩ (u2)).setCell ⟨g, k * 13 + 9, none⟩ (.string ⟨s.f.mail.text.toArray⟩)).setCell ⟨g, k * 13 + 10, none⟩ (u3)) := by
  obtain ⟨q, r1, r2, r3, r4⟩ := h.row
  have hq : q.length = st.length := by rw [← r1, List.length_map]
  have hkq : k < q.length := by omega
  have hsq : (q[k]).s = s := by rw [← hs]; simp only [← r1, List.getElem_map]
  rw [show n = q.length by omega] at r2 r3 r4 h ⊢
  have hg11 := grown_trans (grown_trans (grown_trans (grown_trans (grown_trans (grown_trans (grown_trans (grown_trans (grown_trans (grown_trans (grown_setCell w1 g (k * 13) (.int .i64 s.f.fr)) (grown_setCell _ g (k * 13 + 1) (.int .i64 s.f.to))) (grown_setCell _ g (k * 13 + 2) (.int .i64 s.f.seq))) (grown_setCell _ g (k * 13 + 3) (.bool s.f.ack))) (grown_setCell _ g (k * 13 + 4) (.int .i64 s.f.thread))) (grown_setCell _ g (k * 13 + 5) (.int .i64 s.f.mail.host))) (grown_setCell _ g (k * 13 + 6) (.int .i64 s.f.mail.thread))) (grown_setCell _ g (k * 13 + 7) (u1))) (grown_setCell _ g (k * 13 + 8) (u2))) (grown_setCell _ g (k * 13 + 9) (.string ⟨s.f.mail.text.toArray⟩))) (grown_setCell _ g (k * 13 + 10) (u3))
  have hrow := own_setB (j := k * 13 + 10) (own_setB (j := k * 13 + 9) (own_setB (j := k * 13 + 8) (own_setB (j := k * 13 + 7) (own_setB (j := k * 13 + 6) (own_setB (j := k * 13 + 5) (own_setB (j := k * 13 + 4) (own_setB (j := k * 13 + 3) (own_setB (j := k * 13 + 2) (own_setB (j := k * 13 + 1) (own_setB (j := k * 13) (r2) (by omega) (.int .i64 s.f.fr)) (by omega) (.int .i64 s.f.to)) (by omega) (.int .i64 s.f.seq)) (by omega) (.bool s.f.ack)) (by omega) (.int .i64 s.f.thread)) (by omega) (.int .i64 s.f.mail.host)) (by omega) (.int .i64 s.f.mail.thread)) (by omega) (u1)) (by omega) (u2)) (by omega) (.string ⟨s.f.mail.text.toArray⟩)) (by omega) (u3)
  rw [flatS_setv q k hkq u1 u2 u3 s hsq] at hrow
  generalize ((((((((((w1.setCell ⟨g, k * 13, none⟩ (.int .i64 s.f.fr)).setCell ⟨g, k * 13 + 1, none⟩ (.int .i64 s.f.to)).setCell ⟨g, k * 13 + 2, none⟩ (.int .i64 s.f.seq)).setCell ⟨g, k * 13 + 3, none⟩ (.bool s.f.ack)).setCell ⟨g, k * 13 + 4, none⟩ (.int .i64 s.f.thread)).setCell ⟨g, k * 13 + 5, none⟩ (.int .i64 s.f.mail.host)).setCell ⟨g, k * 13 + 6, none⟩ (.int .i64 s.f.mail.thread)).setCell ⟨g, k * 13 + 7, none⟩ (u1)).setCell ⟨g, k * 13 + 8, none⟩ (u2)).setCell ⟨g, k * 13 + 9, none⟩ (.string ⟨s.f.mail.text.toArray⟩)).setCell ⟨g, k * 13 + 10, none⟩ (u3) = w2 at *
  have hgB := own_base r2 (k := g) rfl
  refine ⟨heap_own h.box r2 (by decide) hg11, heap_own h.res r2 (by decide) hg11, h.below.grown hg11 h.below.size (fun i hi => by have := Option.some.inj hi; omega), q.set k ⟨s, u1, u2, u3⟩, ?_, by rw [List.length_set]; exact hrow, ?_, ?_⟩
  · rw [List.map_set, r1]
    show st.set k s = st
    rw [← hs]
    exact List.set_getElem_self hk
  · intro x hx w' ho
    rw [List.mem_iff_getElem] at hx
    obtain ⟨j, hj, rfl⟩ := hx
    rw [List.length_set] at hj
    have ho1 : Off3 w.heap.size (some g) w1 w' := off3_grown hg11 ho
    by_cases e : k = j
    · subst e
      rw [List.getElem_set_self]
      obtain ⟨a1, a2, a3⟩ := hu w' (fun i hi his hir => ho1 i his hir (by omega) (by omega))
      exact ⟨a1, a2, a3⟩
    · rw [List.getElem_set_ne e]
      exact r3 _ (List.getElem_mem hj) w' ho1
  · intro j hj hjk w' ho
    rw [List.length_set] at hj
    have ho1 : Off (w.heap.size + 2) (some g) w1 w' := off_grown hg11 ho
    by_cases e : k = j
    · subst e
      rw [List.getElem_set_self]
      obtain ⟨a1, a2, a3⟩ := hu w' ho1
      exact ⟨a1, a2, a3⟩
    · rw [List.getElem_set_ne e]
      exact r4 j hj (by omega) w' ho1
end Go.Proofs.Ytmpjddnbdidleaa
