/- A line in a box; Take as a step of a region that draws; lists of numbers that are cut and put together. -/
import Derived.Test.YtmpjddnbdidleaaLLines
import Derived.Test.YtmpjddnbdidleaaWCopy
import Derived.Test.YtmpjddnbdidleaaPlainTri
namespace Go.Proofs.Ytmpjddnbdidleaa
open Go.RowKit Go.Proofs.Parclose

/-- the line L lies in block b, its row in memory from B on -/
def LBox (w : World) (b B : Nat) (L : Lne) : Prop := ∃ nx st hi b0 b1 b2 b3 b4 b5 b6 b7 p cap sq, L = ⟨nx, st, hi, [b0, b1, b2, b3, b4, b5, b6, b7]⟩ ∧ w.heap[b]? = some (.cells #[.int .i64 nx, .slice p st.length cap, .int .i64 hi, .bool b0, .bool b1, .bool b2, .bool b3, .bool b4, .bool b5, .bool b6, .bool b7] 25 (0, 0)) ∧ sq.map (·.s) = st ∧ sq.length ≤ 879609302220 ∧ OwnRow B w (.slice p st.length cap) sq
theorem LBox.below {w w' : World} {b B : Nat} {L : Lne} (h : LBox w b B L) (hb : Below w.heap.size w w') : LBox w' b B L := by
  obtain ⟨nx, st, hi, b0, b1, b2, b3, b4, b5, b6, b7, p, cap, sq, h1, h2, h3, h4, h5⟩ := h
  exact ⟨nx, st, hi, b0, b1, b2, b3, b4, b5, b6, b7, p, cap, sq, h1, heap_keep h2 hb, h3, h4, h5.below hb⟩
theorem LBox.lt {w : World} {b B : Nat} {L : Lne} (h : LBox w b B L) : b < w.heap.size := by
  obtain ⟨nx, st, hi, b0, b1, b2, b3, b4, b5, b6, b7, p, cap, sq, h1, h2, h3⟩ := h
  exact heap_lt h2
theorem LBox.open {w : World} {b B : Nat} {L : Lne} (h : LBox w b B L) : ∃ nx st hi b0 b1 b2 b3 b4 b5 b6 b7 p cap, L = ⟨nx, st, hi, [b0, b1, b2, b3, b4, b5, b6, b7]⟩ ∧ w.heap[b]? = some (.cells #[.int .i64 nx, .slice p st.length cap, .int .i64 hi, .bool b0, .bool b1, .bool b2, .bool b3, .bool b4, .bool b5, .bool b6, .bool b7] 25 (0, 0)) ∧ SntsAt w (.slice p st.length cap) st := by
  obtain ⟨nx, st, hi, b0, b1, b2, b3, b4, b5, b6, b7, p, cap, sq, h1, h2, h3, h4, h5⟩ := h
  exact ⟨nx, st, hi, b0, b1, b2, b3, b4, b5, b6, b7, p, cap, h1, h2, by have := h5.snts h4; rwa [h3] at this⟩
theorem LBox.low {w : World} {b B B' : Nat} {L : Lne} (h : LBox w b B L) (hB : B' ≤ B) : LBox w b B' L := by
  obtain ⟨nx, st, hi, b0, b1, b2, b3, b4, b5, b6, b7, p, cap, sq, h1, h2, h3, h4, h5⟩ := h
  exact ⟨nx, st, hi, b0, b1, b2, b3, b4, b5, b6, b7, p, cap, sq, h1, h2, h3, h4, h5.low hB⟩
theorem below_none' {w w' : World} (hg : w.grownBy w' none) : Below w.heap.size w w' := ⟨hg.os, hg.tape, hg.output, hg.size, fun k hk => hg.block k hk (by simp)⟩
theorem own_nil (B : Nat) (w : World) : OwnRow B w (.slice none 0 0) [] := ⟨World.ownsRow_nil _ _ _ _, fun x hx => absurd hx (by simp)⟩
theorem forall_and11 {α : Type} {a0 a1 a2 a3 a4 a5 a6 a7 a8 a9 a10 : α → Prop} (h : ∀ o, a0 o ∧ a1 o ∧ a2 o ∧ a3 o ∧ a4 o ∧ a5 o ∧ a6 o ∧ a7 o ∧ a8 o ∧ a9 o ∧ a10 o) : (∀ o, a0 o) ∧ (∀ o, a1 o) ∧ (∀ o, a2 o) ∧ (∀ o, a3 o) ∧ (∀ o, a4 o) ∧ (∀ o, a5 o) ∧ (∀ o, a6 o) ∧ (∀ o, a7 o) ∧ (∀ o, a8 o) ∧ (∀ o, a9 o) ∧ (∀ o, a10 o) :=
  ⟨fun o => (h o).1, fun o => (h o).2.1, fun o => (h o).2.2.1, fun o => (h o).2.2.2.1, fun o => (h o).2.2.2.2.1, fun o => (h o).2.2.2.2.2.1, fun o => (h o).2.2.2.2.2.2.1, fun o => (h o).2.2.2.2.2.2.2.1, fun o => (h o).2.2.2.2.2.2.2.2.1, fun o => (h o).2.2.2.2.2.2.2.2.2.1, fun o => (h o).2.2.2.2.2.2.2.2.2.2⟩
theorem lbox_zero (w : World) (o : Obj) (B : Nat) : LBox ((w.alloc (.cells #[.int .i64 0, .slice none 0 0, .int .i64 0, .bool false, .bool false, .bool false, .bool false, .bool false, .bool false, .bool false, .bool false] 25)).alloc o) w.heap.size B zeroLne :=
  ⟨0, [], 0, false, false, false, false, false, false, false, false, none, 0, [], rfl, heap_alloc2_old w _ _, rfl, by simp, own_nil _ _⟩
theorem lbox_row {w : World} {b B : Nat} {sq : List SntV} {p : Option Addr} {cap : Nat} {st : List Snt} (h : OwnRow B w (.slice p st.length cap) sq) (hm : sq.map (·.s) = st) (hl : sq.length ≤ 879609302220) (nx hi : Int) (b0 b1 b2 b3 b4 b5 b6 b7 : Bool) (hb : w.heap[b]? = some (.cells #[.int .i64 nx, .slice p st.length cap, .int .i64 hi, .bool b0, .bool b1, .bool b2, .bool b3, .bool b4, .bool b5, .bool b6, .bool b7] 25 (0, 0))) : LBox w b B ⟨nx, st, hi, [b0, b1, b2, b3, b4, b5, b6, b7]⟩ :=
  ⟨nx, st, hi, b0, b1, b2, b3, b4, b5, b6, b7, p, cap, sq, rfl, hb, hm, hl, h⟩
/-- a line that is stored into a box -/
theorem lbox_store {w : World} {b B : Nat} {sq : List SntV} {p : Option Addr} {cap : Nat} {st : List Snt} {y0 y1 y2 y3 y4 y5 y6 y7 y8 y9 y10 : Value} (hy : w.heap[b]? = some (.cells #[y0, y1, y2, y3, y4, y5, y6, y7, y8, y9, y10] 25 (0, 0))) (h : OwnRow B w (.slice p st.length cap) sq) (hbB : b < B) (hm : sq.map (·.s) = st) (hl : sq.length ≤ 879609302220) (nx hi : Int) (b0 b1 b2 b3 b4 b5 b6 b7 : Bool) :
    LBox (((((((((((w.setCell ⟨b, 0, none⟩ (.int .i64 nx)).setCell ⟨b, 1, none⟩ (.slice p st.length cap)).setCell ⟨b, 2, none⟩ (.int .i64 hi)).setCell ⟨b, 3, none⟩ (.bool b0)).setCell ⟨b, 4, none⟩ (.bool b1)).setCell ⟨b, 5, none⟩ (.bool b2)).setCell ⟨b, 6, none⟩ (.bool b3)).setCell ⟨b, 7, none⟩ (.bool b4)).setCell ⟨b, 8, none⟩ (.bool b5)).setCell ⟨b, 9, none⟩ (.bool b6)).setCell ⟨b, 10, none⟩ (.bool b7)) b B ⟨nx, st, hi, [b0, b1, b2, b3, b4, b5, b6, b7]⟩ ∧ w.grownBy (((((((((((w.setCell ⟨b, 0, none⟩ (.int .i64 nx)).setCell ⟨b, 1, none⟩ (.slice p st.length cap)).setCell ⟨b, 2, none⟩ (.int .i64 hi)).setCell ⟨b, 3, none⟩ (.bool b0)).setCell ⟨b, 4, none⟩ (.bool b1)).setCell ⟨b, 5, none⟩ (.bool b2)).setCell ⟨b, 6, none⟩ (.bool b3)).setCell ⟨b, 7, none⟩ (.bool b4)).setCell ⟨b, 8, none⟩ (.bool b5)).setCell ⟨b, 9, none⟩ (.bool b6)).setCell ⟨b, 10, none⟩ (.bool b7)) (some b) := by
  have hS := st11_grown w b (.int .i64 nx) (.slice p st.length cap) (.int .i64 hi) (.bool b0) (.bool b1) (.bool b2) (.bool b3) (.bool b4) (.bool b5) (.bool b6) (.bool b7)
  exact ⟨lbox_row (h.box hS hbB) hm hl nx hi b0 b1 b2 b3 b4 b5 b6 b7 (st11_heap (.int .i64 nx) (.slice p st.length cap) (.int .i64 hi) (.bool b0) (.bool b1) (.bool b2) (.bool b3) (.bool b4) (.bool b5) (.bool b6) (.bool b7) hy), hS⟩
theorem enter_ltake (args : Array Value) (w : World) : (callFunc 22 args).run Try.prog w = .ok (.enter 22 args) w := by kernel_rfl
/-- Take, as a step of a region that draws -/
theorem step_ltake {w : World} {ops : Array Oper} {o : Oper} {a0 : Act} {K : Act → World → Prop} {Q : Exit → Act → World → Prop} {E : Prop} (hgd : o.guard = none) (x y : Operand) (ats : Array TypeId)
    (ho : o.op = .call { callee := .value (.func 22), args := #[x, y], argTypes := ats }) (v : Value) (L : Lne) (q c : Int) (hx : a0.eval x = v) (hy : a0.eval y = .int .i64 q) (hv : LneAt w v L) (hc : (takeLn L q).2 = c)
    (h : ∀ nx st hi b0 b1 b2 b3 b4 b5 b6 b7 p cap sq w', (takeLn L q).1 = ⟨nx, st, hi, [b0, b1, b2, b3, b4, b5, b6, b7]⟩ → OwnRow w.heap.size w' (.slice p st.length cap) sq → sq.map (·.s) = st → sq.length ≤ 879609302220 → Below w.heap.size w w' → K (a0.put o.dst (.tuple #[.agg #[.int .i64 nx, .slice p st.length cap, .int .i64 hi, .bool b0, .bool b1, .bool b2, .bool b3, .bool b4, .bool b5, .bool b6, .bool b7], .int .i64 c])) w') :
    if Region.wanted o (yielded ops a0.tmps) = true then Oper.wp Try.prog o a0 w K Q else E := by
  have hw : Region.wanted o (yielded ops a0.tmps) = true := by simp [Region.wanted, hgd]
  rw [if_pos hw]
  unfold Oper.wp
  obtain ⟨dst, op, ty, pos, after, guard⟩ := o
  simp only at ho
  subst ho
  rw [execOp_call_go]
  have e : (#[] ++ #[x, y].map a0.eval ++ #[] : Array Value) = #[v, .int .i64 q] := by simp [hx, hy]
  rw [e, enter_ltake, Oper.upon_enter]
  refine (ltake_any v L q w hv).mono ?_
  rintro e w' ⟨v', rfl, h1, h2⟩
  obtain ⟨nx, st, hi, b0, b1, b2, b3, b4, b5, b6, b7, p, cap, sq, e1, rfl, e3, e4, e5⟩ := h1.spell
  have := h nx st hi b0 b1 b2 b3 b4 b5 b6 b7 p cap sq w' e1 e5 e3 e4 h2
  rw [← hc] at this
  exact this

theorem IntsAt.take {w : World} {p : Option Addr} {cap : Nat} {l : List Int} (h : IntsAt w (.slice p l.length cap) l) (k : Nat) (hk : k ≤ l.length) : IntsAt w (.slice p k cap) (l.take k) := by
  obtain ⟨p', cap', e, h2, h3, h4⟩ := h
  cases e
  have hl : (l.take k).length = k := by simp; omega
  refine ⟨p, cap, by rw [hl], ⟨by omega, h2.2⟩, by omega, fun h0 => ?_⟩
  obtain ⟨b, o, e, hc⟩ := h4 (by omega)
  refine ⟨b, o, e, fun j hj => ?_⟩
  rw [List.getElem_take]
  exact hc j (by omega)
theorem IntsAt.drop {w : World} {b o : Nat} {cap : Nat} {l : List Int} (h : IntsAt w (.slice (some ⟨b, o, none⟩) l.length cap) l) (k : Nat) (hk : k ≤ l.length) : IntsAt w (.slice (some ⟨b, o + k, none⟩) (l.length - k) (cap - k)) (l.drop k) := by
  obtain ⟨p', cap', e, h2, h3, h4⟩ := h
  cases e
  have hl : (l.drop k).length = l.length - k := by simp
  refine ⟨_, _, by rw [hl], ⟨by omega, fun e => by cases e⟩, by omega, fun h0 => ?_⟩
  obtain ⟨b', o', e, hc⟩ := h4 (by omega)
  cases e
  refine ⟨b, o + k, rfl, fun j hj => ?_⟩
  rw [List.getElem_drop, show o + k + j = o + (k + j) by omega]
  exact hc (k + j) (by omega)

theorem IntsAt.drop' {w : World} {b o : Nat} {cap : Nat} {l : List Int} (h : IntsAt w (.slice (some ⟨b, o, none⟩) l.length cap) l) (k : Nat) (hk : k ≤ l.length) : IntsAt w (.slice (if cap = k then some ⟨b, o, none⟩ else some ⟨b, o + k, none⟩) (l.length - k) (cap - k)) (l.drop k) := by
  by_cases hc : cap = k
  · rw [if_pos hc]
    obtain ⟨p', cap', e, h2, h3, h4⟩ := h
    cases e
    have e0 : l.length = k := by omega
    rw [List.drop_eq_nil_of_le (by omega), e0, Nat.sub_self]
    exact IntsAt.nil _ _ _ (fun e => by cases e)
  · rw [if_neg hc]
    exact h.drop k hk

/-- append of numbers to a row of one's own, as a step of a region that draws -/
theorem step_appI {w : World} {ops : Array Oper} {o : Oper} {a0 : Act} {K : Act → World → Prop} {Q : Exit → Act → World → Prop} {E : Prop} (hgd : o.guard = none) (s x : Operand)
    (ho : o.op = .call { callee := .builtin .append, args := #[s, x], argTypes := #[28, 28] }) (base : Nat) (v u : Value) (m l : List Int) (hs : a0.eval s = v) (hown : w.ownsRow base 3 1 v m.length (flat1 m)) (hx : a0.eval x = u) (hu : IntsAt w u l) (hm : m.length + l.length ≤ 1000) (hbase : base ≤ w.heap.size)
    (h : ∀ v' w', w'.ownsRow base 3 1 v' (m.length + l.length) (flat1 (m ++ l)) → w.grownBy w' v.ownBlock → K (a0.put o.dst v') w') :
    if Region.wanted o (yielded ops a0.tmps) = true then Oper.wp Try.prog o a0 w K Q else E := by
  have hw : Region.wanted o (yielded ops a0.tmps) = true := by simp [Region.wanted, hgd]
  rw [if_pos hw]
  obtain ⟨i0, hi, hz0, hz1, hz2⟩ := info_parts info_int
  obtain ⟨p, cap, rfl, hlc, hcap, hcells⟩ := hu
  cases p with
  | none =>
    have e : l = [] := by
      by_cases h0 : 0 < l.length
      · obtain ⟨b, o, e, _⟩ := hcells h0
        cases e
      · exact List.length_eq_zero_iff.1 (by omega)
    subst e
    have ec : cap = 0 := hlc.2 rfl
    subst ec
    have hrun := run_append_owned_none (P := Try.prog) (w := w) base 28 o.type 3 i0 1 Try.underlying28 hi v m.length (flat1 m) hown
    unfold Oper.wp
    simp [execOp, ho, resolve, invoke, builtin, hs, hx, hrun, Result.andThen]
    exact h _ w (by simpa using hown) ⟨rfl, rfl, rfl, Nat.le_refl _, fun _ _ _ => rfl⟩
  | some ad =>
    have hnews : ∀ j u, (flat1 l)[j]? = some u → w.cell? (ad.add j) = some u := by
      intro j u hu
      have hj : j < l.length := by simpa [flat1] using (List.getElem?_eq_some_iff.1 hu).1
      obtain ⟨b, o, e, hc⟩ := hcells (by omega)
      cases e
      rw [WideShapes.add_plain, hc j hj]
      simpa [flat1, hj] using hu
    exact wp_append_own w s x 28 ho base 3 i0 _ 1 8 Try.underlying28 hi hz0 hz1 hz2 rfl (by decide) v m.length (flat1 m) hs hown ad l.length cap (flat1 l) hx (by simp [flat1]) hnews (flat1_one l) (by unfold maxLen; omega) (by omega) hbase
      (fun v' w' h1 h2 _ => h v' w' (by simpa [flat1] using h1) h2)
end Go.Proofs.Ytmpjddnbdidleaa
