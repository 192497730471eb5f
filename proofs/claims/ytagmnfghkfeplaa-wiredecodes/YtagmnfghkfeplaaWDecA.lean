/- Towards the reference's DecodeFrame: texts in rows, boxes of frames, steps of regions that draw. -/
import Derived.Test.YtagmnfghkfeplaaWRefS
import Derived.Test.YtagmnfghkfeplaaWRefF
import Derived.Test.YtagmnfghkfeplaaWDec
namespace Go.Proofs.Ytagmnfghkfeplaa
open Go.RowKit Go.Proofs.Parclose

/-- v is a slice whose elements are the texts rs -/
def StrsAt (w : World) (v : Value) (rs : List (List UInt8)) : Prop :=
  ∃ p cap, v = .slice p rs.length cap ∧ (0 < rs.length → ∃ g, p = some ⟨g, 0, none⟩ ∧ ∀ j (_ : j < rs.length), w.cell? ⟨g, j, none⟩ = some (.string ⟨rs[j].toArray⟩))
theorem StrsAt.below {w wr : World} {v : Value} {rs : List (List UInt8)} (h : StrsAt w v rs) (hb : Below w.heap.size w wr) : StrsAt wr v rs := by
  obtain ⟨p, cap, h1, h2⟩ := h
  refine ⟨p, cap, h1, fun h0 => ?_⟩
  obtain ⟨g, h3, h4⟩ := h2 h0
  exact ⟨g, h3, fun j hj => by rw [hb.cell (cell_block (h4 j hj)), h4 j hj]⟩
theorem StrsAt.cells {w : World} {p : Option Addr} {n cap : Nat} {rs : List (List UInt8)} (h : StrsAt w (.slice p n cap) rs) (h0 : 0 < rs.length) : ∃ g, p = some ⟨g, 0, none⟩ ∧ ∀ j (_ : j < rs.length), w.cell? ⟨g, j, none⟩ = some (.string ⟨rs[j].toArray⟩) := by
  obtain ⟨p', cap', e, h4⟩ := h
  cases e
  exact h4 h0

/-- the reference's rows, where there are enough bytes and where not -/
theorem rrows_none {s : List UInt8} {sz : Nat} (w : World) (hs : sz ≤ 9) (h : rowsP sz s = none) : Calls Try.prog 46 #[.string ⟨s.toArray⟩, .int .i64 sz] w fun e w' => e = .returned (.tuple #[.slice none 0 0, .string ⟨#[]⟩, .bool false]) ∧ Below w.heap.size w w' := by
  cases s with
  | nil => exact rrows_empty sz w
  | cons b r =>
    simp only [rowsP] at h
    split at h
    · rename_i hl
      exact rrows_no b r sz w hs hl
    · cases h
theorem rows_own {w : World} {base : Nat} {v : Value} {x : List UInt8} {sz n : Nat} (h : w.ownsRow base 9 1 v n (rowsV x sz n)) : StrsAt w v (rowsL x sz n) := by
  obtain ⟨p, cap, rfl, _, h2⟩ := owns_cells h
  refine ⟨p, cap, by rw [rowsL_length], fun h0 => ?_⟩
  rw [rowsL_length] at h0
  obtain ⟨g, rfl, hc⟩ := h2 h0
  refine ⟨g, rfl, fun j hj => hc j _ ?_⟩
  rw [rowsL_length] at hj
  simp [rowsV, rowsL, hj]
theorem rrows_some {s : List UInt8} {sz : Nat} (w : World) (hs : sz ≤ 9) {rs : List (List UInt8)} {q : List UInt8} (h : rowsP sz s = some (rs, q)) :
    (rs.length ≤ 255 ∧ ∀ j (_ : j < rs.length), rs[j].length = sz) ∧ Calls Try.prog 46 #[.string ⟨s.toArray⟩, .int .i64 sz] w fun e w' => ∃ v', e = .returned (.tuple #[v', .string ⟨q.toArray⟩, .bool true]) ∧ StrsAt w' v' rs ∧ Below w.heap.size w w' := by
  cases s with
  | nil => cases h
  | cons b r =>
    simp only [rowsP] at h
    split at h
    · cases h
    · rename_i hl
      injection h with h
      injection h with h1 h2
      subst h1
      subst h2
      have hb := b.toNat_lt
      refine ⟨⟨by rw [rowsL_length]; omega, fun j hj => ?_⟩, ?_⟩
      · rw [rowsL_length] at hj
        have := rowL_length (r.take (b.toNat * sz)) sz b.toNat j (by rw [List.length_take]; omega) hj
        simpa [rowsL] using this
      · refine (rrows_ok b r sz w hs (by omega)).mono ?_
        rintro e w' ⟨v', rfl, h1, h2⟩
        exact ⟨v', rfl, rows_own h1, h2⟩

theorem cells11 {w : World} {b : Nat} {t : TypeId} {y0 y1 y2 y3 y4 y5 y6 y7 y8 y9 y10 : Value} (h : w.heap[b]? = some (.cells #[y0, y1, y2, y3, y4, y5, y6, y7, y8, y9, y10] t (0, 0))) :
    w.cell? ⟨b, 0, none⟩ = some y0 ∧ w.cell? ⟨b, 1, none⟩ = some y1 ∧ w.cell? ⟨b, 2, none⟩ = some y2 ∧ w.cell? ⟨b, 3, none⟩ = some y3 ∧ w.cell? ⟨b, 4, none⟩ = some y4 ∧ w.cell? ⟨b, 5, none⟩ = some y5 ∧ w.cell? ⟨b, 6, none⟩ = some y6 ∧ w.cell? ⟨b, 7, none⟩ = some y7 ∧ w.cell? ⟨b, 8, none⟩ = some y8 ∧ w.cell? ⟨b, 9, none⟩ = some y9 ∧ w.cell? ⟨b, 10, none⟩ = some y10 :=
  ⟨heap_cell h 0, heap_cell h 1, heap_cell h 2, heap_cell h 3, heap_cell h 4, heap_cell h 5, heap_cell h 6, heap_cell h 7, heap_cell h 8, heap_cell h 9, heap_cell h 10⟩
theorem froz11 {w : World} {b : Nat} {t : TypeId} {C : Array Value} (h : w.heap[b]? = some (.cells C t (0, 0))) :
    w.frozen? ⟨b, 0, none⟩ = false ∧ w.frozen? ⟨b, 1, none⟩ = false ∧ w.frozen? ⟨b, 2, none⟩ = false ∧ w.frozen? ⟨b, 3, none⟩ = false ∧ w.frozen? ⟨b, 4, none⟩ = false ∧ w.frozen? ⟨b, 5, none⟩ = false ∧ w.frozen? ⟨b, 6, none⟩ = false ∧ w.frozen? ⟨b, 7, none⟩ = false ∧ w.frozen? ⟨b, 8, none⟩ = false ∧ w.frozen? ⟨b, 9, none⟩ = false ∧ w.frozen? ⟨b, 10, none⟩ = false :=
  ⟨heap_frozen h 0, heap_frozen h 1, heap_frozen h 2, heap_frozen h 3, heap_frozen h 4, heap_frozen h 5, heap_frozen h 6, heap_frozen h 7, heap_frozen h 8, heap_frozen h 9, heap_frozen h 10⟩

/-- the zero frame in a box -/
abbrev zero11 : Array Value := #[.int .i64 0, .int .i64 0, .int .i64 0, .bool false, .int .i64 0, .int .i64 0, .int .i64 0, .slice none 0 0, .slice none 0 0, .string ⟨#[]⟩, .slice none 0 0]

theorem enter_numOf (args : Array Value) (w : World) : (callFunc 45 args).run Try.prog w = .ok (.enter 45 args) w := by kernel_rfl
/-- numberOf, as a step of a region that draws -/
theorem step_numOf {w : World} {ops : Array Oper} {o : Oper} {a0 : Act} {K : Act → World → Prop} {Q : Exit → Act → World → Prop} {E : Prop} (hgd : o.guard = none) (x : Operand) (ats : Array TypeId)
    (ho : o.op = .call { callee := .value (.func 45), args := #[x], argTypes := ats }) (y : List UInt8) (hx : a0.eval x = .string ⟨y.toArray⟩) (hy : y.length ≤ 6)
    (h : ∀ cs fr, K (a0.put o.dst (.int .i64 (numL y))) (w.alloc (.cells cs 5 fr)).drew) :
    if Region.wanted o (yielded ops a0.tmps) = true then Oper.wp Try.prog o a0 w K Q else E := by
  have hw : Region.wanted o (yielded ops a0.tmps) = true := by simp [Region.wanted, hgd]
  rw [if_pos hw]
  unfold Oper.wp
  obtain ⟨dst, op, ty, pos, after, guard⟩ := o
  simp only at ho
  subst ho
  rw [execOp_call_go]
  have e : (#[] ++ #[x].map a0.eval ++ #[] : Array Value) = #[.string ⟨y.toArray⟩] := by simp [hx]
  rw [e, enter_numOf, Oper.upon_enter]
  refine (rnumberOf_x y w hy).mono ?_
  rintro e w' ⟨rfl, cs, fr, rfl⟩
  exact h cs fr

/-- append of one cert, as a step of a region that draws -/
theorem step_cert {w : World} {ops : Array Oper} {o : Oper} {a0 : Act} {K : Act → World → Prop} {Q : Exit → Act → World → Prop} {E : Prop} (hgd : o.guard = none) (s x : Operand)
    (ho : o.op = .call { callee := .builtin .append, args := #[s, x], argTypes := #[27, 27] }) (base : Nat) (v : Value) (n : Nat) (xs : List Value) (hs : a0.eval s = v) (hown : w.ownsRow base 39 4 v n xs)
    (g : Nat) (x1 x2 x3 x4 : Int) (hx : a0.eval x = .slice (some ⟨g, 0, none⟩) 1 1) (hc : ∀ j u, [Value.int .i64 x1, .int .i64 x2, .int .i64 x3, .int .i64 x4][j]? = some u → w.cell? ((⟨g, 0, none⟩ : Addr).add j) = some u) (hn : n ≤ 1000) (hbase : base ≤ w.heap.size)
    (h : ∀ v' w', w'.ownsRow base 39 4 v' (n + 1) (xs ++ [.int .i64 x1, .int .i64 x2, .int .i64 x3, .int .i64 x4]) → w.grownBy w' v.ownBlock → K (a0.put o.dst v') w') :
    if Region.wanted o (yielded ops a0.tmps) = true then Oper.wp Try.prog o a0 w K Q else E := by
  have hw : Region.wanted o (yielded ops a0.tmps) = true := by simp [Region.wanted, hgd]
  rw [if_pos hw]
  obtain ⟨i0, hi, hz0, hz1, hz2⟩ := info_parts info_cert
  exact wp_append_own w s x 27 ho base 39 i0 _ 4 32 Try.underlying27 hi hz0 hz1 hz2 rfl (by decide) v n xs hs hown ⟨g, 0, none⟩ 1 1 [.int .i64 x1, .int .i64 x2, .int .i64 x3, .int .i64 x4] hx rfl hc (flat4_one [⟨x1, x2, x3, x4⟩]) (by unfold maxLen; omega) (by omega) hbase
      (fun v' w' h1 h2 _ => h v' w' h1 h2)

/-- the two boxes that the reference holds: both zero -/
def TwoAt (w : World) (r : Nat) : Prop := w.heap[r]? = some (.cells zero11 29 (0, 0)) ∧ w.heap[r + 1]? = some (.cells zero11 29 (0, 0))
theorem TwoAt.keep {w w' : World} {r : Nat} (h : TwoAt w r) (hb : Below w.heap.size w w') : TwoAt w' r := ⟨heap_keep h.1 hb, heap_keep h.2 hb⟩
theorem TwoAt.own {w w' : World} {r base : Nat} {e : TypeId} {size : Nat} {v : Value} {n : Nat} {xs : List Value} (h : TwoAt w r) (ho : w.ownsRow base e size v n xs) (hte : (29 : Nat) ≠ e) (hg : w.grownBy w' v.ownBlock) : TwoAt w' r := ⟨heap_own h.1 ho hte hg, heap_own h.2 ho hte hg⟩
theorem TwoAt.store {w : World} {r b : Nat} (h : TwoAt w r) (hb : r + 1 < b) (j : Nat) (u : Value) : TwoAt (w.setCell ⟨b, j, none⟩ u) r := ⟨heap_store h.1 (by omega) j u, heap_store h.2 (by omega) j u⟩
end Go.Proofs.Ytagmnfghkfeplaa
