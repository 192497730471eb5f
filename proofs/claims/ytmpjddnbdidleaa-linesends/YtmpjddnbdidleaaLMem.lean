/- How lines and what was sent on them lie in memory, and what keeps them there. -/
import Derived.Test.YtmpjddnbdidleaaWMem
import Derived.Test.YtmpjddnbdidleaaWRows
import Derived.Test.YtmpjddnbdidleaaHeap0
import Derived.Test.YtmpjddnbdidleaaPlainLine
namespace Go.Proofs.Ytmpjddnbdidleaa
open Go.RowKit Go.Proofs.Parclose

/-- what was sent, and the values of its lists -/
structure SntV where
  s : Snt
  vl : Value
  vg : Value
  vc : Value
def SntV.cells (x : SntV) : List Value := [.int .i64 x.s.f.fr, .int .i64 x.s.f.to, .int .i64 x.s.f.seq, .bool x.s.f.ack, .int .i64 x.s.f.thread, .int .i64 x.s.f.mail.host, .int .i64 x.s.f.mail.thread, x.vl, x.vg, .string ⟨x.s.f.mail.text.toArray⟩, x.vc, .int .i64 x.s.tries, .int .i64 x.s.due]
structure SntV.Ok (w : World) (x : SntV) : Prop where
  lab : LabAt w x.vl x.s.f.mail.label
  nums : IntsAt w x.vg x.s.f.mail.grants
  crts : CrtsAt w x.vc x.s.f.certs
theorem SntV.Ok.below {w wr : World} {x : SntV} (h : x.Ok w) (hb : Below w.heap.size w wr) : x.Ok wr := ⟨h.lab.below hb, h.nums.below hb, h.crts.below hb⟩
def flatS (q : List SntV) : List Value := q.flatMap SntV.cells

theorem flatS_cons (x : SntV) (q : List SntV) : flatS (x :: q) = x.cells ++ flatS q := rfl
theorem flatS_app (a b : List SntV) : flatS (a ++ b) = flatS a ++ flatS b := by simp [flatS]
theorem flatS_len (q : List SntV) : (flatS q).length = q.length * 13 := by
  induction q with
  | nil => rfl
  | cons x r ih =>
    rw [flatS_cons, List.length_append, ih, List.length_cons]
    show 13 + r.length * 13 = _
    omega
theorem flatS_get : ∀ (q : List SntV) (j : Nat) (hj : j < q.length) (i : Nat) (_ : i < 13), (flatS q)[j * 13 + i]? = (q[j]).cells[i]?
  | x :: r, 0, _, i, hi => by
    rw [flatS_cons, List.getElem?_append_left (by show _ < 13; omega)]
    simp
  | x :: r, j + 1, hj, i, hi => by
    rw [flatS_cons, List.getElem?_append_right (by show 13 ≤ _; omega), show (j + 1) * 13 + i - x.cells.length = j * 13 + i by show (j + 1) * 13 + i - 13 = _; omega, flatS_get r j (by simpa using hj) i hi]
    simp
theorem flatS_one {w : World} {q : List SntV} (h : ∀ x ∈ q, x.Ok w) : ∀ u ∈ flatS q, u.oneCell' = true := by
  intro u hu
  obtain ⟨x, hx, hu⟩ := List.mem_flatMap.1 hu
  obtain ⟨⟨pl, cl, el, _⟩, ⟨pg, cg, eg, _⟩, ⟨pc, cc, ec, _⟩⟩ := h x hx
  unfold SntV.cells at hu
  rw [el, eg, ec] at hu
  simp only [List.mem_cons, List.not_mem_nil, or_false] at hu
  rcases hu with h | h | h | h | h | h | h | h | h | h | h | h | h <;> rw [h] <;> rfl

/-- v is a slice whose elements are what was sent, as q has it -/
def RowAt (w : World) (v : Value) (q : List SntV) : Prop :=
  ∃ p cap, v = .slice p q.length cap ∧ (q.length ≤ cap ∧ (p = none → cap = 0)) ∧ q.length ≤ 879609302220 ∧ (0 < q.length → ∃ b o, p = some ⟨b, o, none⟩ ∧ ∀ j u, (flatS q)[j]? = some u → w.cell? ⟨b, o + j, none⟩ = some u)
/-- v is a slice whose elements are what was sent, l -/
def SntsAt (w : World) (v : Value) (l : List Snt) : Prop := ∃ q : List SntV, q.map (·.s) = l ∧ (∀ x ∈ q, x.Ok w) ∧ RowAt w v q

theorem RowAt.below {w wr : World} {v : Value} {q : List SntV} (h : RowAt w v q) (hb : Below w.heap.size w wr) : RowAt wr v q := by
  obtain ⟨p, cap, h1, h2, h3, h4⟩ := h
  refine ⟨p, cap, h1, h2, h3, fun h0 => ?_⟩
  obtain ⟨b, o, h5, h6⟩ := h4 h0
  exact ⟨b, o, h5, fun j u hu => by rw [hb.cell (cell_block (h6 j u hu)), h6 j u hu]⟩
theorem SntsAt.below {w wr : World} {v : Value} {l : List Snt} (h : SntsAt w v l) (hb : Below w.heap.size w wr) : SntsAt wr v l := by
  obtain ⟨q, h1, h2, h3⟩ := h
  exact ⟨q, h1, fun x hx => (h2 x hx).below hb, h3.below hb⟩
theorem SntsAt.len {w : World} {v : Value} {l : List Snt} (h : SntsAt w v l) : l.length ≤ 879609302220 := by
  obtain ⟨q, rfl, _, p, cap, _, _, h3, _⟩ := h
  simpa using h3
theorem SntsAt.slice {w : World} {v : Value} {l : List Snt} (h : SntsAt w v l) : ∃ p cap, v = .slice p l.length cap := by
  obtain ⟨q, rfl, _, p, cap, rfl, _⟩ := h
  exact ⟨p, cap, by simp⟩
theorem SntsAt.nil (w : World) (p : Option Addr) (cap : Nat) (hp : p = none → cap = 0) : SntsAt w (.slice p 0 cap) [] :=
  ⟨[], rfl, fun x hx => absurd hx (by simp), p, cap, rfl, ⟨Nat.zero_le _, hp⟩, Nat.zero_le _, fun h => absurd h (by simp)⟩

/-- one that was sent: the cells from o on -/
structure SntAt (w : World) (b o : Nat) (s : Snt) (vl vg vc : Value) : Prop where
  c0 : w.cell? ⟨b, o, none⟩ = some (.int .i64 s.f.fr)
  c1 : w.cell? ⟨b, o + 1, none⟩ = some (.int .i64 s.f.to)
  c2 : w.cell? ⟨b, o + 2, none⟩ = some (.int .i64 s.f.seq)
  c3 : w.cell? ⟨b, o + 3, none⟩ = some (.bool s.f.ack)
  c4 : w.cell? ⟨b, o + 4, none⟩ = some (.int .i64 s.f.thread)
  c5 : w.cell? ⟨b, o + 5, none⟩ = some (.int .i64 s.f.mail.host)
  c6 : w.cell? ⟨b, o + 6, none⟩ = some (.int .i64 s.f.mail.thread)
  c7 : w.cell? ⟨b, o + 7, none⟩ = some vl
  c8 : w.cell? ⟨b, o + 8, none⟩ = some vg
  c9 : w.cell? ⟨b, o + 9, none⟩ = some (.string ⟨s.f.mail.text.toArray⟩)
  c10 : w.cell? ⟨b, o + 10, none⟩ = some vc
  c11 : w.cell? ⟨b, o + 11, none⟩ = some (.int .i64 s.tries)
  c12 : w.cell? ⟨b, o + 12, none⟩ = some (.int .i64 s.due)
  lab : LabAt w vl s.f.mail.label
  nums : IntsAt w vg s.f.mail.grants
  crts : CrtsAt w vc s.f.certs

theorem RowAt.get {w : World} {p : Option Addr} {n cap : Nat} {q : List SntV} (h : RowAt w (.slice p n cap) q) (hok : ∀ x ∈ q, x.Ok w) (j : Nat) (hj : j < q.length) :
    ∃ b o, p = some ⟨b, o, none⟩ ∧ SntAt w b (o + j * 13) (q[j]).s (q[j]).vl (q[j]).vg (q[j]).vc := by
  obtain ⟨p', cap', e, h2, h3, h4⟩ := h
  cases e
  obtain ⟨b, o, rfl, hc⟩ := h4 (by omega)
  have ho := hok _ (List.getElem_mem hj)
  have g : ∀ i, i < 13 → ∀ u, (q[j]).cells[i]? = some u → w.cell? ⟨b, o + j * 13 + i, none⟩ = some u := fun i hi u hu => by
    rw [Nat.add_assoc]
    exact hc _ _ (by rw [flatS_get q j hj i hi, hu])
  exact ⟨b, o, rfl, g 0 (by omega) _ rfl, g 1 (by omega) _ rfl, g 2 (by omega) _ rfl, g 3 (by omega) _ rfl, g 4 (by omega) _ rfl, g 5 (by omega) _ rfl, g 6 (by omega) _ rfl, g 7 (by omega) _ rfl, g 8 (by omega) _ rfl, g 9 (by omega) _ rfl, g 10 (by omega) _ rfl, g 11 (by omega) _ rfl, g 12 (by omega) _ rfl, ho.lab, ho.nums, ho.crts⟩
theorem SntsAt.get {w : World} {p : Option Addr} {n cap : Nat} {l : List Snt} (h : SntsAt w (.slice p n cap) l) (j : Nat) (hj : j < l.length) :
    ∃ b o pl cl pg cg pc cc, p = some ⟨b, o, none⟩ ∧ SntAt w b (o + j * 13) l[j] (.slice pl (l[j]).f.mail.label.length cl) (.slice pg (l[j]).f.mail.grants.length cg) (.slice pc (l[j]).f.certs.length cc) := by
  obtain ⟨q, rfl, hok, hr⟩ := h
  have hjq : j < q.length := by simpa using hj
  obtain ⟨b, o, hp, hs⟩ := hr.get hok j hjq
  obtain ⟨pl, cl, el, _⟩ := id hs.lab
  obtain ⟨pg, cg, eg, _⟩ := id hs.nums
  obtain ⟨pc, cc, ec, _⟩ := id hs.crts
  rw [el, eg, ec] at hs
  refine ⟨b, o, pl, cl, pg, cg, pc, cc, hp, ?_⟩
  simpa using hs

def lneV (l : Lne) (vs : Value) : Value := .agg #[.int .i64 l.next, vs, .int .i64 l.high, .bool (l.seen.getD 0 false), .bool (l.seen.getD 1 false), .bool (l.seen.getD 2 false), .bool (l.seen.getD 3 false), .bool (l.seen.getD 4 false), .bool (l.seen.getD 5 false), .bool (l.seen.getD 6 false), .bool (l.seen.getD 7 false)]
/-- v is the line l -/
def LneAt (w : World) (v : Value) (l : Lne) : Prop := ∃ vs, v = lneV l vs ∧ l.seen.length = 8 ∧ SntsAt w vs l.sent
theorem LneAt.below {w wr : World} {v : Value} {l : Lne} (h : LneAt w v l) (hb : Below w.heap.size w wr) : LneAt wr v l := by
  obtain ⟨vs, h1, h2, h3⟩ := h
  exact ⟨vs, h1, h2, h3.below hb⟩
theorem list8 {α : Type} {l : List α} (h : l.length = 8) : ∃ b0 b1 b2 b3 b4 b5 b6 b7, l = [b0, b1, b2, b3, b4, b5, b6, b7] := by
  match l, h with
  | [b0, b1, b2, b3, b4, b5, b6, b7], _ => exact ⟨b0, b1, b2, b3, b4, b5, b6, b7, rfl⟩
/-- a line, spelled -/
theorem LneAt.spell {w : World} {v : Value} {l : Lne} (h : LneAt w v l) : ∃ nx st hi b0 b1 b2 b3 b4 b5 b6 b7 p cap, l = ⟨nx, st, hi, [b0, b1, b2, b3, b4, b5, b6, b7]⟩ ∧ v = .agg #[.int .i64 nx, .slice p st.length cap, .int .i64 hi, .bool b0, .bool b1, .bool b2, .bool b3, .bool b4, .bool b5, .bool b6, .bool b7] ∧ SntsAt w (.slice p st.length cap) st := by
  obtain ⟨vs, rfl, h8, hs⟩ := h
  obtain ⟨nx, st, hi, sn⟩ := l
  obtain ⟨b0, b1, b2, b3, b4, b5, b6, b7, e⟩ := list8 h8
  replace e : sn = [b0, b1, b2, b3, b4, b5, b6, b7] := e
  subst e
  obtain ⟨p, cap, rfl⟩ := hs.slice
  exact ⟨nx, st, hi, b0, b1, b2, b3, b4, b5, b6, b7, p, cap, rfl, rfl, hs⟩
theorem lne_of {w : World} {vs : Value} {st : List Snt} (h : SntsAt w vs st) (nx hi : Int) (b0 b1 b2 b3 b4 b5 b6 b7 : Bool) : LneAt w (.agg #[.int .i64 nx, vs, .int .i64 hi, .bool b0, .bool b1, .bool b2, .bool b3, .bool b4, .bool b5, .bool b6, .bool b7]) ⟨nx, st, hi, [b0, b1, b2, b3, b4, b5, b6, b7]⟩ := ⟨vs, rfl, rfl, h⟩
end Go.Proofs.Ytmpjddnbdidleaa
