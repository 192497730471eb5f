/- How a list of steps lies in memory, and what keeps it there. -/
import Derived.Test.YtichphepfmafjacQWMem
import Derived.Test.YtichphepfmafjacQPlainAll
namespace Go.Proofs.Ytichphepfmafjac
open Go.RowKit Go.Proofs.Parclose

structure Stp where
  t : Int
  come : Bool
  call : Cal
  mail : Mal

/-- a step lies at offset o of block b: its cells, and the lists that they name -/
structure StpAt (w : World) (b o : Nat) (x : Stp) (vl vg ml mg : Value) : Prop where
  c0 : w.cell? ⟨b, o, none⟩ = some (.int .i64 x.t)
  c1 : w.cell? ⟨b, o + 1, none⟩ = some (.bool x.come)
  c2 : w.cell? ⟨b, o + 2, none⟩ = some (.int .i64 x.call.kind)
  c3 : w.cell? ⟨b, o + 3, none⟩ = some (.int .i64 x.call.h)
  c4 : w.cell? ⟨b, o + 4, none⟩ = some (.int .i64 x.call.t)
  c5 : w.cell? ⟨b, o + 5, none⟩ = some (.int .i64 x.call.n)
  c6 : w.cell? ⟨b, o + 6, none⟩ = some (.int .i64 x.call.c)
  c7 : w.cell? ⟨b, o + 7, none⟩ = some vl
  c8 : w.cell? ⟨b, o + 8, none⟩ = some vg
  c9 : w.cell? ⟨b, o + 9, none⟩ = some (.string ⟨x.call.text.toArray⟩)
  c10 : w.cell? ⟨b, o + 10, none⟩ = some (.int .i64 x.mail.host)
  c11 : w.cell? ⟨b, o + 11, none⟩ = some (.int .i64 x.mail.thread)
  c12 : w.cell? ⟨b, o + 12, none⟩ = some ml
  c13 : w.cell? ⟨b, o + 13, none⟩ = some mg
  c14 : w.cell? ⟨b, o + 14, none⟩ = some (.string ⟨x.mail.text.toArray⟩)
  lab : LabAt w vl x.call.label
  gra : IntsAt w vg x.call.grants
  mlab : LabAt w ml x.mail.label
  mgra : IntsAt w mg x.mail.grants

theorem StpAt.below {w wr : World} {b o : Nat} {x : Stp} {vl vg ml mg : Value} (h : StpAt w b o x vl vg ml mg) (hb : Below w.heap.size w wr) : StpAt wr b o x vl vg ml mg := by
  have k : ∀ {j : Nat} {u : Value}, w.cell? ⟨b, j, none⟩ = some u → wr.cell? ⟨b, j, none⟩ = some u := fun hc => by rw [hb.cell (cell_block hc), hc]
  exact ⟨k h.c0, k h.c1, k h.c2, k h.c3, k h.c4, k h.c5, k h.c6, k h.c7, k h.c8, k h.c9, k h.c10, k h.c11, k h.c12, k h.c13, k h.c14, h.lab.below hb, h.gra.below hb, h.mlab.below hb, h.mgra.below hb⟩

/-- v is a slice whose elements are the steps l -/
def StpsAt (w : World) (v : Value) (l : List Stp) : Prop :=
  ∃ p cap, v = .slice p l.length cap ∧ (l.length ≤ cap ∧ (p = none → cap = 0)) ∧ l.length ≤ 140737488355328 ∧ (0 < l.length → ∃ b o, p = some ⟨b, o, none⟩ ∧ ∀ j (hj : j < l.length), ∃ vl vg ml mg, StpAt w b (o + j * 15) l[j] vl vg ml mg)

theorem StpsAt.below {w wr : World} {v : Value} {l : List Stp} (h : StpsAt w v l) (hb : Below w.heap.size w wr) : StpsAt wr v l := by
  obtain ⟨p, cap, h1, h2, h3, h4⟩ := h
  refine ⟨p, cap, h1, h2, h3, fun g => ?_⟩
  obtain ⟨b, o, h5, h6⟩ := h4 g
  refine ⟨b, o, h5, fun j hj => ?_⟩
  obtain ⟨vl, vg, ml, mg, h7⟩ := h6 j hj
  exact ⟨vl, vg, ml, mg, h7.below hb⟩
end Go.Proofs.Ytichphepfmafjac
