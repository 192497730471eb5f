/- How certs, mail and frames lie in memory, and what keeps them there. -/
import Derived.Test.YtpdijobakfpnbaaQMem
import Derived.Test.YtpdijobakfpnbaaQPlain
import Derived.Laws.IdiomStrings
namespace Go.Proofs.Ytpdijobakfpnbaa
open Go.RowKit Go.Proofs.Parclose
def Cells4 (w : World) (b o : Nat) (l : List Crt) : Prop :=
 ∀ j (_ : j < l.length), w.cell? ⟨b, o + j * 4, none⟩ = some (.int .i64 (l[j]).c) ∧ w.cell? ⟨b, o + j * 4 + 1, none⟩ = some (.int .i64 (l[j]).b) ∧ w.cell? ⟨b, o + j * 4 + 2, none⟩ = some (.int .i64 (l[j]).h) ∧ w.cell? ⟨b, o + j * 4 + 3, none⟩ = some (.int .i64 (l[j]).u)
theorem Cells4.below {w wr : World} {b o : Nat} {l : List Crt} (h : Cells4 w b o l) (hb : Below w.heap.size w wr) : Cells4 wr b o l := by
 intro j hj
 obtain ⟨h1, h2, h3, h4⟩ := h j hj
 exact ⟨by rw [hb.cell (Qb h1), h1], by rw [hb.cell (Qb h2), h2], by rw [hb.cell (Qb h3), h3], by rw [hb.cell (Qb h4), h4]⟩
def CrtsAt (w : World) (v : Value) (l : List Crt) : Prop :=
 ∃ p cap, v = .slice p l.length cap ∧ (l.length ≤ cap ∧ (p = none → cap = 0)) ∧ l.length ≤ 4398046511104 ∧ (0 < l.length → ∃ b o, p = some ⟨b, o, none⟩ ∧ Cells4 w b o l)
theorem CrtsAt.below {w wr : World} {v : Value} {l : List Crt} (h : CrtsAt w v l) (hb : Below w.heap.size w wr) : CrtsAt wr v l := by
 obtain ⟨p, cap, h1, h2, h3, h4⟩ := h
 refine ⟨p, cap, h1, h2, h3, fun g => ?_⟩
 obtain ⟨b, o, h5, h6⟩ := h4 g
 exact ⟨b, o, h5, h6.below hb⟩
theorem CrtsAt.len {w : World} {v : Value} {l : List Crt} (h : CrtsAt w v l) : l.length ≤ 4398046511104 := by
 obtain ⟨p, cap, h1, h2, h3, h4⟩ := h
 omega
theorem CrtsAt.nil (w : World) (p : Option Addr) (cap : Nat) (hp : p = none → cap = 0) : CrtsAt w (.slice p 0 cap) [] := ⟨p, cap, rfl, ⟨Nat.zero_le _, hp⟩, Nat.zero_le _, fun h => absurd h (by simp)⟩
theorem CrtsAt.cells {w : World} {p : Option Addr} {n cap : Nat} {l : List Crt} (h : CrtsAt w (.slice p n cap) l) (h0 : 0 < l.length) : ∃ b o, p = some ⟨b, o, none⟩ ∧ Cells4 w b o l := by
 obtain ⟨p', cap', e, _, _, h4⟩ := h
 cases e
 exact h4 h0
theorem LabAt.cells {w : World} {p : Option Addr} {n cap : Nat} {l : List (Int × Int)} (h : LabAt w (.slice p n cap) l) (h0 : 0 < l.length) : ∃ b o, p = some ⟨b, o, none⟩ ∧ Cells2 w b o l := by
 obtain ⟨p', cap', e, _, _, h4⟩ := h
 cases e
 exact h4 h0
theorem IntsAt.cells {w : World} {p : Option Addr} {n cap : Nat} {l : List Int} (h : IntsAt w (.slice p n cap) l) (h0 : 0 < l.length) : ∃ b o, p = some ⟨b, o, none⟩ ∧ Cells1 w b o l := by
 obtain ⟨p', cap', e, _, _, h4⟩ := h
 cases e
 exact h4 h0
def malV (m : Mal) (vl vg : Value) : Value := .agg #[.int .i64 m.host, .int .i64 m.thread, vl, vg, .string ⟨m.text.toArray⟩]
def frmV (f : Frm) (vl vg vc : Value) : Value := .agg #[.int .i64 f.fr, .int .i64 f.to, .int .i64 f.seq, .bool f.ack, .int .i64 f.thread, .int .i64 f.mail.host, .int .i64 f.mail.thread, vl, vg, .string ⟨f.mail.text.toArray⟩, vc]
def MalAt (w : World) (v : Value) (m : Mal) : Prop := ∃ vl vg, v = malV m vl vg ∧ LabAt w vl m.label ∧ IntsAt w vg m.grants
def FrmAt (w : World) (v : Value) (f : Frm) : Prop := ∃ vl vg vc, v = frmV f vl vg vc ∧ LabAt w vl f.mail.label ∧ IntsAt w vg f.mail.grants ∧ CrtsAt w vc f.certs
theorem MalAt.below {w wr : World} {v : Value} {m : Mal} (h : MalAt w v m) (hb : Below w.heap.size w wr) : MalAt wr v m := by
 obtain ⟨vl, vg, e, h1, h2⟩ := h
 exact ⟨vl, vg, e, h1.below hb, h2.below hb⟩
theorem FrmAt.below {w wr : World} {v : Value} {f : Frm} (h : FrmAt w v f) (hb : Below w.heap.size w wr) : FrmAt wr v f := by
 obtain ⟨vl, vg, vc, e, h1, h2, h3⟩ := h
 exact ⟨vl, vg, vc, e, h1.below hb, h2.below hb, h3.below hb⟩
theorem QW {w w' : World} {C : Array Value} {t : TypeId} {B : Nat} (h : Below B (w.alloc (.cells C t)) w') (hB : w.heap.size < B) (j : Nat) : w'.cell? ⟨w.heap.size, j, none⟩ = C[j]? := by
 rw [h.cell (p := ⟨w.heap.size, j, none⟩) hB]
 exact World.cell?_alloc_mark w C t _ j
theorem hid {p : Prop} (h : p) : Hid p := h
theorem Qe (w : World) (o : Obj) : Below w.heap.size w (w.alloc o) := (Below.refl _ _).alloc (Nat.le_refl _) _
structure Odr where
 kind : Int
 t : Int
 call : Cal
 mail : Mal
structure OdrAt (w : World) (b o : Nat) (x : Odr) (vl vg ml mg : Value) : Prop where
 c0 : w.cell? ⟨b, o, none⟩ = some (.int .i64 x.kind)
 c1 : w.cell? ⟨b, o + 1, none⟩ = some (.int .i64 x.t)
 c2 : w.cell? ⟨b, o + 2, none⟩ = some (.int .i64 x.call.kind)
 c3 : w.cell? ⟨b, o + 3, none⟩ = some (.int .i64 x.call.h)
 c4 : w.cell? ⟨b, o + 4, none⟩ = some (.int .i64 x.call.t)
 c5 : w.cell? ⟨b, o + 5, none⟩ = some (.int .i64 x.call.n)
 c6 : w.cell? ⟨b, o + 6, none⟩ = some (.int .i64 x.call.c)
 c7 : w.cell? ⟨b, o + 7, none⟩ = some vl
 c8 : w.cell? ⟨b, o + 8, none⟩ = some vg
 c9 : w.cell? ⟨b, o + 9, none⟩ = some (.string ⟨x.call.text.toArray⟩)
 c10 : w.cell? ⟨b, o + 10, none⟩ = some (.int .i64 x.mail.host)
 c11 : w.cell? ⟨b, o + 11, none⟩ = some (.int .i64 x.mail.thread)
 c12 : w.cell? ⟨b, o + 12, none⟩ = some ml
 c13 : w.cell? ⟨b, o + 13, none⟩ = some mg
 c14 : w.cell? ⟨b, o + 14, none⟩ = some (.string ⟨x.mail.text.toArray⟩)
 lab : LabAt w vl x.call.label
 gra : IntsAt w vg x.call.grants
 mlab : LabAt w ml x.mail.label
 mgra : IntsAt w mg x.mail.grants
 txt : x.call.text.length ≤ 140737488351232
theorem OdrAt.below {w wr : World} {b o : Nat} {x : Odr} {vl vg ml mg : Value} (h : OdrAt w b o x vl vg ml mg) (hb : Below w.heap.size w wr) : OdrAt wr b o x vl vg ml mg := by
 have k : ∀ {j : Nat} {u : Value}, w.cell? ⟨b, j, none⟩ = some u → wr.cell? ⟨b, j, none⟩ = some u := fun hc => by rw [hb.cell (Qb hc), hc]
 exact ⟨k h.c0, k h.c1, k h.c2, k h.c3, k h.c4, k h.c5, k h.c6, k h.c7, k h.c8, k h.c9, k h.c10, k h.c11, k h.c12, k h.c13, k h.c14, h.lab.below hb, h.gra.below hb, h.mlab.below hb, h.mgra.below hb, h.txt⟩
def OdrsAt (w : World) (v : Value) (l : List Odr) : Prop :=
 ∃ p cap, v = .slice p l.length cap ∧ (l.length ≤ cap ∧ (p = none → cap = 0)) ∧ l.length ≤ 140737488355328 ∧ (0 < l.length → ∃ b o, p = some ⟨b, o, none⟩ ∧ ∀ j (hj : j < l.length), ∃ vl vg ml mg, OdrAt w b (o + j * 15) l[j] vl vg ml mg)
theorem OdrsAt.below {w wr : World} {v : Value} {l : List Odr} (h : OdrsAt w v l) (hb : Below w.heap.size w wr) : OdrsAt wr v l := by
 obtain ⟨p, cap, h1, h2, h3, h4⟩ := h
 refine ⟨p, cap, h1, h2, h3, fun g => ?_⟩
 obtain ⟨b, o, h5, h6⟩ := h4 g
 refine ⟨b, o, h5, fun j hj => ?_⟩
 obtain ⟨vl, vg, ml, mg, h7⟩ := h6 j hj
 exact ⟨vl, vg, ml, mg, h7.below hb⟩
end Go.Proofs.Ytpdijobakfpnbaa
