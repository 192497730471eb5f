/- How certs, mail and frames lie in memory, and what keeps them there. -/
import Derived.Test.YtpdijobakfpnbaaGreatJMem
import Derived.Test.YtpdijobakfpnbaaGreatJPlain
import Derived.Laws.IdiomStrings
import Derived.Test.YtpdijobakfpnbaaGreatJView
import Derived.Lib.SmallJoins
import Derived.Deep.Slices
namespace Go.Proofs.YtpdijobakfpnbaaGreat
open Go.RowKit Go.Proofs.Parclose
def Cells4 (w : World) (b o : Nat) (l : List Crt) : Prop :=
 ∀ j (_ : j < l.length), w.cell? ⟨b, o + j * 4, none⟩ = some (.int .i64 (l[j]).c) ∧ w.cell? ⟨b, o + j * 4 + 1, none⟩ = some (.int .i64 (l[j]).b) ∧ w.cell? ⟨b, o + j * 4 + 2, none⟩ = some (.int .i64 (l[j]).h) ∧ w.cell? ⟨b, o + j * 4 + 3, none⟩ = some (.int .i64 (l[j]).u)
theorem Cells4.below {w wr : World} {b o : Nat} {l : List Crt} (h : Cells4 w b o l) (hb : Below w.heap.size w wr) : Cells4 wr b o l := by
 intro j hj
 obtain ⟨h1, h2, h3, h4⟩ := h j hj
 exact ⟨by rw [hb.cell (Qf h1), h1], by rw [hb.cell (Qf h2), h2], by rw [hb.cell (Qf h3), h3], by rw [hb.cell (Qf h4), h4]⟩
def CrtsAt (w : World) (v : Value) (l : List Crt) : Prop :=
 ∃ p cap, v = .slice p l.length cap ∧ (l.length ≤ cap ∧ (p = none → cap = 0)) ∧ l.length ≤ 4398046511104 ∧ (0 < l.length → ∃ b o, p = some ⟨b, o, none⟩ ∧ Cells4 w b o l)
theorem CrtsAt.below {w wr : World} {v : Value} {l : List Crt} (h : CrtsAt w v l) (hb : Below w.heap.size w wr) : CrtsAt wr v l := by
 obtain ⟨p, cap, h1, h2, h3, h4⟩ := h
 refine ⟨p, cap, h1, h2, h3, fun g => ?_⟩
 obtain ⟨b, o, h5, h6⟩ := h4 g
 exact ⟨b, o, h5, h6.below hb⟩
theorem CrtsAt.len {w : World} {v : Value} {l : List Crt} (h : CrtsAt w v l) : l.length ≤ 4398046511104 := by
 obtain ⟨p, cap, h1, h2, h3, h4⟩ := h
 omega
theorem CrtsAt.nil (w : World) (p : Option Addr) (cap : Nat) (hp : p = none → cap = 0) : CrtsAt w (.slice p 0 cap) [] := ⟨p, cap, rfl, ⟨Nat.zero_le _, hp⟩, Nat.zero_le _, fun h => absurd h (by simp)⟩
theorem CrtsAt.cells {w : World} {p : Option Addr} {n cap : Nat} {l : List Crt} (h : CrtsAt w (.slice p n cap) l) (h0 : 0 < l.length) : ∃ b o, p = some ⟨b, o, none⟩ ∧ Cells4 w b o l := by
 obtain ⟨p', cap', e, _, _, h4⟩ := h
 cases e
 exact h4 h0
theorem LabAt.cells {w : World} {p : Option Addr} {n cap : Nat} {l : List (Int × Int)} (h : LabAt w (.slice p n cap) l) (h0 : 0 < l.length) : ∃ b o, p = some ⟨b, o, none⟩ ∧ Cells2 w b o l := by
 obtain ⟨p', cap', e, _, _, h4⟩ := h
 cases e
 exact h4 h0
theorem IntsAt.cells {w : World} {p : Option Addr} {n cap : Nat} {l : List Int} (h : IntsAt w (.slice p n cap) l) (h0 : 0 < l.length) : ∃ b o, p = some ⟨b, o, none⟩ ∧ Cells1 w b o l := by
 obtain ⟨p', cap', e, _, _, h4⟩ := h
 cases e
 exact h4 h0
def strV (x : List UInt8) : Value := .string ⟨x.toArray⟩
def crtV (x : Crt) : Value := .agg #[.int .i64 x.c, .int .i64 x.b, .int .i64 x.h, .int .i64 x.u]
def malV (m : Mal) (vl vg : Value) : Value := .agg #[.int .i64 m.host, .int .i64 m.thread, vl, vg, .string ⟨m.text.toArray⟩]
def frmV (f : Frm) (vl vg vc : Value) : Value := .agg #[.int .i64 f.fr, .int .i64 f.to, .int .i64 f.seq, .bool f.ack, .int .i64 f.thread, .int .i64 f.mail.host, .int .i64 f.mail.thread, vl, vg, .string ⟨f.mail.text.toArray⟩, vc]
def MalAt (w : World) (v : Value) (m : Mal) : Prop := ∃ vl vg, v = malV m vl vg ∧ LabAt w vl m.label ∧ IntsAt w vg m.grants
def FrmAt (w : World) (v : Value) (f : Frm) : Prop := ∃ vl vg vc, v = frmV f vl vg vc ∧ LabAt w vl f.mail.label ∧ IntsAt w vg f.mail.grants ∧ CrtsAt w vc f.certs
theorem MalAt.below {w wr : World} {v : Value} {m : Mal} (h : MalAt w v m) (hb : Below w.heap.size w wr) : MalAt wr v m := by
 obtain ⟨vl, vg, e, h1, h2⟩ := h
 exact ⟨vl, vg, e, h1.below hb, h2.below hb⟩
theorem FrmAt.below {w wr : World} {v : Value} {f : Frm} (h : FrmAt w v f) (hb : Below w.heap.size w wr) : FrmAt wr v f := by
 obtain ⟨vl, vg, vc, e, h1, h2, h3⟩ := h
 exact ⟨vl, vg, vc, e, h1.below hb, h2.below hb, h3.below hb⟩
theorem Qi {w w' : World} {C : Array Value} {t : TypeId} {B : Nat} (h : Below B (w.alloc (.cells C t)) w') (hB : w.heap.size < B) (j : Nat) : w'.cell? ⟨w.heap.size, j, none⟩ = C[j]? := by
 rw [h.cell (p := ⟨w.heap.size, j, none⟩) hB]
 exact World.cell?_alloc_mark w C t _ j
theorem hid {p : Prop} (h : p) : Hid p := h
theorem Qd (w : World) (o : Obj) : Below w.heap.size w (w.alloc o) := (Below.refl _ _).alloc (Nat.le_refl _) _
theorem QM (w : World) (o : Obj) : (w.alloc o).heap.size = w.heap.size + 1 := by simp
open Go.ChangeShapes Go.WideShapes Go.ChangeAt Go.RowKit Go.Deep Go.Joins Go.Proofs.Parclose
theorem cellsLabel : Tryz.prog.cellsOf 34 = 1 := by kernel_rfl
theorem cellsInts : Tryz.prog.cellsOf 35 = 1 := by kernel_rfl
theorem cellsString : Tryz.prog.cellsOf 9 = 1 := by kernel_rfl
theorem Qe2 {H : Type} {ts : List TypeId} {ds : List (DataW H)} (h : (DataW.weightsEach Tryz.prog ts ds).all (· ≤ reachBytes) = true) {j : Nat} {t : TypeId} {fs : Array Field} {parts : List (DataW H)} (ht : ts[j]? = some t) (hd : ds[j]? = some (.agg parts)) (hu : Tryz.prog.underlying t = some (.struct fs)) :
 (DataW.weightsEach Tryz.prog (fs.toList.map (·.type)) parts).all (· ≤ reachBytes) = true := by
 rw [List.all_eq_true] at h ⊢
 intro n hn
 exact h n (DataW.weights_mem_each ht hd n (by simpa [DataW.weights, hu] using hn))
set_option maxRecDepth 100000 in
theorem Qht {H : Type} {enc : TypeId × Value → H} {W : World} {v : Value} {y : DataW H × List MemPlace} {fuel : Nat}
 (hf : DataW.trod enc Tryz.prog W 0 (fun _ => true) true fuel 34 [v] = some y) (hs : ∀ elems spare, y.1 = .slice elems spare → (elems.length + spare.length) * 16 ≤ reachBytes) : ∃ l, LabAt W v l ∧ WfL l := by
 rcases open_slice_pairs Tryz.underlying34 Tryz.underlying54 cellsLevel rfl rfl cellsInt cellsInt hf with ⟨hcs, hx⟩ | ⟨a, len, cap, m, n, V0, V1, D0, D1, P0, P1, hcs, _, hl, hm, hmm, hx, hcell⟩
 · cases hcs
   exact ⟨[], LabAt.nil W none 0 (fun _ => rfl), fun x hx => by cases hx⟩
 · cases hcs
   obtain ⟨y1, y2⟩ := y
   simp only [Prod.mk.injEq] at hx
   obtain ⟨hd, _⟩ := hx
   simp only [if_true] at hmm
   subst hmm
   have hcap := hs _ _ hd
   simp only [List.length_map, List.length_range, reachBytes] at hcap
   have each : ∀ i, i < m → ∃ q : Int × Int, W.cell? (a.add (i * 2)) = some (.int .i64 q.1) ∧ W.cell? (a.add (i * 2 + 1)) = some (.int .i64 q.2) ∧ (Lit.int .i64 q.1).wf = true ∧ (Lit.int .i64 q.2).wf = true := by
    intro i hi
    obtain ⟨h1, h2, h3, h4⟩ := hcell i hi
    obtain ⟨x, e1, _, wx⟩ := DataW.trod_int Tryz.underlying3 h3
    obtain ⟨y, e2, _, wy⟩ := DataW.trod_int Tryz.underlying3 h4
    simp only [List.cons.injEq, and_true] at e1 e2
    exact ⟨(x, y), by rw [h1, e1], by rw [h2, e2], wx, wy⟩
   obtain ⟨q, hq⟩ := choose_lt each
   refine ⟨(List.range len).map q, ⟨some a, m, by simp, ⟨by simpa using hl, fun h => by cases h⟩, by simp; omega, fun h0 => ?_⟩, ?_⟩
   rotate_left
   · intro x hx
     obtain ⟨i, hi, e⟩ := List.mem_map.1 hx
     subst e
     exact ⟨(hq i (by have := List.mem_range.1 hi; omega)).2.2.1, (hq i (by have := List.mem_range.1 hi; omega)).2.2.2⟩
   simp only [List.length_map, List.length_range] at h0
   obtain ⟨b, off, spot⟩ := a
   have hspot : spot = none := by simpa [Addr.add] using World.cell?_spot (hq 0 (by omega)).1
   subst hspot
   refine ⟨b, off, rfl, fun j hj => ?_⟩
   simp only [List.length_map, List.length_range] at hj
   obtain ⟨h1, h2, _⟩ := hq j (by omega)
   rw [add_plain] at h1 h2
   refine ⟨by simpa using h1, by rw [Nat.add_assoc]; simpa using h2⟩
set_option maxRecDepth 100000 in
theorem Qgi {H : Type} {enc : TypeId × Value → H} {W : World} {v : Value} {y : DataW H × List MemPlace} {fuel : Nat}
 (hf : DataW.trod enc Tryz.prog W 0 (fun _ => true) true fuel 35 [v] = some y) (hs : ∀ elems spare, y.1 = .slice elems spare → (elems.length + spare.length) * 8 ≤ reachBytes) : ∃ zs, IntsAt W v zs ∧ ∀ z ∈ zs, (Lit.int .i64 z).wf = true := by
 rcases open_ints Tryz.underlying35 Tryz.underlying3 cellsInt hf with ⟨hcs, hx⟩ | ⟨a, len, cap, zs, hcs, _, hl, hm, hz, hx, hcell, hwz⟩
 · cases hcs
   exact ⟨[], IntsAt.nil W none 0 (fun _ => rfl), fun z hz => by cases hz⟩
 · cases hcs
   obtain ⟨y1, y2⟩ := y
   simp only [Prod.mk.injEq] at hx
   obtain ⟨hd, _⟩ := hx
   simp only [if_true] at hz
   have hcap := hs _ _ hd
   simp only [lits, List.length_map, List.length_take, List.length_drop, reachBytes] at hcap
   refine ⟨zs.take len, ⟨some a, cap, by simp; omega, ⟨by simp; omega, fun h => by cases h⟩, by simp; omega, fun h0 => ?_⟩, fun z hz2 => hwz z (List.mem_of_mem_take hz2)⟩
   simp only [List.length_take] at h0
   obtain ⟨b, off, spot⟩ := a
   have hspot : spot = none := by simpa [Addr.add] using World.cell?_spot (hcell 0 (by omega))
   subst hspot
   refine ⟨b, off, rfl, fun j hj => ?_⟩
   simp only [List.length_take] at hj
   have h1 := hcell j (by omega)
   rw [add_plain] at h1
   rw [h1]
   have hj2 : j < zs.length := by omega
   simp [List.getD, hj2]
end Go.Proofs.YtpdijobakfpnbaaGreat
