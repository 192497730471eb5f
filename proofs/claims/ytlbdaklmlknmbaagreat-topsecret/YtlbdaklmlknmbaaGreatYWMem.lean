/- How certs, mail and frames lie in memory, and what keeps them there. -/
import Derived.Test.YtlbdaklmlknmbaaGreatYMem
import Derived.Test.YtlbdaklmlknmbaaGreatYPlain
import Derived.Laws.IdiomStrings
namespace Go.Proofs.YtlbdaklmlknmbaaGreat
open Go.RowKit Go.Proofs.Parclose
def Cells4 (w : World) (b o : Nat) (l : List Crt) : Prop :=
 ∀ j (_ : j < l.length), w.cell? ⟨b, o + j * 4, none⟩ = some (.int .i64 (l[j]).c) ∧ w.cell? ⟨b, o + j * 4 + 1, none⟩ = some (.int .i64 (l[j]).b) ∧ w.cell? ⟨b, o + j * 4 + 2, none⟩ = some (.int .i64 (l[j]).h) ∧ w.cell? ⟨b, o + j * 4 + 3, none⟩ = some (.int .i64 (l[j]).u)
theorem Cells4.below {w wr : World} {b o : Nat} {l : List Crt} (h : Cells4 w b o l) (hb : Below w.heap.size w wr) : Cells4 wr b o l := by
 intro j hj
 obtain ⟨h1, h2, h3, h4⟩ := h j hj
 exact ⟨by rw [hb.cell (Qf h1), h1], by rw [hb.cell (Qf h2), h2], by rw [hb.cell (Qf h3), h3], by rw [hb.cell (Qf h4), h4]⟩
def CrtsAt (w : World) (v : Value) (l : List Crt) : Prop :=
 ∃ p cap, v = .slice p l.length cap ∧ (l.length ≤ cap ∧ (p = none → cap = 0)) ∧ l.length ≤ 4398046511104 ∧ (0 < l.length → ∃ b o, p = some ⟨b, o, none⟩ ∧ Cells4 w b o l)
theorem CrtsAt.below {w wr : World} {v : Value} {l : List Crt} (h : CrtsAt w v l) (hb : Below w.heap.size w wr) : CrtsAt wr v l := by
 obtain ⟨p, cap, h1, h2, h3, h4⟩ := h
 refine ⟨p, cap, h1, h2, h3, fun g => ?_⟩
 obtain ⟨b, o, h5, h6⟩ := h4 g
 exact ⟨b, o, h5, h6.below hb⟩
theorem CrtsAt.len {w : World} {v : Value} {l : List Crt} (h : CrtsAt w v l) : l.length ≤ 4398046511104 := by
 obtain ⟨p, cap, h1, h2, h3, h4⟩ := h
 omega
theorem CrtsAt.nil (w : World) (p : Option Addr) (cap : Nat) (hp : p = none → cap = 0) : CrtsAt w (.slice p 0 cap) [] := ⟨p, cap, rfl, ⟨Nat.zero_le _, hp⟩, Nat.zero_le _, fun h => absurd h (by simp)⟩
theorem CrtsAt.cells {w : World} {p : Option Addr} {n cap : Nat} {l : List Crt} (h : CrtsAt w (.slice p n cap) l) (h0 : 0 < l.length) : ∃ b o, p = some ⟨b, o, none⟩ ∧ Cells4 w b o l := by
 obtain ⟨p', cap', e, _, _, h4⟩ := h
 cases e
 exact h4 h0
theorem LabAt.cells {w : World} {p : Option Addr} {n cap : Nat} {l : List (Int × Int)} (h : LabAt w (.slice p n cap) l) (h0 : 0 < l.length) : ∃ b o, p = some ⟨b, o, none⟩ ∧ Cells2 w b o l := by
 obtain ⟨p', cap', e, _, _, h4⟩ := h
 cases e
 exact h4 h0
theorem IntsAt.cells {w : World} {p : Option Addr} {n cap : Nat} {l : List Int} (h : IntsAt w (.slice p n cap) l) (h0 : 0 < l.length) : ∃ b o, p = some ⟨b, o, none⟩ ∧ Cells1 w b o l := by
 obtain ⟨p', cap', e, _, _, h4⟩ := h
 cases e
 exact h4 h0
def strV (x : List UInt8) : Value := .string ⟨x.toArray⟩
def crtV (x : Crt) : Value := .agg #[.int .i64 x.c, .int .i64 x.b, .int .i64 x.h, .int .i64 x.u]
def malV (m : Mal) (vl vg : Value) : Value := .agg #[.int .i64 m.host, .int .i64 m.thread, vl, vg, .string ⟨m.text.toArray⟩]
def frmV (f : Frm) (vl vg vc : Value) : Value := .agg #[.int .i64 f.fr, .int .i64 f.to, .int .i64 f.seq, .bool f.ack, .int .i64 f.thread, .int .i64 f.mail.host, .int .i64 f.mail.thread, vl, vg, .string ⟨f.mail.text.toArray⟩, vc]
def MalAt (w : World) (v : Value) (m : Mal) : Prop := ∃ vl vg, v = malV m vl vg ∧ LabAt w vl m.label ∧ IntsAt w vg m.grants
def FrmAt (w : World) (v : Value) (f : Frm) : Prop := ∃ vl vg vc, v = frmV f vl vg vc ∧ LabAt w vl f.mail.label ∧ IntsAt w vg f.mail.grants ∧ CrtsAt w vc f.certs
theorem MalAt.below {w wr : World} {v : Value} {m : Mal} (h : MalAt w v m) (hb : Below w.heap.size w wr) : MalAt wr v m := by
 obtain ⟨vl, vg, e, h1, h2⟩ := h
 exact ⟨vl, vg, e, h1.below hb, h2.below hb⟩
theorem FrmAt.below {w wr : World} {v : Value} {f : Frm} (h : FrmAt w v f) (hb : Below w.heap.size w wr) : FrmAt wr v f := by
 obtain ⟨vl, vg, vc, e, h1, h2, h3⟩ := h
 exact ⟨vl, vg, vc, e, h1.below hb, h2.below hb, h3.below hb⟩
theorem Qi {w w' : World} {C : Array Value} {t : TypeId} {B : Nat} (h : Below B (w.alloc (.cells C t)) w') (hB : w.heap.size < B) (j : Nat) : w'.cell? ⟨w.heap.size, j, none⟩ = C[j]? := by
 rw [h.cell (p := ⟨w.heap.size, j, none⟩) hB]
 exact World.cell?_alloc_mark w C t _ j
theorem hid {p : Prop} (h : p) : Hid p := h
theorem Qd (w : World) (o : Obj) : Below w.heap.size w (w.alloc o) := (Below.refl _ _).alloc (Nat.le_refl _) _
theorem QP (w : World) (o : Obj) : (w.alloc o).heap.size = w.heap.size + 1 := by simp
set_option maxHeartbeats 800000 in
theorem Qbo (v : Value) (l : List Int) (x : Int) (w : World) (hv : IntsAt w v l) :
 Calls Tryz.prog 12 #[v, .int .i64 x] w fun e w' => e = .returned (.bool (decide (x ∈ l))) ∧ w' = w := by
 obtain ⟨p, cap, rfl, _, _, hca⟩ := hv
 go_enter Tryz.func12, Tryz.ntmps12
 go_wp2
 go_loopw [9] (fun i wr => ∃ k : Nat, k ≤ l.length ∧ i = .int .i64 k ∧ wr = w ∧ ∀ j (hj : j < k) (hl : j < l.length), l[j] ≠ x) (fun i _ => l.length - (intOf i).toNat)
 case atStart => exact ⟨0, Nat.zero_le _, rfl, rfl, fun j hj => absurd hj (Nat.not_lt_zero _)⟩
 case round =>
  obtain ⟨k, hk, rfl, hwr, hno⟩ := hrel
  rw [hwr]
  clear hwr
  by_cases hlt : k < l.length
  · obtain ⟨ba, oa, rfl, hcA⟩ := hca (by omega)
    have ga := hcA k hlt
    have hI : (k : Int) < (l.length : Int) := by omega
    by_cases e : l[k] = x
    · have HM : Hid (x ∈ l) := hid (e ▸ List.getElem_mem hlt)
      rw [e] at ga
      clear hca hcA hno e
      go_wp2
      go_ret
      exact ⟨by rw [decide_eq_true HM.out]; rfl, rfl⟩
    · have HNO := hid hno
      have HE := hid e
      generalize hy : l[k] = y at *
      have HY := hid hy
      have hne : ¬ (y = x) := e
      clear hca hcA hno e hy
      go_wp2
      go_roundw
      case rel => exact ⟨k + 1, hlt, by go_num, by first | rfl | trivial, fun j hj hl => by
       by_cases ej : j = k
       · subst ej; rw [HY.out]; exact HE.out
       · exact HNO.out j (by omega) hl⟩
      case measure => simp [intOf]; omega
  · have HM : Hid (¬ (x ∈ l)) := hid (fun hm => by
     obtain ⟨j, hj, e⟩ := List.getElem_of_mem hm
     exact hno j (by omega) hj e)
    clear hno hca
    go_wp2
    go_ret
    exact ⟨by rw [decide_eq_false HM.out]; rfl, rfl⟩
end Go.Proofs.YtlbdaklmlknmbaaGreat
