/- trust.has and trust.Good answer what the document says, and turn nothing. -/
import Derived.Test.YtpdijobakfpnbaaGreatJCat
import Derived.Test.YtpdijobakfpnbaaGreatJPlain
import Derived.Deep.RegionHeld3
namespace Go.Proofs.YtpdijobakfpnbaaGreat
open Go.RowKit Go.Proofs.Parclose
theorem QlO (x y : Crt) (w : World) : (binOp .eql 60 (.agg #[.int .i64 x.c, .int .i64 x.b, .int .i64 x.h, .int .i64 x.u]) (.agg #[.int .i64 y.c, .int .i64 y.b, .int .i64 y.h, .int .i64 y.u])).run Tryz.prog w = .ok (.bool (sameC x y)) w := by
 have u3 := Tryz.underlying3
 have hS : Tryz.prog.underlying 60 = some (.struct (Tryz.prog.fieldsOf 60)) := by kernel_rfl
 have hp : Tryz.prog.stoodInHeld 60 = false := by kernel_rfl
 rw [run_eql_struct, show (10000 : Nat) = 9999 + 1 from rfl, run_equalIn_agg w 9999 60 _ _ hS hp]
 simp only [Program.fieldsOf, Tryz.underlying60]
 go_simp
 unfold sameC
 by_cases h1 : x.c = y.c <;> by_cases h2 : x.b = y.b <;> by_cases h3 : x.h = y.h <;> by_cases h4 : x.u = y.u <;> simp [h1, h2, h3, h4]
theorem Qid (op : BinOp) (a b : Operand) (x y : Array Value) (w : World) : (eqGuard op 60 a b (.agg x) (.agg y)).run Tryz.prog w = .ok () w :=
 run_eqGuard_agg w op 60 a b x y (by kernel_rfl)
theorem CrtsAt.take {w : World} {p : Option Addr} {n cap : Nat} {l : List Crt} (h : CrtsAt w (.slice p n cap) l) (i : Nat) (hi : i ≤ l.length) : CrtsAt w (.slice p i cap) (l.take i) := by
 obtain ⟨p', cap', e, h1, h2, h3⟩ := h
 cases e
 have hl : (l.take i).length = i := by rw [List.length_take]; omega
 refine ⟨p, cap, by rw [hl], ⟨by rw [hl]; omega, h1.2⟩, by rw [hl]; omega, fun h0 => ?_⟩
 obtain ⟨b, o, e, hc⟩ := h3 (by rw [hl] at h0; omega)
 refine ⟨b, o, e, fun j hj => ?_⟩
 have := hc j (by rw [hl] at hj; omega)
 rw [List.getElem_take]
 exact this
theorem tundrew {w w' : World} (h : Below w.drew.heap.size w.drew w') : Below w.heap.size w w' := ⟨h.os, h.tape, h.output, h.size, h.block⟩
theorem QaX {w : World} (ob : Obj) {a : Addr} {v : Value} (h : w.cell? a = some v) : (w.alloc ob).cell? a = some v := by
 rw [(Qd w ob).cell (Qf h), h]
set_option maxHeartbeats 800000 in
theorem Qjd (v : Value) (l : List Crt) (x : Crt) (w : World) (hv : CrtsAt w v l) :
 Calls Tryz.prog 172 #[v, crtV x] w fun e w' => e = .returned (.bool (decide (x ∈ l))) ∧ Below w.heap.size w w' := by
 obtain ⟨p, cap, rfl, hlc, hcap, hcells⟩ := hv
 have hgd := Qid
 unfold crtV
 go_enter Tryz.func172, Tryz.ntmps172
 go_wp2
 go_loopw [9] (fun i wr => ∃ k : Nat, k ≤ l.length ∧ i = .int .i64 k ∧ (∀ j (hj : j < k) (hja : j < l.length), l[j] ≠ x) ∧ Below (w.heap.size + 1) (w.alloc (.cells #[.int .i64 x.c, .int .i64 x.b, .int .i64 x.h, .int .i64 x.u] 60)) wr) (fun i _ => l.length - (intOf i).toNat)
 case atStart => exact ⟨0, Nat.zero_le _, rfl, fun j hj => absurd hj (Nat.not_lt_zero _), Below.refl _ _⟩
 case round =>
  obtain ⟨k, hk, rfl, heq0, hbx⟩ := hrel
  have hb : Below w.heap.size w wr := (Qd w _).trans (hbx.mono (by omega))
  have hsz := hbx.size
  rw [QM] at hsz
  have x0 := fun ob => QaX ob (Qi hbx (by omega) 0 : wr.cell? ⟨w.heap.size, 0, none⟩ = some (.int .i64 x.c))
  have x1 := fun ob => QaX ob (Qi hbx (by omega) 1 : wr.cell? ⟨w.heap.size, 1, none⟩ = some (.int .i64 x.b))
  have x2 := fun ob => QaX ob (Qi hbx (by omega) 2 : wr.cell? ⟨w.heap.size, 2, none⟩ = some (.int .i64 x.h))
  have x3 := fun ob => QaX ob (Qi hbx (by omega) 3 : wr.cell? ⟨w.heap.size, 3, none⟩ = some (.int .i64 x.u))
  have HE : Hid (∀ j (hj : j < k) (hja : j < l.length), l[j] ≠ x) := heq0
  clear heq0
  by_cases hlt : k < l.length
  · obtain ⟨b, o, rfl, hc⟩ := hcells (by omega)
    obtain ⟨g1, g2, g3, g4⟩ := hc.below hb k hlt
    have heq := fun w => QlO l[k] x w
    clear hcells hc
    cases hd : sameC l[k] x with
    | true =>
     rw [hd] at heq
     have HK : Hid (decide (x ∈ l) = true) := decide_eq_true (by rw [← (Qe5 _ _).1 hd]; exact List.getElem_mem hlt)
     clear hd
     go_wp2
     go_ret
     exact ⟨Qm HK.out.symm, hb.alloc (by omega) _⟩
    | false =>
     rw [hd] at heq
     have HK : Hid (l[k] ≠ x) := fun e => by rw [(Qe5 _ _).2 e] at hd; cases hd
     clear hd
     go_wp2
     go_roundw
     case rel => exact ⟨k + 1, hlt, by go_num, fun j hj hja => by
      by_cases e : j = k
      · subst e; exact HK.out
      · exact HE.out j (by omega) hja, hbx.alloc hsz _⟩
     case measure => simp [intOf]; omega
  · have HK : Hid (decide (x ∈ l) = false) := decide_eq_false fun h => by
     obtain ⟨j, hj, e⟩ := List.mem_iff_getElem.1 h
     exact HE.out j (by omega) hj e
    go_wp2
    go_ret
    exact ⟨Qm HK.out.symm, hb⟩
set_option maxHeartbeats 800000 in
theorem Qc1 (v : Value) (l : List Crt) (w : World) (hv : CrtsAt w v l) :
 Calls Tryz.prog 170 #[v] w fun e w' => e = .returned (.bool (csB l)) ∧ Below w.heap.size w w' := by
 have hv0 := hv
 obtain ⟨p, cap, rfl, hlc, hcap, hcells⟩ := hv
 by_cases h24 : l.length ≤ 24
 rotate_left
 · have HE : Hid (csB l = false) := QlV (by omega)
   go_enter Tryz.func170, Tryz.ntmps170
   go_wp2
   go_ret
   exact ⟨Qm HE.out.symm, Below.refl _ _⟩
 go_enter Tryz.func170, Tryz.ntmps170
 go_wp2
 go_loopw [10] (fun i wr => ∃ k : Nat, k ≤ l.length ∧ i = .int .i64 k ∧ (∀ j (hj : j < k) (hja : j < l.length), certB l[j] = true ∧ l[j] ∉ l.take j) ∧ Below w.heap.size w wr) (fun i _ => l.length - (intOf i).toNat)
 case atStart => exact ⟨0, Nat.zero_le _, rfl, fun j hj => absurd hj (Nat.not_lt_zero _), Below.refl _ _⟩
 case round =>
  obtain ⟨k, hk, rfl, heq0, hb⟩ := hrel
  have HE : Hid (∀ j (hj : j < k) (hja : j < l.length), certB l[j] = true ∧ l[j] ∉ l.take j) := heq0
  clear heq0
  by_cases hlt : k < l.length
  · obtain ⟨b, o, rfl, hc⟩ := hcells (by omega)
    obtain ⟨g1, g2, g3, g4⟩ := hc.below hb k hlt
    have hcert := fun wx => QbD l[k] wx
    have hhas := fun wx (h : Below w.heap.size w wx) => Qjd (.slice (some ⟨b, o, none⟩) k cap) (l.take k) l[k] wx ((hv0.take k hk).below h)
    unfold crtV at hcert hhas
    clear hcells hc hv0
    have g5 : (k : Int) ≤ (cap : Int) := by omega
    have HBW := hid (Below.refl (wr.alloc (.cells #[.int .i64 l[k].c, .int .i64 l[k].b, .int .i64 l[k].h, .int .i64 l[k].u] 60)).heap.size (wr.alloc (.cells #[.int .i64 l[k].c, .int .i64 l[k].b, .int .i64 l[k].h, .int .i64 l[k].u] 60)))
    have hsz := hb.size
    have HBB := hid hb
    cases hcb : certB l[k] with
    | false =>
     have HG : Hid (csB l = false) := Qmq hlt hcb
     go_wp2
     first
     | (go_region_with
      (first
       | (go_at_call 171; refine (hcert _).mono ?_; rintro e w2 ⟨rfl, hwd⟩; have hw := tundrew hwd; have HB2 := hid (Qc HBW.out hw); have r0 := Qi HB2.out (by simp) 0; have r1 := Qi HB2.out (by simp) 1; have r2 := Qi HB2.out (by simp) 2; have r3 := Qi HB2.out (by simp) 3; clear hw hwd)))
     | fail
     all_goals
      go_wp2
      go_ret
      exact ⟨Qm HG.out.symm, Qc HBB.out (Qc (Qd wr _) HB2.out)⟩
    | true =>
     cases hd : decide (l[k] ∈ l.take k) with
     | true =>
      have HG : Hid (csB l = false) := Qko hlt (of_decide_eq_true hd)
      rw [hd] at hhas
      clear hd
      go_wp2
      first
      | (go_region_with
       (first
        | (go_at_call 171; refine (hcert _).mono ?_; rintro e w2 ⟨rfl, hwd⟩; have hw := tundrew hwd; have HB2 := hid (Qc HBW.out hw); have r0 := Qi HB2.out (by simp) 0; have r1 := Qi HB2.out (by simp) 1; have r2 := Qi HB2.out (by simp) 2; have r3 := Qi HB2.out (by simp) 3; clear hw hwd)
        | (go_at_call 172; refine (hhas _ (Qc HBB.out (Qc (Qd wr _) HB2.out))).mono ?_; rintro e w3 ⟨rfl, hw⟩; have HB3 := hid (Qc HB2.out hw); clear r0 r1 r2 r3; have r0 := Qi HB3.out (by simp) 0; have r1 := Qi HB3.out (by simp) 1; have r2 := Qi HB3.out (by simp) 2; have r3 := Qi HB3.out (by simp) 3; clear hw)))
      | fail
      all_goals
       go_wp2
       go_ret
       exact ⟨Qm HG.out.symm, Qc HBB.out (Qc (Qd wr _) HB3.out)⟩
     | false =>
      have HG : Hid (certB l[k] = true ∧ l[k] ∉ l.take k) := ⟨hcb, of_decide_eq_false hd⟩
      rw [hd] at hhas
      clear hd
      go_wp2
      first
      | (go_region_with
       (first
        | (go_at_call 171; refine (hcert _).mono ?_; rintro e w2 ⟨rfl, hwd⟩; have hw := tundrew hwd; have HB2 := hid (Qc HBW.out hw); have r0 := Qi HB2.out (by simp) 0; have r1 := Qi HB2.out (by simp) 1; have r2 := Qi HB2.out (by simp) 2; have r3 := Qi HB2.out (by simp) 3; clear hw hwd)
        | (go_at_call 172; refine (hhas _ (Qc HBB.out (Qc (Qd wr _) HB2.out))).mono ?_; rintro e w3 ⟨rfl, hw⟩; have HB3 := hid (Qc HB2.out hw); clear r0 r1 r2 r3; have r0 := Qi HB3.out (by simp) 0; have r1 := Qi HB3.out (by simp) 1; have r2 := Qi HB3.out (by simp) 2; have r3 := Qi HB3.out (by simp) 3; clear hw)))
      | fail
      all_goals
       go_wp2
       go_roundw
       case rel => exact ⟨k + 1, hlt, by go_num, fun j hj hja => by
        by_cases e : j = k
        · subst e; exact HG.out
        · exact HE.out j (by omega) hja, Qc HBB.out (Qc (Qd wr _) HB3.out)⟩
       case measure => simp [intOf]; omega
  · have HK : Hid (csB l = true) := Qmr h24 (fun j hj => (HE.out j (by omega) hj).1) (fun j hj => (HE.out j (by omega) hj).2)
    go_wp2
    go_ret
    exact ⟨Qm HK.out.symm, hb⟩
end Go.Proofs.YtpdijobakfpnbaaGreat
