/- label.Category, label.Good and label.Same answer what the document says, and turn nothing that was there. -/
import Derived.Test.YtpdijobakfpnbaaQMem
import Derived.Test.YtpdijobakfpnbaaQCat
import Derived.Laws.StructEq
import Derived.Deep.QuietTactic
import Derived.BigQuiet
namespace Go.Proofs.Ytpdijobakfpnbaa
open Go.RowKit Go.Proofs.Parclose
theorem Qab (c : Int) (w : World) : Calls Try.prog 67 #[.int .i64 c] w fun e w' => e = .returned (.bool (bndB c)) ∧ w' = w := by
 unfold bndB
 by_cases h1 : 0 ≤ c
 · by_cases h2 : c ≤ 3
   · go_enter Try.func67, Try.ntmps67
     go_wp2
     go_ret
     exact ⟨Qm (by simp [h1, h2]), rfl⟩
   · go_enter Try.func67, Try.ntmps67
     go_wp2
     go_ret
     exact ⟨Qm (by simp [h2]), rfl⟩
 · go_enter Try.func67, Try.ntmps67
   go_wp2
   go_ret
   exact ⟨Qm (by simp; omega), rfl⟩
theorem wrap_small {x : Int} (h0 : 0 ≤ x) (h1 : x ≤ 1000000) : IntKind.i64.wrap x = x := by
 simp [IntKind.wrap, IntKind.signed, IntKind.bits]
 omega
set_option maxHeartbeats 800000 in
theorem QaD (v : Value) (l : List (Int × Int)) (w : World) (hv : LabAt w v l) :
 Calls Try.prog 51 #[v] w fun e w' => e = .returned (.bool (goodB l)) ∧ Below w.heap.size w w' := by
 obtain ⟨p, cap, rfl, hlc, hcap, hcells⟩ := hv
 by_cases h8 : l.length ≤ 8
 rotate_left
 · have hg := QcE (l := l) (by omega)
   have HG : Hid (goodB l = false) := hg
   clear hg
   go_enter Try.func51, Try.ntmps51
   go_wp2
   go_ret
   exact ⟨Qm HG.out.symm, Below.refl _ _⟩
 go_enter Try.func51, Try.ntmps51
 go_wp2
 go_loopw [10] (fun i wr => ∃ k : Nat, k ≤ l.length ∧ i = .int .i64 k ∧ (∀ j (hj : j < k) (hj' : j < l.length), levB l[j] = true) ∧ (∀ j (hj : j + 1 < k) (hj' : j + 1 < l.length), l[j].1 < l[j + 1].1) ∧ Below w.heap.size w wr) (fun i _ => l.length - (intOf i).toNat)
 case atStart => exact ⟨0, Nat.zero_le _, rfl, fun j hj => absurd hj (Nat.not_lt_zero _), fun j hj => absurd hj (Nat.not_lt_zero _), Below.refl _ _⟩
 case round =>
  obtain ⟨k, hk, rfl, hlev0, hup0, hb⟩ := hrel
  have HL : Hid (∀ j (hj : j < k) (hj' : j < l.length), levB l[j] = true) := hlev0
  have HU : Hid (∀ j (hj : j + 1 < k) (hj' : j + 1 < l.length), l[j].1 < l[j + 1].1) := hup0
  clear hlev0 hup0
  by_cases hlt : k < l.length
  · obtain ⟨b, o, rfl, hc⟩ := hcells (by omega)
    have hcr := hc.below hb
    obtain ⟨hc1, hc2⟩ := hcr k hlt
    have hsz := hb.size
    have hno : ∀ hx : levB l[k] = false, Hid (goodB l = false) := fun hx => QbT k hlt hx
    have hyes : ∀ hx : levB l[k] = true, Hid (levB l[k] = true) := fun hx => hx
    have hlv : levB l[k] = (catB l[k].1 && bndB l[k].2 && !(l[k].2 == 1)) := rfl
    cases hcat : catB l[k].1 with
    | false =>
     have HG := hno (by rw [hlv, hcat]; rfl)
     clear hno hyes hlv hcells hcr hc
     go_wp2_with (first | (go_at_call 66; refine (QG _ _).mono ?_; rintro e w' ⟨rfl, rfl⟩) | (go_at_call 67; refine (Qab _ _).mono ?_; rintro e w' ⟨rfl, rfl⟩))
     go_ret
     exact ⟨Qm HG.out.symm, hb.alloc hsz _⟩
    | true =>
     cases hbnd : bndB l[k].2 with
     | false =>
      have HG := hno (by rw [hlv, hcat, hbnd]; rfl)
      clear hno hyes hlv hcells hcr hc
      go_wp2_with (first | (go_at_call 66; refine (QG _ _).mono ?_; rintro e w' ⟨rfl, rfl⟩) | (go_at_call 67; refine (Qab _ _).mono ?_; rintro e w' ⟨rfl, rfl⟩))
      go_ret
      exact ⟨Qm HG.out.symm, hb.alloc hsz _⟩
     | true =>
      cases hpl : (l[k].2 == 1) with
      | true =>
       have HG := hno (by rw [hlv, hcat, hbnd, hpl]; rfl)
       clear hno hyes hlv hcells hcr hc
       go_wp2_with (first | (go_at_call 66; refine (QG _ _).mono ?_; rintro e w' ⟨rfl, rfl⟩) | (go_at_call 67; refine (Qab _ _).mono ?_; rintro e w' ⟨rfl, rfl⟩))
       go_ret
       exact ⟨Qm HG.out.symm, hb.alloc hsz _⟩
      | false =>
       have HY := hyes (by rw [hlv, hcat, hbnd, hpl]; rfl)
       clear hno hyes hlv hcells hc
       go_wp2_with (first | (go_at_call 66; refine (QG _ _).mono ?_; rintro e w' ⟨rfl, rfl⟩) | (go_at_call 67; refine (Qab _ _).mono ?_; rintro e w' ⟨rfl, rfl⟩))
       by_cases h0 : k = 0
       · have hd : decide (0 < k) = false := by simp; omega
         go_quiet (fail)
         go_wp2
         go_roundw
         case rel => exact ⟨k + 1, hlt, by go_num, fun j hj hj' => by
          by_cases e : j = k
          · subst e; exact HY.out
          · exact HL.out j (by omega) hj', fun j hj hj' => absurd hj (by omega), Qd (hb.alloc hsz _) (Qq _ _)⟩
         case measure => simp [intOf]; omega
       · have hd : 0 < k := by omega
         obtain ⟨m, hm⟩ : ∃ m, k = m + 1 := ⟨k - 1, by omega⟩
         have hml : m < l.length := by omega
         have hbb : b < wr.heap.size := Qb hc1
         have hw : IntKind.i64.wrap ((k : Int) - 1) = (m : Int) := by
          rw [hm, show ((m + 1 : Nat) : Int) - 1 = (m : Int) by omega]
          exact wrap_small (by omega) (by omega)
         obtain ⟨hp1, hp2⟩ := hcr m hml
         have HM : Hid (k = m + 1) := hm
         clear hp2 hcr hm h0
         by_cases hge : l[k].1 ≤ l[m].1
         · have HG : Hid (goodB l = false) := by
            have e := HM.out
            subst e
            exact QcD m hlt hge
           go_quiet (fail)
           go_wp2
           go_ret
           exact ⟨Qm HG.out.symm, Qd (hb.alloc hsz _) (Qq _ _)⟩
         · go_quiet (fail)
           go_wp2
           go_roundw
           case rel => exact ⟨k + 1, hlt, by go_num, fun j hj hj' => by
            by_cases e : j = k
            · subst e; exact HY.out
            · exact HL.out j (by omega) hj', fun j hj hj' => by
            by_cases e : j = m
            · subst e
              have e := HM.out
              subst e
              omega
            · exact HU.out j (by have := HM.out; omega) hj', Qd (hb.alloc hsz _) (Qq _ _)⟩
           case measure => simp [intOf]; omega
  · go_wp2
    go_ret
    have e : goodB l = true := Qdg h8 (fun j hj => HL.out j (by omega) hj) (fun j hj => HU.out j (by omega) hj)
    exact ⟨Qm e.symm, hb⟩
end Go.Proofs.Ytpdijobakfpnbaa
