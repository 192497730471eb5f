/- label.Category answers what the document says, and turns nothing. -/
import Derived.Test.YtpdijobakfpnbaaGreatJMem
import Derived.Laws.StructEq
import Derived.Deep.QuietTactic
import Derived.BigQuiet
import Derived.Test.YtpdijobakfpnbaaGreatJWMem
namespace Go.Proofs.YtpdijobakfpnbaaGreat
open Go.RowKit Go.Proofs.Parclose
theorem QG (c : Int) (w : World) : Calls Tryz.prog 175 #[.int .i64 c] w fun e w' => e = .returned (.bool (catB c)) ∧ w' = w := by
 unfold catB
 by_cases h1 : 0 ≤ c
 · by_cases h2 : c < 80
   · go_enter Tryz.func175, Tryz.ntmps175
     go_wp2
     go_ret
     exact ⟨Qm (by simp [h1, h2]), rfl⟩
   · go_enter Tryz.func175, Tryz.ntmps175
     go_wp2
     go_ret
     exact ⟨Qm (by simp [h2]), rfl⟩
 · go_enter Tryz.func175, Tryz.ntmps175
   go_wp2
   go_ret
   exact ⟨Qm (by simp; omega), rfl⟩
theorem Qao (c : Int) (w : World) : Calls Tryz.prog 176 #[.int .i64 c] w fun e w' => e = .returned (.bool (bndB c)) ∧ w' = w := by
 unfold bndB
 by_cases h1 : 0 ≤ c
 · by_cases h2 : c ≤ 3
   · go_enter Tryz.func176, Tryz.ntmps176
     go_wp2
     go_ret
     exact ⟨Qm (by simp [h1, h2]), rfl⟩
   · go_enter Tryz.func176, Tryz.ntmps176
     go_wp2
     go_ret
     exact ⟨Qm (by simp [h2]), rfl⟩
 · go_enter Tryz.func176, Tryz.ntmps176
   go_wp2
   go_ret
   exact ⟨Qm (by simp; omega), rfl⟩
theorem wrap_small {x : Int} (h0 : 0 ≤ x) (h1 : x ≤ 1000000) : IntKind.i64.wrap x = x := by
 simp [IntKind.wrap, IntKind.signed, IntKind.bits]
 omega
set_option maxHeartbeats 800000 in
theorem Qa1 (v : Value) (l : List (Int × Int)) (w : World) (hv : LabAt w v l) :
 Calls Tryz.prog 133 #[v] w fun e w' => e = .returned (.bool (goodB l)) ∧ Below w.heap.size w w' := by
 obtain ⟨p, cap, rfl, hlc, hcap, hcells⟩ := hv
 by_cases h8 : l.length ≤ 8
 rotate_left
 · have hg := Qih (l := l) (by omega)
   have HG : Hid (goodB l = false) := hg
   clear hg
   go_enter Tryz.func133, Tryz.ntmps133
   go_wp2
   go_ret
   exact ⟨Qm HG.out.symm, Below.refl _ _⟩
 go_enter Tryz.func133, Tryz.ntmps133
 go_wp2
 go_loopw [10] (fun i wr => ∃ k : Nat, k ≤ l.length ∧ i = .int .i64 k ∧ (∀ j (hj : j < k) (hj' : j < l.length), levB l[j] = true) ∧ (∀ j (hj : j + 1 < k) (hj' : j + 1 < l.length), l[j].1 < l[j + 1].1) ∧ Below w.heap.size w wr) (fun i _ => l.length - (intOf i).toNat)
 case atStart => exact ⟨0, Nat.zero_le _, rfl, fun j hj => absurd hj (Nat.not_lt_zero _), fun j hj => absurd hj (Nat.not_lt_zero _), Below.refl _ _⟩
 case round =>
  obtain ⟨k, hk, rfl, hlev0, hup0, hb⟩ := hrel
  have HL : Hid (∀ j (hj : j < k) (hj' : j < l.length), levB l[j] = true) := hlev0
  have HU : Hid (∀ j (hj : j + 1 < k) (hj' : j + 1 < l.length), l[j].1 < l[j + 1].1) := hup0
  clear hlev0 hup0
  by_cases hlt : k < l.length
  · obtain ⟨b, o, rfl, hc⟩ := hcells (by omega)
    have hcr := hc.below hb
    obtain ⟨hc1, hc2⟩ := hcr k hlt
    have hsz := hb.size
    have hno : ∀ hx : levB l[k] = false, Hid (goodB l = false) := fun hx => Qj3 k hlt hx
    have hyes : ∀ hx : levB l[k] = true, Hid (levB l[k] = true) := fun hx => hx
    have hlv : levB l[k] = (catB l[k].1 && bndB l[k].2 && !(l[k].2 == 1)) := rfl
    cases hcat : catB l[k].1 with
    | false =>
     have HG := hno (by rw [hlv, hcat]; rfl)
     clear hno hyes hlv hcells hcr hc
     go_wp2_with (first | (go_at_call 175; refine (QG _ _).mono ?_; rintro e w' ⟨rfl, rfl⟩) | (go_at_call 176; refine (Qao _ _).mono ?_; rintro e w' ⟨rfl, rfl⟩))
     go_ret
     exact ⟨Qm HG.out.symm, hb.alloc hsz _⟩
    | true =>
     cases hbnd : bndB l[k].2 with
     | false =>
      have HG := hno (by rw [hlv, hcat, hbnd]; rfl)
      clear hno hyes hlv hcells hcr hc
      go_wp2_with (first | (go_at_call 175; refine (QG _ _).mono ?_; rintro e w' ⟨rfl, rfl⟩) | (go_at_call 176; refine (Qao _ _).mono ?_; rintro e w' ⟨rfl, rfl⟩))
      go_ret
      exact ⟨Qm HG.out.symm, hb.alloc hsz _⟩
     | true =>
      cases hpl : (l[k].2 == 1) with
      | true =>
       have HG := hno (by rw [hlv, hcat, hbnd, hpl]; rfl)
       clear hno hyes hlv hcells hcr hc
       go_wp2_with (first | (go_at_call 175; refine (QG _ _).mono ?_; rintro e w' ⟨rfl, rfl⟩) | (go_at_call 176; refine (Qao _ _).mono ?_; rintro e w' ⟨rfl, rfl⟩))
       go_ret
       exact ⟨Qm HG.out.symm, hb.alloc hsz _⟩
      | false =>
       have HY := hyes (by rw [hlv, hcat, hbnd, hpl]; rfl)
       clear hno hyes hlv hcells hc
       go_wp2_with (first | (go_at_call 175; refine (QG _ _).mono ?_; rintro e w' ⟨rfl, rfl⟩) | (go_at_call 176; refine (Qao _ _).mono ?_; rintro e w' ⟨rfl, rfl⟩))
       by_cases h0 : k = 0
       · have hd : decide (0 < k) = false := by simp; omega
         go_quiet (fail)
         go_wp2
         go_roundw
         case rel => exact ⟨k + 1, hlt, by go_num, fun j hj hj' => by
          by_cases e : j = k
          · subst e; exact HY.out
          · exact HL.out j (by omega) hj', fun j hj hj' => absurd hj (by omega), Qc (hb.alloc hsz _) (Qt _ _)⟩
         case measure => simp [intOf]; omega
       · have hd : 0 < k := by omega
         obtain ⟨m, hm⟩ : ∃ m, k = m + 1 := ⟨k - 1, by omega⟩
         have hml : m < l.length := by omega
         have hbb : b < wr.heap.size := Qf hc1
         have hw : IntKind.i64.wrap ((k : Int) - 1) = (m : Int) := by
          rw [hm, show ((m + 1 : Nat) : Int) - 1 = (m : Int) by omega]
          exact wrap_small (by omega) (by omega)
         obtain ⟨hp1, hp2⟩ := hcr m hml
         have HM : Hid (k = m + 1) := hm
         clear hp2 hcr hm h0
         by_cases hge : l[k].1 ≤ l[m].1
         · have HG : Hid (goodB l = false) := by
            have e := HM.out
            subst e
            exact Qig m hlt hge
           go_quiet (fail)
           go_wp2
           go_ret
           exact ⟨Qm HG.out.symm, Qc (hb.alloc hsz _) (Qt _ _)⟩
         · go_quiet (fail)
           go_wp2
           go_roundw
           case rel => exact ⟨k + 1, hlt, by go_num, fun j hj hj' => by
            by_cases e : j = k
            · subst e; exact HY.out
            · exact HL.out j (by omega) hj', fun j hj hj' => by
            by_cases e : j = m
            · subst e
              have e := HM.out
              subst e
              omega
            · exact HU.out j (by have := HM.out; omega) hj', Qc (hb.alloc hsz _) (Qt _ _)⟩
           case measure => simp [intOf]; omega
  · go_wp2
    go_ret
    have e : goodB l = true := Qj4 h8 (fun j hj => HL.out j (by omega) hj) (fun j hj => HU.out j (by omega) hj)
    exact ⟨Qm e.symm, hb⟩
theorem Qas (c : Int) (w : World) : Calls Tryz.prog 164 #[.int .i64 c] w fun e w' => e = .returned (.bool (hostB c)) ∧ w' = w := by
 unfold hostB
 by_cases h1 : 0 ≤ c
 · by_cases h2 : c < 4
   · go_enter Tryz.func164, Tryz.ntmps164
     go_wp2
     go_ret
     exact ⟨Qm (by simp [h1, h2]), rfl⟩
   · go_enter Tryz.func164, Tryz.ntmps164
     go_wp2
     go_ret
     exact ⟨Qm (by simp [h2]), rfl⟩
 · go_enter Tryz.func164, Tryz.ntmps164
   go_wp2
   go_ret
   exact ⟨Qm (by simp; omega), rfl⟩
theorem Qa3 (c : Int) (w : World) : Calls Tryz.prog 184 #[.int .i64 c] w fun e w' => e = .returned (.bool (timeB c)) ∧ w' = w := by
 unfold timeB
 by_cases h1 : 0 ≤ c
 · by_cases h2 : c ≤ 1099511627776
   · go_enter Tryz.func184, Tryz.ntmps184
     go_wp2
     go_ret
     exact ⟨Qm (by simp [h1, h2]), rfl⟩
   · go_enter Tryz.func184, Tryz.ntmps184
     go_wp2
     go_ret
     exact ⟨Qm (by simp [h2]), rfl⟩
 · go_enter Tryz.func184, Tryz.ntmps184
   go_wp2
   go_ret
   exact ⟨Qm (by simp; omega), rfl⟩
theorem Qau (a b : Int) (w : World) : Calls Tryz.prog 183 #[.int .i64 a, .int .i64 b] w fun e w' => e = .returned (.bool (twoB a b)) ∧ w' = w := by
 unfold twoB
 cases h1 : hostB a <;> cases h2 : hostB b <;> cases h3 : (a == b)
 all_goals
  have h4 : (a != b) = !(a == b) := rfl
  go_enter Tryz.func183, Tryz.ntmps183
  go_wp2_with (go_at_call 164; refine (Qas _ _).mono ?_; rintro e w' ⟨rfl, rfl⟩)
  go_ret
  exact ⟨Qm (by simp [*]), rfl⟩
theorem QbD (x : Crt) (w : World) : Calls Tryz.prog 171 #[crtV x] w fun e w' => e = .returned (.bool (certB x)) ∧ Below w.heap.size w w' := by
 unfold certB crtV
 cases h1 : catB x.c <;> cases h2 : twoB x.b x.h <;> cases h3 : timeB x.u
 all_goals
  go_enter Tryz.func171, Tryz.ntmps171
  go_wp2_with (first | (go_at_call 175; refine (QG _ _).mono ?_; rintro e w' ⟨rfl, rfl⟩) | (go_at_call 183; refine (Qau _ _ _).mono ?_; rintro e w' ⟨rfl, rfl⟩) | (go_at_call 184; refine (Qa3 _ _).mono ?_; rintro e w' ⟨rfl, rfl⟩))
  go_ret
  exact ⟨Qm (by simp), Qd _ _⟩
end Go.Proofs.YtpdijobakfpnbaaGreat
