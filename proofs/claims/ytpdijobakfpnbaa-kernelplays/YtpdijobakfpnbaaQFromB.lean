/- The answers of label.Flows and Good in every later world. -/
import Derived.Test.YtpdijobakfpnbaaQNamed
import Derived.Test.YtpdijobakfpnbaaQGood
import Derived.Test.YtpdijobakfpnbaaQSameG
import Derived.Laws.AppendOwnNone
import Derived.Test.YtpdijobakfpnbaaQPlain
import Derived.Deep.QuietTactic
import Derived.BigQuiet
import Derived.Test.YtpdijobakfpnbaaQRows0
namespace Go.Proofs.Ytpdijobakfpnbaa
open Go.RowKit Go.Proofs.Parclose
set_option maxHeartbeats 400000 in
theorem Qfs (v : Value) (l : List (Int × Int)) (c : Int) (w : World) (hv : LabAt w v l) :
 Calls Try.prog 48 #[v, .int .i64 c] w fun e w' => e = .returned (.int .i64 (atL l c)) ∧ Below w.heap.size w w' := by
 obtain ⟨p, cap, rfl, hlc, hcap, hcells⟩ := hv
 go_enter Try.func48, Try.ntmps48
 go_wp2
 go_loopw [9] (fun i wr => ∃ k : Nat, k ≤ l.length ∧ i = .int .i64 k ∧ (∀ j (hj : j < k) (hj' : j < l.length), l[j].1 ≠ c) ∧ Below w.heap.size w wr) (fun i _ => l.length - (intOf i).toNat)
 case atStart => exact ⟨0, Nat.zero_le _, rfl, fun j hj => absurd hj (Nat.not_lt_zero _), Below.refl _ _⟩
 case round =>
  obtain ⟨k, hk, rfl, hno, hb⟩ := hrel
  by_cases hlt : k < l.length
  · obtain ⟨b, o, rfl, hc⟩ := hcells (by omega)
    obtain ⟨hc1, hc2⟩ := (hc.below hb) k hlt
    have hsz := hb.size
    have HN : Hid (∀ j (hj : j < k) (hj' : j < l.length), l[j].1 ≠ c) := hno
    clear hno hcells
    by_cases heq : l[k].1 = c
    · have he : (l[k].1 == c) = true := by simpa using heq
      have HE := Qbz l c k hlt (fun j hj => HN.out j hj (by omega)) heq
      have HH : Hid (atL l c = l[k].2) := HE
      clear HE heq
      go_wp2
      go_ret
      exact ⟨QH HH.out.symm, hb.alloc hsz _⟩
    · have he : (l[k].1 == c) = false := by simpa using heq
      have HH : Hid (l[k].1 ≠ c) := heq
      clear heq
      go_wp2
      go_roundw
      case rel => exact ⟨k + 1, hlt, by go_num, fun j hj hj' => by
       by_cases e : j = k
       · subst e; exact HH.out
       · exact HN.out j (by omega) hj', hb.alloc hsz _⟩
      case measure => simp [intOf]; omega
  · go_wp2
    go_ret
    have e : atL l c = 1 := QdS l c fun j hj => hno j (by omega) hj
    exact ⟨QH e.symm, hb⟩
set_option maxHeartbeats 800000 in
theorem QbO (va vb : Value) (a b : List (Int × Int)) (w : World) (ha : LabAt w va a) (hb : LabAt w vb b) :
 Calls Try.prog 28 #[va, vb] w fun e w' => e = .returned (.bool (sameB a b)) ∧ Below w.heap.size w w' := by
 obtain ⟨p, cap, rfl, hlc, hcap, hca⟩ := ha
 obtain ⟨q, cap', rfl, hlc', hcap', hcb⟩ := hb
 by_cases hl : a.length = b.length
 rotate_left
 · have HS : Hid (sameB a b = false) := QfH hl
   have hl' : ((a.length : Int) != (b.length : Int)) = true := by rw [bne_iff_ne]; omega
   go_enter Try.func28, Try.ntmps28
   go_wp2
   go_ret
   exact ⟨Qm HS.out.symm, Below.refl _ _⟩
 have hl' : ((a.length : Int) != (b.length : Int)) = false := by rw [bne_eq_false_iff_eq]; omega
 have HL : Hid (a.length = b.length) := hl
 have hlb : b.length ≤ a.length := by omega
 have hla : a.length ≤ b.length := by omega
 clear hl
 have hgd := Qee
 go_enter Try.func28, Try.ntmps28
 go_wp2
 go_loopw [13] (fun i wr => ∃ k n : Nat, k ≤ a.length ∧ i = .int .i64 k ∧ (∀ j (hj : j < k) (hja : j < a.length) (hjb : j < b.length), a[j] = b[j]) ∧ wr = w.drewN n) (fun i _ => a.length - (intOf i).toNat)
 case atStart => exact ⟨0, 0, Nat.zero_le _, rfl, fun j hj => absurd hj (Nat.not_lt_zero _), rfl⟩
 case round =>
  obtain ⟨k, n, hk, rfl, heq0, rfl⟩ := hrel
  have HE : Hid (∀ j (hj : j < k) (hja : j < a.length) (hjb : j < b.length), a[j] = b[j]) := heq0
  clear heq0
  by_cases hlt : k < a.length
  · obtain ⟨ba, oa, rfl, hcA⟩ := hca (by omega)
    obtain ⟨bb, ob, rfl, hcB⟩ := hcb (by omega)
    have hkb : k < b.length := by omega
    obtain ⟨ga1, ga2⟩ := hcA k hlt
    obtain ⟨gb1, gb2⟩ := hcB k hkb
    have hne := fun w => QfV a[k] b[k] w
    clear hca hcb hcA hcB
    cases hd : decide (a[k] = b[k]) with
    | true =>
     rw [hd] at hne
     have hk2 : a[k] = b[k] := of_decide_eq_true hd
     have HK : Hid (a[k] = b[k]) := hk2
     clear hk2
     clear hd
     go_wp2_with fail
     go_quiet (fail)
     go_wp2
     go_roundw
     case rel => exact ⟨k + 1, n + nq, hlt, by go_num, fun j hj hja hjb => by
      by_cases e : j = k
      · subst e; exact HK.out
      · exact HE.out j (by omega) hja hjb, rfl⟩
     case measure => simp [intOf]; omega
    | false =>
     rw [hd] at hne
     have HS : Hid (sameB a b = false) := QeF k hlt hkb (of_decide_eq_false hd)
     clear hd
     go_wp2_with fail
     go_quiet (fail)
     go_wp2
     go_ret
     exact ⟨Qm HS.out.symm, by rw [World.drewN_drewN]; exact Qq _ _⟩
  · go_wp2
    go_ret
    have e : sameB a b = true := QfI HL.out fun j hja hjb => HE.out j (by omega) hja hjb
    exact ⟨Qm e.symm, Qq _ _⟩
theorem Qbv (c : Int) (w : World) : Calls Try.prog 61 #[.int .i64 c] w fun e w' => e = .returned (.bool (catB c)) ∧ w' = w := by
 unfold catB
 by_cases h1 : 0 ≤ c
 · by_cases h2 : c ≤ 79
   · go_enter Try.func61, Try.ntmps61
     go_wp2
     go_ret
     exact ⟨Qm (by simp; omega), rfl⟩
   · go_enter Try.func61, Try.ntmps61
     go_wp2
     go_ret
     exact ⟨Qm (by simp; omega), rfl⟩
 · go_enter Try.func61, Try.ntmps61
   go_wp2
   go_ret
   exact ⟨Qm (by simp; omega), rfl⟩
set_option maxHeartbeats 400000 in
theorem Qdn (v : Value) (zs : List Int) (c : Int) (w : World) (hv : IntsAt w v zs) :
 Calls Try.prog 26 #[v, .int .i64 c] w fun e w' => e = .returned (.bool (hasB zs c)) ∧ w' = w := by
 obtain ⟨p, cap, rfl, hlc, hcap, hcells⟩ := hv
 go_enter Try.func26, Try.ntmps26
 go_wp2
 go_loop [9] (fun i => ∃ k : Nat, k ≤ zs.length ∧ i = .int .i64 k ∧ (∀ j (hj : j < k) (hj' : j < zs.length), zs[j] ≠ c)) (fun i => zs.length - (intOf i).toNat)
 case atStart => exact ⟨0, Nat.zero_le _, rfl, fun j hj => absurd hj (Nat.not_lt_zero _)⟩
 case round =>
  obtain ⟨k, hk, rfl, hno⟩ := hrel
  by_cases hlt : k < zs.length
  · obtain ⟨b, o, rfl, hc⟩ := hcells (by omega)
    have hc1 := hc k hlt
    have HN : Hid (∀ j (hj : j < k) (hj' : j < zs.length), zs[j] ≠ c) := hno
    clear hno hcells hc
    by_cases heq : zs[k] = c
    · have he : (zs[k] == c) = true := by simpa using heq
      have HH : Hid (hasB zs c = true) := by
       subst heq
       have : zs[k] ∈ zs := List.getElem_mem hlt
       simp [Hid, hasB]
      clear heq
      go_wp2
      go_ret
      exact ⟨Qm HH.out.symm, rfl⟩
    · have he : (zs[k] == c) = false := by simpa using heq
      have HH : Hid (zs[k] ≠ c) := heq
      clear heq
      go_wp2
      go_round
      case rel => exact ⟨k + 1, hlt, by go_num, fun j hj hj' => by
       by_cases e : j = k
       · subst e; exact HH.out
       · exact HN.out j (by omega) hj'⟩
      case measure => simp [intOf]; omega
  · go_wp2
    go_ret
    have e : hasB zs c = false := by
     cases h : hasB zs c with
     | false => rfl
     | true =>
      have hm : c ∈ zs := by simpa [hasB] using h
      obtain ⟨j, hj, e⟩ := List.mem_iff_getElem.1 hm
      exact absurd e (hno j (by omega) hj)
    exact ⟨Qm e.symm, rfl⟩
set_option maxHeartbeats 1000000 in
theorem Qbd (v : Value) (l : List (Int × Int)) (w : World) (hv : LabAt w v l) :
 Calls Try.prog 41 #[v] w fun e w' => e = .returned (.bool (goodB l)) ∧ Below w.heap.size w w' := by
 obtain ⟨p, cap, rfl, hlc, hcap, hcells⟩ := hv
 go_enter Try.func41, Try.ntmps41
 go_wp2
 go_loopw [3, 8] (fun s i wr => ∃ (k : Nat) (last : Int), k ≤ l.length ∧ i = .int .i64 k ∧ s = .int .i64 last ∧ -1 ≤ last ∧ (k = 0 → last = -1) ∧ (∀ m (hm : m < l.length), k = m + 1 → last = l[m].1) ∧
  (∀ j (hj : j < k) (hj' : j < l.length), levB l[j] = true) ∧ (∀ j (hj : j + 1 < k) (hj' : j + 1 < l.length), l[j].1 < l[j + 1].1) ∧ Below w.heap.size w wr) (fun _ i _ => l.length - (intOf i).toNat)
 case atStart => exact ⟨0, -1, Nat.zero_le _, rfl, rfl, by omega, fun _ => rfl, fun m hm h => by omega, fun j hj => absurd hj (Nat.not_lt_zero _), fun j hj => absurd hj (Nat.not_lt_zero _), Below.refl _ _⟩
 case round =>
  obtain ⟨k, last, hk, rfl, rfl, hge, hz0, hm0, hlev0, hup0, hb⟩ := hrel
  have HZ : Hid (k = 0 → last = -1) := hz0
  have HM : Hid (∀ m (hm : m < l.length), k = m + 1 → last = l[m].1) := hm0
  have HL : Hid (∀ j (hj : j < k) (hj' : j < l.length), levB l[j] = true) := hlev0
  have HU : Hid (∀ j (hj : j + 1 < k) (hj' : j + 1 < l.length), l[j].1 < l[j + 1].1) := hup0
  clear hlev0 hup0 hz0 hm0
  by_cases hlt : k < l.length
  · obtain ⟨b, o, rfl, hc⟩ := hcells (by omega)
    obtain ⟨hc1, hc2⟩ := (hc.below hb) k hlt
    have hsz := hb.size
    clear hcells hc
    have hbad : levB l[k] = false → Hid (goodB l = false) := fun h => QbT k hlt h
    have hturn : l[k].1 ≤ last → Hid (goodB l = false) := fun h => by
     cases k with
     | zero =>
      refine QbT 0 hlt ?_
      have e := HZ.out rfl
      cases hx : levB l[0] with
      | false => rfl
      | true => have := (QaN _).1 hx; omega
     | succ m => exact QcD m hlt (by rw [← HM.out m (by omega) rfl]; exact h)
    by_cases h1 : l[k].1 ≤ last
    · have HG := hturn h1
      clear hturn hbad
      go_wp2
      go_ret
      exact ⟨Qm HG.out.symm, hb.alloc hsz _⟩
    by_cases h2 : 79 < l[k].1
    · have HG := hbad (by
       cases hx : levB l[k] with
       | false => rfl
       | true => have := (QaN _).1 hx; omega)
      clear hturn hbad
      go_wp2
      go_ret
      exact ⟨Qm HG.out.symm, hb.alloc hsz _⟩
    have hfin : l[k].2 = 0 ∨ l[k].2 = 2 ∨ l[k].2 = 3 → Hid (levB l[k] = true) := fun h => (QaN _).2 ⟨by omega, by omega, by omega, by omega, by omega⟩
    have hcases : ((l[k].2 != 0) = false ∧ Hid (levB l[k] = true)) ∨ ((l[k].2 != 0) = true ∧ (l[k].2 != 2) = false ∧ Hid (levB l[k] = true)) ∨ ((l[k].2 != 0) = true ∧ (l[k].2 != 2) = true ∧ (l[k].2 != 3) = false ∧ Hid (levB l[k] = true)) ∨
     ((l[k].2 != 0) = true ∧ (l[k].2 != 2) = true ∧ (l[k].2 != 3) = true ∧ Hid (goodB l = false)) := by
     by_cases e0 : l[k].2 = 0
     · exact Or.inl ⟨by simp [e0], hfin (by omega)⟩
     by_cases e2 : l[k].2 = 2
     · exact Or.inr (Or.inl ⟨by simp [e2], by simp [e2], hfin (by omega)⟩)
     by_cases e3 : l[k].2 = 3
     · exact Or.inr (Or.inr (Or.inl ⟨by simp [e3], by simp [e3], by simp [e3], hfin (by omega)⟩))
     refine Or.inr (Or.inr (Or.inr ⟨by simp [e0], by simp [e2], by simp [e3], hbad ?_⟩))
     cases hx : levB l[k] with
     | false => rfl
     | true => have := (QaN _).1 hx; omega
    have HN : ∀ m (hm : m < l.length), k + 1 = m + 1 → l[k].1 = l[m].1 := fun m hm h => by
     have e : k = m := by omega
     subst e
     rfl
    have HN2 : Hid (∀ m (hm : m < l.length), k + 1 = m + 1 → l[k].1 = l[m].1) := HN
    clear hturn hbad hfin HN
    rcases hcases with ⟨t0, HY⟩ | ⟨t0, t2, HY⟩ | ⟨t0, t2, t3, HY⟩ | ⟨t0, t2, t3, HG⟩
    rotate_right
    · go_wp2
      go_ret
      exact ⟨Qm HG.out.symm, hb.alloc hsz _⟩
    all_goals
     go_wp2
     go_roundw
     case rel => exact ⟨k + 1, l[k].1, hlt, by go_num, rfl, by omega, fun h => by omega, HN2.out, fun j hj hj' => by
      by_cases e : j = k
      · subst e; exact HY.out
      · exact HL.out j (by omega) hj', fun j hj hj' => by
      by_cases e : j + 1 = k
      · have := HM.out j (by omega) (by omega)
        subst e
        omega
      · exact HU.out j (by omega) hj', hb.alloc hsz _⟩
     case measure => simp [intOf]; omega
  · go_wp2
    go_ret
    refine ⟨Qm ?_, hb⟩
    by_cases h8 : l.length ≤ 8
    · rw [Qdg h8 (fun j hj => HL.out j (by omega) hj) (fun j hj => HU.out j (by omega) hj)]; simp; omega
    · rw [QcE (by omega)]; simp; omega
def cmpI (x y : Int) : Int := if x < y then -1 else if y < x then 1 else 0
theorem QbR (x : Int) (w : World) : Calls Try.prog 94 #[.int .i64 x] w fun e w' => e = .returned (.bool false) ∧ w' = w := by
 go_enter Try.func94, Try.ntmps94
 go_wp2
 go_ret
 exact ⟨Qm (by simp), rfl⟩
theorem Qeh (x y : Int) (w : World) : Calls Try.prog 82 #[.int .i64 x, .int .i64 y] w fun e w' => e = .returned (.int .i64 (cmpI x y)) ∧ w' = w := by
 unfold cmpI
 by_cases h1 : x < y
 · go_enter Try.func82, Try.ntmps82
   go_wp2_with (go_at_call 94; refine (QbR _ _).mono ?_; rintro e w' ⟨rfl, rfl⟩)
   go_ret
   exact ⟨rfl, rfl⟩
 · by_cases h2 : y < x
   · go_enter Try.func82, Try.ntmps82
     go_wp2_with (go_at_call 94; refine (QbR _ _).mono ?_; rintro e w' ⟨rfl, rfl⟩)
     go_ret
     exact ⟨rfl, rfl⟩
   · go_enter Try.func82, Try.ntmps82
     go_wp2_with (go_at_call 94; refine (QbR _ _).mono ?_; rintro e w' ⟨rfl, rfl⟩)
     go_ret
     exact ⟨rfl, rfl⟩
theorem Qa7 (x : Int × Int) (c : Int) (w : World) : Calls Try.prog 81 #[.agg #[.int .i64 x.1, .int .i64 x.2], .int .i64 c] w fun e w' => e = .returned (.int .i64 (cmpI x.1 c)) ∧ Below w.heap.size w w' := by
 go_enter Try.func81, Try.ntmps81
 go_wp2_with (go_at_call 82; refine (Qeh _ _ _).mono ?_; rintro e w' ⟨rfl, rfl⟩)
 go_ret
 exact ⟨rfl, (Below.refl _ _).alloc (Nat.le_refl _) _⟩
theorem Qg6 {x y : Int} (h : x < y) : cmpI x y = -1 := by simp [cmpI, h]
theorem Qg7 {x y : Int} (h : ¬ x < y) : 0 ≤ cmpI x y := by
 unfold cmpI
 rw [if_neg h]
 split <;> omega
theorem Qg8 {x y : Int} : cmpI x y = 0 ↔ x = y := by
 unfold cmpI
 split
 · omega
 · split <;> omega
set_option maxHeartbeats 1000000 in
theorem Qeq (v : Value) (l : List (Int × Int)) (c : Int) (w : World) (hv : LabAt w v l) (h8 : l.length ≤ 8) (hr : l.Pairwise fun x y => x.1 < y.1) :
 Calls Try.prog 80 #[v, .int .i64 c, .func (.func 81) #[] #[]] w fun e w' => ∃ i f, e = .returned (.tuple #[.int .i64 (i : Nat), .bool f]) ∧ Spot l c i f ∧ Below w.heap.size w w' := by
 obtain ⟨p, cap, rfl, hlc, hcap, hcells⟩ := hv
 have HR : Hid (l.Pairwise fun x y => x.1 < y.1) := hr
 clear hr
 go_enter Try.func80, Try.ntmps80
 go_wp2
 go_loopw [9, 10] (fun si sj wr => ∃ i j : Nat, i ≤ j ∧ j ≤ l.length ∧ si = .int .i64 i ∧ sj = .int .i64 j ∧ (∀ m (_ : m < i) (hm : m < l.length), l[m].1 < c) ∧ (∀ m (_ : j ≤ m) (hm : m < l.length), c ≤ l[m].1) ∧ Below w.heap.size w wr)
  (fun si sj _ => (intOf sj).toNat - (intOf si).toNat)
 case atStart => exact ⟨0, l.length, Nat.zero_le _, Nat.le_refl _, rfl, rfl, fun m hm => absurd hm (Nat.not_lt_zero _), fun m h1 h2 => absurd h2 (by omega), Below.refl _ _⟩
 case round =>
  obtain ⟨i, j, hij, hjl, rfl, rfl, hlo, hhi, hb⟩ := hrel
  have HL : Hid (∀ m (_ : m < i) (hm : m < l.length), l[m].1 < c) := hlo
  have HH : Hid (∀ m (_ : j ≤ m) (hm : m < l.length), c ≤ l[m].1) := hhi
  clear hlo hhi
  by_cases hlt : i < j
  · obtain ⟨b, o, rfl, hc⟩ := hcells (by omega)
    have hcr := hc.below hb
    have hh : (i + j) / 2 < l.length := by omega
    obtain ⟨hc1, hc2⟩ := hcr ((i + j) / 2) hh
    have HX : Hid (∀ m (hm : m < l.length), (i + j) / 2 < m → l[(i + j) / 2].1 < l[m].1) := fun m hm h => (List.pairwise_iff_getElem.1 HR.out) _ m hh hm h
    have HY : Hid (∀ m (hm : m < l.length), m < (i + j) / 2 → l[m].1 < l[(i + j) / 2].1) := fun m hm h => (List.pairwise_iff_getElem.1 HR.out) m _ hm hh h
    clear hcells hc hcr
    generalize hlk : l[(i + j) / 2] = x at *
    have HK : Hid (l[(i + j) / 2] = x) := hlk
    clear hlk
    by_cases hx : x.1 < c
    · have hcmp := Qa7 x c wr
      rw [Qg6 hx] at hcmp
      go_wp2_with (go_at_call 81; refine hcmp.mono ?_; rintro e w2 ⟨rfl, hw2⟩)
      go_roundw
      case rel => exact ⟨(i + j) / 2 + 1, j, by omega, hjl, by go_num, rfl, fun m h1 hm => by
       by_cases e : m = (i + j) / 2
       · subst e; rw [HK.out]; exact hx
       · have := HY.out m hm (by omega); omega, HH.out, Qd hb hw2⟩
      case measure => simp [intOf]; omega
    · have hcmp := Qa7 x c wr
      have hge := Qg7 hx
      generalize cmpI x.1 c = r at *
      go_wp2_with (go_at_call 81; refine hcmp.mono ?_; rintro e w2 ⟨rfl, hw2⟩)
      go_roundw
      case rel => exact ⟨i, (i + j) / 2, by omega, by omega, rfl, by go_num, HL.out, fun m h1 hm => by
       by_cases e : m = (i + j) / 2
       · subst e; rw [HK.out]; omega
       · have := HX.out m hm (by omega); omega, Qd hb hw2⟩
      case measure => simp [intOf]; omega
  · have hji : j = i := by omega
    subst hji
    by_cases hin : j < l.length
    · obtain ⟨b, o, rfl, hc⟩ := hcells (by omega)
      obtain ⟨hc1, hc2⟩ := (hc.below hb) j hin
      clear hcells hc
      have HE : Hid (∀ f, (f = true ↔ l[j].1 = c) → Spot l c j f) := fun f hf => ⟨by omega, HL.out, HH.out, fun h => ⟨hin, hf.1 h⟩, fun h _ e => by rw [hf.2 e] at h; cases h⟩
      generalize hlk : l[j] = x at *
      clear hlk
      have hcmp := Qa7 x c wr
      go_wp2_with (go_at_call 81; refine hcmp.mono ?_; rintro e w2 ⟨rfl, hw2⟩)
      go_ret2
      exact ⟨j, _, rfl, HE.out _ (by rw [beq_iff_eq]; exact Qg8), Qd hb hw2⟩
    · go_wp2
      go_ret2
      exact ⟨j, false, rfl, ⟨by omega, HL.out, HH.out, fun h => (by cases h), fun _ h => absurd h hin⟩, hb⟩
theorem Cells2.drop {w : World} {b o : Nat} {l : List (Int × Int)} (h : Cells2 w b o l) (k : Nat) : Cells2 w b (o + k * 2) (l.drop k) := by
 intro j hj
 simp only [List.length_drop] at hj
 obtain ⟨h1, h2⟩ := h (k + j) (by omega)
 rw [List.getElem_drop]
 rw [show o + k * 2 + j * 2 = o + (k + j) * 2 by omega]
 exact ⟨h1, h2⟩
theorem Cells2.take {w : World} {b o : Nat} {l : List (Int × Int)} (h : Cells2 w b o l) (k : Nat) : Cells2 w b o (l.take k) := by
 intro j hj
 simp only [List.length_take] at hj
 obtain ⟨h1, h2⟩ := h j (by omega)
 rw [List.getElem_take]
 exact ⟨h1, h2⟩
theorem Qdc {w : World} {b o cap i : Nat} {l : List (Int × Int)} (hc : Cells2 w b o l) (hi : i ≤ l.length) (hl : l.length ≤ 8) (hcap : i ≤ cap) : LabAt w (.slice (some ⟨b, o, none⟩) i cap) (l.take i) := by
 have e : (l.take i).length = i := by simp; omega
 refine ⟨some ⟨b, o, none⟩, cap, by rw [e], ⟨by omega, fun h => by cases h⟩, by omega, fun _ => ⟨b, o, rfl, hc.take i⟩⟩
theorem QcC {w : World} {b o cap k n : Nat} {q : Option Addr} {l : List (Int × Int)} (hc : Cells2 w b o l) (hn : n = l.length - k) (hl : l.length ≤ 8) (h1 : n ≤ cap) (h2 : k < l.length → q = some ⟨b, o + k * 2, none⟩) (h3 : q = none → cap = 0) :
 LabAt w (.slice q n cap) (l.drop k) := by
 have e : (l.drop k).length = n := by simp; omega
 refine ⟨q, cap, by rw [e], ⟨by omega, h3⟩, by omega, fun h => ⟨b, o + k * 2, h2 (by omega), hc.drop k⟩⟩
set_option maxHeartbeats 1000000 in
theorem QfF (v : Value) (l : List (Int × Int)) (c : Int) (w : World) (hv : LabAt w v l) (h8 : l.length ≤ 8) (hr : l.Pairwise fun x y => x.1 < y.1) :
 Calls Try.prog 72 #[v, .int .i64 c] w fun e w' => ∃ v1 v2, e = .returned (.tuple #[v1, v2]) ∧ LabAt w' v1 (frontL l c) ∧ LabAt w' v2 (behindL l c) ∧ Below w.heap.size w w' := by
 have hs := Qeq v l c w hv h8 hr
 obtain ⟨p, cap, rfl, hlc, hcap, hcells⟩ := hv
 go_enter Try.func72, Try.ntmps72
 go_wp2_with fail
 refine hs.mono ?_
 rintro e w1 ⟨i, f, rfl, hsp, hb⟩
 have hil := hsp.le
 cases f with
 | true =>
  have hf := hsp.front
  have hbh := hsp.behind_yes hr
  obtain ⟨hi2, _⟩ := hsp.yes rfl
  obtain ⟨b, o, rfl, hc⟩ := hcells (by omega)
  have hc1 := hc.below hb
  have g1 : l.length ≤ cap := hlc.1
  have g2 : ((i : Int)) ≤ (cap : Int) := by omega
  have g3 : ((i : Int)) + 1 ≤ (l.length : Int) := by omega
  have g4 : ((l.length : Int)) ≤ (cap : Int) := by omega
  have g5 : (0 : Int) ≤ (i : Int) := by omega
  have g6 : IntKind.i64.wrap ((i : Int) + 1) = (i : Int) + 1 := by
   simp [IntKind.wrap, IntKind.signed, IntKind.bits]
   omega
  have HF : Hid (l.take i = frontL l c) := hf
  have HB : Hid (l.drop (i + 1) = behindL l c) := hbh
  clear hf hbh hcells hc hs hlc
  go_wp2_with fail
  go_quiet (fail)
  go_wp2
  all_goals go_ret2
  all_goals
   have hd := Qq w1 nq
   refine ⟨_, _, rfl, by rw [← HF.out]; exact Qdc (hc1.below hd) (by omega) h8 (by omega), ?_, Qd hb hd⟩
   rw [← HB.out]
   refine QcC (hc1.below hd) (by omega) h8 (by omega) (fun h => ?_) (fun h => by first | (cases h; done) | omega)
   first | rfl | (exfalso; omega)
 | false =>
  have hf := hsp.front
  have hbh := hsp.behind_no hr
  have HF : Hid (l.take i = frontL l c) := hf
  have HB : Hid (l.drop i = behindL l c) := hbh
  clear hf hbh hs
  by_cases h0 : 0 < l.length
  · obtain ⟨b, o, rfl, hc⟩ := hcells h0
    have hc1 := hc.below hb
    have g1 : l.length ≤ cap := hlc.1
    have g2 : ((i : Int)) ≤ (cap : Int) := by omega
    have g3 : ((i : Int)) ≤ (l.length : Int) := by omega
    have g4 : ((l.length : Int)) ≤ (cap : Int) := by omega
    have g5 : (0 : Int) ≤ (i : Int) := by omega
    clear hcells hc hlc
    go_wp2_with fail
    go_quiet (fail)
    go_wp2
    all_goals go_ret2
    all_goals
     have hd := Qq w1 nq
     refine ⟨_, _, rfl, by rw [← HF.out]; exact Qdc (hc1.below hd) (by omega) h8 (by omega), ?_, Qd hb hd⟩
     rw [← HB.out]
     refine QcC (hc1.below hd) (by omega) h8 (by omega) (fun h => ?_) (fun h => by first | (cases h; done) | omega)
     first | rfl | (exfalso; omega)
  · have hz : l = [] := List.length_eq_zero_iff.1 (by omega)
    subst hz
    simp at hil
    subst hil
    clear HF HB hcells hsp
    have gc : (0 : Int) ≤ (cap : Int) := by omega
    cases p with
    | none =>
     have hc0 : cap = 0 := hlc.2 rfl
     subst hc0
     go_wp2_with fail
     go_quiet (fail)
     go_wp2
     all_goals go_ret2
     all_goals exact ⟨_, _, rfl, LabAt.nil _ _ _ (fun _ => rfl), LabAt.nil _ _ _ (fun _ => rfl), Qd hb (Qq w1 nq)⟩
    | some ad =>
     clear hlc
     go_wp2_with fail
     go_quiet (fail)
     go_wp2
     all_goals go_ret2
     all_goals exact ⟨_, _, rfl, LabAt.nil _ _ _ (fun h => by cases h), LabAt.nil _ _ _ (fun h => by first | (cases h; done) | omega), Qd hb (Qq w1 nq)⟩
def flat (l : List (Int × Int)) : List Value := l.flatMap fun x => [.int .i64 x.1, .int .i64 x.2]
theorem Qal (l : List (Int × Int)) : (flat l).length = l.length * 2 := by
 induction l with
 | nil => rfl
 | cons x r ih =>
  have e : flat (x :: r) = .int .i64 x.1 :: .int .i64 x.2 :: flat r := rfl
  rw [e]
  simp only [List.length_cons, ih]
  omega
theorem Qcu (l : List (Int × Int)) (i : Nat) (hi : i < l.length) : (flat l)[i * 2]? = some (.int .i64 l[i].1) ∧ (flat l)[i * 2 + 1]? = some (.int .i64 l[i].2) := by
 induction l generalizing i with
 | nil => simp at hi
 | cons x r ih =>
  have e : flat (x :: r) = .int .i64 x.1 :: .int .i64 x.2 :: flat r := rfl
  cases i with
  | zero => rw [e]; exact ⟨rfl, rfl⟩
  | succ i =>
   obtain ⟨h1, h2⟩ := ih i (by simpa using hi)
   rw [e, show (i + 1) * 2 = i * 2 + 1 + 1 by omega]
   simp only [List.getElem?_cons_succ, List.getElem_cons_succ]
   exact ⟨h1, h2⟩
theorem Qb6 (a b : List (Int × Int)) : flat (a ++ b) = flat a ++ flat b := by simp [flat]
theorem Qby (l : List (Int × Int)) : ∀ u ∈ flat l, u.oneCell' = true := by
 intro u hu
 obtain ⟨x, _, hx⟩ := List.mem_flatMap.1 hu
 simp at hx
 rcases hx with rfl | rfl <;> rfl
theorem QaW {w : World} {b o : Nat} {l : List (Int × Int)} (h : Cells2 w b o l) : ∀ j u, (flat l)[j]? = some u → w.cell? ((⟨b, o, none⟩ : Addr).add j) = some u := by
 intro j u hu
 have hj : j < l.length * 2 := by
  have := (List.getElem?_eq_some_iff.1 hu).1
  rwa [Qal] at this
 obtain ⟨h1, h2⟩ := h (j / 2) (by omega)
 obtain ⟨g1, g2⟩ := Qcu l (j / 2) (by omega)
 rw [WideShapes.add_plain]
 by_cases hp : j % 2 = 0
 · have e : j = j / 2 * 2 := by omega
   rw [e] at hu ⊢
   rw [g1] at hu
   rw [h1, ← hu]
 · have e : j = j / 2 * 2 + 1 := by omega
   rw [e] at hu ⊢
   rw [g2] at hu
   rw [← Nat.add_assoc, h2, ← hu]
theorem Qbo {w : World} {base : Nat} {v : Value} {n : Nat} {l : List (Int × Int)} (h : w.ownsRow base 86 2 v n (flat l)) (hl : l.length ≤ 8796093022208) : LabAt w v l := by
 have h0 := h
 obtain ⟨hlen, h⟩ := h
 rw [Qal] at hlen
 have hn : n = l.length := by omega
 subst hn
 rcases h with ⟨rfl, h⟩ | ⟨g, cap, cur, rfl, hb, hh, h1, h2, h3, h4⟩
 · have : l = [] := List.length_eq_zero_iff.1 h
   subst this
   exact LabAt.nil w none 0 (fun _ => rfl)
 · refine ⟨_, cap, rfl, ⟨h1, fun h => by cases h⟩, hl, fun _ => ⟨g, 0, rfl, fun j hj => ?_⟩⟩
   obtain ⟨g1, g2⟩ := Qcu l j hj
   rw [← h4] at g1 g2
   rw [List.getElem?_take_of_lt (by omega)] at g1 g2
   simp only [World.cell?, hh, Nat.zero_add]
   exact ⟨by simpa using g1, by simpa using g2⟩
theorem QaY {w : World} {base : Nat} {e : TypeId} {size : Nat} {v : Value} {n : Nat} {xs : List Value} (h : w.ownsRow base e size v n xs) {k : Nat} (hk : v.ownBlock = some k) : base ≤ k := by
 rcases h.2 with ⟨rfl, _⟩ | ⟨g, cap, cur, rfl, hb, _⟩
 · cases hk
 · cases hk; exact hb
theorem Qea {w : World} {base : Nat} {v : Value} {n : Nat} {zs : List Int} (h : w.ownsRow base 3 1 v n (zs.map (Value.int .i64))) (hl : zs.length ≤ 17592186044416) : IntsAt w v zs := by
 obtain ⟨hlen, h⟩ := h
 have hn : n = zs.length := by simpa using hlen.symm
 subst hn
 rcases h with ⟨rfl, h⟩ | ⟨g, cap, cur, rfl, hb, hh, h1, h2, h3, h4⟩
 · have : zs = [] := List.length_eq_zero_iff.1 h
   subst this
   exact IntsAt.nil w none 0 (fun _ => rfl)
 · refine ⟨_, cap, rfl, ⟨h1, fun h => by cases h⟩, hl, fun _ => ⟨g, 0, rfl, fun j hj => ?_⟩⟩
   have g1 : (zs.map (Value.int .i64))[j]? = some (.int .i64 zs[j]) := by simp [hj]
   rw [← h4, List.getElem?_take_of_lt (by omega)] at g1
   simp only [World.cell?, hh, Nat.zero_add]
   simpa using g1
theorem QbJ {w : World} {ops : Array Oper} {rest : List Oper} {o : Oper} {a : Act} {Q : Exit → Act → World → Prop} (hgd : o.guard = none) (s x : Operand)
 (ho : o.op = .call { callee := .builtin .append, args := #[s, x], argTypes := #[30, 30] }) (base : Nat) (v : Value) (n : Nat) (xs : List Value) (hs : a.eval s = v) (hown : w.ownsRow base 86 2 v n xs)
 (u : Value) (l : List (Int × Int)) (hx : a.eval x = u) (hu : LabAt w u l) (hn : n + l.length ≤ 8796093022208) (hbase : base ≤ w.heap.size)
 (h : ∀ v' w', w'.ownsRow base 86 2 v' (n + l.length) (xs ++ flat l) → w.grownBy w' v.ownBlock → wpList Try.prog ops Q rest (a.put o.dst v') w') : wpList Try.prog ops Q (o :: rest) a w := by
 obtain ⟨i0, hi, hz0, hz1, hz2⟩ := info_parts Qaf
 obtain ⟨p, cap, rfl, hlc, hcap, hcells⟩ := hu
 cases p with
 | none =>
  have e : l = [] := by
   by_cases h0 : 0 < l.length
   · obtain ⟨b, o, e, _⟩ := hcells h0
     cases e
   · exact List.length_eq_zero_iff.1 (by omega)
  subst e
  have ec : cap = 0 := hlc.2 rfl
  subst ec
  exact wpList_append_own_none hgd s x 30 ho base 86 i0 2 Try.underlying30 hi v n xs hs hown hx (h v w (by simpa [flat] using hown) ⟨rfl, rfl, rfl, Nat.le_refl _, fun _ _ _ => rfl⟩)
 | some ad =>
  have hnews : ∀ j u, (flat l)[j]? = some u → w.cell? (ad.add j) = some u := by
   by_cases h0 : 0 < l.length
   · obtain ⟨b, o, e, hc⟩ := hcells h0
     cases e
     exact QaW hc
   · have e : l = [] := List.length_eq_zero_iff.1 (by omega)
     subst e
     intro j u hu
     simp [flat] at hu
  exact wpList_append_own w hgd s x 30 ho base 86 i0 _ 2 16 Try.underlying30 hi hz0 hz1 hz2 rfl (by decide) v n xs hs hown ad l.length cap (flat l) hx (Qal l) hnews (Qby l) (by unfold maxLen; omega) (by omega) hbase
   (fun v' w' h1 h2 _ => h v' w' h1 h2)
theorem QcK (z : Array Value) (n : Nat) : (Builtin.zeroCells z n).size = n * z.size := by
 unfold Builtin.zeroCells
 simp
theorem Qgz (n : Nat) (w : World) (hn : n ≤ 1000) :
 Calls Try.prog 83 #[.slice none 0 0, .int .i64 n] w fun e w' => ∃ v, e = .returned v ∧ w'.ownsRow w.heap.size 86 2 v 0 [] ∧ Below w.heap.size w w' := by
 obtain ⟨i0, hi, hz0, hz1, hz2⟩ := info_parts Qaf
 by_cases h0 : n = 0
 · subst h0
   refine (Any8.slices_Grow_room Try.layGrow none 0 0 0 w (Nat.le_refl _) (by omega) (by omega) (by omega)).mono ?_
   rintro e w' ⟨rfl, rfl⟩
   exact ⟨_, rfl, World.ownsRow_nil _ _ _ _, Below.refl _ _⟩
 · refine (Any8.slices_Grow_grow Try.layGrow i0 _ hi hz0 (by omega) none 0 0 n [] w (Nat.le_refl _) (by omega) (by rw [hz2]; omega) (by omega) (by simp) (fun _ => rfl) (fun a h => by cases h)).mono ?_
   rintro e w' ⟨rfl, rfl⟩
   have hG := grownCap_ge w (0 + n) 0 86
   have hM := grownCap_le_maxLen w (0 + n) 0 86 (by unfold maxLen; omega)
   have hzc : (Value.agg #[.int .i64 0, .int .i64 0]).cells.size = 2 := rfl
   refine ⟨_, rfl, ⟨rfl, Or.inr ⟨w.heap.size, grownCap w (0 + n) 0 86, _, rfl, Nat.le_refl _, heap_alloc_new w.drew _, Nat.zero_le _, hM, ?_, by simp⟩⟩, (Below.refl _ w).drew.alloc (Nat.le_refl _) _⟩
   show ([].toArray ++ Builtin.zeroCells (Value.agg #[.int .i64 0, .int .i64 0]).cells (0 + n - 0) ++ Builtin.zeroCells (Value.agg #[.int .i64 0, .int .i64 0]).cells (grownCap w (0 + n) 0 86 - (0 + n))).size = _
   generalize grownCap w (0 + n) 0 86 = G at *
   simp only [Array.size_append, QcK, hzc]
   simp
   omega
theorem Qdb {w : World} {b o : Nat} {ls : List (List (Int × Int))} (h : ∀ j (_ : j < ls.length), ∃ u, w.cell? ⟨b, o + j, none⟩ = some u ∧ LabAt w u ls[j]) (j : Nat) (hj : j < ls.length) {wr : World} (hb : Below w.heap.size w wr) :
 ∃ p cap, wr.cell? ⟨b, o + j, none⟩ = some (.slice p ls[j].length cap) ∧ LabAt wr (.slice p ls[j].length cap) ls[j] := by
 obtain ⟨u, h1, h2⟩ := h j hj
 have h3 := h2.below hb
 obtain ⟨p, cap, rfl, _⟩ := id h3
 exact ⟨p, cap, by rw [hb.cell (Qb h1), h1], h3⟩
def flen (ls : List (List (Int × Int))) : Nat := ls.flatten.length
theorem QbE (ls : List (List (Int × Int))) (k : Nat) (hk : k < ls.length) : (ls.take (k + 1)).flatten = (ls.take k).flatten ++ ls[k] := by
 rw [List.take_succ_eq_append_getElem hk, List.flatten_append]; simp
theorem QbX {ls : List (List (Int × Int))} (h : ∀ l ∈ ls, l.length ≤ 9) (k : Nat) : (ls.take k).flatten.length ≤ k * 9 := by
 induction k with
 | zero => simp
 | succ k ih =>
  by_cases hk : k < ls.length
  · rw [QbE ls k hk, List.length_append]
    have := h ls[k] (List.getElem_mem hk)
    omega
  · rw [List.take_of_length_le (by omega)]
    rw [List.take_of_length_le (by omega)] at ih
    omega
def LabNew (B : Nat) (w : World) (v : Value) (l : List (Int × Int)) : Prop := LabAt w v l ∧ ∀ k, v.ownBlock = some k → B ≤ k
set_option maxHeartbeats 1000000 in
theorem Qfc (v : Value) (ls : List (List (Int × Int))) (w : World) (hv : LabsAt w v ls) (hls : ls.length ≤ 4) (h9 : ∀ l ∈ ls, l.length ≤ 9) :
 Calls Try.prog 73 #[v] w fun e w' => ∃ v', e = .returned v' ∧ LabNew w.heap.size w' v' ls.flatten ∧ Below w.heap.size w w' := by
 obtain ⟨b, o, cap, rfl, hcells⟩ := hv
 have HT : Hid (∀ k (hk : k < ls.length), (ls.take (k + 1)).flatten = (ls.take k).flatten ++ ls[k]) := QbE ls
 have HN : Hid (∀ k, (ls.take k).flatten.length ≤ k * 9) := QbX h9
 have H9 : Hid (∀ l ∈ ls, l.length ≤ 9) := h9
 clear h9
 go_enter Try.func73, Try.ntmps73
 go_wp2
 go_loopw [3, 11] (fun s i wr => ∃ k : Nat, k ≤ ls.length ∧ i = .int .i64 k ∧ s = .int .i64 (flen (ls.take k) : Nat) ∧ w = wr) (fun _ i _ => ls.length - (intOf i).toNat)
 case atStart => exact ⟨0, Nat.zero_le _, rfl, rfl, rfl⟩
 case round =>
  obtain ⟨k, hk, rfl, rfl, rfl⟩ := hrel
  have hnk : flen (ls.take k) ≤ k * 9 := HN.out k
  by_cases hlt : k < ls.length
  · obtain ⟨p, cp, hc1, hl1⟩ := Qdb hcells k hlt (Below.refl _ _)
    have h9k := H9.out ls[k] (List.getElem_mem hlt)
    have HS : Hid (flen (ls.take (k + 1)) = flen (ls.take k) + ls[k].length) := by
     show (ls.take (k + 1)).flatten.length = (ls.take k).flatten.length + ls[k].length
     rw [HT.out k hlt, List.length_append]
    clear hcells hl1
    generalize flen (ls.take k) = n at *
    generalize ls[k].length = m at *
    go_wp2
    all_goals go_roundw
    case rel => exact ⟨k + 1, hlt, by go_num, by rw [HS.out]; go_num, by first | rfl | trivial⟩
    case measure => simp [intOf]; omega
  · have hkl : k = ls.length := by omega
    subst hkl
    rw [List.take_length]
    rw [List.take_length] at hnk
    have hgrow := Qgz (flen ls) w (by omega)
    go_wp2_with fail
    refine hgrow.mono ?_
    rintro e w1 ⟨v1, rfl, hown1, hw1⟩
    clear hgrow
    go_wp2
    go_loopw [6, 27] (fun v i wr => ∃ k : Nat, k ≤ ls.length ∧ i = .int .i64 k ∧ wr.ownsRow w.heap.size 86 2 v (ls.take k).flatten.length (flat (ls.take k).flatten) ∧ Below w.heap.size w wr) (fun _ i _ => ls.length - (intOf i).toNat)
    case atStart => exact ⟨0, Nat.zero_le _, rfl, hown1, hw1⟩
    case round =>
     clear hown1 hw1 hnk
     obtain ⟨k, hk, rfl, hown, hb⟩ := hrel
     have hnk := HN.out k
     have hsz := hb.size
     by_cases hlt2 : k < ls.length
     · obtain ⟨p, cp, hc1, hl1⟩ := Qdb hcells k hlt2 hb
       have h9k := H9.out ls[k] (List.getElem_mem hlt2)
       have HS := HT.out k hlt2
       have HS2 : Hid ((ls.take (k + 1)).flatten = (ls.take k).flatten ++ ls[k]) := HS
       clear HS hcells
       generalize (ls.take k).flatten = out at *
       generalize ls[k] = l at *
       go_wp2_with (at_builtin; refine QbJ rfl _ _ rfl w.heap.size _ _ _ rfl hown _ l rfl hl1 (by omega) hsz ?_; intro v2 w2 hown2 hgrow2)
       go_roundw
       case rel => exact ⟨k + 1, hlt2, by go_num, by rw [HS2.out, Qb6, List.length_append]; exact hown2, hb.grown hgrow2 hsz (fun j hj => QaY hown hj)⟩
       case measure => simp [intOf]; omega
     · have hkl : k = ls.length := by omega
       subst hkl
       rw [List.take_length] at hown hnk
       go_wp2
       go_ret
       exact ⟨_, rfl, ⟨Qbo hown (by omega), fun k hk => QaY hown hk⟩, hb⟩
theorem QbA {w : World} {va vb vc : Value} {a b c : List (Int × Int)} (ha : LabAt w va a) (hb : LabAt w vb b) (hc : LabAt w vc c) : LabsAt (w.alloc (.cells #[va, vb, vc] 30)) (.slice (some ⟨w.heap.size, 0, none⟩) 3 3) [a, b, c] := by
 have hal : Below w.heap.size w (w.alloc (.cells #[va, vb, vc] 30)) := (Below.refl _ _).alloc (Nat.le_refl _) _
 refine ⟨_, _, 3, rfl, fun j hj => ?_⟩
 match j, hj with
 | 0, _ => exact ⟨va, by simp, ha.below hal⟩
 | 1, _ => exact ⟨vb, by simp, hb.below hal⟩
 | 2, _ => exact ⟨vc, by simp, hc.below hal⟩
theorem QfU (w : World) (c n : Int) (hn : n ≠ 1) : LabAt (w.alloc (.cells #[.int .i64 c, .int .i64 n] 86)) (.slice (some ⟨w.heap.size, 0, none⟩) 1 1) (newL c n) := by
 unfold newL
 rw [if_neg hn]
 refine ⟨_, 1, rfl, ⟨by simp, fun h => by cases h⟩, by simp, fun _ => ⟨_, _, rfl, ?_⟩⟩
 intro j hj
 match j, hj with
 | 0, _ => exact ⟨by simp, by simp⟩
set_option maxHeartbeats 1000000 in
theorem QgM (v : Value) (l : List (Int × Int)) (c n : Int) (w : World) (hv : LabAt w v l) (hbad : setB l c n = false) :
 Calls Try.prog 58 #[v, .int .i64 c, .int .i64 n] w fun e w' => e = .returned (.tuple #[.slice none 0 0, .int .i64 2]) ∧ Below w.heap.size w w' := by
 have hg := QaD v l w hv
 unfold setB at hbad
 cases h1 : goodB l with
 | false =>
  rw [h1] at hg
  clear hbad
  go_enter Try.func58, Try.ntmps58
  go_wp2_with (go_at_call 51; refine hg.mono ?_; rintro e w1 ⟨rfl, hw1⟩)
  go_ret2
  exact ⟨rfl, hw1⟩
 | true =>
  rw [h1] at hg
  cases h2 : catB c with
  | false =>
   clear hbad
   go_enter Try.func58, Try.ntmps58
   go_wp2_with (first | (go_at_call 51; refine hg.mono ?_; rintro e w1 ⟨rfl, hw1⟩) | (go_at_call 66; refine (QG _ _).mono ?_; rintro e w' ⟨rfl, rfl⟩))
   go_ret2
   exact ⟨rfl, by assumption⟩
  | true =>
   have h3 : bndB n = false := by simpa [h1, h2] using hbad
   clear hbad
   go_enter Try.func58, Try.ntmps58
   go_wp2_with (first | (go_at_call 51; refine hg.mono ?_; rintro e w1 ⟨rfl, hw1⟩) | (go_at_call 66; refine (QG _ _).mono ?_; rintro e w' ⟨rfl, rfl⟩) | (go_at_call 67; refine (Qab _ _).mono ?_; rintro e w' ⟨rfl, rfl⟩))
   go_ret2
   exact ⟨rfl, by assumption⟩
set_option maxHeartbeats 2000000 in
theorem QgL (v : Value) (l : List (Int × Int)) (c n : Int) (w : World) (hv : LabAt w v l) (hok : setB l c n = true) :
 Calls Try.prog 58 #[v, .int .i64 c, .int .i64 n] w fun e w' => ∃ v' x, e = .returned (.tuple #[v', .int .i64 x]) ∧ (if 8 < (setL l c n).length then x = 5 ∧ v' = .slice none 0 0 else x = 0 ∧ LabNew w.heap.size w' v' (setL l c n)) ∧ Below w.heap.size w w' := by
 have hg := QaD v l w hv
 unfold setB at hok
 simp only [Bool.and_eq_true] at hok
 obtain ⟨⟨h1, h2⟩, h3⟩ := hok
 rw [h1] at hg
 obtain ⟨g8, _, gr⟩ := (Qx l).1 h1
 have hfl := QcW l c
 have hbl := QcS l c
 have hnl := Qd3 c n
 have HSL : Hid (setL l c n = [frontL l c, newL c n, behindL l c].flatten) := by
  show _ = _
  unfold setL
  simp
 have HC : ∀ (w3 : World) (v3 : Value), LabsAt w3 v3 [frontL l c, newL c n, behindL l c] → Calls Try.prog 73 #[v3] w3 fun e w' => ∃ v', e = .returned v' ∧ LabNew w3.heap.size w' v' (setL l c n) ∧ Below w3.heap.size w3 w' := fun w3 v3 h => by
  rw [HSL.out]
  refine Qfc v3 _ w3 h (by simp) (fun x hx => ?_)
  simp only [List.mem_cons, List.not_mem_nil, or_false] at hx
  rcases hx with rfl | rfl | rfl <;> omega
 have HSP : ∀ w1, Below w.heap.size w w1 → Calls Try.prog 72 #[v, .int .i64 c] w1 fun e w' => ∃ v1 v2, e = .returned (.tuple #[v1, v2]) ∧ LabAt w' v1 (frontL l c) ∧ LabAt w' v2 (behindL l c) ∧ Below w1.heap.size w1 w' := fun w1 h => QfF v l c w1 (hv.below h) g8 gr
 have HC2 : Hid (∀ (w3 : World) (v3 : Value), LabsAt w3 v3 [frontL l c, newL c n, behindL l c] → Calls Try.prog 73 #[v3] w3 fun e w' => ∃ v', e = .returned v' ∧ LabNew w3.heap.size w' v' (setL l c n) ∧ Below w3.heap.size w3 w') := HC
 have HSP2 : Hid (∀ w1, Below w.heap.size w w1 → Calls Try.prog 72 #[v, .int .i64 c] w1 fun e w' => ∃ v1 v2, e = .returned (.tuple #[v1, v2]) ∧ LabAt w' v1 (frontL l c) ∧ LabAt w' v2 (behindL l c) ∧ Below w1.heap.size w1 w') := HSP
 clear HC HSP HSL g8 gr
 have HN : Hid (∀ h : n = 1, newL c n = []) := fun h => by simp [newL, h]
 have HN2 : Hid (∀ (w : World), n ≠ 1 → LabAt (w.alloc (.cells #[.int .i64 c, .int .i64 n] 86)) (.slice (some ⟨w.heap.size, 0, none⟩) 1 1) (newL c n)) := fun w h => QfU w c n h
 generalize hsl : setL l c n = out at *
 generalize frontL l c = fr at *
 generalize behindL l c = bh at *
 generalize newL c n = nw at *
 clear hsl
 go_enter Try.func58, Try.ntmps58
 go_wp2_with (first | (go_at_call 51; refine hg.mono ?_; rintro e w1 ⟨rfl, hw1⟩) | (go_at_call 66; refine (QG _ _).mono ?_; rintro e w' ⟨rfl, rfl⟩) | (go_at_call 67; refine (Qab _ _).mono ?_; rintro e w' ⟨rfl, rfl⟩))
 refine (HSP2.out _ hw1).mono ?_
 rintro e w2 ⟨v1, v2, rfl, hf2, hb2, hw2⟩
 obtain ⟨p1, c1, e1, _⟩ := id hf2
 obtain ⟨p2, c2, e2, _⟩ := id hb2
 subst e1
 subst e2
 have b2 := Qd hw1 hw2
 clear hg hw2 hw1 HSP2
 by_cases hn1 : n = 1
 · have hne : (n != 1) = false := by simp [hn1]
   have hnw : LabAt w2 (.slice none 0 0) nw := by rw [HN.out hn1]; exact LabAt.nil w2 none 0 (fun _ => rfl)
   have hls := QbA hf2 hnw hb2
   have hc3 := HC2.out _ _ hls
   have hal := (Below.refl w2.heap.size w2).alloc (Nat.le_refl _) (.cells #[.slice p1 fr.length c1, .slice none 0 0, .slice p2 bh.length c2] 30)
   clear hls hnw hf2 hb2 hn1 HC2 HN2
   go_wp2_with (go_at_call 73; refine hc3.mono ?_; rintro e w4 ⟨v4, rfl, hv4, hw4⟩; obtain ⟨p4, c4, e4, hrest⟩ := id hv4.1; subst e4)
   all_goals
    have b4 := Qd (Qd b2 hal) hw4
    go_ret2
    refine ⟨_, _, rfl, ?_, b4⟩
    first
    | exact ⟨rfl, hv4.1, fun k hk => Nat.le_trans (by have := (Qd b2 hal).size; first | exact this | simpa using this) (hv4.2 k hk)⟩
    | exact ⟨rfl, rfl⟩
    | (exfalso; omega)
 · have hne : (n != 1) = true := by simp [hn1]
   have hal0 := (Below.refl w2.heap.size w2).alloc (Nat.le_refl _) (.cells #[.int .i64 c, .int .i64 n] 86)
   have hnw := HN2.out w2 hn1
   obtain ⟨w3, hw3⟩ : ∃ w3, w3 = w2.alloc (.cells #[.int .i64 c, .int .i64 n] 86) := ⟨_, rfl⟩
   have hls := QbA (hf2.below hal0) hnw (hb2.below hal0)
   have hc3 := HC2.out _ _ hls
   have hal := (Below.refl (w2.alloc (.cells #[.int .i64 c, .int .i64 n] 86)).heap.size (w2.alloc (.cells #[.int .i64 c, .int .i64 n] 86))).alloc (Nat.le_refl _) (.cells #[.slice p1 fr.length c1, .slice (some ⟨w2.heap.size, 0, none⟩) 1 1, .slice p2 bh.length c2] 30)
   rw [World.size_alloc] at hc3
   clear hls hnw hf2 hb2 hn1 HC2 HN2 hw3
   go_wp2_with (go_at_call 73; refine hc3.mono ?_; rintro e w4 ⟨v4, rfl, hv4, hw4⟩; obtain ⟨p4, c4, e4, hrest⟩ := id hv4.1; subst e4)
   all_goals
    have b4 := Qd (Qd (Qd b2 hal0) hal) (by first | exact hw4 | simpa using hw4)
    go_ret2
    refine ⟨_, _, rfl, ?_, b4⟩
    first
    | exact ⟨rfl, hv4.1, fun k hk => Nat.le_trans (by have := (Qd (Qd b2 hal0) hal).size; first | exact this | simpa using this) (hv4.2 k hk)⟩
    | exact ⟨rfl, rfl⟩
    | (exfalso; omega)
end Go.Proofs.Ytpdijobakfpnbaa
