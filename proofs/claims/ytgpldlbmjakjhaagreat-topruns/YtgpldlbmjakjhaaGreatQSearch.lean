/- slices.BinarySearchFunc, as label.split calls it, answers the place of a category in a rising label and whether it stands there. -/
import Derived.Test.YtgpldlbmjakjhaaGreatQAt
import Derived.Test.YtgpldlbmjakjhaaGreatQPlain
namespace Go.Proofs.YtgpldlbmjakjhaaGreat
open Go.RowKit Go.Proofs.Parclose

def cmpI (x y : Int) : Int := if x < y then -1 else if y < x then 1 else 0

theorem isnan_any (x : Int) (w : World) : Calls Tryz.prog 153 #[.int .i64 x] w fun e w' => e = .returned (.bool false) ∧ w' = w := by
  go_enter Tryz.func153, Tryz.ntmps153
  go_wp2
  go_ret
  exact ⟨ret_bool (by simp), rfl⟩

theorem compare_any (x y : Int) (w : World) : Calls Tryz.prog 161 #[.int .i64 x, .int .i64 y] w fun e w' => e = .returned (.int .i64 (cmpI x y)) ∧ w' = w := by
  unfold cmpI
  by_cases h1 : x < y
  · go_enter Tryz.func161, Tryz.ntmps161
    go_wp2_with (go_at_call 153; refine (isnan_any _ _).mono ?_; rintro e w' ⟨rfl, rfl⟩)
    go_ret
    exact ⟨rfl, rfl⟩
  · by_cases h2 : y < x
    · go_enter Tryz.func161, Tryz.ntmps161
      go_wp2_with (go_at_call 153; refine (isnan_any _ _).mono ?_; rintro e w' ⟨rfl, rfl⟩)
      go_ret
      exact ⟨rfl, rfl⟩
    · go_enter Tryz.func161, Tryz.ntmps161
      go_wp2_with (go_at_call 153; refine (isnan_any _ _).mono ?_; rintro e w' ⟨rfl, rfl⟩)
      go_ret
      exact ⟨rfl, rfl⟩

theorem closure_any (x : Int × Int) (c : Int) (w : World) : Calls Tryz.prog 160 #[.agg #[.int .i64 x.1, .int .i64 x.2], .int .i64 c] w fun e w' => e = .returned (.int .i64 (cmpI x.1 c)) ∧ Below w.heap.size w w' := by
  go_enter Tryz.func160, Tryz.ntmps160
  go_wp2_with (go_at_call 161; refine (compare_any _ _ _).mono ?_; rintro e w' ⟨rfl, rfl⟩)
  go_ret
  exact ⟨rfl, (Below.refl _ _).alloc (Nat.le_refl _) _⟩

theorem cmpI_lt {x y : Int} (h : x < y) : cmpI x y = -1 := by simp [cmpI, h]
theorem cmpI_ge {x y : Int} (h : ¬ x < y) : 0 ≤ cmpI x y := by
  unfold cmpI
  rw [if_neg h]
  split <;> omega
theorem cmpI_eq {x y : Int} : cmpI x y = 0 ↔ x = y := by
  unfold cmpI
  split
  · omega
  · split <;> omega

set_option maxHeartbeats 1000000 in
theorem bsearch_any (v : Value) (l : List (Int × Int)) (c : Int) (w : World) (hv : LabAt w v l) (h8 : l.length ≤ 8) (hr : l.Pairwise fun x y => x.1 < y.1) :
    Calls Tryz.prog 159 #[v, .int .i64 c, .func (.func 160) #[] #[]] w fun e w' => ∃ i f, e = .returned (.tuple #[.int .i64 (i : Nat), .bool f]) ∧ Spot l c i f ∧ Below w.heap.size w w' := by
  obtain ⟨p, cap, rfl, hlc, hcap, hcells⟩ := hv
  have HR : Hid (l.Pairwise fun x y => x.1 < y.1) := hr
  clear hr
  go_enter Tryz.func159, Tryz.ntmps159
  go_wp2
  go_loopw [9, 10] (fun si sj wr => ∃ i j : Nat, i ≤ j ∧ j ≤ l.length ∧ si = .int .i64 i ∧ sj = .int .i64 j ∧ (∀ m (_ : m < i) (hm : m < l.length), l[m].1 < c) ∧ (∀ m (_ : j ≤ m) (hm : m < l.length), c ≤ l[m].1) ∧ Below w.heap.size w wr)
    (fun si sj _ => (intOf sj).toNat - (intOf si).toNat)
  case atStart => exact ⟨0, l.length, Nat.zero_le _, Nat.le_refl _, rfl, rfl, fun m hm => absurd hm (Nat.not_lt_zero _), fun m h1 h2 => absurd h2 (by omega), Below.refl _ _⟩
  case round =>
    obtain ⟨i, j, hij, hjl, rfl, rfl, hlo, hhi, hb⟩ := hrel
    have HL : Hid (∀ m (_ : m < i) (hm : m < l.length), l[m].1 < c) := hlo
    have HH : Hid (∀ m (_ : j ≤ m) (hm : m < l.length), c ≤ l[m].1) := hhi
    clear hlo hhi
    by_cases hlt : i < j
    · obtain ⟨b, o, rfl, hc⟩ := hcells (by omega)
      have hcr := hc.below hb
      have hh : (i + j) / 2 < l.length := by omega
      obtain ⟨hc1, hc2⟩ := hcr ((i + j) / 2) hh
      have HX : Hid (∀ m (hm : m < l.length), (i + j) / 2 < m → l[(i + j) / 2].1 < l[m].1) := fun m hm h => (List.pairwise_iff_getElem.1 HR.out) _ m hh hm h
      have HY : Hid (∀ m (hm : m < l.length), m < (i + j) / 2 → l[m].1 < l[(i + j) / 2].1) := fun m hm h => (List.pairwise_iff_getElem.1 HR.out) m _ hm hh h
      clear hcells hc hcr
      generalize hlk : l[(i + j) / 2] = x at *
      have HK : Hid (l[(i + j) / 2] = x) := hlk
      clear hlk
      by_cases hx : x.1 < c
      · have hcmp := closure_any x c wr
        rw [cmpI_lt hx] at hcmp
        go_wp2_with (go_at_call 160; refine hcmp.mono ?_; rintro e w2 ⟨rfl, hw2⟩)
        go_roundw
        case rel => exact ⟨(i + j) / 2 + 1, j, by omega, hjl, by go_num, rfl, fun m h1 hm => by
          by_cases e : m = (i + j) / 2
          · subst e; rw [HK.out]; exact hx
          · have := HY.out m hm (by omega); omega, HH.out, below_then hb hw2⟩
        case measure => simp [intOf]; omega
      · have hcmp := closure_any x c wr
        have hge := cmpI_ge hx
        generalize cmpI x.1 c = r at *
        go_wp2_with (go_at_call 160; refine hcmp.mono ?_; rintro e w2 ⟨rfl, hw2⟩)
        go_roundw
        case rel => exact ⟨i, (i + j) / 2, by omega, by omega, rfl, by go_num, HL.out, fun m h1 hm => by
          by_cases e : m = (i + j) / 2
          · subst e; rw [HK.out]; omega
          · have := HX.out m hm (by omega); omega, below_then hb hw2⟩
        case measure => simp [intOf]; omega
    · have hji : j = i := by omega
      subst hji
      by_cases hin : j < l.length
      · obtain ⟨b, o, rfl, hc⟩ := hcells (by omega)
        obtain ⟨hc1, hc2⟩ := (hc.below hb) j hin
        clear hcells hc
        have HE : Hid (∀ f, (f = true ↔ l[j].1 = c) → Spot l c j f) := fun f hf => ⟨by omega, HL.out, HH.out, fun h => ⟨hin, hf.1 h⟩, fun h _ e => by rw [hf.2 e] at h; cases h⟩
        generalize hlk : l[j] = x at *
        clear hlk
        have hcmp := closure_any x c wr
        go_wp2_with (go_at_call 160; refine hcmp.mono ?_; rintro e w2 ⟨rfl, hw2⟩)
        go_ret2
        exact ⟨j, _, rfl, HE.out _ (by rw [beq_iff_eq]; exact cmpI_eq), below_then hb hw2⟩
      · go_wp2
        go_ret2
        exact ⟨j, false, rfl, ⟨by omega, HL.out, HH.out, fun h => (by cases h), fun _ h => absurd h hin⟩, hb⟩
end Go.Proofs.YtgpldlbmjakjhaaGreat
