/- parcloseref.names answers a set of just the categories that the labels name; parcloseref.Flows what the document says. -/
import Derived.Test.YtcnlfglkfoaocaaRef
import Derived.Test.YtcnlfglkfoaocaaRefGood
import Derived.Maps.Own
import Derived.Maps.OwnOps
import Derived.Maps.Views
import Derived.Maps.RangeWalk
namespace Go.Proofs.Ytcnlfglkfoaocaa
open Go.RowKit Go.Proofs.Parclose Go.Maps

theorem lawInt : Keyed Try.prog 3 := int_keyed Try.underlying3

/-- the set D has just the numbers cl -/
def HasOnly (D : DataW Unit) (cl : List Int) : Prop := IsMap D ∧ ∀ kl, Maps.has D kl = true ↔ ∃ c ∈ cl, kl = .int .i64 c

theorem hasOnly_nil : HasOnly (.map []) [] := ⟨isMap_empty, fun kl => by simp [Maps.has]⟩

theorem HasOnly.put {D : DataW Unit} {cl : List Int} (h : HasOnly D cl) (c : Int) (d : DataW Unit) : HasOnly (D.put (.int .i64 c) d) (cl ++ [c]) := by
  refine ⟨h.1.put _ _, fun kl => ?_⟩
  by_cases e : kl = .int .i64 c
  · subst e
    rw [has_put_same (k := .int .i64 c) h.1 trivial]
    simp
  · rw [has_put_other e, h.2 kl]
    constructor
    · rintro ⟨x, hx, e'⟩; exact ⟨x, by simp [hx], e'⟩
    · rintro ⟨x, hx, e'⟩
      simp only [List.mem_append, List.mem_singleton] at hx
      rcases hx with hx | hx
      · exact ⟨x, hx, e'⟩
      · subst hx; exact absurd e' e

set_option maxHeartbeats 1000000 in
theorem rnames_any (v : Value) (ls : List (List (Int × Int))) (w : World) (hv : LabsAt w v ls) (hls : ls.length ≤ 4) (hwf : ∀ l ∈ ls, WfL l) :
    Calls Try.prog 31 #[v] w fun e w' => ∃ n D, e = .returned (.map (some w.heap.size)) ∧ n = (ls.flatMap fun l => l.map (·.1)).length ∧ w'.ownsMap Try.prog 3 (plainElem (H := Unit) Try.prog 4) w.heap.size n D ∧ HasOnly D (ls.flatMap fun l => l.map (·.1)) ∧ Below w.heap.size w w' := by
  obtain ⟨b, o, cap, rfl, hcells⟩ := hv
  have hmm := @run_makeMap Try.prog
  go_enter Try.func31, Try.ntmps31
  go_wp2
  go_loopw [11] (fun i wr => ∃ (k n : Nat) (D : DataW Unit), k ≤ ls.length ∧ i = .int .i64 k ∧ (n ≤ k * 8796093022208 ∧ n = ((ls.take k).flatMap fun l => l.map (·.1)).length) ∧ wr.ownsMap Try.prog 3 (plainElem (H := Unit) Try.prog 4) w.heap.size n D ∧ HasOnly D ((ls.take k).flatMap fun l => l.map (·.1)) ∧ Below w.heap.size w wr)
    (fun i _ => ls.length - (intOf i).toNat)
  case atStart => exact ⟨0, 0, _, Nat.zero_le _, rfl, ⟨by omega, rfl⟩, World.ownsMap_made _ _ _ _, hasOnly_nil, (Below.refl _ _).alloc (Nat.le_refl _) _⟩
  case round =>
    obtain ⟨k, n, D, hk, rfl, ⟨hn, hnl⟩, hown, hD, hnx⟩ := hrel
    have HNL : Hid (n = ((ls.take k).flatMap fun l => l.map (·.1)).length) := hnl
    clear hnl
    by_cases hlt : k < ls.length
    · obtain ⟨u, hu, hlab⟩ := hcells k hlt
      obtain ⟨p, cap', rfl, hlc, hlen, hcs⟩ := hlab
      have hu2 : wr.cell? ⟨b, o + k, none⟩ = some (.slice p ls[k].length cap') := by rw [hnx.cell (cell_block hu), hu]
      have hwk := hwf ls[k] (List.getElem_mem hlt)
      have hstep : (ls.take (k + 1)).flatMap (fun l => l.map (·.1)) = (ls.take k).flatMap (fun l => l.map (·.1)) ++ (ls[k].map (·.1)) := by
        rw [List.take_succ_eq_append_getElem hlt, List.flatMap_append]; simp
      have HS : Hid ((ls.take (k + 1)).flatMap (fun l => l.map (·.1)) = (ls.take k).flatMap (fun l => l.map (·.1)) ++ (ls[k].map (·.1))) := hstep
      clear hstep hu hcells
      generalize hlk : ls[k] = l at *
      generalize (ls.take k).flatMap (fun l => l.map (·.1)) = cl at *
      clear hlk
      go_wp2
      go_loopw [17] (fun i ws => ∃ (m : Nat) (E : DataW Unit), m ≤ l.length ∧ i = .int .i64 m ∧ ws.ownsMap Try.prog 3 (plainElem (H := Unit) Try.prog 4) w.heap.size (n + m) E ∧ HasOnly E (cl ++ (l.map (·.1)).take m) ∧ Below w.heap.size w ws)
        (fun i _ => l.length - (intOf i).toNat)
      case atStart => exact ⟨0, D, Nat.zero_le _, rfl, hown, by simpa using hD, hnx⟩
      case round =>
        clear hown hD hu2
        have hnx0 := hnx
        clear hnx
        obtain ⟨m, E, hm, rfl, hown, hD, hnx⟩ := hrel
        by_cases hltm : m < l.length
        · obtain ⟨bl, ol, rfl, hcl⟩ := hcs (by omega)
          obtain ⟨hc1, hc2⟩ := (hcl.below hnx) m hltm
          have hkey : keyOf Try.prog 3 (.int .i64 l[m].1) = some (.int .i64 l[m].1) := keyOf_int_mk Try.underlying3 (hwk l[m] (List.getElem_mem hltm)).1
          have hsz := hnx.size
          clear hcs hcl hnx0
          go_wp2_with (at_mapUpdate; refine wpList_mapUpdate_own _ rfl _ _ _ 44 rfl 3 4 lawInt Try.underlying44 _ w.heap.size (n + m) _ rfl (hown.alloc _) (by unfold maxLen; omega) _ _ _ rfl rfl hkey _ [] (plainElem_bool Try.underlying4 true) ?_; intro w1 hown1 hgrow1)
          have hst2 : cl ++ (l.map (·.1)).take (m + 1) = cl ++ (l.map (·.1)).take m ++ [l[m].1] := by
            rw [List.take_succ_eq_append_getElem (by simpa using hltm)]; simp
          try go_frame
          go_roundw
          case rel => exact ⟨m + 1, _, hltm, by go_num, hown1, by rw [hst2]; exact hD.put _ _, (hnx.alloc hsz _).grown hgrow1 (by simp; omega) (fun j hj => by cases hj; exact Nat.le_refl _)⟩
          case measure => simp [intOf]; omega
        · have hml : m = l.length := by omega
          subst hml
          rw [List.take_of_length_le (by simp)] at hD
          go_wp2
          go_roundw
          case rel => exact ⟨k + 1, n + l.length, E, hlt, by go_num, ⟨by omega, by rw [HS.out, List.length_append, ← HNL.out]; simp⟩, hown, by rw [HS.out]; exact hD, hnx⟩
          case measure => simp [intOf]; omega
    · have hkl : k = ls.length := by omega
      subst hkl
      rw [List.take_length] at hD
      have hnl := HNL.out
      rw [List.take_length] at hnl
      have HNL2 : Hid (n = (ls.flatMap fun l => l.map (·.1)).length) := hnl
      clear hnl
      go_wp2
      go_ret
      exact ⟨n, D, rfl, HNL2.out, hown, hD, hnx⟩

theorem bool_elem {v : Value} {y : DataW Unit × List MemPlace} (h : plainElem (H := Unit) Try.prog 4 v = some y) : ∃ c, v = .bool c := by
  unfold plainElem at h
  rw [Try.underlying4] at h
  cases v <;> simp at h ⊢

theorem two_labels {w : World} {va vb : Value} {a b : List (Int × Int)} (ha : LabAt w va a) (hb : LabAt w vb b) : LabsAt (w.alloc (.cells #[va, vb] 23)) (.slice (some ⟨w.heap.size, 0, none⟩) 2 2) [a, b] := by
  have hal : Below w.heap.size w (w.alloc (.cells #[va, vb] 23)) := (Below.refl _ _).alloc (Nat.le_refl _) _
  refine ⟨_, _, 2, rfl, fun j hj => ?_⟩
  match j, hj with
  | 0, _ => exact ⟨va, by simp, ha.below hal⟩
  | 1, _ => exact ⟨vb, by simp, hb.below hal⟩

set_option maxHeartbeats 1000000 in
theorem rflows_any (va vb vo : Value) (a b : List (Int × Int)) (own : List Int) (w : World) (ha : LabAt w va a) (hb : LabAt w vb b) (ho : IntsAt w vo own) (hwa : WfL a) (hwb : WfL b) :
    Calls Try.prog 12 #[va, vb, vo] w fun e w' => e = .returned (.bool (flowsL a b own)) ∧ Below w.heap.size w w' := by
  obtain ⟨pa, ca, hva, _⟩ := id ha
  obtain ⟨pb, cb, hvb, _⟩ := id hb
  subst hva
  subst hvb
  have hls := two_labels ha hb
  have hal := (Below.refl w.heap.size w).alloc (Nat.le_refl _) (.cells #[.slice pa a.length ca, .slice pb b.length cb] 23)
  have hnames := rnames_any _ _ _ hls (by simp) (by
    intro l hl
    simp only [List.mem_cons, List.not_mem_nil, or_false] at hl
    rcases hl with rfl | rfl
    · exact hwa
    · exact hwb)
  rw [World.size_alloc] at hnames
  have HF : Hid (∀ c, atL b c < atL a c → hasB own c = false → flowsL a b own = false) := fun c h1 h2 => flowsL_false_of h1 h2
  have HT : Hid ((∀ c, c ∈ a.map (·.1) ∨ c ∈ b.map (·.1) → atL a c ≤ atL b c ∨ hasB own c = true) → flowsL a b own = true) := flowsL_true_names
  go_enter Try.func12, Try.ntmps12
  go_wp2_with (first
    | (go_at_call 31; refine hnames.mono ?_; rintro e w1 ⟨n, D, rfl, hne, hown, hD, hw1⟩; clear hne)
    | (at_range; refine wpList_range_own _ rfl _ 44 rfl 3 4 lawInt Try.underlying44 _ _ n D rfl hown ?_; intro w2 hrg0 hg0 hs0))
  go_frame
  have hB2 : Below w.heap.size w w2 := below_then (below_then hal (by rw [World.size_alloc]; exact hw1)) ⟨hg0.os, hg0.tape, hg0.output, hg0.size, fun k hk => hg0.block k hk (by simp)⟩
  have hrlo : w.heap.size ≤ w1.heap.size := (below_then hal (by rw [World.size_alloc]; exact hw1)).size
  have HD : Hid (∀ kl, Maps.has D kl = true ↔ ∃ c ∈ [a, b].flatMap (fun l => l.map (·.1)), kl = .int .i64 c) := hD.2
  generalize hr : w1.heap.size = r at *
  have HR : Hid (w.heap.size ≤ r) := hrlo
  clear hnames hls hal hw1 hown hg0 hs0 hD hrlo
  go_loopw [7] (fun _ wr => ∃ (left : Lit → Bool) (cnt : Nat), wr.ranges Try.prog 3 (plainElem (H := Unit) Try.prog 4) (w.heap.size + 1) r n D left cnt ∧ (∀ c, Maps.has D (.int .i64 c) = true → left (.int .i64 c) = false → atL a c ≤ atL b c ∨ hasB own c = true) ∧ Below w.heap.size w wr)
    (fun _ wr => wr.rangeLeft (w.heap.size + 1) r)
  case atStart => exact ⟨_, _, hrg0, (fun c h1 h2 => by rw [h1] at h2; cases h2), hB2⟩
  case round =>
    obtain ⟨left, cnt, hrg, hok, hnx⟩ := hrel
    have HO : Hid (∀ c, Maps.has D (.int .i64 c) = true → left (.int .i64 c) = false → atL a c ≤ atL b c ∨ hasB own c = true) := hok
    clear hok hrg0 hB2
    go_wp2_with (at_next; refine wpList_next_ranges _ rfl _ rfl 3 lawInt (plainElem (H := Unit) Try.prog 4) (Value.int .i64) (fun u : Value => u) (fun key kl hkey => by obtain ⟨x, rfl, _⟩ := Maps.keyOf_int_inv Try.underlying3 hkey; exact ⟨x, rfl⟩) (fun u y _ => ⟨u, rfl⟩) (w.heap.size + 1) r n _ _ _ rfl hrg ?_ ?_)
    · intro _ hl0
      go_wp2
      go_ret
      refine ⟨ret_bool ?_, hnx⟩
      refine (HT.out fun c hc => HO.out c ((HD.out _).2 ⟨c, by simpa using hc, rfl⟩) (hl0 _)).symm
    · intro x cc kl yd yp w3 cnt3 hkey hlk hv3 hat hrg3 hlt3 hg3 hs3 hen
      obtain ⟨x', ex, rfl, _⟩ := Maps.keyOf_int_inv Try.underlying3 hkey
      cases ex
      have hnx3 : Below w.heap.size w w3 := hnx.grown hg3 hnx.size (fun k hk => by cases hk; exact HR.out)
      have ha3 := ha.below hnx3
      have hb3 := hb.below hnx3
      have ho3 := ho.below hnx3
      have HX : Hid (∀ c, left (.int .i64 c) = false ∨ c = x ↔ (left (.int .i64 c) && !(Lit.int .i64 c).sameKey (.int .i64 x)) = false) := fun c => by
        by_cases e : c = x
        · subst e
          have : (Lit.int .i64 c).sameKey (.int .i64 c) = true := by simp [Lit.sameKey]
          simp [this]
        · have : (Lit.int .i64 c).sameKey (.int .i64 x) = false := sameKey_ne (by simpa using e)
          simp [this, e]
      have HL : Hid (cnt3 < cnt) := hlt3
      have HE := hrg.left_eq
      have HE2 : Hid (wr.rangeLeft (w.heap.size + 1) r = cnt) := HE
      have HG3 : Hid (w3.ranges Try.prog 3 (plainElem (H := Unit) Try.prog 4) (w.heap.size + 1) r n D (fun z => left z && !z.sameKey (.int .i64 x)) cnt3) := hrg3
      have HFx : Hid (atL b x < atL a x → hasB own x = false → flowsL a b own = false) := HF.out x
      clear hkey hlk hv3 hat hlt3 hg3 hs3 hrg hrg3 HE hnx
      generalize hat : atL a x = ax at *
      generalize hbt : atL b x = bx at *
      have HA : Hid (atL a x = ax ∧ atL b x = bx) := ⟨hat, hbt⟩
      have hin := rin_any vo own x w3 ho3
      cases hz : hasB own x with
      | true =>
        clear hat hbt
        rw [hz] at hin
        go_wp2_with (go_at_call 32; refine hin.mono ?_; rintro e w4 ⟨rfl, rfl⟩)
        go_roundw
        case rel => exact ⟨_, cnt3, HG3.out, (fun c h1 h2 => by
          rcases (HX.out c).2 h2 with h | h
          · exact HO.out c h1 h
          · subst h; exact Or.inr hz), hnx3⟩
        case measure => rw [HG3.out.left_eq, HE2.out]; exact HL.out
      | false =>
        rw [hz] at hin
        have hA := rat_any _ a x w3 ha3
        rw [hat] at hA
        go_wp2_with fail
        refine hin.mono ?_
        rintro e w4 ⟨rfl, rfl⟩
        go_wp2_with fail
        refine hA.mono ?_
        rintro e w5 ⟨rfl, hw5⟩
        have hB := rat_any _ b x w5 (hb3.below hw5)
        rw [hbt] at hB
        go_wp2_with fail
        refine hB.mono ?_
        rintro e w6 ⟨rfl, hw6⟩
        have hw56 := below_then hw5 hw6
        have hrg6 := HG3.out.kept (grown_of_below hw56) (by simp) (by simp)
        have HG6 : Hid (w6.ranges Try.prog 3 (plainElem (H := Unit) Try.prog 4) (w.heap.size + 1) r n D (fun z => left z && !z.sameKey (.int .i64 x)) cnt3) := hrg6
        clear hA hB hin hat hbt hrg6
        by_cases hlt : bx < ax
        · go_wp2
          go_ret
          exact ⟨ret_bool (HFx.out hlt (by first | rfl | trivial)).symm, below_then hnx3 hw56⟩
        · go_wp2
          go_roundw
          case rel => exact ⟨_, cnt3, HG6.out, (fun c h1 h2 => by
            rcases (HX.out c).2 h2 with h | h
            · exact HO.out c h1 h
            · subst h; exact Or.inl (by rw [HA.out.1, HA.out.2]; omega)), below_then hnx3 hw56⟩
          case measure => rw [HG6.out.left_eq, HE2.out]; exact HL.out
end Go.Proofs.Ytcnlfglkfoaocaa
