/- parcloseref.names answers a set of just the categories that the labels name; parcloseref.Flows what the document says. -/
import Derived.Test.YtpdijobakfpnbaaQFromB
import Derived.Maps.Own
import Derived.Maps.OwnOps
import Derived.Maps.Views
import Derived.Maps.RangeWalk
import Derived.Test.YtpdijobakfpnbaaQRNames
namespace Go.Proofs.Ytpdijobakfpnbaa
open Go.RowKit Go.Proofs.Parclose Go.Maps
theorem Qez {w : World} {va vb : Value} {a b : List (Int × Int)} (ha : LabAt w va a) (hb : LabAt w vb b) : LabsAt (w.alloc (.cells #[va, vb] 30)) (.slice (some ⟨w.heap.size, 0, none⟩) 2 2) [a, b] := by
 have hal : Below w.heap.size w (w.alloc (.cells #[va, vb] 30)) := (Below.refl _ _).alloc (Nat.le_refl _) _
 refine ⟨_, _, 2, rfl, fun j hj => ?_⟩
 match j, hj with
 | 0, _ => exact ⟨va, by simp, ha.below hal⟩
 | 1, _ => exact ⟨vb, by simp, hb.below hal⟩
set_option maxHeartbeats 1000000 in
theorem QF (va vb vo : Value) (a b : List (Int × Int)) (own : List Int) (w : World) (ha : LabAt w va a) (hb : LabAt w vb b) (ho : IntsAt w vo own) (hwa : WfL a) (hwb : WfL b) :
 Calls Try.prog 27 #[va, vb, vo] w fun e w' => e = .returned (.bool (flowsL a b own)) ∧ Below w.heap.size w w' := by
 obtain ⟨pa, ca, hva, _⟩ := id ha
 obtain ⟨pb, cb, hvb, _⟩ := id hb
 subst hva
 subst hvb
 have hls := Qez ha hb
 have hal := (Below.refl w.heap.size w).alloc (Nat.le_refl _) (.cells #[.slice pa a.length ca, .slice pb b.length cb] 30)
 have hnames := QeG _ _ _ hls (by simp) (by
  intro l hl
  simp only [List.mem_cons, List.not_mem_nil, or_false] at hl
  rcases hl with rfl | rfl
  · exact hwa
  · exact hwb)
 rw [World.size_alloc] at hnames
 have HF : Hid (∀ c, atL b c < atL a c → hasB own c = false → flowsL a b own = false) := fun c h1 h2 => Qa2 h1 h2
 have HT : Hid ((∀ c, c ∈ a.map (·.1) ∨ c ∈ b.map (·.1) → atL a c ≤ atL b c ∨ hasB own c = true) → flowsL a b own = true) := QbK
 go_enter Try.func27, Try.ntmps27
 go_wp2_with (first
  | (go_at_call 47; refine hnames.mono ?_; rintro e w1 ⟨n, D, rfl, hne, hown, hD, hw1⟩; clear hne)
  | (at_range; refine wpList_range_own _ rfl _ 87 rfl 3 4 lawInt Try.underlying87 _ _ n D rfl hown ?_; intro w2 hrg0 hg0 hs0))
 go_frame
 have hB2 : Below w.heap.size w w2 := Qd (Qd hal (by rw [World.size_alloc]; exact hw1)) ⟨hg0.os, hg0.tape, hg0.output, hg0.size, fun k hk => hg0.block k hk (by simp)⟩
 have hrlo : w.heap.size ≤ w1.heap.size := (Qd hal (by rw [World.size_alloc]; exact hw1)).size
 have HD : Hid (∀ kl, Maps.has D kl = true ↔ ∃ c ∈ [a, b].flatMap (fun l => l.map (·.1)), kl = .int .i64 c) := hD.2
 generalize hr : w1.heap.size = r at *
 have HR : Hid (w.heap.size ≤ r) := hrlo
 clear hnames hls hal hw1 hown hg0 hs0 hD hrlo
 go_loopw [7] (fun _ wr => ∃ (left : Lit → Bool) (cnt : Nat), wr.ranges Try.prog 3 (plainElem (H := Unit) Try.prog 4) (w.heap.size + 1) r n D left cnt ∧ (∀ c, Maps.has D (.int .i64 c) = true → left (.int .i64 c) = false → atL a c ≤ atL b c ∨ hasB own c = true) ∧ Below w.heap.size w wr)
  (fun _ wr => wr.rangeLeft (w.heap.size + 1) r)
 case atStart => exact ⟨_, _, hrg0, (fun c h1 h2 => by rw [h1] at h2; cases h2), hB2⟩
 case round =>
  obtain ⟨left, cnt, hrg, hok, hnx⟩ := hrel
  have HO : Hid (∀ c, Maps.has D (.int .i64 c) = true → left (.int .i64 c) = false → atL a c ≤ atL b c ∨ hasB own c = true) := hok
  clear hok hrg0 hB2
  go_wp2_with (at_next; refine wpList_next_ranges _ rfl _ rfl 3 lawInt (plainElem (H := Unit) Try.prog 4) (Value.int .i64) (fun u : Value => u) (fun key kl hkey => by obtain ⟨x, rfl, _⟩ := Maps.keyOf_int_inv Try.underlying3 hkey; exact ⟨x, rfl⟩) (fun u y _ => ⟨u, rfl⟩) (w.heap.size + 1) r n _ _ _ rfl hrg ?_ ?_)
  · intro _ hl0
    go_wp2
    go_ret
    refine ⟨Qm ?_, hnx⟩
    refine (HT.out fun c hc => HO.out c ((HD.out _).2 ⟨c, by simpa using hc, rfl⟩) (hl0 _)).symm
  · intro x cc kl yd yp w3 cnt3 hkey hlk hv3 hat hrg3 hlt3 hg3 hs3 hen
    obtain ⟨x', ex, rfl, _⟩ := Maps.keyOf_int_inv Try.underlying3 hkey
    cases ex
    have hnx3 : Below w.heap.size w w3 := hnx.grown hg3 hnx.size (fun k hk => by cases hk; exact HR.out)
    have ha3 := ha.below hnx3
    have hb3 := hb.below hnx3
    have ho3 := ho.below hnx3
    have HX : Hid (∀ c, left (.int .i64 c) = false ∨ c = x ↔ (left (.int .i64 c) && !(Lit.int .i64 c).sameKey (.int .i64 x)) = false) := fun c => by
     by_cases e : c = x
     · subst e
       have : (Lit.int .i64 c).sameKey (.int .i64 c) = true := by simp [Lit.sameKey]
       simp [this]
     · have : (Lit.int .i64 c).sameKey (.int .i64 x) = false := sameKey_ne (by simpa using e)
       simp [this, e]
    have HL : Hid (cnt3 < cnt) := hlt3
    have HE := hrg.left_eq
    have HE2 : Hid (wr.rangeLeft (w.heap.size + 1) r = cnt) := HE
    have HG3 : Hid (w3.ranges Try.prog 3 (plainElem (H := Unit) Try.prog 4) (w.heap.size + 1) r n D (fun z => left z && !z.sameKey (.int .i64 x)) cnt3) := hrg3
    have HFx : Hid (atL b x < atL a x → hasB own x = false → flowsL a b own = false) := HF.out x
    clear hkey hlk hv3 hat hlt3 hg3 hs3 hrg hrg3 HE hnx
    generalize hat : atL a x = ax at *
    generalize hbt : atL b x = bx at *
    have HA : Hid (atL a x = ax ∧ atL b x = bx) := ⟨hat, hbt⟩
    have hin := Qdn vo own x w3 ho3
    cases hz : hasB own x with
    | true =>
     clear hat hbt
     rw [hz] at hin
     go_wp2_with (go_at_call 26; refine hin.mono ?_; rintro e w4 ⟨rfl, rfl⟩)
     go_roundw
     case rel => exact ⟨_, cnt3, HG3.out, (fun c h1 h2 => by
      rcases (HX.out c).2 h2 with h | h
      · exact HO.out c h1 h
      · subst h; exact Or.inr hz), hnx3⟩
     case measure => rw [HG3.out.left_eq, HE2.out]; exact HL.out
    | false =>
     rw [hz] at hin
     have hA := Qfs _ a x w3 ha3
     rw [hat] at hA
     go_wp2_with fail
     refine hin.mono ?_
     rintro e w4 ⟨rfl, rfl⟩
     go_wp2_with fail
     refine hA.mono ?_
     rintro e w5 ⟨rfl, hw5⟩
     have hB := Qfs _ b x w5 (hb3.below hw5)
     rw [hbt] at hB
     go_wp2_with fail
     refine hB.mono ?_
     rintro e w6 ⟨rfl, hw6⟩
     have hw56 := Qd hw5 hw6
     have hrg6 := HG3.out.kept (QcO hw56) (by simp) (by simp)
     have HG6 : Hid (w6.ranges Try.prog 3 (plainElem (H := Unit) Try.prog 4) (w.heap.size + 1) r n D (fun z => left z && !z.sameKey (.int .i64 x)) cnt3) := hrg6
     clear hA hB hin hat hbt hrg6
     by_cases hlt : bx < ax
     · go_wp2
       go_ret
       exact ⟨Qm (HFx.out hlt (by first | rfl | trivial)).symm, Qd hnx3 hw56⟩
     · go_wp2
       go_roundw
       case rel => exact ⟨_, cnt3, HG6.out, (fun c h1 h2 => by
        rcases (HX.out c).2 h2 with h | h
        · exact HO.out c h1 h
        · subst h; exact Or.inl (by rw [HA.out.1, HA.out.2]; omega)), Qd hnx3 hw56⟩
       case measure => rw [HG6.out.left_eq, HE2.out]; exact HL.out
end Go.Proofs.Ytpdijobakfpnbaa
