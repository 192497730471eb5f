/- The reference: May answers whether a host may be trusted with a mail, whatever the order in which the set gives its names. -/
import Derived.Test.YtichphepfmafjadRNamesOf
import Derived.Test.YtichphepfmafjadRTrusted
import Derived.Test.YtichphepfmafjadTMay
namespace Go.Proofs.Ytichphepfmafjad
open Go.RowKit Go.Proofs.Parclose Go.Maps

theorem may_no {l : List Crt} {h : Int} {m : Mal} {now c : Int} (hc : c ∈ m.label.map (·.1) ++ m.grants) (ht : trB l c now h = false) : mayB l h m now = false := by
  rw [← Bool.not_eq_true, mayB_iff]
  rintro ⟨_, g⟩
  have := (trB_iff _ _ _ _).2 (g c ((mem_namesL m c).2 (List.mem_append.1 hc)))
  rw [ht] at this
  cases this
theorem may_yes {l : List Crt} {h : Int} {m : Mal} {now : Int} (hh : hostB h = true) (ht : ∀ c ∈ m.label.map (·.1) ++ m.grants, trB l c now h = true) : mayB l h m now = true := by
  rw [mayB_iff]
  exact ⟨hh, fun c hc => (trB_iff _ _ _ _).1 (ht c (List.mem_append.2 ((mem_namesL m c).1 hc)))⟩

set_option maxRecDepth 100000 in
set_option maxHeartbeats 3200000 in
theorem rmay_any (v vm : Value) (l : List Crt) (h : Int) (m : Mal) (now : Int) (w : World) (hv : CrtsAt w v l) (hm : MalAt w vm m) (hwl : ∀ x ∈ l, WfC x) (hwm : WfM m) :
    Calls Try.prog 12 #[v, .int .i64 h, vm, .int .i64 now] w fun e w' => e = .returned (.bool (mayB l h m now)) ∧ Below w.heap.size w w' := by
  have htr := fun c wx (hb : Below w.heap.size w wx) => rtrusted_any v l c now wx (hv.below hb) hwl
  have hm0 := hm
  obtain ⟨vl, vg, rfl, hl, hg⟩ := hm
  obtain ⟨pl, cl, rfl, _, hcapl, _⟩ := id hl
  obtain ⟨pg, cg, rfl, _, hcapg, _⟩ := id hg
  obtain ⟨p, cap, rfl, _⟩ := id hv
  have hnm := rnamesOf_any _ m _ (hm0.below (below_box w (.cells #[.int .i64 m.host, .int .i64 m.thread, .slice pl m.label.length cl, .slice pg m.grants.length cg, .string ⟨m.text.toArray⟩] 27))) hwm
  unfold malV at hnm ⊢
  unfold trV at htr
  obtain ⟨Bm, hBm⟩ : ∃ Bm, (w.alloc (.cells #[.int .i64 m.host, .int .i64 m.thread, .slice pl m.label.length cl, .slice pg m.grants.length cg, .string ⟨m.text.toArray⟩] 27)).heap.size + 2 = Bm := ⟨_, rfl⟩
  rw [hBm] at hnm
  rw [size_box] at hBm
  have HBM : Hid (w.heap.size + 1 + 2 = Bm) := hid hBm
  clear hl hg hBm hm0 hwm hwl
  cases hh : hostB h with
  | false =>
    have HE : Hid (mayB l h m now = false) := hid (mayB_nohost hh)
    clear hnm htr
    go_enter Try.func12, Try.ntmps12
    go_wp2_with (go_at_call 26; refine (rfour_any _ _).mono ?_; rintro e w' ⟨rfl, rfl⟩)
    go_ret
    exact ⟨ret_bool HE.out.symm, below_box _ _⟩
  | true =>
    have hh2 : h = 0 ∨ h = 1 ∨ h = 2 ∨ h = 3 := by
      unfold hostB at hh
      have := of_decide_eq_true hh
      omega
    obtain ⟨T, hT⟩ : ∃ T : Int → Bool, ∀ c, trB l c now h = T c := ⟨fun c => trB l c now h, fun _ => rfl⟩
    have HNO : Hid (∀ c, c ∈ m.label.map (·.1) ++ m.grants → T c = false → mayB l h m now = false) := hid (fun c hc ht => may_no hc (by rw [hT]; exact ht))
    have HYES : Hid ((∀ c ∈ m.label.map (·.1) ++ m.grants, T c = true) → mayB l h m now = true) := hid (fun g => may_yes hh (fun c hc => by rw [hT]; exact g c hc))
    have hf := fun wx => rfour_any h wx
    rw [hh] at hf
    clear hh
    rcases hh2 with rfl | rfl | rfl | rfl
    all_goals
      simp only [hT] at htr
      clear hT
      generalize mayB l _ m now = R at *
      have q0 := index_hosts0
      have q1 := index_hosts1
      have q2 := index_hosts2
      have q3 := index_hosts3
      go_enter Try.func12, Try.ntmps12
      go_wp2_with (first
        | (go_at_call 26; refine (hf _).mono ?_; rintro e w' ⟨rfl, hq⟩; have hq2 := hq.symm; clear hq; subst hq2)
        | (go_at_call 27; refine hnm.mono ?_; rintro e w1 ⟨D, rfl, hown, hD, hw1⟩; have HB1 := hid (below_then (below_box _ _) hw1); have HD := hid hD.1.2; clear hw1 hD)
        | (at_range; refine wpList_range_own _ rfl _ 49 rfl 3 4 lawInt Try.underlying49 _ _ (m.label.length + m.grants.length) D rfl hown ?_; intro w2 hrg0 hg0 hs0))
      go_frame
      have HB2 : Hid (Below w.heap.size w w2) := hid (below_then HB1.out ⟨hg0.os, hg0.tape, hg0.output, hg0.size, fun k hk => hg0.block k hk (by simp)⟩)
      have HLO := hid HB1.out.size
      have HRG0 := hid hrg0
      generalize hr : w1.heap.size = r at *
      clear hown hg0 hs0 hrg0 hnm hr
      go_loopw [9] (fun _ wr => ∃ (left : Lit → Bool) (cnt : Nat), wr.ranges Try.prog 3 (plainElem (H := Unit) Try.prog 4) Bm r (m.label.length + m.grants.length) D left cnt ∧ (∀ c, Maps.has D (.int .i64 c) = true → left (.int .i64 c) = false → T c = true) ∧ Below w.heap.size w wr)
        (fun _ wr => wr.rangeLeft Bm r)
      case atStart => exact ⟨_, _, HRG0.out, (fun c h1 h2 => by rw [h1] at h2; cases h2), HB2.out⟩
      case round =>
        clear HRG0 HB2
        obtain ⟨left, cnt, hrg, hok, hnx⟩ := hrel
        have HO : Hid (∀ c, Maps.has D (.int .i64 c) = true → left (.int .i64 c) = false → T c = true) := hok
        clear hok
        go_wp2_with (at_next; refine wpList_next_ranges _ rfl _ rfl 3 lawInt (plainElem (H := Unit) Try.prog 4) (Value.int .i64) (fun u : Value => u) (fun key kl hkey => by obtain ⟨x, rfl, _⟩ := Maps.keyOf_int_inv Try.underlying3 hkey; exact ⟨x, rfl⟩) (fun u y _ => ⟨u, rfl⟩) Bm r (m.label.length + m.grants.length) _ _ _ rfl hrg ?_ ?_)
        · intro _ hl0
          go_wp2
          go_ret
          exact ⟨ret_bool (HYES.out fun c hc => HO.out c ((HD.out _).2 ⟨c, hc, rfl⟩) (hl0 _)).symm, hnx⟩
        · intro x cc kl yd yp w3 cnt3 hkey hlk hv3 hat hrg3 hlt3 hg3 hs3 hen
          obtain ⟨x', ex, rfl, _⟩ := Maps.keyOf_int_inv Try.underlying3 hkey
          cases ex
          have HMEM : Hid (x ∈ m.label.map (·.1) ++ m.grants) := hid (by
            obtain ⟨c, hc, e⟩ := (HD.out (.int .i64 x)).1 (has_true_of_atKey hat)
            cases e
            exact hc)
          have HNX3 : Hid (Below w.heap.size w w3) := hid (hnx.grown hg3 hnx.size (fun k hk => by cases hk; exact HLO.out))
          have HX : Hid (∀ c, left (.int .i64 c) = false ∨ c = x ↔ (left (.int .i64 c) && !(Lit.int .i64 c).sameKey (.int .i64 x)) = false) := fun c => by
            by_cases e : c = x
            · subst e
              have : (Lit.int .i64 c).sameKey (.int .i64 c) = true := by simp [Lit.sameKey]
              simp [this]
            · have : (Lit.int .i64 c).sameKey (.int .i64 x) = false := sameKey_ne (by simpa using e)
              simp [this, e]
          have HL : Hid (cnt3 < cnt) := hlt3
          have HE2 : Hid (wr.rangeLeft Bm r = cnt) := hrg.left_eq
          have HG3 : Hid (w3.ranges Try.prog 3 (plainElem (H := Unit) Try.prog 4) Bm r (m.label.length + m.grants.length) D (fun z => left z && !z.sameKey (.int .i64 x)) cnt3) := hrg3
          have ht := fun wx (hb : Below w.heap.size w wx) => htr x wx hb
          have HNx := hid (HNO.out x HMEM.out)
          clear hkey hlk hv3 hat hlt3 hg3 hs3 hrg hrg3 hnx
          cases hTx : T x with
          | false =>
            have HE := hid (HNx.out hTx)
            simp only [hTx] at ht
            go_wp2_with (go_at_call 9; refine (ht _ HNX3.out).mono ?_; rintro e w4 ⟨rfl, hw4⟩)
            go_ret
            exact ⟨ret_bool HE.out.symm, below_then HNX3.out hw4⟩
          | true =>
            have HTx := hid hTx
            simp only [hTx] at ht
            go_wp2_with (go_at_call 9; refine (ht _ HNX3.out).mono ?_; rintro e w4 ⟨rfl, hw4⟩; have HG4 := hid (HG3.out.kept (grown_of_below hw4) (by simp) (by simp)); have HNX4 := hid (below_then HNX3.out hw4); clear hw4)
            go_roundw
            case rel => exact ⟨_, cnt3, HG4.out, (fun c h1 h2 => by
              rcases (HX.out c).2 h2 with h | h
              · exact HO.out c h1 h
              · subst h; exact HTx.out), HNX4.out⟩
            case measure => rw [HG4.out.left_eq, HE2.out]; exact HL.out
end Go.Proofs.Ytichphepfmafjad
