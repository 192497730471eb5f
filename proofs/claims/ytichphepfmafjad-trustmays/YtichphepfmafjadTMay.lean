/- trust.May answers whether a host may be trusted with a mail. -/
import Derived.Test.YtichphepfmafjadTNamed
import Derived.Test.YtichphepfmafjadTTrusted
namespace Go.Proofs.Ytichphepfmafjad
open Go.RowKit Go.Proofs.Parclose

theorem mayB_nohost {l : List Crt} {h : Int} {m : Mal} {now : Int} (hh : hostB h = false) : mayB l h m now = false := by unfold mayB; rw [hh]; rfl
theorem mayB_no {l : List Crt} {h : Int} {m : Mal} {now : Int} {zs : List Int} (hz : namesL m = zs) {k : Nat} (hk : k < zs.length) (ht : trB l zs[k] now h = false) : mayB l h m now = false := by
  subst hz
  rw [← Bool.not_eq_true, mayB_iff]
  rintro ⟨_, g⟩
  have := (trB_iff _ _ _ _).2 (g _ (List.getElem_mem hk))
  rw [ht] at this
  cases this
theorem mayB_yes {l : List Crt} {h : Int} {m : Mal} {now : Int} {zs : List Int} (hz : namesL m = zs) (hh : hostB h = true) (ht : ∀ j (_ : j < zs.length), trB l zs[j] now h = true) : mayB l h m now = true := by
  subst hz
  rw [mayB_iff]
  refine ⟨hh, fun c hc => ?_⟩
  obtain ⟨j, hj, rfl⟩ := List.mem_iff_getElem.1 hc
  exact (trB_iff _ _ _ _).1 (ht j hj)

theorem index_hosts0 (a b c d : Value) (w : World) : (Instr.index 28 (.agg #[a, b, c, d]) (.int .i64 0)).run Try.prog w = .ok a w := by kernel_rfl
theorem index_hosts1 (a b c d : Value) (w : World) : (Instr.index 28 (.agg #[a, b, c, d]) (.int .i64 1)).run Try.prog w = .ok b w := by kernel_rfl
theorem index_hosts2 (a b c d : Value) (w : World) : (Instr.index 28 (.agg #[a, b, c, d]) (.int .i64 2)).run Try.prog w = .ok c w := by kernel_rfl
theorem index_hosts3 (a b c d : Value) (w : World) : (Instr.index 28 (.agg #[a, b, c, d]) (.int .i64 3)).run Try.prog w = .ok d w := by kernel_rfl

set_option maxRecDepth 100000 in
set_option maxHeartbeats 3200000 in
theorem may_any (v vm : Value) (l : List Crt) (h : Int) (m : Mal) (now : Int) (w : World) (hv : CrtsAt w v l) (hm : MalAt w vm m) :
    Calls Try.prog 10 #[v, .int .i64 h, vm, .int .i64 now] w fun e w' => e = .returned (.bool (mayB l h m now)) ∧ Below w.heap.size w w' := by
  have hnm := fun wx (hb : Below w.heap.size w wx) => tnamed_any vm m wx (hm.below hb)
  have htr := fun c wx (hb : Below w.heap.size w wx) => trusted_any v l c now wx (hv.below hb)
  obtain ⟨vl, vg, rfl, hl, hg⟩ := hm
  obtain ⟨pl, cl, rfl, _⟩ := id hl
  obtain ⟨pg, cg, rfl, _⟩ := id hg
  obtain ⟨p, cap, rfl, _⟩ := id hv
  unfold malV at hnm ⊢
  unfold trV at htr
  clear hl hg
  cases hh : hostB h with
  | false =>
    have HE : Hid (mayB l h m now = false) := hid (mayB_nohost hh)
    have : h < 0 ∨ (0 ≤ h ∧ 4 ≤ h) := by
      unfold hostB at hh
      have := of_decide_eq_false hh
      omega
    rcases this with h1 | ⟨h1, h2⟩
    · go_enter Try.func10, Try.ntmps10
      go_wp2
      go_ret
      exact ⟨ret_bool HE.out.symm, below_box _ _⟩
    · go_enter Try.func10, Try.ntmps10
      go_wp2
      go_ret
      exact ⟨ret_bool HE.out.symm, below_box _ _⟩
  | true =>
    have hh2 : h = 0 ∨ h = 1 ∨ h = 2 ∨ h = 3 := by
      unfold hostB at hh
      have := of_decide_eq_true hh
      omega
    obtain ⟨zs, hz⟩ : ∃ zs, namesL m = zs := ⟨_, rfl⟩
    obtain ⟨T, hT⟩ : ∃ T : Int → Bool, ∀ c, trB l c now h = T c := ⟨fun c => trB l c now h, fun _ => rfl⟩
    have HNO : Hid (∀ k (hk : k < zs.length), T zs[k] = false → mayB l h m now = false) := hid (fun k hk ht => mayB_no hz hk (by rw [hT]; exact ht))
    have HYES : Hid ((∀ j (_ : j < zs.length), T zs[j] = true) → mayB l h m now = true) := hid (fun g => mayB_yes hz hh (fun j hj => by rw [hT]; exact g j hj))
    rw [hz] at hnm
    clear hh hz
    rcases hh2 with rfl | rfl | rfl | rfl
    all_goals
      simp only [hT] at htr
      clear hT
      generalize mayB l _ m now = R at *
      have q0 := index_hosts0
      have q1 := index_hosts1
      have q2 := index_hosts2
      have q3 := index_hosts3
      go_enter Try.func10, Try.ntmps10
      go_wp2_with (go_at_call 25; refine (hnm _ (below_box _ _)).mono ?_; rintro e w1 ⟨g, cp, rfl, ⟨hzl, hzc⟩, hi1, hw1⟩; have HB1 := hid (below_then (below_box _ _) hw1); have HI1 := hid hi1; clear hw1 hi1)
      go_loopw [20] (fun i wr => ∃ k : Nat, k ≤ zs.length ∧ i = .int .i64 k ∧ (∀ j (_ : j < k) (hj : j < zs.length), T zs[j] = true) ∧ Below w1.heap.size w1 wr) (fun i _ => zs.length - (intOf i).toNat)
      case atStart => exact ⟨0, Nat.zero_le _, rfl, fun j hj => absurd hj (Nat.not_lt_zero _), Below.refl _ _⟩
      case round =>
        obtain ⟨k, hk, rfl, hall, hb⟩ := hrel
        have HALL := hid hall
        have HB := hid hb
        clear hall
        by_cases hlt : k < zs.length
        · have hck := HI1.out.below hb k hlt
          rw [Nat.zero_add] at hck
          have HN := hid (HNO.out k hlt)
          clear hb
          have ht := fun wx (hbx : Below w1.heap.size w1 wx) => htr zs[k] wx (below_then HB1.out hbx)
          have HSTEP : Hid (T zs[k] = true → ∀ j (_ : j < k + 1) (hj : j < zs.length), T zs[j] = true) := hid (fun g j h1 h2 => by
            by_cases e : j = k
            · subst e; exact g
            · exact HALL.out j (by omega) h2)
          cases hTk : T zs[k] with
          | false =>
            have HE := hid (HN.out hTk)
            simp only [hTk] at ht
            go_wp2_with (go_at_call 7; refine (ht _ HB.out).mono ?_; rintro e w2 ⟨rfl, hw2⟩)
            go_ret
            exact ⟨ret_bool HE.out.symm, below_then HB1.out (below_then HB.out hw2)⟩
          | true =>
            have HE := hid (HSTEP.out hTk)
            simp only [hTk] at ht
            go_wp2_with (go_at_call 7; refine (ht _ HB.out).mono ?_; rintro e w2 ⟨rfl, hw2⟩)
            go_roundw
            case rel => exact ⟨k + 1, hlt, by go_num, HE.out, below_then HB.out hw2⟩
            case measure => simp [intOf]; omega
        · have HE := hid (HYES.out (fun j hj => HALL.out j (by omega) hj))
          go_wp2
          go_ret
          exact ⟨ret_bool HE.out.symm, below_then HB1.out HB.out⟩
end Go.Proofs.Ytichphepfmafjad
