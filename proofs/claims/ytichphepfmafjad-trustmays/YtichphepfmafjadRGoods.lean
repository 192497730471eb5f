/- The reference: GoodCerts answers whether a list of certs is good. -/
import Derived.Test.YtichphepfmafjadRKey
import Derived.Test.YtichphepfmafjadTGood
namespace Go.Proofs.Ytichphepfmafjad
open Go.RowKit Go.Proofs.Parclose Go.Maps

theorem below_map {w wr w1 : World} {b : Nat} (h : Below w.heap.size w wr) (hg : wr.grownBy w1 (some b)) (hb : w.heap.size ≤ b) (hs : w.heap.size ≤ wr.heap.size) : Below w.heap.size w w1 := h.grown hg hs (fun k hk => by have := Option.some.inj hk; omega)

set_option maxRecDepth 100000 in
set_option maxHeartbeats 1600000 in
theorem rgoodCerts_any (v : Value) (l : List Crt) (w : World) (hv : CrtsAt w v l) (hwf : ∀ x ∈ l, WfC x) :
    Calls Try.prog 24 #[v] w fun e w' => e = .returned (.bool (csB l)) ∧ Below w.heap.size w w' := by
  obtain ⟨p, cap, rfl, hlc, hcap, hcells⟩ := hv
  have HCL := hid hcells
  have HWF := hid hwf
  have hmm := @run_makeMap Try.prog
  clear hcells hwf
  go_enter Try.func24, Try.ntmps24
  go_wp2
  go_loopw [9] (fun i wr => ∃ (k : Nat) (D : DataW Unit), k ≤ l.length ∧ i = .int .i64 k ∧ wr.ownsMap Try.prog 39 (plainElem (H := Unit) Try.prog 4) w.heap.size k D ∧ SetOf D (l.take k) ∧ (∀ j (_ : j < k) (hj : j < l.length), certB l[j] = true ∧ l[j] ∉ l.take j) ∧ Below w.heap.size w wr)
    (fun i _ => l.length - (intOf i).toNat)
  case atStart => exact ⟨0, _, Nat.zero_le _, rfl, World.ownsMap_made _ _ _ _, setOf_nil, fun j hj => absurd hj (Nat.not_lt_zero _), below_box _ _⟩
  case round =>
    obtain ⟨k, D, hk, rfl, hown, hD, hall, hb⟩ := hrel
    have HALL := hid hall
    have HB := hid hb
    have hsz := hb.size
    by_cases hlt : k < l.length
    · obtain ⟨b, o, rfl, hc⟩ := HCL.out (by omega)
      obtain ⟨g1, g2, g3, g4⟩ := hc.below hb k hlt
      have hx := HWF.out l[k] (List.getElem_mem hlt)
      have hlook := fun ob => look_cert (hown.alloc ob) hD l[k] hx
      have HUP := hid (hD.put hx)
      have HKEY := hid (keyC_of l[k] hx)
      have HOW := hid hown
      have hcert := fun wx => rgoodCert_any l[k] wx
      have HTK : Hid (l.take (k + 1) = l.take k ++ [l[k]]) := hid (List.take_succ_eq_append_getElem hlt)
      have HSTEP : Hid (certB l[k] = true ∧ l[k] ∉ l.take k → ∀ j (_ : j < k + 1) (hj : j < l.length), certB l[j] = true ∧ l[j] ∉ l.take j) := hid (fun g j h1 h2 => by
        by_cases e : j = k
        · subst e; exact g
        · exact HALL.out j (by omega) h2)
      have HBAD := hid (fun h => csB_bad hlt h)
      have HTW := hid (fun h => csB_twice hlt h)
      unfold crtV at hcert HKEY
      clear hc hb hown hD hall
      cases hd : decide (l[k] ∈ l.take k) with
      | true =>
        have HE := hid (HTW.out (of_decide_eq_true hd))
        simp only [hd] at hlook
        go_wp2
        go_ret
        exact ⟨ret_bool HE.out.symm, HB.out.alloc hsz _⟩
      | false =>
        simp only [hd] at hlook
        cases hcb : certB l[k] with
        | false =>
          have HE := hid (HBAD.out hcb)
          go_wp2_with (go_at_call 33; refine (hcert _).mono ?_; rintro e w2 ⟨rfl, hw2⟩)
          go_ret
          exact ⟨ret_bool HE.out.symm, below_then (HB.out.alloc hsz _) hw2⟩
        | true =>
          have HE := hid (HSTEP.out ⟨hcb, of_decide_eq_false hd⟩)
          go_wp2_with (first
            | (go_at_call 33; refine (hcert _).mono ?_; rintro e w2 ⟨rfl, hw2⟩; have x0 : w2.cell? ⟨wr.heap.size, 0, none⟩ = some (.int .i64 l[k].c) := box_cell hw2 (by simp) 0; have x1 : w2.cell? ⟨wr.heap.size, 1, none⟩ = some (.int .i64 l[k].b) := box_cell hw2 (by simp) 1; have x2 : w2.cell? ⟨wr.heap.size, 2, none⟩ = some (.int .i64 l[k].h) := box_cell hw2 (by simp) 2; have x3 : w2.cell? ⟨wr.heap.size, 3, none⟩ = some (.int .i64 l[k].u) := box_cell hw2 (by simp) 3; have HM2 := hid ((HOW.out.alloc (.cells #[.int .i64 l[k].c, .int .i64 l[k].b, .int .i64 l[k].h, .int .i64 l[k].u] 39)).kept (grown_of_below hw2) (by simp)); have HB2 := hid (below_then (HB.out.alloc hsz _) hw2); have hs2 := HB2.out.size; clear hw2)
            | (at_mapUpdate; refine wpList_mapUpdate_own _ rfl _ _ _ 56 rfl 39 4 lawCert Try.underlying56 _ w.heap.size k D rfl HM2.out (by unfold maxLen; omega) _ _ _ rfl rfl HKEY.out (.lit (.bool true)) [] (plainElem_bool Try.underlying4 true) ?_; intro w3 hown3 hgrow3))
          go_roundw
          case rel => exact ⟨k + 1, _, hlt, by go_num, hown3, by rw [HTK.out]; exact HUP.out, HE.out, below_map HB2.out hgrow3 (Nat.le_refl _) hs2⟩
          case measure => simp [intOf]; omega
    · have HE : Hid (csB l = decide (l.length ≤ 24)) := hid (by
        by_cases h24 : l.length ≤ 24
        · rw [csB_all h24 (fun j hj => (HALL.out j (by omega) hj).1) (fun j hj => (HALL.out j (by omega) hj).2)]
          simp [h24]
        · rw [csB_long (by omega)]
          simp [h24])
      go_wp2
      go_ret
      exact ⟨ret_bool (by rw [HE.out]; first | rfl | (simp; omega) | simp), hb⟩
end Go.Proofs.Ytichphepfmafjad
