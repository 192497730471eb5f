/- wire.putCerts lays certs behind a list of bytes of the call, and turns nothing else. -/
import Derived.Test.YtagmnfghkfeplaaWPutH
import Derived.Deep.RegionHeld3
namespace Go.Proofs.Ytagmnfghkfeplaa
open Go.RowKit Go.Proofs.Parclose

def certsTo (bs : List UInt8) (l : List Crt) (k : Nat) : List UInt8 := bs ++ [byteL l.length] ++ (l.take k).flatMap certL
theorem certsTo_zero (bs : List UInt8) (l : List Crt) : certsTo bs l 0 = bs ++ [byteL l.length] := by simp [certsTo]
theorem certsTo_succ (bs : List UInt8) (l : List Crt) (k : Nat) (hk : k < l.length) : certsTo bs l (k + 1) = certsTo bs l k ++ [(l[k]).c, (l[k]).b, (l[k]).h].map byteL ++ timeL (l[k]).u := by
  unfold certsTo
  rw [List.take_succ_eq_append_getElem hk, List.flatMap_append]
  simp only [List.flatMap_cons, List.flatMap_nil, certL, List.append_assoc, List.append_nil, List.map_cons, List.map_nil]
theorem certsTo_all (bs : List UInt8) (l : List Crt) : certsTo bs l l.length = bs ++ certsL l := by simp [certsTo, certsL]
theorem certsTo_length (bs : List UInt8) (l : List Crt) (k : Nat) : (certsTo bs l k).length ≤ bs.length + 1 + 9 * l.length := by
  unfold certsTo
  have h : ∀ m : List Crt, (m.flatMap certL).length = 9 * m.length := fun m => by
    induction m with
    | nil => rfl
    | cons x r ih =>
      rw [List.flatMap_cons, List.length_append, ih]
      simp [certL, timeL]
      omega
  simp only [List.length_append, h, List.length_take]
  simp
  omega

set_option maxHeartbeats 3200000 in
theorem putCerts_any (base : Nat) (v vc : Value) (bs : List UInt8) (l : List Crt) (w : World) (hown : BytesAt base w v bs) (hbase : base ≤ w.heap.size) (hv : ∀ wr, Kept base w wr → CrtsAt wr vc l) (hn : bs.length ≤ 1000) (hl : l.length ≤ 24) :
    Calls Try.prog 28 #[v, vc] w fun e w' => ∃ v', e = .returned v' ∧ BytesAt base w' v' (bs ++ certsL l) ∧ Kept base w w' := by
  obtain ⟨p, cap, rfl, _⟩ := id (hv w (Kept.refl _ _))
  have HV : Hid (∀ wr, Kept base w wr → CrtsAt wr (.slice p l.length cap) l) := hv
  clear hv
  go_enter Try.func28, Try.ntmps28
  go_wp2_with (go_at_call 26; refine (put_new base _ bs [(l.length : Int)] _ _ (hown.alloc _) ?_ (heap_alloc_new _ _) ?_).mono ?_; (simp; omega); (simp; omega); rintro e w1 ⟨v1, rfl, hown1, hk1⟩; have hk2 := kept1 hk1; clear hk1 hown)
  go_loopw [0, 14] (fun v i wr => ∃ k : Nat, k ≤ l.length ∧ i = .int .i64 k ∧ BytesAt base wr v (certsTo bs l k) ∧ Kept base w wr) (fun _ i _ => l.length - (intOf i).toNat)
  case atStart => exact ⟨0, Nat.zero_le _, rfl, by rw [certsTo_zero]; simpa using hown1, hk2⟩
  case round =>
    clear hown1 hk2
    obtain ⟨k, hk, rfl, hown, hb⟩ := hrel
    have hsz := hb.size
    by_cases hlt : k < l.length
    · obtain ⟨b, o, rfl, hc⟩ := (HV.out _ hb).cells (by omega)
      obtain ⟨hc1, hc2, hc3, hc4⟩ := hc k hlt
      have HS2 : Hid (certsTo bs l (k + 1) = certsTo bs l k ++ [(l[k]).c, (l[k]).b, (l[k]).h].map byteL ++ timeL (l[k]).u) := certsTo_succ bs l k hlt
      have hlen : (certsTo bs l k).length ≤ 1300 := by have := certsTo_length bs l k; omega
      clear hc
      generalize hout : certsTo bs l k = out at hown hlen
      have HO : Hid (certsTo bs l k = out) := hout
      clear hout
      generalize hcrt : l[k] = c at *
      go_wp2
      go_region_held3 (fun w' => w'.cell? ⟨wr.heap.size, 0, none⟩ = some (.int .i64 c.c) ∧ w'.cell? ⟨wr.heap.size, 1, none⟩ = some (.int .i64 c.b) ∧ w'.cell? ⟨wr.heap.size, 2, none⟩ = some (.int .i64 c.h) ∧ w'.cell? ⟨wr.heap.size, 3, none⟩ = some (.int .i64 c.u)) (go_keep)
        (first
          | (go_at_call 26; refine (put_new base _ out [c.c, c.b, c.h] _ _ (BytesAt.drew ((hown.alloc _).alloc _)) ?_ (heap2 _ _ _) ?_).mono ?_; (simp; omega); (simp; omega); rintro e w1 ⟨v1, rfl, hown1, hk1⟩; have hk3 := kept2 hk1; have hd0 := kept_box hk3 (by decide) 0; have hd1 := kept_box hk3 (by decide) 1; have hd2 := kept_box hk3 (by decide) 2; have hd3 := kept_box hk3 (by decide) 3; clear hk1)
          | (go_at_call 49; refine (putTime_any base _ _ _ _ hown1 ?_ ?_).mono ?_; (have := hk3.size; simp at this; omega); (simp; omega); rintro e w2 ⟨v2, rfl, hown2, hk2⟩; have hk6 := hk3.trans hk2; have hd0 := kept_box hk6 (by decide) 0; have hd1 := kept_box hk6 (by decide) 1; have hd2 := kept_box hk6 (by decide) 2; have hd3 := kept_box hk6 (by decide) 3; have hk7 := hb.trans (kept1 hk6); clear hk2 hk3 hk6))
      all_goals
        go_wp2
        go_roundw
        case rel =>
          have hfin : BytesAt base w2 v2 (certsTo bs l (k + 1)) := by rw [HS2.out, HO.out]; exact hown2
          first | exact ⟨k + 1, hlt, by go_num, hfin, hk7⟩ | ((repeat apply Exists.intro); exact ⟨⟨k + 1, hlt, by go_num, hfin, hk7⟩, rfl⟩)
        case measure => simp [intOf]; omega
    · have hkl : k = l.length := by omega
      subst hkl
      go_wp2
      go_ret
      exact ⟨_, rfl, by rw [← certsTo_all]; exact hown, hb⟩
end Go.Proofs.Ytagmnfghkfeplaa
