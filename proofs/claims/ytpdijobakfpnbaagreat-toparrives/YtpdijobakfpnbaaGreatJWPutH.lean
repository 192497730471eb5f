/- wire.putHead lays the head of a frame behind a list of bytes of the call, and turns nothing else. -/
import Derived.Test.YtpdijobakfpnbaaGreatJWPut
import Derived.Deep.RegionHeld3
import Derived.Laws.IdiomStrings
namespace Go.Proofs.YtpdijobakfpnbaaGreat
open Go.RowKit Go.Proofs.Parclose
theorem Kept.drew (base : Nat) (w : World) : Kept base w w.drew := ⟨rfl, rfl, rfl, Nat.le_refl _, fun _ _ _ => rfl⟩
theorem BytesAt.drew {base : Nat} {w : World} {v : Value} {bs : List UInt8} (h : BytesAt base w v bs) : BytesAt base w.drew v bs := h
theorem heap2 (w : World) (A B : Obj) : ((w.alloc A).alloc B).drew.heap[w.heap.size + 1]? = some B := by
 have h := heap_alloc_new (w.alloc A) B
 rw [QM] at h
 exact h
theorem kept2 {base : Nat} {w w1 : World} {A B : Obj} (h : Kept base ((w.alloc A).alloc B).drew w1) : Kept base (w.alloc A) w1 := (((Kept.refl _ _).alloc B).trans (Kept.drew _ _)).trans h
theorem kept2' {base : Nat} {w w1 : World} {A B : Obj} (h : Kept base ((w.alloc A).alloc B) w1) : Kept base (w.alloc A) w1 := ((Kept.refl _ _).alloc B).trans h
theorem kept1 {base : Nat} {w w1 : World} {A : Obj} (h : Kept base (w.alloc A) w1) : Kept base w w1 := ((Kept.refl _ _).alloc A).trans h
theorem Qa9 (base : Nat) (v : Value) (bs : List UInt8) (l : List Int) (n : Nat) (w : World) (hown : BytesAt base w v bs) (hbase : base ≤ w.heap.size) (hC : w.heap[n]? = some (.cells (l.map (Value.int .i64)).toArray 3 (0, 0))) (hn : bs.length + l.length ≤ 100000) :
 Calls Tryz.prog 191 #[v, .slice (some ⟨n, 0, none⟩) l.length l.length] w fun e w' => ∃ v', e = .returned v' ∧ BytesAt base w' v' (bs ++ l.map byteL) ∧ Kept base w w' := by
 refine Qi6 base v _ bs l w hown hbase (fun wr hk => ⟨_, _, rfl, ⟨Nat.le_refl _, fun h => by cases h⟩, by omega, fun _ => ⟨_, _, rfl, fun j hj => ?_⟩⟩) hn
 rw [Nat.zero_add, hk.cell (p := ⟨n, j, none⟩) hC (by decide)]
 simp [World.cell?, hC, hj]
set_option maxHeartbeats 1600000 in
theorem Qdo (base : Nat) (v vf : Value) (bs : List UInt8) (k : Int) (f : Frm) (w : World) (hown : BytesAt base w v bs) (hbase : base ≤ w.heap.size) (hv : FrmAt w vf f) (hn : bs.length ≤ 1000) :
 Calls Tryz.prog 190 #[v, .int .i64 k, vf] w fun e w' => ∃ v', e = .returned v' ∧ BytesAt base w' v' (bs ++ headL k f) ∧ Kept base w w' := by
 obtain ⟨vl, vg, vc, rfl, ⟨pl, cl, rfl, _⟩, ⟨pg, cg, rfl, _⟩, ⟨pc, cc, rfl, _⟩⟩ := hv
 unfold frmV
 have HH : Hid (bs ++ [k, f.fr, f.to].map byteL ++ timeL f.seq = bs ++ headL k f) := hid (by simp [headL])
 go_enter Tryz.func190, Tryz.ntmps190
 go_wp2
 go_region_held3 (fun w' => w'.cell? ⟨w.heap.size, 0, none⟩ = some (.int .i64 f.fr) ∧ w'.cell? ⟨w.heap.size, 1, none⟩ = some (.int .i64 f.to) ∧ w'.cell? ⟨w.heap.size, 2, none⟩ = some (.int .i64 f.seq)) (go_keep)
  (first
   | (go_at_call 191; refine (Qa9 base _ bs [k, f.fr, f.to] _ _ (BytesAt.drew ((hown.alloc _).alloc _)) ?_ (heap2 _ _ _) ?_).mono ?_; (simp; omega); (simp; omega); rintro e w1 ⟨v1, rfl, hown1, hk1⟩; have hk3 := kept2 hk1; have hd0 := Qq hk3 (by decide) 0; have hd1 := Qq hk3 (by decide) 1; have hd2 := Qq hk3 (by decide) 2; clear hk1)
   | (go_at_call 211; refine (Qdn base _ _ _ _ hown1 ?_ ?_).mono ?_; (have := hk3.size; simp at this; omega); (simp; omega); rintro e w2 ⟨v2, rfl, hown2, hk2⟩; have hk6 := hk3.trans hk2; have hd0 := Qq hk6 (by decide) 0; have hd1 := Qq hk6 (by decide) 1; have hd2 := Qq hk6 (by decide) 2; have hk5 := kept1 hk6; clear hk2 hk3 hk6))
 all_goals
  go_wp2
  go_ret
  exact ⟨_, rfl, by rw [← HH.out]; exact hown2, hk5⟩
def certsTo (bs : List UInt8) (l : List Crt) (k : Nat) : List UInt8 := bs ++ [byteL l.length] ++ (l.take k).flatMap certL
theorem QfO (bs : List UInt8) (l : List Crt) : certsTo bs l 0 = bs ++ [byteL l.length] := by simp [certsTo]
theorem QfP (bs : List UInt8) (l : List Crt) (k : Nat) (hk : k < l.length) : certsTo bs l (k + 1) = certsTo bs l k ++ [(l[k]).c, (l[k]).b, (l[k]).h].map byteL ++ timeL (l[k]).u := by
 unfold certsTo
 rw [List.take_succ_eq_append_getElem hk, List.flatMap_append]
 simp only [List.flatMap_cons, List.flatMap_nil, certL, List.append_assoc, List.append_nil, List.map_cons, List.map_nil]
theorem Qg9 (bs : List UInt8) (l : List Crt) : certsTo bs l l.length = bs ++ certsL l := by simp [certsTo, certsL]
theorem QeF (bs : List UInt8) (l : List Crt) (k : Nat) : (certsTo bs l k).length ≤ bs.length + 1 + 9 * l.length := by
 unfold certsTo
 have h : ∀ m : List Crt, (m.flatMap certL).length = 9 * m.length := fun m => by
  induction m with
  | nil => rfl
  | cons x r ih =>
   rw [List.flatMap_cons, List.length_append, ih]
   simp [certL, timeL]
   omega
 simp only [List.length_append, h, List.length_take]
 simp
 omega
set_option maxHeartbeats 3200000 in
theorem Qfz (base : Nat) (v vc : Value) (bs : List UInt8) (l : List Crt) (w : World) (hown : BytesAt base w v bs) (hbase : base ≤ w.heap.size) (hv : ∀ wr, Kept base w wr → CrtsAt wr vc l) (hn : bs.length ≤ 1000) (hl : l.length ≤ 24) :
 Calls Tryz.prog 193 #[v, vc] w fun e w' => ∃ v', e = .returned v' ∧ BytesAt base w' v' (bs ++ certsL l) ∧ Kept base w w' := by
 obtain ⟨p, cap, rfl, _⟩ := id (hv w (Kept.refl _ _))
 have HV : Hid (∀ wr, Kept base w wr → CrtsAt wr (.slice p l.length cap) l) := hv
 clear hv
 go_enter Tryz.func193, Tryz.ntmps193
 go_wp2_with (go_at_call 191; refine (Qa9 base _ bs [(l.length : Int)] _ _ (hown.alloc _) ?_ (heap_alloc_new _ _) ?_).mono ?_; (simp; omega); (simp; omega); rintro e w1 ⟨v1, rfl, hown1, hk1⟩; have hk2 := kept1 hk1; clear hk1 hown)
 go_loopw [0, 14] (fun v i wr => ∃ k : Nat, k ≤ l.length ∧ i = .int .i64 k ∧ BytesAt base wr v (certsTo bs l k) ∧ Kept base w wr) (fun _ i _ => l.length - (intOf i).toNat)
 case atStart => exact ⟨0, Nat.zero_le _, rfl, by rw [QfO]; simpa using hown1, hk2⟩
 case round =>
  clear hown1 hk2
  obtain ⟨k, hk, rfl, hown, hb⟩ := hrel
  have hsz := hb.size
  by_cases hlt : k < l.length
  · obtain ⟨b, o, rfl, hc⟩ := (HV.out _ hb).cells (by omega)
    obtain ⟨hc1, hc2, hc3, hc4⟩ := hc k hlt
    have HS2 : Hid (certsTo bs l (k + 1) = certsTo bs l k ++ [(l[k]).c, (l[k]).b, (l[k]).h].map byteL ++ timeL (l[k]).u) := QfP bs l k hlt
    have hlen : (certsTo bs l k).length ≤ 1300 := by have := QeF bs l k; omega
    clear hc
    generalize hout : certsTo bs l k = out at hown hlen
    have HO : Hid (certsTo bs l k = out) := hout
    clear hout
    generalize hcrt : l[k] = c at *
    go_wp2
    go_region_held3 (fun w' => w'.cell? ⟨wr.heap.size, 0, none⟩ = some (.int .i64 c.c) ∧ w'.cell? ⟨wr.heap.size, 1, none⟩ = some (.int .i64 c.b) ∧ w'.cell? ⟨wr.heap.size, 2, none⟩ = some (.int .i64 c.h) ∧ w'.cell? ⟨wr.heap.size, 3, none⟩ = some (.int .i64 c.u)) (go_keep)
     (first
      | (go_at_call 191; refine (Qa9 base _ out [c.c, c.b, c.h] _ _ (BytesAt.drew ((hown.alloc _).alloc _)) ?_ (heap2 _ _ _) ?_).mono ?_; (simp; omega); (simp; omega); rintro e w1 ⟨v1, rfl, hown1, hk1⟩; have hk3 := kept2 hk1; have hd0 := Qq hk3 (by decide) 0; have hd1 := Qq hk3 (by decide) 1; have hd2 := Qq hk3 (by decide) 2; have hd3 := Qq hk3 (by decide) 3; clear hk1)
      | (go_at_call 211; refine (Qdn base _ _ _ _ hown1 ?_ ?_).mono ?_; (have := hk3.size; simp at this; omega); (simp; omega); rintro e w2 ⟨v2, rfl, hown2, hk2⟩; have hk6 := hk3.trans hk2; have hd0 := Qq hk6 (by decide) 0; have hd1 := Qq hk6 (by decide) 1; have hd2 := Qq hk6 (by decide) 2; have hd3 := Qq hk6 (by decide) 3; have hk7 := hb.trans (kept1 hk6); clear hk2 hk3 hk6))
    all_goals
     go_wp2
     go_roundw
     case rel =>
      have hfin : BytesAt base w2 v2 (certsTo bs l (k + 1)) := by rw [HS2.out, HO.out]; exact hown2
      first | exact ⟨k + 1, hlt, by go_num, hfin, hk7⟩ | ((repeat apply Exists.intro); exact ⟨⟨k + 1, hlt, by go_num, hfin, hk7⟩, rfl⟩)
     case measure => simp [intOf]; omega
  · have hkl : k = l.length := by omega
    subst hkl
    go_wp2
    go_ret
    exact ⟨_, rfl, by rw [← Qg9]; exact hown, hb⟩
def levTo (bs : List UInt8) (l : List (Int × Int)) (k : Nat) : List UInt8 := bs ++ levelsL (l.take k)
theorem Qh7 (bs : List UInt8) (l : List (Int × Int)) : levTo bs l 0 = bs := by simp [levTo, levelsL]
theorem Qh8 (bs : List UInt8) (l : List (Int × Int)) (k : Nat) (hk : k < l.length) : levTo bs l (k + 1) = levTo bs l k ++ [(l[k]).1, (l[k]).2].map byteL := by
 unfold levTo levelsL
 rw [List.take_succ_eq_append_getElem hk, List.flatMap_append]
 simp only [List.flatMap_cons, List.flatMap_nil, List.append_assoc, List.append_nil, List.map_cons, List.map_nil]
theorem QjV (bs : List UInt8) (l : List (Int × Int)) : levTo bs l l.length = bs ++ levelsL l := by simp [levTo]
theorem QfC (bs : List UInt8) (l : List (Int × Int)) (k : Nat) : (levTo bs l k).length ≤ bs.length + 2 * l.length := by
 unfold levTo levelsL
 have h : ∀ m : List (Int × Int), (m.flatMap fun x => [byteL x.1, byteL x.2]).length = 2 * m.length := fun m => by
  induction m with
  | nil => rfl
  | cons x r ih =>
   rw [List.flatMap_cons, List.length_append, ih]
   simp
   omega
 simp only [List.length_append, h, List.length_take]
 omega
theorem QkA {base : Nat} {w : World} {v : Value} {n : Nat} {bs x : List UInt8} (hn : n = bs.length + x.length) (h : w.ownsRow base 5 1 v n (bs.map byteCell ++ Lib.strCells ⟨x.toArray⟩)) : BytesAt base w v (bs ++ x) := by
 unfold BytesAt
 rw [List.length_append, List.map_append, ← hn]
 exact h
theorem Kept.labs {w0 w : World} {v : Value} {l : List (Int × Int)} (h : LabAt w0 v l) (hk : Kept w0.heap.size w0 w) : LabAt w v l := h.below (hk.below (Nat.le_refl _))
theorem Kept.ints {w0 w : World} {v : Value} {l : List Int} (h : IntsAt w0 v l) (hk : Kept w0.heap.size w0 w) : IntsAt w v l := h.below (hk.below (Nat.le_refl _))
set_option maxHeartbeats 3200000 in
theorem Qgr (v vm : Value) (bs : List UInt8) (m : Mal) (w0 w : World) (hk0 : Kept w0.heap.size w0 w) (hown : BytesAt w0.heap.size w v bs) (hv : MalAt w0 vm m) (hn : bs.length ≤ 100) (hl8 : m.label.length ≤ 8) (hg8 : m.grants.length ≤ 8) (ht : m.text.length ≤ 64) :
 Calls Tryz.prog 192 #[v, vm] w fun e w' => ∃ v', e = .returned v' ∧ BytesAt w0.heap.size w' v' (bs ++ mailL m) ∧ Kept w0.heap.size w w' := by
 obtain ⟨vl, vg, rfl, hl, hg⟩ := hv
 obtain ⟨pl, cl, rfl, _⟩ := id hl
 obtain ⟨pg, cg, rfl, _⟩ := id hg
 unfold malV
 have hsz0 := hk0.size
 obtain ⟨i0, hi, hz0, hz1, hz2⟩ := Qei Qfe
 have HM : Hid (bs ++ mailL m = levTo (bs ++ [m.thread, (m.label.length : Int)].map byteL) m.label m.label.length ++ [(m.grants.length : Int)].map byteL ++ m.grants.map byteL ++ [(m.text.length : Int)].map byteL ++ m.text) := hid (by
  rw [QjV]
  simp [mailL])
 go_enter Tryz.func192, Tryz.ntmps192
 go_wp2_with fail
 refine (Qa9 w0.heap.size _ bs [m.thread, (m.label.length : Int)] _ _ ((hown.alloc _).alloc _) (by simp; omega) (heap2 _ _ _) (by simp; omega)).mono ?_
 rintro e w1 ⟨v1, rfl, hown1, hk1⟩
 have hB1 := kept2' hk1
 have hd2 := Qq hB1 (by decide) 2
 clear hk1 hown
 go_wp2
 go_loopw [0, 18] (fun v i wr => ∃ k : Nat, k ≤ m.label.length ∧ i = .int .i64 k ∧ BytesAt w0.heap.size wr v (levTo (bs ++ [m.thread, (m.label.length : Int)].map byteL) m.label k) ∧ Kept w0.heap.size (w.alloc (.cells #[.int .i64 m.host, .int .i64 m.thread, .slice pl m.label.length cl, .slice pg m.grants.length cg, .string ⟨m.text.toArray⟩] 50)) wr) (fun _ i _ => m.label.length - (intOf i).toNat)
 case atStart => exact ⟨0, Nat.zero_le _, rfl, by rw [Qh7]; exact hown1, hB1⟩
 case round =>
  clear hown1 hB1 hd2
  obtain ⟨k, hk, rfl, hown, hB⟩ := hrel
  have hkw := kept1 hB
  have hk0r := hk0.trans hkw
  have hszr := hk0r.size
  have hlen : (levTo (bs ++ [m.thread, (m.label.length : Int)].map byteL) m.label k).length ≤ 118 := by have := QfC (bs ++ [m.thread, (m.label.length : Int)].map byteL) m.label k; simp only [List.length_append, List.length_map, List.length_cons, List.length_nil] at this; omega
  by_cases hlt : k < m.label.length
  · obtain ⟨b, o, rfl, hc⟩ := (Kept.labs hl hk0r).cells (by omega)
    obtain ⟨hc1, hc2⟩ := hc k hlt
    have HS2 : Hid (levTo (bs ++ [m.thread, (m.label.length : Int)].map byteL) m.label (k + 1) = levTo (bs ++ [m.thread, (m.label.length : Int)].map byteL) m.label k ++ [(m.label[k]).1, (m.label[k]).2].map byteL) := Qh8 _ m.label k hlt
    clear hc
    generalize hout : levTo (bs ++ [m.thread, (m.label.length : Int)].map byteL) m.label k = out at hown hlen
    have HO : Hid (levTo (bs ++ [m.thread, (m.label.length : Int)].map byteL) m.label k = out) := hout
    clear hout
    have HB : Hid (Kept w0.heap.size (w.alloc (.cells #[.int .i64 m.host, .int .i64 m.thread, .slice (some ⟨b, o, none⟩) m.label.length cl, .slice pg m.grants.length cg, .string ⟨m.text.toArray⟩] 50)) wr) := hB
    clear hB
    go_wp2_with fail
    refine (Qa9 w0.heap.size _ out [(m.label[k]).1, (m.label[k]).2] _ _ ((hown.alloc _).alloc _) (by simp; omega) (heap2 _ _ _) (by simp; omega)).mono ?_
    rintro e w2 ⟨v2, rfl, hown2, hk2⟩
    have hB2 := HB.out.trans (kept1 (kept2' hk2))
    clear hk2
    go_wp2
    go_roundw
    case rel =>
     have hfin : BytesAt w0.heap.size w2 v2 (levTo (bs ++ [m.thread, (m.label.length : Int)].map byteL) m.label (k + 1)) := by rw [HS2.out, HO.out]; exact hown2
     first | exact ⟨k + 1, hlt, by go_num, hfin, hB2⟩ | ((repeat apply Exists.intro); exact ⟨⟨k + 1, hlt, by go_num, hfin, hB2⟩, rfl⟩)
    case measure => simp [intOf]; omega
  · have hkl : k = m.label.length := by omega
    subst hkl
    generalize hout : levTo (bs ++ [m.thread, (m.label.length : Int)].map byteL) m.label m.label.length = out at hown hlen
    have HM2 : Hid (bs ++ mailL m = out ++ [(m.grants.length : Int)].map byteL ++ m.grants.map byteL ++ [(m.text.length : Int)].map byteL ++ m.text) := hid (by rw [← hout]; exact HM.out)
    clear hout HM
    have hd3 := Qq hB (by decide) 3
    go_wp2_with fail
    refine (Qa9 w0.heap.size _ out [(m.grants.length : Int)] _ _ (hown.alloc _) (by simp; omega) (heap_alloc_new _ _) (by simp; omega)).mono ?_
    rintro e w2 ⟨v2, rfl, hown2, hk2⟩
    have hB2 := hB.trans (kept1 hk2)
    have hd3b := Qq hB2 (by decide) 3
    have hk02 := hk0.trans (kept1 hB2)
    clear hk2 hd3 hB
    go_wp2_with fail
    refine (Qi6 w0.heap.size _ _ _ m.grants _ hown2 hk02.size (fun wr hkr => Kept.ints hg (hk02.trans hkr)) (by simp; omega)).mono ?_
    rintro e w3 ⟨v3, rfl, hown3, hk3⟩
    have hB3 := hB2.trans hk3
    have hd4 := Qq hB3 (by decide) 4
    have hk03 := (hk0.trans (kept1 hB3)).size
    clear hk3 hd3b hB2
    go_wp2_with fail
    refine (Qa9 w0.heap.size _ _ [(m.text.length : Int)] _ _ (hown3.alloc _) (by simp; omega) (heap_alloc_new _ _) (by simp; omega)).mono ?_
    rintro e w4 ⟨v4, rfl, hown4, hk4⟩
    have hB4 := hB3.trans (kept1 hk4)
    have hd4b := Qq hB4 (by decide) 4
    have hk04 := (hk0.trans (kept1 hB4)).size
    clear hk4 hd4 hB3
    have hlen4 : (out ++ [(m.grants.length : Int)].map byteL ++ m.grants.map byteL ++ [(m.text.length : Int)].map byteL).length ≤ 200 := by simp; omega
    generalize hout4 : out ++ [(m.grants.length : Int)].map byteL ++ m.grants.map byteL ++ [(m.text.length : Int)].map byteL = out4 at hown4 hlen4
    have HM3 : Hid (bs ++ mailL m = out4 ++ m.text) := hid (by rw [← hout4]; exact HM2.out)
    clear hout4 HM2
    go_wp2_with (at_builtin; refine Lib.wpList_append_own_string _ rfl _ _ 186 9 rfl w0.heap.size 5 i0 Tryz.underlying186 Tryz.underlying9 hi hz0 hz1 hz2 _ _ _ rfl hown4 ⟨m.text.toArray⟩ rfl (by simp [ByteArray.size, maxLen]; omega) (by simp [ByteArray.size]; omega) hk04 ?_; intro v5 w5 hown5 hgrow5 hnil5)
    go_ret
    exact ⟨_, rfl, by rw [HM3.out]; exact QkA rfl hown5, (kept1 hB4).grown hown4 hgrow5⟩
theorem Qcl {base : Nat} {w : World} {v : Value} {bs : List UInt8} (h : BytesAt base w v bs) (h0 : bs ≠ []) : (convert 186 9 v).run Tryz.prog w = .ok (.string ⟨bs.toArray⟩) w := by
 obtain ⟨hlen, h⟩ := h
 rcases h with ⟨_, h⟩ | ⟨g, cap, cur, rfl, hb, hh, h1, h2, h3, h4⟩
 · exact absurd (List.length_eq_zero_iff.1 h) h0
 · refine run_convert_bytes_back w 186 9 5 ⟨g, 0, none⟩ cap bs Tryz.underlying186 Tryz.underlying5 Tryz.underlying9 (fun j hj => ?_)
   have g1 : (bs.map byteCell)[j]? = some (byteCell bs[j]) := by simp [hj]
   rw [← h4, List.getElem?_take_of_lt (by omega)] at g1
   rw [WideShapes.add_plain]
   simp only [World.cell?, hh, Nat.zero_add]
   simpa [byteCell] using g1
def encE (f : Frm) : List UInt8 := if frameE f = 0 then encL f else []
set_option maxHeartbeats 3200000 in
theorem Qiw (v : Value) (f : Frm) (w : World) (hv : FrmAt w v f) :
 Calls Tryz.prog 148 #[v] w fun e w' => e = .returned (.tuple #[.string ⟨(encE f).toArray⟩, .int .i64 (frameE f)]) ∧ Below w.heap.size w w' := by
 have hv0 := hv
 obtain ⟨vl, vg, vc, rfl, hl, hg, hc⟩ := hv
 have hm := Qcs hl hg
 obtain ⟨pl, cl, rfl, _⟩ := id hl
 obtain ⟨pg, cg, rfl, _⟩ := id hg
 obtain ⟨pc, cc, rfl, _⟩ := id hc
 have hgood := fun wx (h : Below w.heap.size w wx) => QeV _ f wx (hv0.below h)
 have HV : Hid (FrmAt w (frmV f (.slice pl f.mail.label.length cl) (.slice pg f.mail.grants.length cg) (.slice pc f.certs.length cc)) f) := hv0
 unfold frmV at hgood HV ⊢
 clear hv0
 by_cases h0 : frameE f = 0
 rotate_left
 · have HE : Hid (encE f = []) := hid (by unfold encE; rw [if_neg h0])
   have hne : (frameE f != 0) = true := by simpa using h0
   clear h0
   go_enter Tryz.func148, Tryz.ntmps148
   go_wp2_with (go_at_call 141; refine (hgood _ (Qd _ _)).mono ?_; rintro e w1 ⟨rfl, hw1⟩)
   go_ret2
   exact ⟨by rw [HE.out]; rfl, Qc (Qd _ _) hw1⟩
 have hne : (frameE f != 0) = false := by simpa using h0
 have hencE : encE f = encL f := by unfold encE; rw [if_pos h0]
 have HF : Hid (frameE f = 0) := h0
 have hencL : encL f = if f.ack then headL 1 f else headL 0 f ++ [byteL f.thread] ++ mailL f.mail ++ certsL f.certs := rfl
 cases ha : f.ack with
 | true =>
  have HE : Hid (encE f = headL 1 f) := hid (by rw [hencE, hencL, ha]; rfl)
  clear h0 hencE hencL
  rw [ha] at hgood HV
  go_enter Tryz.func148, Tryz.ntmps148
  go_wp2_with (go_at_call 141; refine (hgood _ (Qd _ _)).mono ?_; rintro e w1 ⟨rfl, hw1⟩; have hB1 : Kept w.heap.size _ w1 := Kept.of_below hw1; have hd0 := Qq hB1 (by decide) 0; have hd1 := Qq hB1 (by decide) 1; have hd2 := Qq hB1 (by decide) 2; have hd3 := Qq hB1 (by decide) 3; have hd4 := Qq hB1 (by decide) 4; have hd5 := Qq hB1 (by decide) 5; have hd6 := Qq hB1 (by decide) 6; have hd7 := Qq hB1 (by decide) 7; have hd8 := Qq hB1 (by decide) 8; have hd9 := Qq hB1 (by decide) 9; have hd10 := Qq hB1 (by decide) 10; have hb1 := Qc (Qd _ _) hw1; clear hw1 hB1)
  go_wp2_with fail
  refine (Qdo w.heap.size _ _ [] 1 f _ (BytesAt.nil _ _) hb1.size (HV.out.below hb1) (by simp)).mono ?_
  rintro e w2 ⟨v2, rfl, hown2, hk2⟩
  rw [List.nil_append] at hown2
  have hcv := Qcl hown2 (by simp [headL])
  have hfin : Below w.heap.size w w2 := ((Kept.of_below hb1).trans hk2).below (Nat.le_refl _)
  clear hown2 hk2
  go_wp2
  go_ret2
  refine ⟨?_, hfin⟩
  show Ending.returned (.tuple #[.string ⟨(headL 1 f).toArray⟩, .int .i64 0]) = _
  rw [HE.out, HF.out]
 | false =>
  have HE : Hid (encE f = headL 0 f ++ [byteL f.thread] ++ mailL f.mail ++ certsL f.certs) := hid (by rw [hencE, hencL, ha]; rfl)
  obtain ⟨hld, hhost, hcs⟩ := Qeg (f := f) (by
   unfold frameE at h0
   split at h0
   · rw [ha] at h0; exact h0
   · simp at h0)
  obtain ⟨_, _, hgl, hgg, htx⟩ := Qef hld
  have hl8 : f.mail.label.length ≤ 8 := (of_decide_eq_true hgl).1
  have hg8 : f.mail.grants.length ≤ 8 := ((QbS _).1 hgg).1
  have hc24 := (Qdy hcs).1
  have HH : Hid (f.mail.host = f.fr) := hhost
  clear h0 hencE hencL hld hhost hcs hgl hgg
  rw [ha] at hgood HV
  go_enter Tryz.func148, Tryz.ntmps148
  go_wp2_with (go_at_call 141; refine (hgood _ (Qd _ _)).mono ?_; rintro e w1 ⟨rfl, hw1⟩; have hB1 : Kept w.heap.size _ w1 := Kept.of_below hw1; have hd0 := Qq hB1 (by decide) 0; have hd1 := Qq hB1 (by decide) 1; have hd2 := Qq hB1 (by decide) 2; have hd3 := Qq hB1 (by decide) 3; have hd4 := Qq hB1 (by decide) 4; have hd5 := Qq hB1 (by decide) 5; have hd6 := Qq hB1 (by decide) 6; have hd7 := Qq hB1 (by decide) 7; have hd8 := Qq hB1 (by decide) 8; have hd9 := Qq hB1 (by decide) 9; have hd10 := Qq hB1 (by decide) 10; have hb1 := Qc (Qd _ _) hw1; clear hw1)
  go_wp2_with fail
  refine (Qdo w.heap.size _ _ [] 0 f _ (BytesAt.nil _ _) hb1.size (HV.out.below hb1) (by simp)).mono ?_
  rintro e w2 ⟨v2, rfl, hown2, hk2⟩
  rw [List.nil_append] at hown2
  have hB2 := hB1.trans hk2
  have hk02 := kept1 hB2
  have hs2 := hk02.size
  clear hk2 hd0 hd1 hd2 hd3 hd4 hd5 hd6 hd7 hd8 hd9 hd10 hB1
  have hd4 := Qq hB2 (by decide) 4
  go_wp2_with fail
  refine (Qa9 w.heap.size _ _ [f.thread] _ _ (hown2.alloc _) (by simp; omega) (heap_alloc_new _ _) (by simp [headL, timeL])).mono ?_
  rintro e w3 ⟨v3, rfl, hown3, hk3⟩
  have hB3 := hB2.trans (kept1 hk3)
  have hk03 := kept1 hB3
  have hs3 := hk03.size
  clear hk3 hd4 hB2 hown2 hk02
  have hd5 := Qq hB3 (by decide) 5
  have hd6 := Qq hB3 (by decide) 6
  have hd7 := Qq hB3 (by decide) 7
  have hd8 := Qq hB3 (by decide) 8
  have hd9 := Qq hB3 (by decide) 9
  go_wp2_with fail
  refine (Qgr _ _ _ f.mail w _ hk03 hown3 hm (by simp [headL, timeL]) hl8 hg8 htx).mono ?_
  rintro e w4 ⟨v4, rfl, hown4, hk4⟩
  have hB4 := hB3.trans hk4
  have hk04 := kept1 hB4
  have hs4 := hk04.size
  clear hk4 hd5 hd6 hd7 hd8 hd9 hB3 hown3 hk03
  have hd10 := Qq hB4 (by decide) 10
  have hlen4 : (headL 0 f ++ [f.thread].map byteL ++ mailL f.mail).length ≤ 1000 := by
   have h : ∀ q : List (Int × Int), (levelsL q).length = 2 * q.length := fun q => by
    unfold levelsL
    induction q with
    | nil => rfl
    | cons x r ih => rw [List.flatMap_cons, List.length_append, ih]; simp; omega
   simp [headL, timeL, mailL, h]
   omega
  go_wp2_with fail
  refine (Qfz w.heap.size _ _ _ f.certs _ hown4 hs4 (fun wr hkr => hc.below ((hk04.trans hkr).below (Nat.le_refl _))) hlen4 hc24).mono ?_
  rintro e w5 ⟨v5, rfl, hown5, hk5⟩
  have hk05 := hk04.trans hk5
  have hcv := Qcl hown5 (by simp [headL])
  have hfin : Below w.heap.size w w5 := hk05.below (Nat.le_refl _)
  have HE2 : Hid (encE f = headL 0 f ++ [f.thread].map byteL ++ mailL f.mail ++ certsL f.certs) := HE.out
  clear hown5 hk5 hB4 hd10 hown4 hk04 hk05
  go_wp2
  go_ret2
  refine ⟨?_, hfin⟩
  show Ending.returned (.tuple #[.string ⟨(headL 0 f ++ byteL f.thread :: (mailL f.mail ++ certsL f.certs)).toArray⟩, .int .i64 0]) = _
  rw [HE2.out, HF.out]
  simp
end Go.Proofs.YtpdijobakfpnbaaGreat
