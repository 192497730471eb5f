/- Parts of what came in: labels, lists of numbers, and what a struct's parts weigh. -/
import Derived.Test.YtpdijobakfpnbaaQWMem
import Derived.Test.YtpdijobakfpnbaaQView
import Derived.Lib.SmallJoins
import Derived.Deep.Slices
namespace Go.Proofs.Ytpdijobakfpnbaa
open Go.ChangeShapes Go.WideShapes Go.ChangeAt Go.RowKit Go.Deep Go.Joins Go.Proofs.Parclose
theorem cellsMail : Try.prog.cellsOf 42 = 5 := by kernel_rfl
theorem cellsLabel : Try.prog.cellsOf 30 = 1 := by kernel_rfl
theorem cellsInts : Try.prog.cellsOf 31 = 1 := by kernel_rfl
theorem cellsString : Try.prog.cellsOf 9 = 1 := by kernel_rfl
theorem list5 {α : Type} {l : List α} (h : l.length = 5) : ∃ c0 c1 c2 c3 c4, l = [c0, c1, c2, c3, c4] := by
 match l, h with
 | [c0, c1, c2, c3, c4], _ => exact ⟨c0, c1, c2, c3, c4, rfl⟩
theorem QbM {H : Type} {ts : List TypeId} {ds : List (DataW H)} (h : (DataW.weightsEach Try.prog ts ds).all (· ≤ reachBytes) = true) {j : Nat} {t : TypeId} {fs : Array Field} {parts : List (DataW H)} (ht : ts[j]? = some t) (hd : ds[j]? = some (.agg parts)) (hu : Try.prog.underlying t = some (.struct fs)) :
 (DataW.weightsEach Try.prog (fs.toList.map (·.type)) parts).all (· ≤ reachBytes) = true := by
 rw [List.all_eq_true] at h ⊢
 intro n hn
 exact h n (DataW.weights_mem_each ht hd n (by simpa [DataW.weights, hu] using hn))
set_option maxRecDepth 100000 in
theorem Qcz {H : Type} {enc : TypeId × Value → H} {W : World} {v : Value} {y : DataW H × List MemPlace} {fuel : Nat}
 (hf : DataW.trod enc Try.prog W 0 (fun _ => true) true fuel 30 [v] = some y) (hs : ∀ elems spare, y.1 = .slice elems spare → (elems.length + spare.length) * 16 ≤ reachBytes) : ∃ l, LabAt W v l ∧ WfL l := by
 rcases open_slice_pairs Try.underlying30 Try.underlying86 cellsLevel rfl rfl cellsInt cellsInt hf with ⟨hcs, hx⟩ | ⟨a, len, cap, m, n, V0, V1, D0, D1, P0, P1, hcs, _, hl, hm, hmm, hx, hcell⟩
 · cases hcs
   exact ⟨[], LabAt.nil W none 0 (fun _ => rfl), fun x hx => by cases hx⟩
 · cases hcs
   obtain ⟨y1, y2⟩ := y
   simp only [Prod.mk.injEq] at hx
   obtain ⟨hd, _⟩ := hx
   simp only [if_true] at hmm
   subst hmm
   have hcap := hs _ _ hd
   simp only [List.length_map, List.length_range, reachBytes] at hcap
   have each : ∀ i, i < m → ∃ q : Int × Int, W.cell? (a.add (i * 2)) = some (.int .i64 q.1) ∧ W.cell? (a.add (i * 2 + 1)) = some (.int .i64 q.2) ∧ (Lit.int .i64 q.1).wf = true ∧ (Lit.int .i64 q.2).wf = true := by
    intro i hi
    obtain ⟨h1, h2, h3, h4⟩ := hcell i hi
    obtain ⟨x, e1, _, wx⟩ := DataW.trod_int Try.underlying3 h3
    obtain ⟨y, e2, _, wy⟩ := DataW.trod_int Try.underlying3 h4
    simp only [List.cons.injEq, and_true] at e1 e2
    exact ⟨(x, y), by rw [h1, e1], by rw [h2, e2], wx, wy⟩
   obtain ⟨q, hq⟩ := choose_lt each
   refine ⟨(List.range len).map q, ⟨some a, m, by simp, ⟨by simpa using hl, fun h => by cases h⟩, by simp; omega, fun h0 => ?_⟩, ?_⟩
   rotate_left
   · intro x hx
     obtain ⟨i, hi, e⟩ := List.mem_map.1 hx
     subst e
     exact ⟨(hq i (by have := List.mem_range.1 hi; omega)).2.2.1, (hq i (by have := List.mem_range.1 hi; omega)).2.2.2⟩
   simp only [List.length_map, List.length_range] at h0
   obtain ⟨b, off, spot⟩ := a
   have hspot : spot = none := by simpa [Addr.add] using World.cell?_spot (hq 0 (by omega)).1
   subst hspot
   refine ⟨b, off, rfl, fun j hj => ?_⟩
   simp only [List.length_map, List.length_range] at hj
   obtain ⟨h1, h2, _⟩ := hq j (by omega)
   rw [add_plain] at h1 h2
   refine ⟨by simpa using h1, by rw [Nat.add_assoc]; simpa using h2⟩
set_option maxRecDepth 100000 in
theorem QbY {H : Type} {enc : TypeId × Value → H} {W : World} {v : Value} {y : DataW H × List MemPlace} {fuel : Nat}
 (hf : DataW.trod enc Try.prog W 0 (fun _ => true) true fuel 31 [v] = some y) (hs : ∀ elems spare, y.1 = .slice elems spare → (elems.length + spare.length) * 8 ≤ reachBytes) : ∃ zs, IntsAt W v zs ∧ ∀ z ∈ zs, (Lit.int .i64 z).wf = true := by
 rcases open_ints Try.underlying31 Try.underlying3 cellsInt hf with ⟨hcs, hx⟩ | ⟨a, len, cap, zs, hcs, _, hl, hm, hz, hx, hcell, hwz⟩
 · cases hcs
   exact ⟨[], IntsAt.nil W none 0 (fun _ => rfl), fun z hz => by cases hz⟩
 · cases hcs
   obtain ⟨y1, y2⟩ := y
   simp only [Prod.mk.injEq] at hx
   obtain ⟨hd, _⟩ := hx
   simp only [if_true] at hz
   have hcap := hs _ _ hd
   simp only [lits, List.length_map, List.length_take, List.length_drop, reachBytes] at hcap
   refine ⟨zs.take len, ⟨some a, cap, by simp; omega, ⟨by simp; omega, fun h => by cases h⟩, by simp; omega, fun h0 => ?_⟩, fun z hz2 => hwz z (List.mem_of_mem_take hz2)⟩
   simp only [List.length_take] at h0
   obtain ⟨b, off, spot⟩ := a
   have hspot : spot = none := by simpa [Addr.add] using World.cell?_spot (hcell 0 (by omega))
   subst hspot
   refine ⟨b, off, rfl, fun j hj => ?_⟩
   simp only [List.length_take] at hj
   have h1 := hcell j (by omega)
   rw [add_plain] at h1
   rw [h1]
   have hj2 : j < zs.length := by omega
   simp [List.getD, hj2]
theorem cellsOrder : Try.prog.cellsOf 44 = 15 := by kernel_rfl
theorem cellsCallS : Try.prog.cellsOf 40 = 8 := by kernel_rfl
theorem list4s {α : Type} {l : List α} (h : l.length = 4) : ∃ c0 c1 c2 c3, l = [c0, c1, c2, c3] := by
 match l, h with
 | [c0, c1, c2, c3], _ => exact ⟨c0, c1, c2, c3, rfl⟩
theorem list8s {α : Type} {l : List α} (h : l.length = 8) : ∃ c0 c1 c2 c3 c4 c5 c6 c7, l = [c0, c1, c2, c3, c4, c5, c6, c7] := by
 match l, h with
 | [c0, c1, c2, c3, c4, c5, c6, c7], _ => exact ⟨c0, c1, c2, c3, c4, c5, c6, c7, rfl⟩
theorem list15s {α : Type} {l : List α} (h : l.length = 15) : ∃ c0 c1 c2 c3 c4 c5 c6 c7 c8 c9 c10 c11 c12 c13 c14, l = [c0, c1, c2, c3, c4, c5, c6, c7, c8, c9, c10, c11, c12, c13, c14] := by
 match l, h with
 | [c0, c1, c2, c3, c4, c5, c6, c7, c8, c9, c10, c11, c12, c13, c14], _ => exact ⟨c0, c1, c2, c3, c4, c5, c6, c7, c8, c9, c10, c11, c12, c13, c14, rfl⟩
set_option maxRecDepth 100000 in
set_option maxHeartbeats 1600000 in
theorem Qdt {H : Type} {enc : TypeId × Value → H} {W : World} {cs : List Value} {y : DataW H × List MemPlace} {fuel : Nat} (hlen : cs.length = 15)
 (hf : DataW.trod enc Try.prog W 0 (fun _ => true) true fuel 44 cs = some y) (hw : (DataW.weights Try.prog 44 y.1).all (· ≤ reachBytes) = true) :
 ∃ (x : Odr) (vl vg ml mg : Value), cs = [.int .i64 x.kind, .int .i64 x.t, .int .i64 x.call.kind, .int .i64 x.call.h, .int .i64 x.call.t, .int .i64 x.call.n, .int .i64 x.call.c, vl, vg, .string ⟨x.call.text.toArray⟩, .int .i64 x.mail.host, .int .i64 x.mail.thread, ml, mg, .string ⟨x.mail.text.toArray⟩] ∧ LabAt W vl x.call.label ∧ IntsAt W vg x.call.grants ∧ LabAt W ml x.mail.label ∧ IntsAt W mg x.mail.grants ∧ x.call.text.length ≤ 140737488351232 := by
 obtain ⟨d0, d1, d2, d3, d4, d5, d6, d7, d8, d9, d10, d11, d12, d13, d14, rfl⟩ := list15s hlen
 obtain ⟨xs, n, _, hx, _, hl, hg⟩ := DataW.trod_struct Try.underlying44 hf
 obtain ⟨y0, y1, y2, y3, rfl⟩ := list4s hl
 have g0 := hg 0 _ rfl
 have g1 := hg 1 _ rfl
 have g2 := hg 2 _ rfl
 have g3 := hg 3 _ rfl
 simp [cellsInt, cellsMail, cellsCallS] at g0 g1 g2 g3
 have hE : (DataW.weightsEach Try.prog [44] [y.1]).all (· ≤ reachBytes) = true := by simpa [DataW.weightsEach] using hw
 have hsz := QbM (j := 0) hE rfl (by rw [hx]; rfl) Try.underlying44
 obtain ⟨n0, e0, _⟩ := DataW.trod_int Try.underlying3 g0
 obtain ⟨n1, e1, _⟩ := DataW.trod_int Try.underlying3 g1
 obtain ⟨zs, k, _, hz, _, hzl, hc⟩ := DataW.trod_struct Try.underlying40 g2
 obtain ⟨z0, z1, z2, z3, z4, z5, z6, z7, rfl⟩ := list8s hzl
 have m0 := hc 0 _ rfl
 have m1 := hc 1 _ rfl
 have m2 := hc 2 _ rfl
 have m3 := hc 3 _ rfl
 have m4 := hc 4 _ rfl
 have m5 := hc 5 _ rfl
 have m6 := hc 6 _ rfl
 have m7 := hc 7 _ rfl
 simp [cellsInt, cellsLabel, cellsInts, cellsString] at m0 m1 m2 m3 m4 m5 m6 m7
 have hszC := QbM (j := 2) hsz rfl (by rw [hz]; rfl) Try.underlying40
 obtain ⟨us, k', _, hu, _, hul, hm⟩ := DataW.trod_struct Try.underlying42 g3
 obtain ⟨u0, u1, u2, u3, u4, rfl⟩ := list5 hul
 have q0 := hm 0 _ rfl
 have q1 := hm 1 _ rfl
 have q2 := hm 2 _ rfl
 have q3 := hm 3 _ rfl
 have q4 := hm 4 _ rfl
 simp [cellsInt, cellsLabel, cellsInts, cellsString] at q0 q1 q2 q3 q4
 have hszM := QbM (j := 3) hsz rfl (by rw [hu]; rfl) Try.underlying42
 obtain ⟨a0, f0, _⟩ := DataW.trod_int Try.underlying3 m0
 obtain ⟨a1, f1, _⟩ := DataW.trod_int Try.underlying3 m1
 obtain ⟨a2, f2, _⟩ := DataW.trod_int Try.underlying3 m2
 obtain ⟨a3, f3, _⟩ := DataW.trod_int Try.underlying3 m3
 obtain ⟨a4, f4, _⟩ := DataW.trod_int Try.underlying3 m4
 obtain ⟨a7, f7, e7, _⟩ := DataW.trod_string Try.underlying9 m7
 have hs7 : a7.data.toList.length ≤ reachBytes := sized_string hszC (j := 7) (t := 9) rfl (by rw [e7]; rfl)
 obtain ⟨b0, h0, _⟩ := DataW.trod_int Try.underlying3 q0
 obtain ⟨b1, h1, _⟩ := DataW.trod_int Try.underlying3 q1
 obtain ⟨b4, h4, _⟩ := DataW.trod_string Try.underlying9 q4
 simp only [List.cons.injEq, and_true] at e0 e1 f0 f1 f2 f3 f4 f7 h0 h1 h4
 subst e0 e1 f0 f1 f2 f3 f4 f7 h0 h1 h4
 obtain ⟨l5, hl5, _⟩ := Qcz m5 fun elems spare e => by
  have := sized_slice hszC (j := 5) (t := 30) (e := 86) rfl (by rw [← e]; rfl) Try.underlying30
  rwa [bytesLevel] at this
 obtain ⟨l6, hl6, _⟩ := QbY m6 fun elems spare e => by
  have := sized_slice hszC (j := 6) (t := 31) (e := 3) rfl (by rw [← e]; rfl) Try.underlying31
  rwa [bytesInt] at this
 obtain ⟨l2, hl2, _⟩ := Qcz q2 fun elems spare e => by
  have := sized_slice hszM (j := 2) (t := 30) (e := 86) rfl (by rw [← e]; rfl) Try.underlying30
  rwa [bytesLevel] at this
 obtain ⟨l3, hl3, _⟩ := QbY q3 fun elems spare e => by
  have := sized_slice hszM (j := 3) (t := 31) (e := 3) rfl (by rw [← e]; rfl) Try.underlying31
  rwa [bytesInt] at this
 exact ⟨⟨n0, n1, ⟨a0, a1, a2, a3, a4, l5, l6, a7.data.toList⟩, ⟨b0, b1, l2, l3, b4.data.toList⟩⟩, d7, d8, d12, d13, rfl, hl5, hl6, hl2, hl3, hs7⟩
theorem Qba {H : Type} {e : TypeId} {n : Nat} : ∀ {l : List (DataW H)} {i : Nat} (hi : i < l.length), n ∈ DataW.weights Try.prog e l[i] → n ∈ DataW.weightsAll Try.prog e l
 | x :: r, 0, _, h => by
  simp only [DataW.weightsAll, List.mem_append]
  exact Or.inl h
 | x :: r, i + 1, hi, h => by
  simp only [DataW.weightsAll, List.mem_append]
  exact Or.inr (Qba (l := r) (i := i) (by simpa using hi) h)
set_option maxRecDepth 100000 in
set_option maxHeartbeats 800000 in
theorem QdT {H : Type} {enc : TypeId × Value → H} {W : World} {base : Nat} {v : Value} {d : DataW H} {p : List MemPlace} {ts : List TypeId} {ds : List (DataW H)} {j : Nat} (hv : Value.okWide Try.prog W .any base 22 v)
 (h : DataW.Trod enc Try.prog W 0 (fun _ => true) true 22 v d p) (hsz : (DataW.weightsEach Try.prog ts ds).all (· ≤ reachBytes) = true) (ht : ts[j]? = some 22) (hd : ds[j]? = some d) : ∃ l, OdrsAt W v l := by
 obtain ⟨a0, len0, cap0, rfl⟩ := okWide_slice Try.underlying22 hv
 obtain ⟨fuel, hf⟩ := h
 simp only [Value.cells] at hf
 rcases open_slice Try.underlying22 hf with ⟨hcs, hx⟩ | ⟨a, len, cap, m, n, D, Pl, hcs, _, hl, hm, hmm, hx, hcell⟩
 · cases hcs
   exact ⟨[], none, 0, rfl, ⟨Nat.le_refl _, fun _ => rfl⟩, Nat.zero_le _, fun h => absurd h (by simp)⟩
 · cases hcs
   simp only [Prod.mk.injEq] at hx
   obtain ⟨hd1, _⟩ := hx
   simp only [if_true] at hmm
   subst hmm
   have hlenb := sized_slice hsz (j := j) (t := 22) (e := 44) ht (by rw [hd, hd1]) Try.underlying22
   have hbS : 1 ≤ Try.prog.bytesOf 44 := of_decide_eq_true (by kernel_rfl)
   have hall := List.all_eq_true.1 hsz
   have hbnd : len0 ≤ 140737488355328 := by
    simp only [List.length_map, List.length_range, reachBytes] at hlenb
    have h1 : len0 + (m - len0) ≤ (len0 + (m - len0)) * Try.prog.bytesOf 44 := Nat.le_mul_of_pos_right _ (by omega)
    omega
   have each0 : ∀ i, i < len0 → ∃ (x : Odr) (vl vg ml mg : Value), (∀ t u, [Value.int .i64 x.kind, .int .i64 x.t, .int .i64 x.call.kind, .int .i64 x.call.h, .int .i64 x.call.t, .int .i64 x.call.n, .int .i64 x.call.c, vl, vg, .string ⟨x.call.text.toArray⟩, .int .i64 x.mail.host, .int .i64 x.mail.thread, ml, mg, .string ⟨x.mail.text.toArray⟩][t]? = some u → W.cell? (a.add (i * 15 + t)) = some u) ∧ LabAt W vl x.call.label ∧ IntsAt W vg x.call.grants ∧ LabAt W ml x.mail.label ∧ IntsAt W mg x.mail.grants ∧ x.call.text.length ≤ 140737488351232 := by
    intro i hi
    obtain ⟨cs', h1, h2⟩ := hcell i (by omega)
    rw [cellsOrder] at h1
    obtain ⟨_, hlen, hc⟩ := World.cells?_some h1
    have hw : (DataW.weights Try.prog 44 (D i)).all (· ≤ reachBytes) = true := by
     rw [List.all_eq_true]
     intro n' hn'
     refine hall n' (DataW.weights_mem_each ht (by rw [hd, hd1]) n' ?_)
     simp only [DataW.weights, Try.underlying22, List.mem_cons, List.mem_append]
     refine Or.inr (Or.inl ?_)
     refine Qba (i := i) (by simpa using hi) ?_
     simpa using hn'
    obtain ⟨x, vl, vg, ml, mg, rfl, k1, k2, k3, k4, k5⟩ := Qdt hlen h2 hw
    refine ⟨x, vl, vg, ml, mg, fun t u hu => ?_, k1, k2, k3, k4, k5⟩
    have ht15 : t < 15 := by
     have := (List.getElem?_eq_some_iff.1 hu).1
     simpa using this
    have := hc t ht15
    rw [add_add] at this
    rw [this, hu]
   obtain ⟨b, off, spot⟩ := a
   by_cases h0 : 0 < len0
   · have hspot : spot = none := by
      obtain ⟨x, vl, vg, ml, mg, hk, _⟩ := each0 0 h0
      simpa [Addr.add] using World.cell?_spot (hk 0 _ rfl)
     subst hspot
     have each : ∀ i, i < len0 → ∃ q : Odr × Value × Value × Value × Value, OdrAt W b (off + i * 15) q.1 q.2.1 q.2.2.1 q.2.2.2.1 q.2.2.2.2 := by
      intro i hi
      obtain ⟨x, vl, vg, ml, mg, hk, k1, k2, k3, k4, k5⟩ := each0 i hi
      have hk2 : ∀ t u, [Value.int .i64 x.kind, .int .i64 x.t, .int .i64 x.call.kind, .int .i64 x.call.h, .int .i64 x.call.t, .int .i64 x.call.n, .int .i64 x.call.c, vl, vg, .string ⟨x.call.text.toArray⟩, .int .i64 x.mail.host, .int .i64 x.mail.thread, ml, mg, .string ⟨x.mail.text.toArray⟩][t]? = some u → W.cell? ⟨b, off + i * 15 + t, none⟩ = some u := fun t u hu => by
       have := hk t u hu
       rwa [add_plain, ← Nat.add_assoc] at this
      exact ⟨(x, vl, vg, ml, mg), hk2 0 _ rfl, hk2 1 _ rfl, hk2 2 _ rfl, hk2 3 _ rfl, hk2 4 _ rfl, hk2 5 _ rfl, hk2 6 _ rfl, hk2 7 _ rfl, hk2 8 _ rfl, hk2 9 _ rfl, hk2 10 _ rfl, hk2 11 _ rfl, hk2 12 _ rfl, hk2 13 _ rfl, hk2 14 _ rfl, k1, k2, k3, k4, k5⟩
     haveI : Inhabited (Odr × Value × Value × Value × Value) := ⟨⟨⟨0, 0, ⟨0, 0, 0, 0, 0, [], [], []⟩, zeroMal⟩, undef, undef, undef, undef⟩⟩
     obtain ⟨q, hq⟩ := choose_lt each
     refine ⟨(List.range len0).map (fun i => (q i).1), some ⟨b, off, none⟩, m, by simp, ⟨by simpa using hl, fun h => by cases h⟩, by simpa using hbnd, fun _ => ⟨b, off, rfl, fun j hj => ?_⟩⟩
     simp only [List.length_map, List.length_range] at hj
     exact ⟨(q j).2.1, (q j).2.2.1, (q j).2.2.2.1, (q j).2.2.2.2, by simpa using hq j hj⟩
   · have e0 : len0 = 0 := by omega
     subst e0
     exact ⟨[], some ⟨b, off, spot⟩, m, rfl, ⟨Nat.zero_le _, fun h => by cases h⟩, Nat.zero_le _, fun h => absurd h (by simp)⟩
end Go.Proofs.Ytpdijobakfpnbaa
