/- A list of acts that came in: what they are, and where they lie. -/
import Derived.Test.YtpdijobakfpnbaaGreatJCNet
import Derived.Test.YtpdijobakfpnbaaGreatJWMem
namespace Go.Proofs.YtpdijobakfpnbaaGreat
open Go.ChangeShapes Go.WideShapes Go.ChangeAt Go.RowKit Go.Deep Go.Joins Go.Proofs.Parclose
theorem cellsAct : Tryz.prog.cellsOf 39 = 12 := by kernel_rfl
theorem cellsCallA : Tryz.prog.cellsOf 37 = 8 := by kernel_rfl
theorem list5a {α : Type} {l : List α} (h : l.length = 5) : ∃ c0 c1 c2 c3 c4, l = [c0, c1, c2, c3, c4] := by
 match l, h with
 | [c0, c1, c2, c3, c4], _ => exact ⟨c0, c1, c2, c3, c4, rfl⟩
theorem list8a {α : Type} {l : List α} (h : l.length = 8) : ∃ c0 c1 c2 c3 c4 c5 c6 c7, l = [c0, c1, c2, c3, c4, c5, c6, c7] := by
 match l, h with
 | [c0, c1, c2, c3, c4, c5, c6, c7], _ => exact ⟨c0, c1, c2, c3, c4, c5, c6, c7, rfl⟩
theorem list12a {α : Type} {l : List α} (h : l.length = 12) : ∃ c0 c1 c2 c3 c4 c5 c6 c7 c8 c9 c10 c11, l = [c0, c1, c2, c3, c4, c5, c6, c7, c8, c9, c10, c11] := by
 match l, h with
 | [c0, c1, c2, c3, c4, c5, c6, c7, c8, c9, c10, c11], _ => exact ⟨c0, c1, c2, c3, c4, c5, c6, c7, c8, c9, c10, c11, rfl⟩
set_option maxRecDepth 100000 in
set_option maxHeartbeats 1600000 in
theorem Qhu {H : Type} {enc : TypeId × Value → H} {W : World} {cs : List Value} {y : DataW H × List MemPlace} {fuel : Nat} (hlen : cs.length = 12)
 (hf : DataW.trod enc Tryz.prog W 0 (fun _ => true) true fuel 39 cs = some y) (hw : (DataW.weights Tryz.prog 39 y.1).all (· ≤ reachBytes) = true) :
 ∃ (x : Ac) (vl vg : Value), cs = [.int .i64 x.kind, .int .i64 x.h, .int .i64 x.t, .int .i64 x.n, .int .i64 x.call.kind, .int .i64 x.call.h, .int .i64 x.call.t, .int .i64 x.call.n, .int .i64 x.call.c, vl, vg, .string ⟨x.call.text.toArray⟩] ∧ LabAt W vl x.call.label ∧ IntsAt W vg x.call.grants := by
 obtain ⟨d0, d1, d2, d3, d4, d5, d6, d7, d8, d9, d10, d11, rfl⟩ := list12a hlen
 obtain ⟨xs, n, _, hx, _, hl, hg⟩ := DataW.trod_struct Tryz.underlying39 hf
 obtain ⟨y0, y1, y2, y3, y4, rfl⟩ := list5a hl
 have g0 := hg 0 _ rfl
 have g1 := hg 1 _ rfl
 have g2 := hg 2 _ rfl
 have g3 := hg 3 _ rfl
 have g4 := hg 4 _ rfl
 simp [cellsInt, cellsCallA] at g0 g1 g2 g3 g4
 have hE : (DataW.weightsEach Tryz.prog [39] [y.1]).all (· ≤ reachBytes) = true := by simpa [DataW.weightsEach] using hw
 have hsz := Qe2 (j := 0) hE rfl (by rw [hx]; rfl) Tryz.underlying39
 obtain ⟨n0, e0, _⟩ := DataW.trod_int Tryz.underlying3 g0
 obtain ⟨n1, e1, _⟩ := DataW.trod_int Tryz.underlying3 g1
 obtain ⟨n2, e2, _⟩ := DataW.trod_int Tryz.underlying3 g2
 obtain ⟨n3, e3, _⟩ := DataW.trod_int Tryz.underlying3 g3
 obtain ⟨zs, k, _, hz, _, hzl, hc⟩ := DataW.trod_struct Tryz.underlying37 g4
 obtain ⟨z0, z1, z2, z3, z4, z5, z6, z7, rfl⟩ := list8a hzl
 have m0 := hc 0 _ rfl
 have m1 := hc 1 _ rfl
 have m2 := hc 2 _ rfl
 have m3 := hc 3 _ rfl
 have m4 := hc 4 _ rfl
 have m5 := hc 5 _ rfl
 have m6 := hc 6 _ rfl
 have m7 := hc 7 _ rfl
 simp [cellsInt, cellsLabel, cellsInts, cellsString] at m0 m1 m2 m3 m4 m5 m6 m7
 have hszC := Qe2 (j := 4) hsz rfl (by rw [hz]; rfl) Tryz.underlying37
 obtain ⟨a0, f0, _⟩ := DataW.trod_int Tryz.underlying3 m0
 obtain ⟨a1, f1, _⟩ := DataW.trod_int Tryz.underlying3 m1
 obtain ⟨a2, f2, _⟩ := DataW.trod_int Tryz.underlying3 m2
 obtain ⟨a3, f3, _⟩ := DataW.trod_int Tryz.underlying3 m3
 obtain ⟨a4, f4, _⟩ := DataW.trod_int Tryz.underlying3 m4
 obtain ⟨a7, f7, _⟩ := DataW.trod_string Tryz.underlying9 m7
 simp only [List.cons.injEq, and_true] at e0 e1 e2 e3 f0 f1 f2 f3 f4 f7
 subst e0 e1 e2 e3 f0 f1 f2 f3 f4 f7
 obtain ⟨l5, hl5, _⟩ := Qht m5 fun elems spare e => by
  have := sized_slice hszC (j := 5) (t := 34) (e := 54) rfl (by rw [← e]; rfl) Tryz.underlying34
  rwa [bytesLevel] at this
 obtain ⟨l6, hl6, _⟩ := Qgi m6 fun elems spare e => by
  have := sized_slice hszC (j := 6) (t := 35) (e := 3) rfl (by rw [← e]; rfl) Tryz.underlying35
  rwa [bytesInt] at this
 exact ⟨⟨n0, n1, n2, n3, ⟨a0, a1, a2, a3, a4, l5, l6, a7.data.toList⟩⟩, d9, d10, rfl, hl5, hl6⟩
theorem QbX {H : Type} {e : TypeId} {n : Nat} : ∀ {l : List (DataW H)} {i : Nat} (hi : i < l.length), n ∈ DataW.weights Tryz.prog e l[i] → n ∈ DataW.weightsAll Tryz.prog e l
 | x :: r, 0, _, h => by
  simp only [DataW.weightsAll, List.mem_append]
  exact Or.inl h
 | x :: r, i + 1, hi, h => by
  simp only [DataW.weightsAll, List.mem_append]
  exact Or.inr (QbX (l := r) (i := i) (by simpa using hi) h)
set_option maxRecDepth 100000 in
set_option maxHeartbeats 800000 in
theorem Qjf {H : Type} {enc : TypeId × Value → H} {W : World} {base : Nat} {v : Value} {d : DataW H} {p : List MemPlace} {ts : List TypeId} {ds : List (DataW H)} {j : Nat} (hv : Value.okWide Tryz.prog W .any base 22 v)
 (h : DataW.Trod enc Tryz.prog W 0 (fun _ => true) true 22 v d p) (hsz : (DataW.weightsEach Tryz.prog ts ds).all (· ≤ reachBytes) = true) (ht : ts[j]? = some 22) (hd : ds[j]? = some d) : ∃ l, AcsAt W v l := by
 obtain ⟨a0, len0, cap0, rfl⟩ := okWide_slice Tryz.underlying22 hv
 obtain ⟨fuel, hf⟩ := h
 simp only [Value.cells] at hf
 rcases open_slice Tryz.underlying22 hf with ⟨hcs, hx⟩ | ⟨a, len, cap, m, n, D, Pl, hcs, _, hl, hm, hmm, hx, hcell⟩
 · cases hcs
   exact ⟨[], [], rfl, fun x hx => (by cases hx), none, 0, rfl, ⟨Nat.le_refl _, fun _ => rfl⟩, fun h => (by cases h)⟩
 · cases hcs
   simp only [Prod.mk.injEq] at hx
   obtain ⟨hd1, _⟩ := hx
   simp only [if_true] at hmm
   subst hmm
   have hall := List.all_eq_true.1 hsz
   have each0 : ∀ i, i < len0 → ∃ q : AcV, (∀ t u, q.cells[t]? = some u → W.cell? ((a.add (i * 12)).add t) = some u) ∧ q.Ok W := by
    intro i hi
    obtain ⟨cs', h1, h2⟩ := hcell i (by omega)
    rw [cellsAct] at h1
    obtain ⟨_, hlen, hc⟩ := World.cells?_some h1
    have hw : (DataW.weights Tryz.prog 39 (D i)).all (· ≤ reachBytes) = true := by
     rw [List.all_eq_true]
     intro n' hn'
     refine hall n' (DataW.weights_mem_each ht (by rw [hd, hd1]) n' ?_)
     simp only [DataW.weights, Tryz.underlying22, List.mem_cons, List.mem_append]
     refine Or.inr (Or.inl ?_)
     refine QbX (i := i) (by simpa using hi) ?_
     simpa using hn'
    obtain ⟨x, vl, vg, rfl, k1, k2⟩ := Qhu hlen h2 hw
    refine ⟨⟨x, vl, vg⟩, fun t u hu => ?_, ⟨k1, k2⟩⟩
    have ht12 : t < 12 := (List.getElem?_eq_some_iff.1 hu).1
    have := hc t ht12
    rw [this]
    exact hu
   obtain ⟨b, off, spot⟩ := a
   by_cases h0 : 0 < len0
   · have hspot : spot = none := by
      obtain ⟨x, hk, _⟩ := each0 0 h0
      simpa [Addr.add] using World.cell?_spot (hk 0 _ rfl)
     subst hspot
     haveI : Inhabited AcV := ⟨⟨⟨0, 0, 0, 0, ⟨0, 0, 0, 0, 0, [], [], []⟩⟩, undef, undef⟩⟩
     obtain ⟨q, hq⟩ := choose_lt each0
     refine ⟨((List.range len0).map q).map (·.a), (List.range len0).map q, rfl, fun x hx => ?_, some ⟨b, off, none⟩, m, by simp, ⟨by simpa using hl, fun h => (by cases h)⟩, fun _ => ⟨b, off, rfl, fun j u hu => ?_⟩⟩
     · obtain ⟨i, hi, rfl⟩ := List.mem_map.1 hx
       exact (hq i (List.mem_range.1 hi)).2
     · have hj := (List.getElem?_eq_some_iff.1 hu).1
       rw [Qkd, List.length_map, List.length_range] at hj
       have h1 : j / 12 < len0 := by omega
       have e1 : j = j / 12 * 12 + j % 12 := by omega
       rw [e1, Qdg _ (j / 12) (by simpa using h1) (j % 12) (by omega)] at hu
       simp only [List.getElem_map, List.getElem_range] at hu
       have := (hq (j / 12) h1).1 (j % 12) u hu
       rw [add_plain, add_plain] at this
       rw [e1, ← Nat.add_assoc]
       exact this
   · have e0 : len0 = 0 := by omega
     subst e0
     exact ⟨[], [], rfl, fun x hx => (by cases hx), some ⟨b, off, spot⟩, m, rfl, ⟨Nat.zero_le _, fun h => (by cases h)⟩, fun h => (by cases h)⟩
end Go.Proofs.YtpdijobakfpnbaaGreat
