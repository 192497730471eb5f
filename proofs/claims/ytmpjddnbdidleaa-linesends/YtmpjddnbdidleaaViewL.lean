/- A line that came in: what it is, and where it lies. -/
import Derived.Test.YtmpjddnbdidleaaLMem
import Derived.Test.YtmpjddnbdidleaaViewW
import Derived.OpenShut
namespace Go.Proofs.Ytmpjddnbdidleaa
open Go.ChangeShapes Go.WideShapes Go.ChangeAt Go.RowKit Go.Deep Go.Joins Go.Proofs.Parclose

theorem cellsSent : Try.prog.cellsOf 56 = 13 := by kernel_rfl
theorem bytesSent : Try.prog.bytesOf 56 = 160 := by kernel_rfl
theorem cellsLine : Try.prog.cellsOf 25 = 11 := by kernel_rfl
theorem cellsSents : Try.prog.cellsOf 22 = 1 := by kernel_rfl
theorem cellsSeen : Try.prog.cellsOf 23 = 8 := by kernel_rfl
theorem list3v {α : Type} {l : List α} (h : l.length = 3) : ∃ c0 c1 c2, l = [c0, c1, c2] := by
  match l, h with
  | [c0, c1, c2], _ => exact ⟨c0, c1, c2, rfl⟩
theorem list4v {α : Type} {l : List α} (h : l.length = 4) : ∃ c0 c1 c2 c3, l = [c0, c1, c2, c3] := by
  match l, h with
  | [c0, c1, c2, c3], _ => exact ⟨c0, c1, c2, c3, rfl⟩
theorem list13v {α : Type} {l : List α} (h : l.length = 13) : ∃ c0 c1 c2 c3 c4 c5 c6 c7 c8 c9 c10 c11 c12, l = [c0, c1, c2, c3, c4, c5, c6, c7, c8, c9, c10, c11, c12] := by
  match l, h with
  | [c0, c1, c2, c3, c4, c5, c6, c7, c8, c9, c10, c11, c12], _ => exact ⟨c0, c1, c2, c3, c4, c5, c6, c7, c8, c9, c10, c11, c12, rfl⟩

set_option maxRecDepth 100000 in
set_option maxHeartbeats 1600000 in
theorem view_sent_c {H : Type} {enc : TypeId × Value → H} {W : World} {cs : List Value} {y : DataW H × List MemPlace} {fuel : Nat} (hlen : cs.length = 13)
    (hf : DataW.trod enc Try.prog W 0 (fun _ => true) true fuel 56 cs = some y) (hw : (DataW.weights Try.prog 56 y.1).all (· ≤ reachBytes) = true) :
    ∃ x : SntV, cs = x.cells ∧ x.Ok W := by
  obtain ⟨d0, d1, d2, d3, d4, d5, d6, d7, d8, d9, d10, d11, d12, rfl⟩ := list13v hlen
  obtain ⟨xs, n, _, hx, _, hl, hg⟩ := DataW.trod_struct Try.underlying56 hf
  obtain ⟨y0, y1, y2, rfl⟩ := list3v hl
  have k0 := hg 0 _ rfl
  have k1 := hg 1 _ rfl
  have k2 := hg 2 _ rfl
  simp [cellsInt, cellsFrame] at k0 k1 k2
  have hE : (DataW.weightsEach Try.prog [56] [y.1]).all (· ≤ reachBytes) = true := by simpa [DataW.weightsEach] using hw
  have hsz0 := sized_agg (j := 0) hE rfl (by rw [hx]; rfl) Try.underlying56
  obtain ⟨n11, e11, _⟩ := DataW.trod_int Try.underlying3 k1
  obtain ⟨n12, e12, _⟩ := DataW.trod_int Try.underlying3 k2
  obtain ⟨fs, m, _, hfx, _, hfl, hfg⟩ := DataW.trod_struct Try.underlying33 k0
  obtain ⟨u0, u1, u2, u3, u4, u5, u6, rfl⟩ := list7 hfl
  have g0 := hfg 0 _ rfl
  have g1 := hfg 1 _ rfl
  have g2 := hfg 2 _ rfl
  have g3 := hfg 3 _ rfl
  have g4 := hfg 4 _ rfl
  have g5 := hfg 5 _ rfl
  have g6 := hfg 6 _ rfl
  simp [cellsInt, cellsBool, cellsMail, cellsCerts] at g0 g1 g2 g3 g4 g5 g6
  have hsz1 := sized_agg (j := 0) hsz0 rfl (by rw [hfx]; rfl) Try.underlying33
  obtain ⟨zs, k, _, hz, _, hzl, hm⟩ := DataW.trod_struct Try.underlying30 g5
  obtain ⟨z0, z1, z2, z3, z4, rfl⟩ := list5 hzl
  have m0 := hm 0 _ rfl
  have m1 := hm 1 _ rfl
  have m2 := hm 2 _ rfl
  have m3 := hm 3 _ rfl
  have m4 := hm 4 _ rfl
  simp [cellsInt, cellsLabel, cellsInts, cellsString] at m0 m1 m2 m3 m4
  have hsz2 := sized_agg (j := 5) hsz1 rfl (by rw [hz]; rfl) Try.underlying30
  obtain ⟨n0, e0, _⟩ := DataW.trod_int Try.underlying3 g0
  obtain ⟨n1, e1, _⟩ := DataW.trod_int Try.underlying3 g1
  obtain ⟨n2, e2, _⟩ := DataW.trod_int Try.underlying3 g2
  obtain ⟨b3, e3, _⟩ := DataW.trod_bool Try.underlying4 g3
  obtain ⟨n4, e4, _⟩ := DataW.trod_int Try.underlying3 g4
  obtain ⟨n5, e5, _⟩ := DataW.trod_int Try.underlying3 m0
  obtain ⟨n6, e6, _⟩ := DataW.trod_int Try.underlying3 m1
  obtain ⟨s9, e9, _⟩ := DataW.trod_string Try.underlying9 m4
  simp only [List.cons.injEq, and_true] at e0 e1 e2 e3 e4 e5 e6 e9 e11 e12
  subst e0 e1 e2 e3 e4 e5 e6 e9 e11 e12
  obtain ⟨l, hl7, _⟩ := view_lab_c m2 fun elems spare e => by
    have := sized_slice hsz2 (j := 2) (t := 27) (e := 72) rfl (by rw [← e]; rfl) Try.underlying27
    rwa [bytesLevel] at this
  obtain ⟨zs, hl8, _⟩ := view_ints_c m3 fun elems spare e => by
    have := sized_slice hsz2 (j := 3) (t := 28) (e := 3) rfl (by rw [← e]; rfl) Try.underlying28
    rwa [bytesInt] at this
  obtain ⟨cr, hl10, _⟩ := view_crts_c g6 fun elems spare e => by
    have := sized_slice hsz1 (j := 6) (t := 31) (e := 68) rfl (by rw [← e]; rfl) Try.underlying31
    rwa [bytesCert] at this
  exact ⟨⟨⟨⟨n0, n1, n2, b3, n4, ⟨n5, n6, l, zs, s9.data.toList⟩, cr⟩, n11, n12⟩, d7, d8, d10⟩, rfl, hl7, hl8, hl10⟩

theorem mem_weightsS {H : Type} {e : TypeId} {n : Nat} : ∀ {l : List (DataW H)} {i : Nat} (hi : i < l.length), n ∈ DataW.weights Try.prog e l[i] → n ∈ DataW.weightsAll Try.prog e l
  | x :: r, 0, _, h => by
    simp only [DataW.weightsAll, List.mem_append]
    exact Or.inl h
  | x :: r, i + 1, hi, h => by
    simp only [DataW.weightsAll, List.mem_append]
    exact Or.inr (mem_weightsS (l := r) (i := i) (by simpa using hi) h)

theorem flatS_range (q : Nat → SntV) (n : Nat) (b off : Nat) {W : World} (h : ∀ i, i < n → ∀ t u, (q i).cells[t]? = some u → W.cell? ⟨b, off + (i * 13 + t), none⟩ = some u) :
    ∀ j u, (flatS ((List.range n).map q))[j]? = some u → W.cell? ⟨b, off + j, none⟩ = some u := by
  intro j u hu
  have hj := (List.getElem?_eq_some_iff.1 hu).1
  rw [flatS_len] at hj
  simp only [List.length_map, List.length_range] at hj
  have e : j = j / 13 * 13 + j % 13 := by omega
  rw [e] at hu ⊢
  rw [flatS_get _ _ (by simp; omega) _ (by omega)] at hu
  simp only [List.getElem_map, List.getElem_range] at hu
  exact h _ (by omega) _ _ hu

set_option maxRecDepth 100000 in
set_option maxHeartbeats 800000 in
theorem view_sents_c {H : Type} {enc : TypeId × Value → H} {W : World} {v : Value} {y : DataW H × List MemPlace} {fuel : Nat} {ts : List TypeId} {ds : List (DataW H)} {j : Nat}
    (hf : DataW.trod enc Try.prog W 0 (fun _ => true) true fuel 22 [v] = some y) (hsz : (DataW.weightsEach Try.prog ts ds).all (· ≤ reachBytes) = true) (ht : ts[j]? = some 22) (hd : ds[j]? = some y.1) : ∃ l, SntsAt W v l := by
  rcases open_slice Try.underlying22 hf with ⟨hcs, hx⟩ | ⟨a, len, cap, m, n, D, Pl, hcs, _, hl, hm, hmm, hx, hcell⟩
  · cases hcs
    exact ⟨[], SntsAt.nil _ _ _ (fun _ => rfl)⟩
  · cases hcs
    obtain ⟨y1, y2⟩ := y
    simp only [Prod.mk.injEq] at hx
    obtain ⟨hd1, _⟩ := hx
    simp only [if_true] at hmm
    subst hmm
    have hlenb := sized_slice hsz (j := j) (t := 22) (e := 56) ht (by rw [hd, hd1]) Try.underlying22
    rw [bytesSent] at hlenb
    have hall := List.all_eq_true.1 hsz
    have hbnd : len ≤ 879609302220 := by
      simp only [List.length_map, List.length_range, reachBytes] at hlenb
      omega
    have each0 : ∀ i, i < len → ∃ x : SntV, (∀ t u, x.cells[t]? = some u → W.cell? (a.add (i * 13 + t)) = some u) ∧ x.Ok W := by
      intro i hi
      obtain ⟨cs', h1, h2⟩ := hcell i (by omega)
      rw [cellsSent] at h1
      obtain ⟨_, hlen, hc⟩ := World.cells?_some h1
      have hw : (DataW.weights Try.prog 56 (D i)).all (· ≤ reachBytes) = true := by
        rw [List.all_eq_true]
        intro n' hn'
        refine hall n' (DataW.weights_mem_each ht (by rw [hd, hd1]) n' ?_)
        simp only [DataW.weights, Try.underlying22, List.mem_cons, List.mem_append]
        refine Or.inr (Or.inl ?_)
        refine mem_weightsS (i := i) (by simpa using hi) ?_
        simpa using hn'
      obtain ⟨x, rfl, k1⟩ := view_sent_c hlen h2 hw
      refine ⟨x, fun t u hu => ?_, k1⟩
      have ht13 : t < 13 := by
        have := (List.getElem?_eq_some_iff.1 hu).1
        exact this
      have := hc t ht13
      rw [add_add] at this
      rw [this, hu]
    obtain ⟨b, off, spot⟩ := a
    by_cases h0 : 0 < len
    · have hspot : spot = none := by
        obtain ⟨x, hk, _⟩ := each0 0 h0
        simpa [Addr.add] using World.cell?_spot (hk 0 _ rfl)
      subst hspot
      have each : ∀ i, i < len → ∃ x : SntV, (∀ t u, x.cells[t]? = some u → W.cell? ⟨b, off + (i * 13 + t), none⟩ = some u) ∧ x.Ok W := by
        intro i hi
        obtain ⟨x, hk, ho⟩ := each0 i hi
        exact ⟨x, fun t u hu => by have := hk t u hu; rwa [add_plain] at this, ho⟩
      haveI : Inhabited SntV := ⟨⟨⟨zeroFrm, 0, 0⟩, undef, undef, undef⟩⟩
      obtain ⟨q, hq⟩ := choose_lt each
      refine ⟨((List.range len).map q).map (·.s), (List.range len).map q, rfl, fun x hx => ?_, some ⟨b, off, none⟩, m, by simp, ⟨by simpa using hl, fun h => by cases h⟩, by simpa using hbnd, fun _ => ⟨b, off, rfl, flatS_range q len b off fun i hi => (hq i hi).1⟩⟩
      obtain ⟨i, hi, e⟩ := List.mem_map.1 hx
      subst e
      exact (hq i (List.mem_range.1 hi)).2
    · have e0 : len = 0 := by omega
      subst e0
      exact ⟨[], SntsAt.nil _ _ _ (fun h => by cases h)⟩

set_option maxRecDepth 100000 in
set_option maxHeartbeats 800000 in
theorem view_line {H : Type} {enc : TypeId × Value → H} {W : World} {base : Nat} {v : Value} {d : DataW H} {p : List MemPlace} {ts : List TypeId} {ds : List (DataW H)} {j : Nat} (hv : Value.okWide Try.prog W .any base 25 v)
    (h : DataW.Trod enc Try.prog W 0 (fun _ => true) true 25 v d p) (hsz : (DataW.weightsEach Try.prog ts ds).all (· ≤ reachBytes) = true) (ht : ts[j]? = some 25) (hd : ds[j]? = some d) : ∃ l, LneAt W v l := by
  obtain ⟨cs, rfl, hcs⟩ := okWide_struct Try.underlying25 hv
  obtain ⟨c0, c1, c2, c3, c4, c5, c6, c7, c8, c9, c10, rfl⟩ := array11 (hcs.trans cellsLine)
  obtain ⟨fuel, hf⟩ := h
  obtain ⟨xs, n, _, hx, _, hl, hg⟩ := DataW.trod_struct Try.underlying25 hf
  obtain ⟨y0, y1, y2, y3, rfl⟩ := list4v hl
  have g0 := hg 0 _ rfl
  have g1 := hg 1 _ rfl
  have g2 := hg 2 _ rfl
  have g3 := hg 3 _ rfl
  simp [Value.cells, cellsInt, cellsSents, cellsSeen] at g0 g1 g2 g3
  simp only [Prod.mk.injEq] at hx
  have hsz1 := sized_agg hsz ht (by rw [hd, hx.1]) Try.underlying25
  obtain ⟨n0, e0, _⟩ := DataW.trod_int Try.underlying3 g0
  obtain ⟨n2, e2, _⟩ := DataW.trod_int Try.underlying3 g2
  obtain ⟨l, hl1⟩ := view_sents_c (j := 1) g1 hsz1 rfl rfl
  obtain ⟨ys, m, _, _, _, hyl, hy⟩ := DataW.trod_array Try.underlying23 g3
  have hb : ∀ i (_ : i < 8) (c : Value), [c3, c4, c5, c6, c7, c8, c9, c10][i]? = some c → ∃ b, c = .bool b := by
    intro i hi c hc
    have h1 := hy i hi
    rw [cellsBool, Nat.mul_one] at h1
    have h2 : (List.drop i [c3, c4, c5, c6, c7, c8, c9, c10]).take 1 = [c] := by
      have hlt : i < [c3, c4, c5, c6, c7, c8, c9, c10].length := hi
      rw [List.drop_eq_getElem_cons hlt]
      rw [List.getElem?_eq_getElem hlt] at hc
      simp only [List.take_succ_cons, List.take_zero, List.cons.injEq, and_true]
      exact Option.some.inj hc
    rw [h2, List.getElem?_eq_getElem (by omega)] at h1
    obtain ⟨b, e, _⟩ := DataW.trod_bool Try.underlying4 h1
    simp only [List.cons.injEq, and_true] at e
    exact ⟨b, e⟩
  obtain ⟨b0, rfl⟩ := hb 0 (by omega) _ rfl
  obtain ⟨b1, rfl⟩ := hb 1 (by omega) _ rfl
  obtain ⟨b2, rfl⟩ := hb 2 (by omega) _ rfl
  obtain ⟨b3, rfl⟩ := hb 3 (by omega) _ rfl
  obtain ⟨b4, rfl⟩ := hb 4 (by omega) _ rfl
  obtain ⟨b5, rfl⟩ := hb 5 (by omega) _ rfl
  obtain ⟨b6, rfl⟩ := hb 6 (by omega) _ rfl
  obtain ⟨b7, rfl⟩ := hb 7 (by omega) _ rfl
  simp only [List.cons.injEq, and_true] at e0 e2
  subst e0 e2
  exact ⟨_, lne_of hl1 n0 n2 b0 b1 b2 b3 b4 b5 b6 b7⟩
end Go.Proofs.Ytmpjddnbdidleaa
