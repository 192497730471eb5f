/- line.Again answers the line at a time, and the frames that are sent again. -/
import Derived.Test.YtpdijobakfpnbaaGreatJLTake
import Derived.Test.YtpdijobakfpnbaaGreatJLAppend
import Derived.Test.YtpdijobakfpnbaaGreatJLSend
namespace Go.Proofs.YtpdijobakfpnbaaGreat
open Go.RowKit Go.Proofs.Parclose
def Off2 (B : Nat) (r s : Option Nat) (w w' : World) : Prop := ∀ k, B ≤ k → k < w.heap.size → r ≠ some k → s ≠ some k → w'.heap[k]? = w.heap[k]?
theorem QbA {B : Nat} {r s : Option Nat} {w w1 w2 : World} (hb : Below w.heap.size w w1) (h : Off2 B r s w1 w2) : Off2 B r s w w2 := fun k hB hk hr hs => by rw [h k hB (Nat.lt_of_lt_of_le hk hb.size) hr hs, hb.block k hk]
theorem Qe8 {B : Nat} {r r' s : Option Nat} {w w1 w2 : World} (hg : w.grownBy w1 r) (hw : ∀ k, r' = some k → r = some k ∨ w.heap.size ≤ k) (h : Off2 B r' s w1 w2) : Off2 B r s w w2 := fun k hB hk hr hs => by
 rw [h k hB (Nat.lt_of_lt_of_le hk hg.size) (fun e => (hw k e).elim (fun h1 => hr h1) (fun h1 => by omega)) hs, hg.block k hk (Ne.symm hr)]
theorem Qeb {B : Nat} {r s s' : Option Nat} {w w1 w2 : World} (hg : w.grownBy w1 s) (hw : ∀ k, s' = some k → s = some k ∨ w.heap.size ≤ k) (h : Off2 B r s' w1 w2) : Off2 B r s w w2 := fun k hB hk hr hs => by
 rw [h k hB (Nat.lt_of_lt_of_le hk hg.size) hr (fun e => (hw k e).elim (fun h1 => hs h1) (fun h1 => by omega)), hg.block k hk (Ne.symm hs)]
theorem Qhr {w : World} {B : Nat} {e : TypeId} {sz : Nat} {v : Value} {n : Nat} {xs : List Value} (h : w.ownsRow B e sz v n xs) {k : Nat} (hk : v.ownBlock = some k) : k < w.heap.size := by
 rcases h.2 with ⟨rfl, _⟩ | ⟨g, cap, cur, rfl, _, hg, _⟩
 · cases hk
 · cases hk
   exact Qw hg
theorem QbC {fn : Func} {p u r : Tmp} {ty : TypeId} (h : fn.results = #[.cell p ty, .tmp u, .tmp r]) (tmps : Array Value) (w : World) (g : Nat) (cs : Array Value)
 (hp : tmps.getD p undef = .pointer (some ⟨g, 0, none⟩)) (hl : (loadVar ty ⟨g, 0, none⟩).run Tryz.prog w = .ok (.agg cs) w) :
 (results fn tmps).run Tryz.prog w = .ok (.tuple #[.agg cs, tmps.getD u undef, tmps.getD r undef]) w := by
 simp only [Array.getD_eq_getD_getElem?] at hp ⊢
 unfold results
 rw [h]
 simp [hp, asAddr, hl]
theorem QlJ (w : World) (x : FrmV) (j : Nat) (u : Value) (hu : x.cells[j]? = some u) : (w.alloc (.cells x.cells.toArray 111)).cell? ⟨w.heap.size, j, none⟩ = some u := by
 rw [Qa (heap_alloc_new w _) j]
 simpa using hu
theorem Qe3 {w : World} {b : Nat} (hb : w.heap.size = b) (x : SntV) (j : Nat) (u : Value) (hu : x.cells[j]? = some u) : (w.alloc (.cells x.cells.toArray 146)).cell? ⟨b, j, none⟩ = some u := by
 subst hb
 rw [Qa (heap_alloc_new w _) j]
 simpa using hu
theorem Qj6 {w : World} {b : Nat} (hb : w.heap.size = b) (x : FrmV) (j : Nat) (u : Value) (hu : x.cells[j]? = some u) : (w.alloc (.cells x.cells.toArray 111)).cell? ⟨b, j, none⟩ = some u := by
 subst hb
 exact QlJ w x j u hu
theorem Qjn (st : List Snt) (k : Nat) (hk : k < st.length) (f : Snt → List Snt) : (st.take (k + 1)).flatMap f = (st.take k).flatMap f ++ f st[k] := by
 rw [List.take_succ_eq_append_getElem hk, List.flatMap_append, List.flatMap_singleton]
theorem QhA (st : List Snt) (k : Nat) (hk : k < st.length) (f : Snt → List Frm) : (st.take (k + 1)).flatMap f = (st.take k).flatMap f ++ f st[k] := by
 rw [List.take_succ_eq_append_getElem hk, List.flatMap_append, List.flatMap_singleton]
theorem QlM (now : Int) (l : List Snt) : (l.flatMap (againF now)).length ≤ l.length := by
 induction l with
 | nil => exact Nat.le_refl _
 | cons x r ih =>
  have hx : (againF now x).length ≤ 1 := by
   unfold againF
   split
   · simp
   · split <;> simp
  simp only [List.flatMap_cons, List.length_append, List.length_cons]
  omega
set_option linter.unusedSimpArgs false in
set_option maxRecDepth 100000 in
set_option maxHeartbeats 6400000 in
theorem Qia (v : Value) (L : Lne) (now : Int) (w : World) (hv : LneAt w v L) :
 Calls Tryz.prog 103 #[v, .int .i64 now] w fun e w' => ∃ v' vf, e = .returned (.tuple #[v', vf, .int .i64 (againLn L now).2.2]) ∧ LneNew w.heap.size w' v' (againLn L now).1 ∧ (∀ w'', Since w.heap.size w' w'' → FrmsAt w'' vf (againLn L now).2.1) ∧ Below w.heap.size w w' := by
 obtain ⟨nx, st, hi, b0, b1, b2, b3, b4, b5, b6, b7, p, cap, rfl, rfl, hs⟩ := hv.spell
 have hlen := hs.len
 have HV := hid hv
 clear hv hs
 have hb0 : Below w.heap.size w ((w.alloc (.cells #[.int .i64 nx, .slice p st.length cap, .int .i64 hi, .bool b0, .bool b1, .bool b2, .bool b3, .bool b4, .bool b5, .bool b6, .bool b7] 71)).alloc (.cells #[.int .i64 0, .slice none 0 0, .int .i64 0, .bool false, .bool false, .bool false, .bool false, .bool false, .bool false, .bool false, .bool false] 71)) := (Qd w _).alloc (by simp) _
 have hB : ((w.alloc (.cells #[.int .i64 nx, .slice p st.length cap, .int .i64 hi, .bool b0, .bool b1, .bool b2, .bool b3, .bool b4, .bool b5, .bool b6, .bool b7] 71)).alloc (.cells #[.int .i64 0, .slice none 0 0, .int .i64 0, .bool false, .bool false, .bool false, .bool false, .bool false, .bool false, .bool false, .bool false] 71)).heap.size = w.heap.size + 2 := by simp
 have h40 : ((w.alloc (.cells #[.int .i64 nx, .slice p st.length cap, .int .i64 hi, .bool b0, .bool b1, .bool b2, .bool b3, .bool b4, .bool b5, .bool b6, .bool b7] 71)).alloc (.cells #[.int .i64 0, .slice none 0 0, .int .i64 0, .bool false, .bool false, .bool false, .bool false, .bool false, .bool false, .bool false, .bool false] 71)).heap[w.heap.size]? = some (.cells #[.int .i64 nx, .slice p st.length cap, .int .i64 hi, .bool b0, .bool b1, .bool b2, .bool b3, .bool b4, .bool b5, .bool b6, .bool b7] 71 (0, 0)) := heap_alloc2_old w _ _
 have h42 : ((w.alloc (.cells #[.int .i64 nx, .slice p st.length cap, .int .i64 hi, .bool b0, .bool b1, .bool b2, .bool b3, .bool b4, .bool b5, .bool b6, .bool b7] 71)).alloc (.cells #[.int .i64 0, .slice none 0 0, .int .i64 0, .bool false, .bool false, .bool false, .bool false, .bool false, .bool false, .bool false, .bool false] 71)).heap[w.heap.size + 1]? = some (.cells #[.int .i64 0, .slice none 0 0, .int .i64 0, .bool false, .bool false, .bool false, .bool false, .bool false, .bool false, .bool false, .bool false] 71 (0, 0)) := heap_alloc2_new w _ _
 go_enter Tryz.func103, Tryz.ntmps103
 go_wp2_with fail
 refine (QaJ _ _ _ (HV.out.below hb0)).mono ?_
 rintro e w1 ⟨vs, sq, rfl, hmap, hown, hw1⟩
 have hql : sq.length = st.length := by
  have := congrArg List.length hmap
  simpa using this
 obtain ⟨p1, c1, hvs⟩ := Qo hown.own
 rw [hql] at hvs
 subst hvs
 unfold lneV
 have hbx1 := Qe h40 hw1
 have hrs1 := Qe h42 hw1
 have hbw1 := Qc hb0 hw1
 rw [hB] at hown
 have x0 := Qa hbx1 0
 have xf0 := Qb hbx1 0
 have x1 := Qa hbx1 1
 have xf1 := Qb hbx1 1
 have x2 := Qa hbx1 2
 have xf2 := Qb hbx1 2
 have x3 := Qa hbx1 3
 have xf3 := Qb hbx1 3
 have x4 := Qa hbx1 4
 have xf4 := Qb hbx1 4
 have x5 := Qa hbx1 5
 have xf5 := Qb hbx1 5
 have x6 := Qa hbx1 6
 have xf6 := Qb hbx1 6
 have x7 := Qa hbx1 7
 have xf7 := Qb hbx1 7
 have x8 := Qa hbx1 8
 have xf8 := Qb hbx1 8
 have x9 := Qa hbx1 9
 have xf9 := Qb hbx1 9
 have x10 := Qa hbx1 10
 have xf10 := Qb hbx1 10
 clear hw1 hb0 HV h40 h42 hB
 go_wp2_with fail
 have hbx2 : (((((((((((w1.setCell ⟨w.heap.size, 0, none⟩ (.int .i64 nx)).setCell ⟨w.heap.size, 1, none⟩ (.slice p1 st.length c1)).setCell ⟨w.heap.size, 2, none⟩ (.int .i64 hi)).setCell ⟨w.heap.size, 3, none⟩ (.bool b0)).setCell ⟨w.heap.size, 4, none⟩ (.bool b1)).setCell ⟨w.heap.size, 5, none⟩ (.bool b2)).setCell ⟨w.heap.size, 6, none⟩ (.bool b3)).setCell ⟨w.heap.size, 7, none⟩ (.bool b4)).setCell ⟨w.heap.size, 8, none⟩ (.bool b5)).setCell ⟨w.heap.size, 9, none⟩ (.bool b6)).setCell ⟨w.heap.size, 10, none⟩ (.bool b7)).heap[w.heap.size]? = some (.cells #[.int .i64 nx, .slice p1 st.length c1, .int .i64 hi, .bool b0, .bool b1, .bool b2, .bool b3, .bool b4, .bool b5, .bool b6, .bool b7] 71 (0, 0)) := Ql (.int .i64 nx) (.slice p1 st.length c1) (.int .i64 hi) (.bool b0) (.bool b1) (.bool b2) (.bool b3) (.bool b4) (.bool b5) (.bool b6) (.bool b7) hbx1
 have hS1 : w1.grownBy (((((((((((w1.setCell ⟨w.heap.size, 0, none⟩ (.int .i64 nx)).setCell ⟨w.heap.size, 1, none⟩ (.slice p1 st.length c1)).setCell ⟨w.heap.size, 2, none⟩ (.int .i64 hi)).setCell ⟨w.heap.size, 3, none⟩ (.bool b0)).setCell ⟨w.heap.size, 4, none⟩ (.bool b1)).setCell ⟨w.heap.size, 5, none⟩ (.bool b2)).setCell ⟨w.heap.size, 6, none⟩ (.bool b3)).setCell ⟨w.heap.size, 7, none⟩ (.bool b4)).setCell ⟨w.heap.size, 8, none⟩ (.bool b5)).setCell ⟨w.heap.size, 9, none⟩ (.bool b6)).setCell ⟨w.heap.size, 10, none⟩ (.bool b7)) (some w.heap.size) := Qj w1 w.heap.size (.int .i64 nx) (.slice p1 st.length c1) (.int .i64 hi) (.bool b0) (.bool b1) (.bool b2) (.bool b3) (.bool b4) (.bool b5) (.bool b6) (.bool b7)
 have hrs2 := Qn hrs1 (show w.heap.size + 1 ≠ w.heap.size by omega) hS1
 have hown2 := hown.box hS1 (by omega)
 have hbw2 := hbw1.grown hS1 hbw1.size (fun k hk => by have := Option.some.inj hk; omega)
 clear hbx1 hrs1 hown hbw1 hS1 x0 xf0 x1 xf1 x2 xf2 x3 xf3 x4 xf4 x5 xf5 x6 xf6 x7 xf7 x8 xf8 x9 xf9 x10 xf10
 generalize (((((((((((w1.setCell ⟨w.heap.size, 0, none⟩ (.int .i64 nx)).setCell ⟨w.heap.size, 1, none⟩ (.slice p1 st.length c1)).setCell ⟨w.heap.size, 2, none⟩ (.int .i64 hi)).setCell ⟨w.heap.size, 3, none⟩ (.bool b0)).setCell ⟨w.heap.size, 4, none⟩ (.bool b1)).setCell ⟨w.heap.size, 5, none⟩ (.bool b2)).setCell ⟨w.heap.size, 6, none⟩ (.bool b3)).setCell ⟨w.heap.size, 7, none⟩ (.bool b4)).setCell ⟨w.heap.size, 8, none⟩ (.bool b5)).setCell ⟨w.heap.size, 9, none⟩ (.bool b6)).setCell ⟨w.heap.size, 10, none⟩ (.bool b7)) = w2 at *
 have hl2 : LneAt w2 (.agg #[.int .i64 nx, .slice p1 st.length c1, .int .i64 hi, .bool b0, .bool b1, .bool b2, .bool b3, .bool b4, .bool b5, .bool b6, .bool b7]) ⟨nx, st, hi, [b0, b1, b2, b3, b4, b5, b6, b7]⟩ := Qfp (by have := hown2.snts (by omega); rwa [hmap] at this) nx hi b0 b1 b2 b3 b4 b5 b6 b7
 refine (Qcb _ _ _ hl2).mono ?_
 rintro e w3 ⟨rfl, hw3⟩
 have HX := hid (Qe hbx2 hw3)
 have HR := hid (Qe hrs2 hw3)
 have HO := hid (hown2.below hw3)
 have hbw3 := Qc hbw2 hw3
 clear hbx2 hrs2 hown2 hbw2 hl2 hw3
 have x0 := Qa HX.out 0
 have x1 := Qa HX.out 1
 have x2 := Qa HX.out 2
 have x3 := Qa HX.out 3
 have x4 := Qa HX.out 4
 have x5 := Qa HX.out 5
 have x6 := Qa HX.out 6
 have x7 := Qa HX.out 7
 have x8 := Qa HX.out 8
 have x9 := Qa HX.out 9
 have x10 := Qa HX.out 10
 have d0 := Qa HR.out 0
 have df0 := Qb HR.out 0
 have d1 := Qa HR.out 1
 have df1 := Qb HR.out 1
 have d2 := Qa HR.out 2
 have df2 := Qb HR.out 2
 have d3 := Qa HR.out 3
 have df3 := Qb HR.out 3
 have d4 := Qa HR.out 4
 have df4 := Qb HR.out 4
 have d5 := Qa HR.out 5
 have df5 := Qb HR.out 5
 have d6 := Qa HR.out 6
 have df6 := Qb HR.out 6
 have d7 := Qa HR.out 7
 have df7 := Qb HR.out 7
 have d8 := Qa HR.out 8
 have df8 := Qb HR.out 8
 have d9 := Qa HR.out 9
 have df9 := Qb HR.out 9
 have d10 := Qa HR.out 10
 have df10 := Qb HR.out 10
 have n02 : w.heap.size ≠ w.heap.size + 1 := by omega
 have n20 : w.heap.size + 1 ≠ w.heap.size := by omega
 have ht := fun wx => Qca now wx
 by_cases hgq : (goodLn ⟨nx, st, hi, [b0, b1, b2, b3, b4, b5, b6, b7]⟩ && timeB now) = true
 · have hgq2 := hgq
   rw [Bool.and_eq_true] at hgq2
   obtain ⟨hg, htm⟩ := hgq2
   have HTK : Hid (againLn ⟨nx, st, hi, [b0, b1, b2, b3, b4, b5, b6, b7]⟩ now = (⟨nx, st.flatMap (againS now), hi, [b0, b1, b2, b3, b4, b5, b6, b7]⟩, st.flatMap (againF now), 0)) := hid (by unfold againLn; rw [if_pos hgq])
   have hh := Qaa hg
   rw [QQ] at hh
   have hl8 : st.length ≤ 8 := hh.2.2.2.2
   have HMEM := hid (QaB (Qap hg))
   rw [hg]
   rw [htm] at ht
   have htm2 := htm
   simp only [timeB, decide_eq_true_eq] at htm2
   obtain ⟨t1, t2⟩ := htm2
   have HRW : Hid (RowAt w3 (.slice p1 st.length c1) sq) := hid (by have := Qi5 HO.out.own (by omega); exact this)
   have hsz3 : w.heap.size + 2 ≤ w3.heap.size := by have := Qw HR.out; omega
   clear hgq hh
   go_wp2_with (go_at_call 149; refine (ht _).mono ?_; rintro e w4 ⟨rfl, hw4⟩; rw [hw4]; clear hw4 w4)
   clear ht x0 d0 df0 x1 d1 df1 x2 d2 df2 x3 d3 df3 x4 d4 df4 x5 d5 df5 x6 d6 df6 x7 d7 df7 x8 d8 df8 x9 d9 df9 x10 d10 df10
   go_loopw [7, 8, 25] (fun v7 v8 i wr => ∃ (k : Nat) (qk : List SntV) (qa : List FrmV), k ≤ st.length ∧ i = .int .i64 k ∧ qk.map (·.s) = (st.take k).flatMap (againS now) ∧ qa.map (·.f) = (st.take k).flatMap (againF now) ∧ wr.ownsRow w3.heap.size 146 13 v7 qk.length (flatS qk) ∧ wr.ownsRow w3.heap.size 111 11 v8 qa.length (flatF qa) ∧ (∀ x ∈ qk, ∀ w'', Off (w.heap.size + 2) (Value.slice p1 st.length c1).ownBlock w3 w'' → x.Ok w'') ∧ (∀ w'', Off2 w3.heap.size v7.ownBlock v8.ownBlock wr w'' → ∀ x ∈ qa, x.Ok w'') ∧ Below w3.heap.size w3 wr) (fun _ _ i _ => st.length - (intOf i).toNat)
   case atStart => exact ⟨0, [], [], Nat.zero_le _, rfl, rfl, rfl, World.ownsRow_nil _ _ _ _, World.ownsRow_nil _ _ _ _, by simp, by simp, Below.refl _ _⟩
   case round =>
    obtain ⟨k, qk, qa, hk, rfl, hmk, hma, hok, hoa, hkk, hka, hb⟩ := hrel
    have hqk : qk.length ≤ k := by
     have h1 := congrArg List.length hmk
     have h2 := QbF now (st.take k)
     rw [List.length_map] at h1
     rw [List.length_take] at h2
     omega
    have hqa : qa.length ≤ k := by
     have h1 := congrArg List.length hma
     have h2 := QlM now (st.take k)
     rw [List.length_map] at h1
     rw [List.length_take] at h2
     omega
    have HQK := hid hqk
    have HQA := hid hqa
    obtain ⟨pk, ck, hvk⟩ := Qo hok
    subst hvk
    obtain ⟨pa, ca, hva⟩ := Qo hoa
    subst hva
    have HOK := hid hok
    have HOA := hid hoa
    have HKK := hid hkk
    have HKA := hid hka
    have HMK := hid hmk
    have HMA := hid hma
    clear hok hoa hkk hka hmk hma hqk hqa
    have hszr := hb.size
    by_cases hlt : k < st.length
    · have hI : (k : Int) < (st.length : Int) := by omega
      have hlq : k < sq.length := by omega
      obtain ⟨be, oe, hp1, hat3⟩ := HRW.out.get (fun x hx => HO.out.ok x hx w3 (Off.refl _ _ _)) k hlq
      have HX0 := hid (HO.out.ok sq[k] (List.getElem_mem hlq))
      have hsk : (sq[k]).s = st[k] := by
       have := congrArg (fun l => l[k]?) hmap
       simp only [List.getElem?_map, List.getElem?_eq_getElem hlq, List.getElem?_eq_getElem hlt, Option.map_some, Option.some.injEq] at this
       exact this
      generalize sq[k] = x0 at *
      obtain ⟨s0, vl, vg, vc⟩ := x0
      simp only at hsk hat3
      subst hsk
      obtain ⟨pl, cl, el, _⟩ := id hat3.lab
      obtain ⟨pg, cg, eg, _⟩ := id hat3.nums
      obtain ⟨pc, cc, ec, _⟩ := id hat3.crts
      subst el eg ec
      subst hp1
      have HOKS : Hid (∀ t d w'', Off (w.heap.size + 2) (Value.slice (some ⟨be, oe, none⟩) st.length c1).ownBlock w3 w'' → SntV.Ok w'' ⟨⟨(st[k]).f, t, d⟩, .slice pl (st[k]).f.mail.label.length cl, .slice pg (st[k]).f.mail.grants.length cg, .slice pc (st[k]).f.certs.length cc⟩) := hid (fun t d w'' ho => ⟨(HX0.out w'' ho).lab, (HX0.out w'' ho).nums, (HX0.out w'' ho).crts⟩)
      have hat := hat3.below hb
      have HS1 := hid (Qjn st k hlt (againS now))
      have HS2 := hid (QhA st k hlt (againF now))
      have hmem := HMEM.out st[k] (List.getElem_mem hlt)
      generalize st[k] = s at *
      have hts := hmem.2.2
      simp only [triesB, decide_eq_true_eq] at hts
      obtain ⟨ht1, ht2, hd1, hd2⟩ := hts
      obtain ⟨c0, c1', c2, c3, c4, c5, c6, c7, c8, c9, c10, c11, c12, _, _, _⟩ := hat
      clear hat3 hmem
      by_cases hdue : now < s.due
      · have HA1 : Hid (againS now s = [s]) := hid (by unfold againS; rw [if_pos hdue])
        have HA2 : Hid (againF now s = []) := hid (by unfold againF; rw [if_pos hdue])
        have HBW : Hid (Below wr.heap.size wr ((wr.alloc (.cells #[.int .i64 s.f.fr, .int .i64 s.f.to, .int .i64 s.f.seq, .bool s.f.ack, .int .i64 s.f.thread, .int .i64 s.f.mail.host, .int .i64 s.f.mail.thread, .slice pl s.f.mail.label.length cl, .slice pg s.f.mail.grants.length cg, .string ⟨s.f.mail.text.toArray⟩, .slice pc s.f.certs.length cc, .int .i64 s.tries, .int .i64 s.due] 146)).alloc (.cells #[.int .i64 s.f.fr, .int .i64 s.f.to, .int .i64 s.f.seq, .bool s.f.ack, .int .i64 s.f.thread, .int .i64 s.f.mail.host, .int .i64 s.f.mail.thread, .slice pl s.f.mail.label.length cl, .slice pg s.f.mail.grants.length cg, .string ⟨s.f.mail.text.toArray⟩, .slice pc s.f.certs.length cc, .int .i64 s.tries, .int .i64 s.due] 146))) := hid (Qc (Qd wr _) (Qd _ _))
        go_wp2_with (at_builtin; refine QcG rfl _ _ rfl w3.heap.size _ qk ⟨s, .slice pl s.f.mail.label.length cl, .slice pg s.f.mail.grants.length cg, .slice pc s.f.certs.length cc⟩ rfl (Qk HOK.out HBW.out) (wr.heap.size + 1) 1 rfl (HOKS.out s.tries s.due _ (Qbq (Qc hb HBW.out) (Off.refl _ _ _))) (Qe3 (QM wr _) ⟨s, .slice pl s.f.mail.label.length cl, .slice pg s.f.mail.grants.length cg, .slice pc s.f.certs.length cc⟩) (Nat.le_trans hb.size HBW.out.size) (by have := HQK.out; omega) ?_; intro v9 w9 hown9 hg9 hwh9)
        go_roundw
        case rel => exact ⟨k + 1, _, qa, hlt, by go_num, by rw [List.map_append, HMK.out, HS1.out, HA1.out]; rfl, by rw [HMA.out, HS2.out, HA2.out, List.append_nil], hown9, Qbw (Qk HOA.out HBW.out) (Qk HOK.out HBW.out) (by decide) hg9, fun x hx => (List.mem_append.1 hx).elim (HKK.out x) (fun hx => by rw [List.mem_singleton] at hx; subst hx; exact HOKS.out s.tries s.due), fun w'' ho => HKA.out w'' (QbA HBW.out (Qe8 hg9 hwh9 ho)), (hb.trans (HBW.out.mono hb.size)).grown hg9 (Nat.le_trans hb.size HBW.out.size) (fun i hi => Qs HOK.out hi)⟩
        case measure => simp [intOf]; omega
      · have hdue2 : s.due ≤ now := by omega
        by_cases h5 : s.tries = 5
        · have HA1 : Hid (againS now s = []) := hid (by unfold againS; rw [if_neg hdue, if_pos h5])
          have HA2 : Hid (againF now s = []) := hid (by unfold againF; rw [if_neg hdue, if_pos h5])
          have h5b : (s.tries == 5) = true := beq_iff_eq.2 h5
          clear h5 hdue
          go_wp2
          go_roundw
          case rel => exact ⟨k + 1, qk, qa, hlt, by go_num, by rw [HMK.out, HS1.out, HA1.out, List.append_nil], by rw [HMA.out, HS2.out, HA2.out, List.append_nil], Qk HOK.out (Qd wr _), Qk HOA.out (Qd wr _), HKK.out, fun w'' ho => HKA.out w'' (QbA (Qd wr _) ho), hb.trans ((Qd wr _).mono hb.size)⟩
          case measure => simp [intOf]; omega
        · have HA1 : Hid (againS now s = [⟨s.f, s.tries + 1, now + 2 ^ (s.tries + 1).toNat⟩]) := hid (by unfold againS; rw [if_neg hdue, if_neg h5])
          have HA2 : Hid (againF now s = [s.f]) := hid (by unfold againF; rw [if_neg hdue, if_neg h5])
          have h5b : (s.tries == 5) = false := beq_eq_false_iff_ne.2 h5
          have HDU := hid (fun wx => Qf9 (s.tries + 1) now (by omega) (by omega) t1 t2 wx)
          obtain ⟨D, hD⟩ : ∃ D, D = now + 2 ^ (s.tries + 1).toNat := ⟨_, rfl⟩
          rw [← hD] at HDU HA1
          clear h5 hdue hD
          go_upto_region 14 with (go_at_call 150; refine (HDU.out _).mono ?_; rintro e w4 ⟨rfl, hw4⟩; rw [hw4]; clear hw4 w4)
          have HBW : Hid (Below wr.heap.size wr ((wr.alloc (.cells #[.int .i64 s.f.fr, .int .i64 s.f.to, .int .i64 s.f.seq, .bool s.f.ack, .int .i64 s.f.thread, .int .i64 s.f.mail.host, .int .i64 s.f.mail.thread, .slice pl s.f.mail.label.length cl, .slice pg s.f.mail.grants.length cg, .string ⟨s.f.mail.text.toArray⟩, .slice pc s.f.certs.length cc, .int .i64 (s.tries + 1), .int .i64 D] 146)).alloc (.cells #[.int .i64 s.f.fr, .int .i64 s.f.to, .int .i64 s.f.seq, .bool s.f.ack, .int .i64 s.f.thread, .int .i64 s.f.mail.host, .int .i64 s.f.mail.thread, .slice pl s.f.mail.label.length cl, .slice pg s.f.mail.grants.length cg, .string ⟨s.f.mail.text.toArray⟩, .slice pc s.f.certs.length cc, .int .i64 (s.tries + 1), .int .i64 D] 146))) := hid (Qc (Qd wr _) (Qd _ _))
          go_upto_region 15 with (at_builtin; refine QcG rfl _ _ rfl w3.heap.size _ qk ⟨⟨s.f, s.tries + 1, D⟩, .slice pl s.f.mail.label.length cl, .slice pg s.f.mail.grants.length cg, .slice pc s.f.certs.length cc⟩ rfl (Qk HOK.out HBW.out) (wr.heap.size + 1) 1 rfl (HOKS.out (s.tries + 1) D _ (Qbq (Qc hb HBW.out) (Off.refl _ _ _))) (Qe3 (QM wr _) ⟨⟨s.f, s.tries + 1, D⟩, .slice pl s.f.mail.label.length cl, .slice pg s.f.mail.grants.length cg, .slice pc s.f.certs.length cc⟩) (Nat.le_trans hb.size HBW.out.size) (by have := HQK.out; omega) ?_; intro v9 w9 hown9 hg9 hwh9)
          have hX9 : w9.heap[wr.heap.size]? = some (.cells #[.int .i64 s.f.fr, .int .i64 s.f.to, .int .i64 s.f.seq, .bool s.f.ack, .int .i64 s.f.thread, .int .i64 s.f.mail.host, .int .i64 s.f.mail.thread, .slice pl s.f.mail.label.length cl, .slice pg s.f.mail.grants.length cg, .string ⟨s.f.mail.text.toArray⟩, .slice pc s.f.certs.length cc, .int .i64 (s.tries + 1), .int .i64 D] 146 (0, 0)) := by
           rw [hg9.block _ (by have := HBW.out.size; rw [QM, QM]; omega) (fun e => by have := Qhr HOK.out e.symm; omega)]
           exact heap_alloc2_old wr _ _
          have hoa9 := Qbw (Qk HOA.out HBW.out) (Qk HOK.out HBW.out) (by decide) hg9
          have hb9 : Below w3.heap.size w3 w9 := (hb.trans (HBW.out.mono hb.size)).grown hg9 (Nat.le_trans hb.size HBW.out.size) (fun i hi => Qs HOK.out hi)
          have HKA9 := hid (fun w'' (ho : Off2 w3.heap.size v9.ownBlock (Value.slice pa qa.length ca).ownBlock w9 w'') => HKA.out w'' (QbA HBW.out (Qe8 hg9 hwh9 ho)))
          have HOWN9 := hid hown9
          have HOA9 := hid hoa9
          have hz9 : wr.heap.size < w9.heap.size := Qw hX9
          have HFR : Hid (FrmAt w9 (.agg #[.int .i64 s.f.fr, .int .i64 s.f.to, .int .i64 s.f.seq, .bool s.f.ack, .int .i64 s.f.thread, .int .i64 s.f.mail.host, .int .i64 s.f.mail.thread, .slice pl s.f.mail.label.length cl, .slice pg s.f.mail.grants.length cg, .string ⟨s.f.mail.text.toArray⟩, .slice pc s.f.certs.length cc]) s.f) := hid ⟨_, _, _, rfl, (HOKS.out 0 0 w3 (Off.refl _ _ _)).lab.below hb9, (HOKS.out 0 0 w3 (Off.refl _ _ _)).nums.below hb9, (HOKS.out 0 0 w3 (Off.refl _ _ _)).crts.below hb9⟩
          have y0 := Qa hX9 0
          have y1 := Qa hX9 1
          have y2 := Qa hX9 2
          have y3 := Qa hX9 3
          have y4 := Qa hX9 4
          have y5 := Qa hX9 5
          have y6 := Qa hX9 6
          have y7 := Qa hX9 7
          have y8 := Qa hX9 8
          have y9 := Qa hX9 9
          have y10 := Qa hX9 10
          clear hX9 hoa9 hown9 hg9 hwh9 HBW HOK HOA HKA
          go_wp2_with fail
          refine (QbY _ s.f _ HFR.out).mono ?_
          rintro e w10 ⟨pA, cA, pD, cD, pC, cC, rfl, hcopy, hw10⟩
          have HBW : Hid (Below w9.heap.size w9 (w10.alloc (.cells #[.int .i64 s.f.fr, .int .i64 s.f.to, .int .i64 s.f.seq, .bool s.f.ack, .int .i64 s.f.thread, .int .i64 s.f.mail.host, .int .i64 s.f.mail.thread, .slice pA s.f.mail.label.length cA, .slice pD s.f.mail.grants.length cD, .string ⟨s.f.mail.text.toArray⟩, .slice pC s.f.certs.length cC] 111))) := hid (Qc hw10 (Qd _ _))
          have HYO : Hid (FrmV.Ok (w10.alloc (.cells #[.int .i64 s.f.fr, .int .i64 s.f.to, .int .i64 s.f.seq, .bool s.f.ack, .int .i64 s.f.thread, .int .i64 s.f.mail.host, .int .i64 s.f.mail.thread, .slice pA s.f.mail.label.length cA, .slice pD s.f.mail.grants.length cD, .string ⟨s.f.mail.text.toArray⟩, .slice pC s.f.certs.length cC] 111)) ⟨s.f, .slice pA s.f.mail.label.length cA, .slice pD s.f.mail.grants.length cD, .slice pC s.f.certs.length cC⟩) := hid (by obtain ⟨q1, q2, q3⟩ := hcopy _ (QU (Qd w10 _)); exact ⟨q1, q2, q3⟩)
          clear y0 y1 y2 y3 y4 y5 y6 y7 y8 y9 y10
          go_wp2_with (at_builtin; refine Qgh rfl _ _ rfl w3.heap.size _ qa ⟨s.f, .slice pA s.f.mail.label.length cA, .slice pD s.f.mail.grants.length cD, .slice pC s.f.certs.length cC⟩ rfl (Qk HOA9.out HBW.out) w10.heap.size 1 rfl HYO.out (Qj6 rfl ⟨s.f, .slice pA s.f.mail.label.length cA, .slice pD s.f.mail.grants.length cD, .slice pC s.f.certs.length cC⟩) (Nat.le_trans hb9.size HBW.out.size) (by have := HQA.out; omega) ?_; intro v11 w11 hown11 hg11 hwh11)
          go_roundw
          case rel =>
           refine ⟨k + 1, qk ++ [⟨⟨s.f, s.tries + 1, D⟩, .slice pl s.f.mail.label.length cl, .slice pg s.f.mail.grants.length cg, .slice pc s.f.certs.length cc⟩], qa ++ [⟨s.f, .slice pA s.f.mail.label.length cA, .slice pD s.f.mail.grants.length cD, .slice pC s.f.certs.length cC⟩], hlt, by go_num, by rw [List.map_append, HMK.out, HS1.out, HA1.out]; rfl, by rw [List.map_append, HMA.out, HS2.out, HA2.out]; rfl, Qbw (Qk HOWN9.out HBW.out) (Qk HOA9.out HBW.out) (show (146 : Nat) ≠ 111 by decide) hg11, hown11, fun x hx => (List.mem_append.1 hx).elim (HKK.out x) (fun hx => by rw [List.mem_singleton] at hx; subst hx; exact HOKS.out (s.tries + 1) D), fun w'' ho x hx => ?_, (hb9.trans (HBW.out.mono hb9.size)).grown hg11 (Nat.le_trans hb9.size HBW.out.size) (fun i hi => Qs HOA9.out hi)⟩
           rcases List.mem_append.1 hx with hx | hx
           · exact HKA9.out w'' (QbA HBW.out (Qeb hg11 hwh11 ho)) x hx
           · rw [List.mem_singleton] at hx
             subst hx
             have ho2 := Qeb hg11 hwh11 ho
             obtain ⟨q1, q2, q3⟩ := hcopy w'' (fun i hi his => by
              rw [ho2 i (by have := hb9.size; omega) (by rw [QM]; omega) (fun e => by have := Qhr HOWN9.out e; omega) (fun e => by have := Qhr HOA9.out e; omega)]
              exact (Qd w10 _).block i his)
             exact ⟨q1, q2, q3⟩
          case measure => simp [intOf]; omega
    · have hI : ¬ (k : Int) < (st.length : Int) := by omega
      have hkl : k = st.length := by omega
      subst hkl
      have hmk := HMK.out
      have hma := HMA.out
      rw [List.take_length] at hmk hma
      have HMK2 := hid hmk
      have hX := Qe HX.out hb
      have hR := Qe HR.out hb
      have gS := Qg wr w.heap.size 1 (.slice pk qk.length ck)
      have hX2 : (wr.setCell ⟨w.heap.size, 1, none⟩ (.slice pk qk.length ck)).heap[w.heap.size]? = some (.cells #[.int .i64 nx, .slice pk qk.length ck, .int .i64 hi, .bool b0, .bool b1, .bool b2, .bool b3, .bool b4, .bool b5, .bool b6, .bool b7] 71 (0, 0)) := heap_setCell (j := 1) hX (.slice pk qk.length ck)
      have hR2 := Qr hR (show w.heap.size + 1 ≠ w.heap.size by omega) 1 (.slice pk qk.length ck)
      have hbr := Qc hbw3 hb
      have hbr2 := hbr.grown gS hbr.size (fun k hk => by have := Option.some.inj hk; omega)
      have hown7 := Qp (HOK.out.kept gS (Or.inr fun e => by have := Qs HOK.out e; omega)) (show w.heap.size + 2 ≤ w3.heap.size from hsz3)
      have hOw7 : OwnRow (w.heap.size + 2) (wr.setCell ⟨w.heap.size, 1, none⟩ (.slice pk qk.length ck)) (.slice pk qk.length ck) qk := ⟨hown7, fun x hx w' ho => HKK.out x hx w' (fun j hj1 hj2 hj3 => by
       rw [ho j hj1 (Nat.lt_of_lt_of_le hj2 (Nat.le_trans hb.size gS.size)) (fun e => by have := Qs HOK.out e; omega), gS.block j (Nat.lt_of_lt_of_le hj2 hb.size) (fun e => by have := Option.some.inj e; omega)]
       exact hb.block j hj2)⟩
      have HFA : Hid (∀ w'', Since (w.heap.size + 2) (wr.setCell ⟨w.heap.size, 1, none⟩ (.slice pk qk.length ck)) w'' → FrmsAt w'' (.slice pa qa.length ca) (st.flatMap (againF now))) := hid (fun w'' ho => by
       have h1 : ∀ j, w3.heap.size ≤ j → j < wr.heap.size → w''.heap[j]? = wr.heap[j]? := fun j h1 h2 => by
        rw [ho j (by omega) (Nat.lt_of_lt_of_le h2 gS.size), gS.block j h2 (fun e => by have := Option.some.inj e; omega)]
       exact QdU (Q3 HOA.out (fun j h2 h3 => h1 j h2 h3)) (by have := HQA.out; omega) hma (HKA.out w'' (fun j h2 h3 _ _ => h1 j h2 h3)))
      have x1 := Qa hX 1
      have xf1 := Qb hX 1
      have HX2 := hid hX2
      have HR2 := hid hR2
      have HO2 := hid hOw7
      clear hX hR gS hX2 hR2 hbr hown7 hOw7 hmk hma
      go_upto_region 18 with fail
      clear x1 xf1 HOK HOA HKK HKA HMK HMA HX HR HO HRW hb hszr HMEM hsz3
      generalize wr.setCell ⟨w.heap.size, 1, none⟩ (.slice pk qk.length ck) = w7 at *
      have x0 := Qa HX2.out 0
      have x1 := Qa HX2.out 1
      have x2 := Qa HX2.out 2
      have x3 := Qa HX2.out 3
      have x4 := Qa HX2.out 4
      have x5 := Qa HX2.out 5
      have x6 := Qa HX2.out 6
      have x7 := Qa HX2.out 7
      have x8 := Qa HX2.out 8
      have x9 := Qa HX2.out 9
      have x10 := Qa HX2.out 10
      have d0 := Qa HR2.out 0
      have df0 := Qb HR2.out 0
      have d1 := Qa HR2.out 1
      have df1 := Qb HR2.out 1
      have d2 := Qa HR2.out 2
      have df2 := Qb HR2.out 2
      have d3 := Qa HR2.out 3
      have df3 := Qb HR2.out 3
      have d4 := Qa HR2.out 4
      have df4 := Qb HR2.out 4
      have d5 := Qa HR2.out 5
      have df5 := Qb HR2.out 5
      have d6 := Qa HR2.out 6
      have df6 := Qb HR2.out 6
      have d7 := Qa HR2.out 7
      have df7 := Qb HR2.out 7
      have d8 := Qa HR2.out 8
      have df8 := Qb HR2.out 8
      have d9 := Qa HR2.out 9
      have df9 := Qb HR2.out 9
      have d10 := Qa HR2.out 10
      have df10 := Qb HR2.out 10
      go_wp2
      have hS := Qj w7 (w.heap.size + 1) (.int .i64 nx) (.slice pk qk.length ck) (.int .i64 hi) (.bool b0) (.bool b1) (.bool b2) (.bool b3) (.bool b4) (.bool b5) (.bool b6) (.bool b7)
      have hW := Ql (.int .i64 nx) (.slice pk qk.length ck) (.int .i64 hi) (.bool b0) (.bool b1) (.bool b2) (.bool b3) (.bool b4) (.bool b5) (.bool b6) (.bool b7) HR2.out
      have hO := HO2.out.box hS (by omega)
      have hbE := hbr2.grown hS hbr2.size (fun k hk => by have := Option.some.inj hk; omega)
      exact bodyPost_ret (QbC rfl _ _ (w.heap.size + 1) _ rfl (Qu rfl hW)) rfl ⟨_, _, by rw [HTK.out]; rfl, by rw [HTK.out]; exact QC (hO.low (by omega)) HMK2.out (by have := HQK.out; omega) nx hi b0 b1 b2 b3 b4 b5 b6 b7, fun w'' ho => by rw [HTK.out]; exact HFA.out w'' ((Q0 hS (by omega)).trans (ho.mono (by omega)) hS.size), hbE⟩
 · have HTK : Hid (againLn ⟨nx, st, hi, [b0, b1, b2, b3, b4, b5, b6, b7]⟩ now = (⟨nx, st, hi, [b0, b1, b2, b3, b4, b5, b6, b7]⟩, [], 2)) := hid (by unfold againLn; rw [if_neg hgq])
   cases hg : goodLn ⟨nx, st, hi, [b0, b1, b2, b3, b4, b5, b6, b7]⟩ with
   | false =>
    clear hgq
    go_wp2
    have hS := Qj w3 (w.heap.size + 1) (.int .i64 nx) (.slice p1 st.length c1) (.int .i64 hi) (.bool b0) (.bool b1) (.bool b2) (.bool b3) (.bool b4) (.bool b5) (.bool b6) (.bool b7)
    have hW := Ql (.int .i64 nx) (.slice p1 st.length c1) (.int .i64 hi) (.bool b0) (.bool b1) (.bool b2) (.bool b3) (.bool b4) (.bool b5) (.bool b6) (.bool b7) HR.out
    have hO := HO.out.box hS (by omega)
    have hbE := hbw3.grown hS hbw3.size (fun k hk => by have := Option.some.inj hk; omega)
    exact bodyPost_ret (QbC rfl _ _ (w.heap.size + 1) _ rfl (Qu rfl hW)) rfl ⟨_, _, by rw [HTK.out]; rfl, by rw [HTK.out]; exact QC (hO.low (by omega)) hmap (by omega) nx hi b0 b1 b2 b3 b4 b5 b6 b7, fun w'' _ => by rw [HTK.out]; exact QdU (q := []) (World.ownsRow_nil w'' 0 _ _) (by simp) rfl (by simp), hbE⟩
   | true =>
    have htm : timeB now = false := by
     rw [hg, Bool.true_and] at hgq
     cases e : timeB now with
     | true => exact absurd e hgq
     | false => rfl
    rw [htm] at ht
    clear hgq
    go_wp2_with (go_at_call 149; refine (ht _).mono ?_; rintro e w4 ⟨rfl, hw4⟩; rw [hw4]; clear hw4 w4)
    have hS := Qj w3 (w.heap.size + 1) (.int .i64 nx) (.slice p1 st.length c1) (.int .i64 hi) (.bool b0) (.bool b1) (.bool b2) (.bool b3) (.bool b4) (.bool b5) (.bool b6) (.bool b7)
    have hW := Ql (.int .i64 nx) (.slice p1 st.length c1) (.int .i64 hi) (.bool b0) (.bool b1) (.bool b2) (.bool b3) (.bool b4) (.bool b5) (.bool b6) (.bool b7) HR.out
    have hO := HO.out.box hS (by omega)
    have hbE := hbw3.grown hS hbw3.size (fun k hk => by have := Option.some.inj hk; omega)
    exact bodyPost_ret (QbC rfl _ _ (w.heap.size + 1) _ rfl (Qu rfl hW)) rfl ⟨_, _, by rw [HTK.out]; rfl, by rw [HTK.out]; exact QC (hO.low (by omega)) hmap (by omega) nx hi b0 b1 b2 b3 b4 b5 b6 b7, fun w'' _ => by rw [HTK.out]; exact QdU (q := []) (World.ownsRow_nil w'' 0 _ _) (by simp) rfl (by simp), hbE⟩
end Go.Proofs.YtpdijobakfpnbaaGreat
