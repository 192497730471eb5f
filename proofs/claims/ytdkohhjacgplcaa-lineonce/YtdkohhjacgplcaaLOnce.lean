/- The statement LineOnce. -/
import Derived.Test.YtdkohhjacgplcaaLBox
import Derived.Test.YtdkohhjacgplcaaTSet
import Derived.Test.YtdkohhjacgplcaaTakeD
import Derived.Deep.DeepCutAuto
import Derived.Deep.RegionHeld3
namespace Go.Proofs.Ytdkohhjacgplcaa
open Go.RowKit Go.Proofs.Parclose Go.Maps

theorem SntsAt.agree {w w' : World} {v : Value} {l : List Snt} (h : SntsAt w v l) (ha : ∀ k, k < w.heap.size → w'.heap[k]? = w.heap[k]?) : SntsAt w' v l := by
  obtain ⟨q, h1, h2, p, cap, h3, h4, h5, h6⟩ := h
  refine ⟨q, h1, fun x hx => (h2 x hx).agree ha, p, cap, h3, h4, h5, fun h0 => ?_⟩
  obtain ⟨b, o, e, hc⟩ := h6 h0
  exact ⟨b, o, e, fun j u hu => cell_agree ha (hc j u hu)⟩
theorem row_of_own {B : Nat} {w : World} {v : Value} {q : List SntV} (h : w.ownsRow B 56 13 v q.length (flatS q)) (hl : q.length ≤ 879609302220) : RowAt w v q := by
  rcases h.2 with ⟨hn, h0⟩ | ⟨g, cap, cur, rfl, hbg, hgg, h1, h2, h3, h4⟩
  · rw [hn]
    refine ⟨none, 0, by rw [h0], ⟨by omega, fun _ => rfl⟩, hl, fun h => by omega⟩
  · refine ⟨some ⟨g, 0, none⟩, cap, rfl, ⟨h1, fun e => by cases e⟩, hl, fun _ => ⟨g, 0, rfl, fun j u hu => ?_⟩⟩
    have := World.ownsRow.cells h (g := g) rfl _ _ hu
    rwa [WideShapes.add_plain] at this
theorem OwnRow.far {B : Nat} {w w' : World} {v : Value} {q : List SntV} (h : OwnRow B w v q) (hl : q.length ≤ 879609302220) (ha : ∀ k, B ≤ k → k < w.heap.size → w'.heap[k]? = w.heap[k]?) : SntsAt w' v (q.map (·.s)) :=
  ⟨q, rfl, fun x hx => h.ok x hx w' (fun k hk hs _ => ha k hk hs), row_of_own (own_since h.own ha) hl⟩

/-- the line L lies in block b; whatever is stored there, or in the block behind, its row stays -/
def LBoxR (w : World) (b : Nat) (L : Lne) : Prop := ∃ nx st hi b0 b1 b2 b3 b4 b5 b6 b7 p cap, L = ⟨nx, st, hi, [b0, b1, b2, b3, b4, b5, b6, b7]⟩ ∧ w.heap[b]? = some (.cells #[.int .i64 nx, .slice p st.length cap, .int .i64 hi, .bool b0, .bool b1, .bool b2, .bool b3, .bool b4, .bool b5, .bool b6, .bool b7] 25 (0, 0)) ∧ ∀ w', (∀ k, k < w.heap.size → k ≠ b → k ≠ b + 1 → w'.heap[k]? = w.heap[k]?) → SntsAt w' (.slice p st.length cap) st
theorem LBoxR.keep {w w' : World} {b : Nat} {L : Lne} (h : LBoxR w b L) (hg : w.grownBy w' (some (b + 1))) : LBoxR w' b L := by
  obtain ⟨nx, st, hi, b0, b1, b2, b3, b4, b5, b6, b7, p, cap, h1, h2, h3⟩ := h
  exact ⟨nx, st, hi, b0, b1, b2, b3, b4, b5, b6, b7, p, cap, h1, heap_tk h2 (by omega) hg, fun w'' ha => h3 w'' fun k hk k1 k2 => by rw [ha k (Nat.lt_of_lt_of_le hk hg.size) k1 k2, hg.block k hk (fun e => k2 (Option.some.inj e))]⟩
theorem LBoxR.later {w w' : World} {b : Nat} {L : Lne} (h : LBoxR w b L) (hb : Below w.heap.size w w') : LBoxR w' b L := h.keep (grown_below hb _)
theorem lboxr_row {w : World} {b B : Nat} {sq : List SntV} {p : Option Addr} {cap : Nat} {st : List Snt} (h : OwnRow B w (.slice p st.length cap) sq) (hB : b + 1 < B) (hm : sq.map (·.s) = st) (hl : sq.length ≤ 879609302220) (nx hi : Int) (b0 b1 b2 b3 b4 b5 b6 b7 : Bool) (hb : w.heap[b]? = some (.cells #[.int .i64 nx, .slice p st.length cap, .int .i64 hi, .bool b0, .bool b1, .bool b2, .bool b3, .bool b4, .bool b5, .bool b6, .bool b7] 25 (0, 0))) : LBoxR w b ⟨nx, st, hi, [b0, b1, b2, b3, b4, b5, b6, b7]⟩ :=
  ⟨nx, st, hi, b0, b1, b2, b3, b4, b5, b6, b7, p, cap, rfl, hb, fun w' ha => by have := h.far (w' := w') hl (fun k hk hs => ha k hs (by omega) (by omega)); rwa [hm] at this⟩

theorem once_more {l : Lne} {cl : List Int} {q : Int} (h : Once l (fun s => decide (s ∈ cl))) (h0 : (takeLn l q).2 = 0) : Once (takeLn l q).1 (fun s => decide (s ∈ cl ++ [q])) := by
  have := h.more h0
  have e : (fun s => if s = q then true else decide (s ∈ cl)) = fun s => decide (s ∈ cl ++ [q]) := by
    funext s
    by_cases hs : s = q
    · simp [hs]
    · simp [hs]
  rwa [e] at this

set_option linter.unusedSimpArgs false in
set_option maxRecDepth 100000 in
set_option maxHeartbeats 6400000 in
theorem lineOnce_any (v vq : Value) (L : Lne) (seqs : List Int) (w : World) (hv : LneAt w v L) (hq : IntsAt w vq seqs) :
    Calls Try.prog 6 #[v, vq] w fun e w' => e = .returned (.bool true) ∧ Below w.heap.size w w' := by
  obtain ⟨nx, st, hi, b0, b1, b2, b3, b4, b5, b6, b7, p, cap, rfl, rfl, hs⟩ := hv.spell
  obtain ⟨pq, cq, rfl, _, _, hcq⟩ := hq
  have hmm := @run_makeMap Try.prog
  have h8 : ([b0, b1, b2, b3, b4, b5, b6, b7] : List Bool).length = 8 := rfl
  go_enter Try.func6, Try.ntmps6
  go_wp2
  go_loopw [6] (fun i wr => ∃ (k n : Nat) (L : Lne) (D : DataW Unit) (cl : List Int), k ≤ 100 ∧ i = .int .i64 k ∧ n ≤ k ∧ wr.ownsMap Try.prog 3 (plainElem (H := Unit) Try.prog 4) (w.heap.size + 1) n D ∧ TrueSet D cl ∧ Once L (fun s => decide (s ∈ cl)) ∧ LBoxR wr w.heap.size L ∧ Below w.heap.size w wr) (fun i _ => 100 - (intOf i).toNat)
  case atStart =>
    refine ⟨0, 0, ⟨nx, st, hi, [b0, b1, b2, b3, b4, b5, b6, b7]⟩, _, [], Nat.zero_le _, rfl, Nat.le_refl _, (by have := World.ownsMap_made (w.alloc (.cells #[.int .i64 nx, .slice p st.length cap, .int .i64 hi, .bool b0, .bool b1, .bool b2, .bool b3, .bool b4, .bool b5, .bool b6, .bool b7] 25)) Try.prog 3 (plainElem (H := Unit) Try.prog 4); rwa [size_box] at this), trueSet_nil, ⟨rfl, fun s hs => by simp at hs⟩, ⟨nx, st, hi, b0, b1, b2, b3, b4, b5, b6, b7, p, cap, rfl, heap_alloc2_old w _ _, fun w' ha => hs.agree fun k hk => ?_⟩, (below_box w _).alloc (by simp) _⟩
    rw [ha k (by simp; omega) (by omega) (by omega)]
    exact ((below_box w _).alloc (by simp) _).block k hk
  case round =>
    clear hs hv h8 hmm
    obtain ⟨k, n, L, D, cl, hk, rfl, hn, hown, hD, hon, hbx, hb⟩ := hrel
    by_cases hlt : k < seqs.length ∧ k < 100
    · obtain ⟨hl1, hl2⟩ := hlt
      have hI1 : (k : Int) < (seqs.length : Int) := by omega
      have hI2 : (k : Int) < 100 := by omega
      obtain ⟨bq, oq, rfl, hcQ⟩ := hcq (by omega)
      have cqk := (hcQ.below hb) k hl1
      have hpk := fun wx => lpick_any seqs[k] 60 wx (by omega) (by omega)
      have HBX := hid hbx
      have HON := hid hon
      have HOWN := hid hown
      obtain ⟨nx0, st0, hi0, b00, b10, b20, b30, b40, b50, b60, b70, p0, cap0, rfl, hX0, hR0⟩ := id hbx
      have hL0 := lne_of (hR0 wr (fun _ _ _ _ => rfl)) nx0 hi0 b00 b10 b20 b30 b40 b50 b60 b70
      have x0 := heap_cell hX0 0
      have x1 := heap_cell hX0 1
      have x2 := heap_cell hX0 2
      have x3 := heap_cell hX0 3
      have x4 := heap_cell hX0 4
      have x5 := heap_cell hX0 5
      have x6 := heap_cell hX0 6
      have x7 := heap_cell hX0 7
      have x8 := heap_cell hX0 8
      have x9 := heap_cell hX0 9
      have x10 := heap_cell hX0 10
      have hlt0 := heap_lt hX0
      have HX0 := hid hX0
      clear hbx hX0 hR0 hon hown hcQ hcq
      go_wp2_with (go_at_call 24; refine (hpk _).mono ?_; rintro e wp ⟨j, rfl, hj, hwp⟩; rw [hwp]; clear hwp wp)
      have hwq : IntKind.i64.wrap ((j : Int) + 1) = (j : Int) + 1 := wrap_small _ (by omega) (by omega)
      obtain ⟨q, hqe⟩ : ∃ q : Int, q = (j : Int) + 1 := ⟨_, rfl⟩
      have hq1 : 1 ≤ q := by omega
      have hq2 : q ≤ 60 := by omega
      rw [← hqe]
      clear hwq hpk hqe hj cqk
      refine (ltake_any _ _ q _ hL0).mono ?_
      rintro e w1 ⟨v1, rfl, hn1, hw1⟩
      obtain ⟨cd, hcd⟩ : ∃ cd, cd = (takeLn ⟨nx0, st0, hi0, [b00, b10, b20, b30, b40, b50, b60, b70]⟩ q).2 := ⟨_, rfl⟩
      rw [← hcd]
      obtain ⟨nx1, st1, hi1, b01, b11, b21, b31, b41, b51, b61, b71, p1, cap1, sq1, e1, rfl, hm1, hl1, ho1⟩ := hn1.spell
      have hsame : goodLn ⟨nx1, st1, hi1, [b01, b11, b21, b31, b41, b51, b61, b71]⟩ = goodLn ⟨nx0, st0, hi0, [b00, b10, b20, b30, b40, b50, b60, b70]⟩ := by have := take_same ⟨nx0, st0, hi0, [b00, b10, b20, b30, b40, b50, b60, b70]⟩ q; rwa [e1] at this
      have hokk : cd = 0 → decide (q ∈ cl) = false ∧ q ≤ hi1 := fun h0 => by have := HON.out.ok (q := q) (by rw [← hcd]; exact h0); rw [e1] at this; exact this
      have hnot : decide (q ∈ cl) = true → cd = 10 ∨ cd = 11 := fun hh => by have := HON.out.not (q := q) ⟨hq1, by omega⟩ hh; rw [← hcd] at this; exact this
      have HKEEP : Hid (Once ⟨nx1, st1, hi1, [b01, b11, b21, b31, b41, b51, b61, b71]⟩ (fun s => decide (s ∈ cl))) := hid (by have := HON.out.keep (q := q); rwa [e1] at this)
      have HMORE : Hid (cd = 0 → Once ⟨nx1, st1, hi1, [b01, b11, b21, b31, b41, b51, b61, b71]⟩ (fun s => decide (s ∈ cl ++ [q]))) := hid (fun h0 => by have := once_more HON.out (q := q) (by rw [← hcd]; exact h0); rwa [e1] at this)
      clear hn1 e1 hcd HON
      have hbw2 := below_then hw1 (below_box w1 (.cells #[.int .i64 nx1, .slice p1 st1.length cap1, .int .i64 hi1, .bool b01, .bool b11, .bool b21, .bool b31, .bool b41, .bool b51, .bool b61, .bool b71] 25))
      have hown2 := HOWN.out.kept (grown_of_below hbw2) (by simp)
      have hX2 := heap_alloc_new w1 (.cells #[.int .i64 nx1, .slice p1 st1.length cap1, .int .i64 hi1, .bool b01, .bool b11, .bool b21, .bool b31, .bool b41, .bool b51, .bool b61, .bool b71] 25)
      have HX2 := hid hX2
      have HBX2 := hid (HBX.out.later hbw2)
      have hO2 := ho1.below (below_box w1 (.cells #[.int .i64 nx1, .slice p1 st1.length cap1, .int .i64 hi1, .bool b01, .bool b11, .bool b21, .bool b31, .bool b41, .bool b51, .bool b61, .bool b71] 25))
      have HO2 := hid hO2
      have hL2 := lne_of (by have := hO2.snts hl1; rwa [hm1] at this) nx1 hi1 b01 b11 b21 b31 b41 b51 b61 b71
      have hL02 := hL0.below hbw2
      have hlook : ∀ wx : World, wx.ownsMap Try.prog 3 (plainElem (H := Unit) Try.prog 4) (w.heap.size + 1) n D → (Instr.lookup 51 (.map (some (w.heap.size + 1))) (.int .i64 q) false).run Try.prog wx = .ok (.bool (decide (q ∈ cl))) wx := fun wx h => look_int h hD q (by simp [Lit.wf, IntKind.min, IntKind.max, IntKind.signed, IntKind.bits]; omega)
      have hM1 : w.heap.size + 1 < wr.heap.size := HOWN.out.lt
      have hXB := heap_keep HX0.out hbw2
      have HXB := hid hXB
      have HG1 : Hid (∀ wx, Below (w1.alloc (.cells #[.int .i64 nx1, .slice p1 st1.length cap1, .int .i64 hi1, .bool b01, .bool b11, .bool b21, .bool b31, .bool b41, .bool b51, .bool b61, .bool b71] 25)).heap.size (w1.alloc (.cells #[.int .i64 nx1, .slice p1 st1.length cap1, .int .i64 hi1, .bool b01, .bool b11, .bool b21, .bool b31, .bool b41, .bool b51, .bool b61, .bool b71] 25)) wx → Calls Try.prog 15 #[.agg #[.int .i64 nx0, .slice p0 st0.length cap0, .int .i64 hi0, .bool b00, .bool b10, .bool b20, .bool b30, .bool b40, .bool b50, .bool b60, .bool b70]] wx fun e w' => e = .returned (.bool (goodLn ⟨nx0, st0, hi0, [b00, b10, b20, b30, b40, b50, b60, b70]⟩)) ∧ Below wx.heap.size wx w') := hid (fun wx h => lgood_any _ _ _ (hL02.below h))
      have HG2 : Hid (∀ wx, Below (w1.alloc (.cells #[.int .i64 nx1, .slice p1 st1.length cap1, .int .i64 hi1, .bool b01, .bool b11, .bool b21, .bool b31, .bool b41, .bool b51, .bool b61, .bool b71] 25)).heap.size (w1.alloc (.cells #[.int .i64 nx1, .slice p1 st1.length cap1, .int .i64 hi1, .bool b01, .bool b11, .bool b21, .bool b31, .bool b41, .bool b51, .bool b61, .bool b71] 25)) wx → Calls Try.prog 15 #[.agg #[.int .i64 nx1, .slice p1 st1.length cap1, .int .i64 hi1, .bool b01, .bool b11, .bool b21, .bool b31, .bool b41, .bool b51, .bool b61, .bool b71]] wx fun e w' => e = .returned (.bool (goodLn ⟨nx0, st0, hi0, [b00, b10, b20, b30, b40, b50, b60, b70]⟩)) ∧ Below wx.heap.size wx w') := hid (fun wx h => by have := lgood_any _ _ _ (hL2.below h); rwa [hsame] at this)
      generalize goodLn ⟨nx0, st0, hi0, [b00, b10, b20, b30, b40, b50, b60, b70]⟩ = gb at *
      have HHAD : Hid (∀ w', Below (w1.alloc (.cells #[.int .i64 nx1, .slice p1 st1.length cap1, .int .i64 hi1, .bool b01, .bool b11, .bool b21, .bool b31, .bool b41, .bool b51, .bool b61, .bool b71] 25)).heap.size (w1.alloc (.cells #[.int .i64 nx1, .slice p1 st1.length cap1, .int .i64 hi1, .bool b01, .bool b11, .bool b21, .bool b31, .bool b41, .bool b51, .bool b61, .bool b71] 25)) w' → (Instr.lookup 51 (.map (some (w.heap.size + 1))) (.int .i64 q) false).run Try.prog w' = .ok (.bool (decide (q ∈ cl))) w') := hid (fun w' h => hlook w' (hown2.kept (grown_of_below h) (by simp)))
      obtain ⟨had, hhad⟩ : ∃ had, had = decide (q ∈ cl) := ⟨_, rfl⟩
      rw [← hhad] at hokk hnot HHAD
      have HHE := hid hhad
      clear hhad hlook
      clear x0 x1 x2 x3 x4 x5 x6 x7 x8 x9 x10 hL0 hL02 hL2 hsame
      have HOWN2 := hid hown2
      have HS7 : Hid (∀ w', Below (w1.alloc (.cells #[.int .i64 nx1, .slice p1 st1.length cap1, .int .i64 hi1, .bool b01, .bool b11, .bool b21, .bool b31, .bool b41, .bool b51, .bool b61, .bool b71] 25)).heap.size (w1.alloc (.cells #[.int .i64 nx1, .slice p1 st1.length cap1, .int .i64 hi1, .bool b01, .bool b11, .bool b21, .bool b31, .bool b41, .bool b51, .bool b61, .bool b71] 25)) w' → w'.cell? ⟨w.heap.size, 0, none⟩ = some (.int .i64 nx0) ∧ w'.cell? ⟨w.heap.size, 1, none⟩ = some (.slice p0 st0.length cap0) ∧ w'.cell? ⟨w.heap.size, 2, none⟩ = some (.int .i64 hi0) ∧ w'.cell? ⟨w.heap.size, 3, none⟩ = some (.bool b00) ∧ w'.cell? ⟨w.heap.size, 4, none⟩ = some (.bool b10) ∧ w'.cell? ⟨w.heap.size, 5, none⟩ = some (.bool b20) ∧ w'.cell? ⟨w.heap.size, 6, none⟩ = some (.bool b30) ∧ w'.cell? ⟨w.heap.size, 7, none⟩ = some (.bool b40) ∧ w'.cell? ⟨w.heap.size, 8, none⟩ = some (.bool b50) ∧ w'.cell? ⟨w.heap.size, 9, none⟩ = some (.bool b60) ∧ w'.cell? ⟨w.heap.size, 10, none⟩ = some (.bool b70) ∧ w'.cell? ⟨w1.heap.size, 0, none⟩ = some (.int .i64 nx1) ∧ w'.cell? ⟨w1.heap.size, 1, none⟩ = some (.slice p1 st1.length cap1) ∧ w'.cell? ⟨w1.heap.size, 2, none⟩ = some (.int .i64 hi1) ∧ w'.cell? ⟨w1.heap.size, 3, none⟩ = some (.bool b01) ∧ w'.cell? ⟨w1.heap.size, 4, none⟩ = some (.bool b11) ∧ w'.cell? ⟨w1.heap.size, 5, none⟩ = some (.bool b21) ∧ w'.cell? ⟨w1.heap.size, 6, none⟩ = some (.bool b31) ∧ w'.cell? ⟨w1.heap.size, 7, none⟩ = some (.bool b41) ∧ w'.cell? ⟨w1.heap.size, 8, none⟩ = some (.bool b51) ∧ w'.cell? ⟨w1.heap.size, 9, none⟩ = some (.bool b61) ∧ w'.cell? ⟨w1.heap.size, 10, none⟩ = some (.bool b71) ∧ (Instr.lookup 51 (.map (some (w.heap.size + 1))) (.int .i64 q) false).run Try.prog w' = .ok (.bool had) w') := hid (fun w' h => ⟨(heap_cell (heap_keep HXB.out h) 0), (heap_cell (heap_keep HXB.out h) 1), (heap_cell (heap_keep HXB.out h) 2), (heap_cell (heap_keep HXB.out h) 3), (heap_cell (heap_keep HXB.out h) 4), (heap_cell (heap_keep HXB.out h) 5), (heap_cell (heap_keep HXB.out h) 6), (heap_cell (heap_keep HXB.out h) 7), (heap_cell (heap_keep HXB.out h) 8), (heap_cell (heap_keep HXB.out h) 9), (heap_cell (heap_keep HXB.out h) 10), (heap_cell (heap_keep HX2.out h) 0), (heap_cell (heap_keep HX2.out h) 1), (heap_cell (heap_keep HX2.out h) 2), (heap_cell (heap_keep HX2.out h) 3), (heap_cell (heap_keep HX2.out h) 4), (heap_cell (heap_keep HX2.out h) 5), (heap_cell (heap_keep HX2.out h) 6), (heap_cell (heap_keep HX2.out h) 7), (heap_cell (heap_keep HX2.out h) 8), (heap_cell (heap_keep HX2.out h) 9), (heap_cell (heap_keep HX2.out h) 10), HHAD.out w' h⟩)
      clear hX2 hXB hO2 hown2
      go_upto_region 7 with fail
      generalize w1.alloc (.cells #[.int .i64 nx1, .slice p1 st1.length cap1, .int .i64 hi1, .bool b01, .bool b11, .bool b21, .bool b31, .bool b41, .bool b51, .bool b61, .bool b71] 25) = w2 at *
      by_cases hz : cd = 0
      · subst hz
        obtain ⟨hf, hqh⟩ := hokk rfl
        subst hf
        refine wp_region_held_drew (S := (fun w' => w'.cell? ⟨w.heap.size, 0, none⟩ = some (.int .i64 nx0) ∧ w'.cell? ⟨w.heap.size, 1, none⟩ = some (.slice p0 st0.length cap0) ∧ w'.cell? ⟨w.heap.size, 2, none⟩ = some (.int .i64 hi0) ∧ w'.cell? ⟨w.heap.size, 3, none⟩ = some (.bool b00) ∧ w'.cell? ⟨w.heap.size, 4, none⟩ = some (.bool b10) ∧ w'.cell? ⟨w.heap.size, 5, none⟩ = some (.bool b20) ∧ w'.cell? ⟨w.heap.size, 6, none⟩ = some (.bool b30) ∧ w'.cell? ⟨w.heap.size, 7, none⟩ = some (.bool b40) ∧ w'.cell? ⟨w.heap.size, 8, none⟩ = some (.bool b50) ∧ w'.cell? ⟨w.heap.size, 9, none⟩ = some (.bool b60) ∧ w'.cell? ⟨w.heap.size, 10, none⟩ = some (.bool b70) ∧ w'.cell? ⟨w1.heap.size, 0, none⟩ = some (.int .i64 nx1) ∧ w'.cell? ⟨w1.heap.size, 1, none⟩ = some (.slice p1 st1.length cap1) ∧ w'.cell? ⟨w1.heap.size, 2, none⟩ = some (.int .i64 hi1) ∧ w'.cell? ⟨w1.heap.size, 3, none⟩ = some (.bool b01) ∧ w'.cell? ⟨w1.heap.size, 4, none⟩ = some (.bool b11) ∧ w'.cell? ⟨w1.heap.size, 5, none⟩ = some (.bool b21) ∧ w'.cell? ⟨w1.heap.size, 6, none⟩ = some (.bool b31) ∧ w'.cell? ⟨w1.heap.size, 7, none⟩ = some (.bool b41) ∧ w'.cell? ⟨w1.heap.size, 8, none⟩ = some (.bool b51) ∧ w'.cell? ⟨w1.heap.size, 9, none⟩ = some (.bool b61) ∧ w'.cell? ⟨w1.heap.size, 10, none⟩ = some (.bool b71) ∧ (Instr.lookup 51 (.map (some (w.heap.size + 1))) (.int .i64 q) false).run Try.prog w' = .ok (.bool false) w')) (by as_aux_lemma => kernel_rfl) (HS7.out _ (Below.refl _ _).drew) (fun hHeld => ?_)
        refine takeD 0 33 ?v1 rfl (by as_aux_lemma => kernel_rfl) (by as_aux_lemma => kernel_rfl) (by as_aux_lemma => kernel_rfl) (by as_aux_lemma => kernel_rfl) (fun _ _ _ h => h) (Or.inl ⟨by rfl, ?hy1⟩) (by assumption) ?rest1
        case hy1 => intro wz hSw; (try dsimp only at hSw); go_simp; try with_reducible rfl
        simp only [Act.put, List.setIfInBounds_toArray, List.set_cons_zero, List.set_cons_succ]
        refine takeD 1 34 ?v2 rfl (by as_aux_lemma => kernel_rfl) (by as_aux_lemma => kernel_rfl) (by as_aux_lemma => kernel_rfl) (by as_aux_lemma => kernel_rfl) (fun _ _ _ h => h) (Or.inl ⟨by rfl, ?hy2⟩) (by assumption) ?rest2
        case hy2 => intro wz hSw; (try dsimp only at hSw); go_simp; try with_reducible rfl
        simp only [Act.put, List.setIfInBounds_toArray, List.set_cons_zero, List.set_cons_succ]
        refine takeD 2 35 ?v3 rfl (by as_aux_lemma => kernel_rfl) (by as_aux_lemma => kernel_rfl) (by as_aux_lemma => kernel_rfl) (by as_aux_lemma => kernel_rfl) (fun _ _ _ h => h) (Or.inl ⟨by rfl, ?hy3⟩) (by assumption) ?rest3
        case hy3 => intro wz hSw; (try dsimp only at hSw); go_simp; try with_reducible rfl
        simp only [Act.put, List.setIfInBounds_toArray, List.set_cons_zero, List.set_cons_succ]
        refine takeD 3 36 ?v4 rfl (by as_aux_lemma => kernel_rfl) (by as_aux_lemma => kernel_rfl) (by as_aux_lemma => kernel_rfl) (by as_aux_lemma => kernel_rfl) (fun _ _ _ h => h) (Or.inl ⟨by rfl, ?hy4⟩) (by assumption) ?rest4
        case hy4 => intro wz hSw; (try dsimp only at hSw); go_simp; try with_reducible rfl
        simp only [Act.put, List.setIfInBounds_toArray, List.set_cons_zero, List.set_cons_succ]
        refine takeD 4 37 ?v5 rfl (by as_aux_lemma => kernel_rfl) (by as_aux_lemma => kernel_rfl) (by as_aux_lemma => kernel_rfl) (by as_aux_lemma => kernel_rfl) (fun _ _ _ h => h) (Or.inl ⟨by rfl, ?hy5⟩) (by assumption) ?rest5
        case hy5 => intro wz hSw; (try dsimp only at hSw); go_simp; try with_reducible rfl
        simp only [Act.put, List.setIfInBounds_toArray, List.set_cons_zero, List.set_cons_succ]
        refine takeD 5 38 ?v6 rfl (by as_aux_lemma => kernel_rfl) (by as_aux_lemma => kernel_rfl) (by as_aux_lemma => kernel_rfl) (by as_aux_lemma => kernel_rfl) (fun _ _ _ h => h) (Or.inl ⟨by rfl, ?hy6⟩) (by assumption) ?rest6
        case hy6 => intro wz hSw; (try dsimp only at hSw); go_simp; try with_reducible rfl
        simp only [Act.put, List.setIfInBounds_toArray, List.set_cons_zero, List.set_cons_succ]
        refine takeD 6 39 ?v7 rfl (by as_aux_lemma => kernel_rfl) (by as_aux_lemma => kernel_rfl) (by as_aux_lemma => kernel_rfl) (by as_aux_lemma => kernel_rfl) (fun _ _ _ h => h) (Or.inl ⟨by rfl, ?hy7⟩) (by assumption) ?rest7
        case hy7 => intro wz hSw; (try dsimp only at hSw); go_simp; try with_reducible rfl
        simp only [Act.put, List.setIfInBounds_toArray, List.set_cons_zero, List.set_cons_succ]
        refine takeD 7 40 ?v8 rfl (by as_aux_lemma => kernel_rfl) (by as_aux_lemma => kernel_rfl) (by as_aux_lemma => kernel_rfl) (by as_aux_lemma => kernel_rfl) (fun _ _ _ h => h) (Or.inl ⟨by rfl, ?hy8⟩) (by assumption) ?rest8
        case hy8 => intro wz hSw; (try dsimp only at hSw); go_simp; try with_reducible rfl
        simp only [Act.put, List.setIfInBounds_toArray, List.set_cons_zero, List.set_cons_succ]
        refine takeD 8 41 ?v9 rfl (by as_aux_lemma => kernel_rfl) (by as_aux_lemma => kernel_rfl) (by as_aux_lemma => kernel_rfl) (by as_aux_lemma => kernel_rfl) (fun _ _ _ h => h) (Or.inl ⟨by rfl, ?hy9⟩) (by assumption) ?rest9
        case hy9 => intro wz hSw; (try dsimp only at hSw); go_simp; try with_reducible rfl
        simp only [Act.put, List.setIfInBounds_toArray, List.set_cons_zero, List.set_cons_succ]
        refine takeD 10 43 ?v10 rfl (by as_aux_lemma => kernel_rfl) (by as_aux_lemma => kernel_rfl) (by as_aux_lemma => kernel_rfl) (by as_aux_lemma => kernel_rfl) (fun _ _ _ h => h) (Or.inl ⟨by rfl, ?hy10⟩) (by assumption) ?rest10
        case hy10 => intro wz hSw; (try dsimp only at hSw); go_simp; try with_reducible rfl
        simp only [Act.put, List.setIfInBounds_toArray, List.set_cons_zero, List.set_cons_succ]
        refine wpAnyH_ready (rs := [9]) (by as_aux_lemma => kernel_rfl) (by simp) ?_
        refine AllReadyH.cons rfl (fun K' hK => ?_) AllReadyH.nil
        go_simp
        go_wp2_with (go_at_call 15; refine (HG1.out _ (Below.refl _ _).drew).mono ?_; rintro e w4 ⟨rfl, hw4d⟩; have hw4 : Below w2.heap.size w2 w4 := ⟨hw4d.os, hw4d.tape, hw4d.output, hw4d.size, hw4d.block⟩; clear hw4d)
        refine hK.out _ _ (HS7.out _ hw4) (fun hHeld2 => ?_)
        clear hK K'
        refine wpAnyH_ready (rs := [11]) (by as_aux_lemma => kernel_rfl) (by simp) ?_
        refine AllReadyH.cons rfl (fun K' hK => ?_) AllReadyH.nil
        go_simp
        go_wp2_with (go_at_call 15; refine (HG2.out _ hw4).mono ?_; rintro e w6 ⟨rfl, hw6d⟩; have hw6 : Below w2.heap.size w2 w6 := below_then hw4 hw6d; clear hw6d)
        refine hK.out _ _ (HS7.out _ hw6) (fun hHeld3 => ?_)
        clear hK K'
        refine takeD 12 45 ?v11 rfl (by as_aux_lemma => kernel_rfl) (by as_aux_lemma => kernel_rfl) (by as_aux_lemma => kernel_rfl) (by as_aux_lemma => kernel_rfl) (fun _ _ _ h => h) (Or.inl ⟨by rfl, ?hy11⟩) (by assumption) ?rest11
        case hy11 => intro wz hSw; (try dsimp only at hSw); go_simp; try with_reducible rfl
        simp only [Act.put, List.setIfInBounds_toArray, List.set_cons_zero, List.set_cons_succ]
        refine takeD 13 46 ?v12 rfl (by as_aux_lemma => kernel_rfl) (by as_aux_lemma => kernel_rfl) (by as_aux_lemma => kernel_rfl) (by as_aux_lemma => kernel_rfl) (fun _ _ _ h => h) (Or.inl ⟨by rfl, ?hy12⟩) (by assumption) ?rest12
        case hy12 => intro wz hSw; (try dsimp only at hSw); go_simp; try with_reducible rfl
        simp only [Act.put, List.setIfInBounds_toArray, List.set_cons_zero, List.set_cons_succ]
        refine wpAnyH_done (by as_aux_lemma => kernel_rfl) ?_ _
        have hown6 := HOWN2.out.kept (grown_of_below hw6) (by simp)
        have hX6 := heap_keep HX2.out hw6
        have hXB6 := heap_keep HXB.out hw6
        have HX6 := hid hX6
        have HXB6 := hid hXB6
        have HO6 := hid (HO2.out.below hw6)
        have hb6 := below_then (below_then hb hbw2) hw6
        have hw1s := hw1.size
        have hkey : keyOf Try.prog 3 (.int .i64 q) = some (.int .i64 q) := keyOf_int_mk Try.underlying3 (by simp [Lit.wf, IntKind.min, IntKind.max, IntKind.signed, IntKind.bits]; omega)
        clear hX6 hXB6 HS7 HG1 HG2 hHeld3 hw4
        go_wp2_with (at_mapUpdate; refine wpList_mapUpdate_own _ rfl _ _ _ 51 rfl 3 4 lawInt Try.underlying51 _ (w.heap.size + 1) n _ rfl hown6 (by unfold maxLen; omega) _ _ _ rfl rfl hkey _ [] (plainElem_bool Try.underlying4 true) ?_; intro w8 hown8 hg8; have HX8 := hid (heap_tk HX6.out (show w1.heap.size ≠ w.heap.size + 1 by omega) hg8); have HX9 := hid (heap_tk HXB6.out (show w.heap.size ≠ w.heap.size + 1 by omega) hg8); have y0 := heap_cell HX8.out 0; have x0 := heap_cell HX9.out 0; have xf0 := heap_frozen HX9.out 0; have y1 := heap_cell HX8.out 1; have x1 := heap_cell HX9.out 1; have xf1 := heap_frozen HX9.out 1; have y2 := heap_cell HX8.out 2; have x2 := heap_cell HX9.out 2; have xf2 := heap_frozen HX9.out 2; have y3 := heap_cell HX8.out 3; have x3 := heap_cell HX9.out 3; have xf3 := heap_frozen HX9.out 3; have y4 := heap_cell HX8.out 4; have x4 := heap_cell HX9.out 4; have xf4 := heap_frozen HX9.out 4; have y5 := heap_cell HX8.out 5; have x5 := heap_cell HX9.out 5; have xf5 := heap_frozen HX9.out 5; have y6 := heap_cell HX8.out 6; have x6 := heap_cell HX9.out 6; have xf6 := heap_frozen HX9.out 6; have y7 := heap_cell HX8.out 7; have x7 := heap_cell HX9.out 7; have xf7 := heap_frozen HX9.out 7; have y8 := heap_cell HX8.out 8; have x8 := heap_cell HX9.out 8; have xf8 := heap_frozen HX9.out 8; have y9 := heap_cell HX8.out 9; have x9 := heap_cell HX9.out 9; have xf9 := heap_frozen HX9.out 9; have y10 := heap_cell HX8.out 10; have x10 := heap_cell HX9.out 10; have xf10 := heap_frozen HX9.out 10; have ne1 : w1.heap.size ≠ w.heap.size := (by omega); have ne2 : w.heap.size ≠ w1.heap.size := (by omega))
        have hS := st11_grown w8 w.heap.size (.int .i64 nx1) (.slice p1 st1.length cap1) (.int .i64 hi1) (.bool b01) (.bool b11) (.bool b21) (.bool b31) (.bool b41) (.bool b51) (.bool b61) (.bool b71)
        have HEND : Hid (Once ⟨nx1, st1, hi1, [b01, b11, b21, b31, b41, b51, b61, b71]⟩ (fun s => decide (s ∈ cl ++ [q])) ∧ LBoxR (((((((((((w8.setCell ⟨w.heap.size, 0, none⟩ (.int .i64 nx1)).setCell ⟨w.heap.size, 1, none⟩ (.slice p1 st1.length cap1)).setCell ⟨w.heap.size, 2, none⟩ (.int .i64 hi1)).setCell ⟨w.heap.size, 3, none⟩ (.bool b01)).setCell ⟨w.heap.size, 4, none⟩ (.bool b11)).setCell ⟨w.heap.size, 5, none⟩ (.bool b21)).setCell ⟨w.heap.size, 6, none⟩ (.bool b31)).setCell ⟨w.heap.size, 7, none⟩ (.bool b41)).setCell ⟨w.heap.size, 8, none⟩ (.bool b51)).setCell ⟨w.heap.size, 9, none⟩ (.bool b61)).setCell ⟨w.heap.size, 10, none⟩ (.bool b71)) w.heap.size ⟨nx1, st1, hi1, [b01, b11, b21, b31, b41, b51, b61, b71]⟩ ∧ Below w.heap.size w (((((((((((w8.setCell ⟨w.heap.size, 0, none⟩ (.int .i64 nx1)).setCell ⟨w.heap.size, 1, none⟩ (.slice p1 st1.length cap1)).setCell ⟨w.heap.size, 2, none⟩ (.int .i64 hi1)).setCell ⟨w.heap.size, 3, none⟩ (.bool b01)).setCell ⟨w.heap.size, 4, none⟩ (.bool b11)).setCell ⟨w.heap.size, 5, none⟩ (.bool b21)).setCell ⟨w.heap.size, 6, none⟩ (.bool b31)).setCell ⟨w.heap.size, 7, none⟩ (.bool b41)).setCell ⟨w.heap.size, 8, none⟩ (.bool b51)).setCell ⟨w.heap.size, 9, none⟩ (.bool b61)).setCell ⟨w.heap.size, 10, none⟩ (.bool b71)) ∧ (((((((((((w8.setCell ⟨w.heap.size, 0, none⟩ (.int .i64 nx1)).setCell ⟨w.heap.size, 1, none⟩ (.slice p1 st1.length cap1)).setCell ⟨w.heap.size, 2, none⟩ (.int .i64 hi1)).setCell ⟨w.heap.size, 3, none⟩ (.bool b01)).setCell ⟨w.heap.size, 4, none⟩ (.bool b11)).setCell ⟨w.heap.size, 5, none⟩ (.bool b21)).setCell ⟨w.heap.size, 6, none⟩ (.bool b31)).setCell ⟨w.heap.size, 7, none⟩ (.bool b41)).setCell ⟨w.heap.size, 8, none⟩ (.bool b51)).setCell ⟨w.heap.size, 9, none⟩ (.bool b61)).setCell ⟨w.heap.size, 10, none⟩ (.bool b71)).ownsMap Try.prog 3 (plainElem (H := Unit) Try.prog 4) (w.heap.size + 1) (n + 1) (D.put (.int .i64 q) (.lit (.bool true)))) := hid ⟨HMORE.out (by simp), lboxr_row ((HO6.out.box hg8 (by omega)).box hS (by omega)) (by omega) hm1 hl1 nx1 hi1 b01 b11 b21 b31 b41 b51 b61 b71 (st11_heap (.int .i64 nx1) (.slice p1 st1.length cap1) (.int .i64 hi1) (.bool b01) (.bool b11) (.bool b21) (.bool b31) (.bool b41) (.bool b51) (.bool b61) (.bool b71) (HX9.out)), (hb6.grown hg8 hb6.size (fun k hk => by have := Option.some.inj hk; omega)).grown hS (hb6.grown hg8 hb6.size (fun k hk => by have := Option.some.inj hk; omega)).size (fun k hk => by have := Option.some.inj hk; omega), (hown8).kept hS (by simp)⟩
        obtain ⟨f1, f2, f3, f4⟩ := HEND.out
        go_roundw
        case rel => exact ⟨k + 1, (n + 1), _, _, _, by omega, by go_num, by omega, f4, hD.put q, f1, f2, f3⟩
        case measure => simp [intOf]; omega
      · have hcb : (cd == 0) = false := beq_eq_false_iff_ne.2 hz
        refine wp_region_held_drew (S := (fun w' => w'.cell? ⟨w.heap.size, 0, none⟩ = some (.int .i64 nx0) ∧ w'.cell? ⟨w.heap.size, 1, none⟩ = some (.slice p0 st0.length cap0) ∧ w'.cell? ⟨w.heap.size, 2, none⟩ = some (.int .i64 hi0) ∧ w'.cell? ⟨w.heap.size, 3, none⟩ = some (.bool b00) ∧ w'.cell? ⟨w.heap.size, 4, none⟩ = some (.bool b10) ∧ w'.cell? ⟨w.heap.size, 5, none⟩ = some (.bool b20) ∧ w'.cell? ⟨w.heap.size, 6, none⟩ = some (.bool b30) ∧ w'.cell? ⟨w.heap.size, 7, none⟩ = some (.bool b40) ∧ w'.cell? ⟨w.heap.size, 8, none⟩ = some (.bool b50) ∧ w'.cell? ⟨w.heap.size, 9, none⟩ = some (.bool b60) ∧ w'.cell? ⟨w.heap.size, 10, none⟩ = some (.bool b70) ∧ w'.cell? ⟨w1.heap.size, 0, none⟩ = some (.int .i64 nx1) ∧ w'.cell? ⟨w1.heap.size, 1, none⟩ = some (.slice p1 st1.length cap1) ∧ w'.cell? ⟨w1.heap.size, 2, none⟩ = some (.int .i64 hi1) ∧ w'.cell? ⟨w1.heap.size, 3, none⟩ = some (.bool b01) ∧ w'.cell? ⟨w1.heap.size, 4, none⟩ = some (.bool b11) ∧ w'.cell? ⟨w1.heap.size, 5, none⟩ = some (.bool b21) ∧ w'.cell? ⟨w1.heap.size, 6, none⟩ = some (.bool b31) ∧ w'.cell? ⟨w1.heap.size, 7, none⟩ = some (.bool b41) ∧ w'.cell? ⟨w1.heap.size, 8, none⟩ = some (.bool b51) ∧ w'.cell? ⟨w1.heap.size, 9, none⟩ = some (.bool b61) ∧ w'.cell? ⟨w1.heap.size, 10, none⟩ = some (.bool b71) ∧ (Instr.lookup 51 (.map (some (w.heap.size + 1))) (.int .i64 q) false).run Try.prog w' = .ok (.bool had) w')) (by as_aux_lemma => kernel_rfl) (HS7.out _ (Below.refl _ _).drew) (fun hHeld => ?_)
        refine takeD 0 33 ?v13 rfl (by as_aux_lemma => kernel_rfl) (by as_aux_lemma => kernel_rfl) (by as_aux_lemma => kernel_rfl) (by as_aux_lemma => kernel_rfl) (fun _ _ _ h => h) (Or.inl ⟨by rfl, ?hy13⟩) (by assumption) ?rest13
        case hy13 => intro wz hSw; (try dsimp only at hSw); go_simp; try with_reducible rfl
        simp only [Act.put, List.setIfInBounds_toArray, List.set_cons_zero, List.set_cons_succ]
        refine takeD 1 34 ?v14 rfl (by as_aux_lemma => kernel_rfl) (by as_aux_lemma => kernel_rfl) (by as_aux_lemma => kernel_rfl) (by as_aux_lemma => kernel_rfl) (fun _ _ _ h => h) (Or.inl ⟨by rfl, ?hy14⟩) (by assumption) ?rest14
        case hy14 => intro wz hSw; (try dsimp only at hSw); go_simp; try with_reducible rfl
        simp only [Act.put, List.setIfInBounds_toArray, List.set_cons_zero, List.set_cons_succ]
        refine takeD 2 35 ?v15 rfl (by as_aux_lemma => kernel_rfl) (by as_aux_lemma => kernel_rfl) (by as_aux_lemma => kernel_rfl) (by as_aux_lemma => kernel_rfl) (fun _ _ _ h => h) (Or.inl ⟨by rfl, ?hy15⟩) (by assumption) ?rest15
        case hy15 => intro wz hSw; (try dsimp only at hSw); go_simp; try with_reducible rfl
        simp only [Act.put, List.setIfInBounds_toArray, List.set_cons_zero, List.set_cons_succ]
        refine skipD 3 36 rfl (by as_aux_lemma => kernel_rfl) (by as_aux_lemma => kernel_rfl) (by as_aux_lemma => kernel_rfl) (by as_aux_lemma => kernel_rfl) (fun _ _ _ h => h) (by as_aux_lemma => kernel_rfl) (by assumption) ?_
        simp only [Act.put, List.setIfInBounds_toArray, List.set_cons_zero, List.set_cons_succ]
        refine skipD 4 37 rfl (by as_aux_lemma => kernel_rfl) (by as_aux_lemma => kernel_rfl) (by as_aux_lemma => kernel_rfl) (by as_aux_lemma => kernel_rfl) (fun _ _ _ h => h) (by as_aux_lemma => kernel_rfl) (by assumption) ?_
        simp only [Act.put, List.setIfInBounds_toArray, List.set_cons_zero, List.set_cons_succ]
        refine skipD 5 38 rfl (by as_aux_lemma => kernel_rfl) (by as_aux_lemma => kernel_rfl) (by as_aux_lemma => kernel_rfl) (by as_aux_lemma => kernel_rfl) (fun _ _ _ h => h) (by as_aux_lemma => kernel_rfl) (by assumption) ?_
        simp only [Act.put, List.setIfInBounds_toArray, List.set_cons_zero, List.set_cons_succ]
        refine takeD 6 39 ?v16 rfl (by as_aux_lemma => kernel_rfl) (by as_aux_lemma => kernel_rfl) (by as_aux_lemma => kernel_rfl) (by as_aux_lemma => kernel_rfl) (fun _ _ _ h => h) (Or.inl ⟨by rfl, ?hy16⟩) (by assumption) ?rest16
        case hy16 => intro wz hSw; (try dsimp only at hSw); go_simp; try with_reducible rfl
        simp only [Act.put, List.setIfInBounds_toArray, List.set_cons_zero, List.set_cons_succ]
        refine takeD 7 40 ?v17 rfl (by as_aux_lemma => kernel_rfl) (by as_aux_lemma => kernel_rfl) (by as_aux_lemma => kernel_rfl) (by as_aux_lemma => kernel_rfl) (fun _ _ _ h => h) (Or.inl ⟨by rfl, ?hy17⟩) (by assumption) ?rest17
        case hy17 => intro wz hSw; (try dsimp only at hSw); go_simp; try with_reducible rfl
        simp only [Act.put, List.setIfInBounds_toArray, List.set_cons_zero, List.set_cons_succ]
        refine takeD 8 41 ?v18 rfl (by as_aux_lemma => kernel_rfl) (by as_aux_lemma => kernel_rfl) (by as_aux_lemma => kernel_rfl) (by as_aux_lemma => kernel_rfl) (fun _ _ _ h => h) (Or.inl ⟨by rfl, ?hy18⟩) (by assumption) ?rest18
        case hy18 => intro wz hSw; (try dsimp only at hSw); go_simp; try with_reducible rfl
        simp only [Act.put, List.setIfInBounds_toArray, List.set_cons_zero, List.set_cons_succ]
        refine takeD 10 43 ?v19 rfl (by as_aux_lemma => kernel_rfl) (by as_aux_lemma => kernel_rfl) (by as_aux_lemma => kernel_rfl) (by as_aux_lemma => kernel_rfl) (fun _ _ _ h => h) (Or.inl ⟨by rfl, ?hy19⟩) (by assumption) ?rest19
        case hy19 => intro wz hSw; (try dsimp only at hSw); go_simp; try with_reducible rfl
        simp only [Act.put, List.setIfInBounds_toArray, List.set_cons_zero, List.set_cons_succ]
        refine wpAnyH_ready (rs := [9]) (by as_aux_lemma => kernel_rfl) (by simp) ?_
        refine AllReadyH.cons rfl (fun K' hK => ?_) AllReadyH.nil
        go_simp
        go_wp2_with (go_at_call 15; refine (HG1.out _ (Below.refl _ _).drew).mono ?_; rintro e w4 ⟨rfl, hw4d⟩; have hw4 : Below w2.heap.size w2 w4 := ⟨hw4d.os, hw4d.tape, hw4d.output, hw4d.size, hw4d.block⟩; clear hw4d)
        refine hK.out _ _ (HS7.out _ hw4) (fun hHeld2 => ?_)
        clear hK K'
        refine wpAnyH_ready (rs := [11]) (by as_aux_lemma => kernel_rfl) (by simp) ?_
        refine AllReadyH.cons rfl (fun K' hK => ?_) AllReadyH.nil
        go_simp
        go_wp2_with (go_at_call 15; refine (HG2.out _ hw4).mono ?_; rintro e w6 ⟨rfl, hw6d⟩; have hw6 : Below w2.heap.size w2 w6 := below_then hw4 hw6d; clear hw6d)
        refine hK.out _ _ (HS7.out _ hw6) (fun hHeld3 => ?_)
        clear hK K'
        refine takeD 12 45 ?v20 rfl (by as_aux_lemma => kernel_rfl) (by as_aux_lemma => kernel_rfl) (by as_aux_lemma => kernel_rfl) (by as_aux_lemma => kernel_rfl) (fun _ _ _ h => h) (Or.inl ⟨by rfl, ?hy20⟩) (by assumption) ?rest20
        case hy20 => intro wz hSw; (try dsimp only at hSw); go_simp; try with_reducible rfl
        simp only [Act.put, List.setIfInBounds_toArray, List.set_cons_zero, List.set_cons_succ]
        refine takeD 13 46 ?v21 rfl (by as_aux_lemma => kernel_rfl) (by as_aux_lemma => kernel_rfl) (by as_aux_lemma => kernel_rfl) (by as_aux_lemma => kernel_rfl) (fun _ _ _ h => h) (Or.inl ⟨by rfl, ?hy21⟩) (by assumption) ?rest21
        case hy21 => intro wz hSw; (try dsimp only at hSw); go_simp; try with_reducible rfl
        simp only [Act.put, List.setIfInBounds_toArray, List.set_cons_zero, List.set_cons_succ]
        refine wpAnyH_done (by as_aux_lemma => kernel_rfl) ?_ _
        have hown6 := HOWN2.out.kept (grown_of_below hw6) (by simp)
        have HX6 := hid (heap_keep HX2.out hw6)
        have HXB6 := hid (heap_keep HXB.out hw6)
        have HO6 := hid (HO2.out.below hw6)
        have hb6 := below_then (below_then hb hbw2) hw6
        have hw1s := hw1.size
        have hl6 := HHAD.out w6 hw6
        clear HS7 HG1 HG2 hHeld3 hw4 HMORE
        have y0 := heap_cell HX6.out 0
        have y1 := heap_cell HX6.out 1
        have y2 := heap_cell HX6.out 2
        have y3 := heap_cell HX6.out 3
        have y4 := heap_cell HX6.out 4
        have y5 := heap_cell HX6.out 5
        have y6 := heap_cell HX6.out 6
        have y7 := heap_cell HX6.out 7
        have y8 := heap_cell HX6.out 8
        have y9 := heap_cell HX6.out 9
        have y10 := heap_cell HX6.out 10
        have x0 := heap_cell HXB6.out 0
        have xf0 := heap_frozen HXB6.out 0
        have x1 := heap_cell HXB6.out 1
        have xf1 := heap_frozen HXB6.out 1
        have x2 := heap_cell HXB6.out 2
        have xf2 := heap_frozen HXB6.out 2
        have x3 := heap_cell HXB6.out 3
        have xf3 := heap_frozen HXB6.out 3
        have x4 := heap_cell HXB6.out 4
        have xf4 := heap_frozen HXB6.out 4
        have x5 := heap_cell HXB6.out 5
        have xf5 := heap_frozen HXB6.out 5
        have x6 := heap_cell HXB6.out 6
        have xf6 := heap_frozen HXB6.out 6
        have x7 := heap_cell HXB6.out 7
        have xf7 := heap_frozen HXB6.out 7
        have x8 := heap_cell HXB6.out 8
        have xf8 := heap_frozen HXB6.out 8
        have x9 := heap_cell HXB6.out 9
        have xf9 := heap_frozen HXB6.out 9
        have x10 := heap_cell HXB6.out 10
        have xf10 := heap_frozen HXB6.out 10
        have ne1 : w1.heap.size ≠ w.heap.size := by omega
        have ne2 : w.heap.size ≠ w1.heap.size := by omega
        cases hhd : had with
        | true =>
          subst hhd
          rcases hnot rfl with hc | hc
          · subst hc
            clear hnot hokk hz hcb
            go_wp2
            have hS := st11_grown w6 w.heap.size (.int .i64 nx1) (.slice p1 st1.length cap1) (.int .i64 hi1) (.bool b01) (.bool b11) (.bool b21) (.bool b31) (.bool b41) (.bool b51) (.bool b61) (.bool b71)
            have HEND : Hid (Once ⟨nx1, st1, hi1, [b01, b11, b21, b31, b41, b51, b61, b71]⟩ (fun s => decide (s ∈ cl)) ∧ LBoxR (((((((((((w6.setCell ⟨w.heap.size, 0, none⟩ (.int .i64 nx1)).setCell ⟨w.heap.size, 1, none⟩ (.slice p1 st1.length cap1)).setCell ⟨w.heap.size, 2, none⟩ (.int .i64 hi1)).setCell ⟨w.heap.size, 3, none⟩ (.bool b01)).setCell ⟨w.heap.size, 4, none⟩ (.bool b11)).setCell ⟨w.heap.size, 5, none⟩ (.bool b21)).setCell ⟨w.heap.size, 6, none⟩ (.bool b31)).setCell ⟨w.heap.size, 7, none⟩ (.bool b41)).setCell ⟨w.heap.size, 8, none⟩ (.bool b51)).setCell ⟨w.heap.size, 9, none⟩ (.bool b61)).setCell ⟨w.heap.size, 10, none⟩ (.bool b71)) w.heap.size ⟨nx1, st1, hi1, [b01, b11, b21, b31, b41, b51, b61, b71]⟩ ∧ Below w.heap.size w (((((((((((w6.setCell ⟨w.heap.size, 0, none⟩ (.int .i64 nx1)).setCell ⟨w.heap.size, 1, none⟩ (.slice p1 st1.length cap1)).setCell ⟨w.heap.size, 2, none⟩ (.int .i64 hi1)).setCell ⟨w.heap.size, 3, none⟩ (.bool b01)).setCell ⟨w.heap.size, 4, none⟩ (.bool b11)).setCell ⟨w.heap.size, 5, none⟩ (.bool b21)).setCell ⟨w.heap.size, 6, none⟩ (.bool b31)).setCell ⟨w.heap.size, 7, none⟩ (.bool b41)).setCell ⟨w.heap.size, 8, none⟩ (.bool b51)).setCell ⟨w.heap.size, 9, none⟩ (.bool b61)).setCell ⟨w.heap.size, 10, none⟩ (.bool b71)) ∧ (((((((((((w6.setCell ⟨w.heap.size, 0, none⟩ (.int .i64 nx1)).setCell ⟨w.heap.size, 1, none⟩ (.slice p1 st1.length cap1)).setCell ⟨w.heap.size, 2, none⟩ (.int .i64 hi1)).setCell ⟨w.heap.size, 3, none⟩ (.bool b01)).setCell ⟨w.heap.size, 4, none⟩ (.bool b11)).setCell ⟨w.heap.size, 5, none⟩ (.bool b21)).setCell ⟨w.heap.size, 6, none⟩ (.bool b31)).setCell ⟨w.heap.size, 7, none⟩ (.bool b41)).setCell ⟨w.heap.size, 8, none⟩ (.bool b51)).setCell ⟨w.heap.size, 9, none⟩ (.bool b61)).setCell ⟨w.heap.size, 10, none⟩ (.bool b71)).ownsMap Try.prog 3 (plainElem (H := Unit) Try.prog 4) (w.heap.size + 1) n (D)) := hid ⟨HKEEP.out, lboxr_row ((HO6.out).box hS (by omega)) (by omega) hm1 hl1 nx1 hi1 b01 b11 b21 b31 b41 b51 b61 b71 (st11_heap (.int .i64 nx1) (.slice p1 st1.length cap1) (.int .i64 hi1) (.bool b01) (.bool b11) (.bool b21) (.bool b31) (.bool b41) (.bool b51) (.bool b61) (.bool b71) (HXB6.out)), (hb6).grown hS (hb6).size (fun k hk => by have := Option.some.inj hk; omega), (hown6).kept hS (by simp)⟩
            obtain ⟨f1, f2, f3, f4⟩ := HEND.out
            go_roundw
            case rel => exact ⟨k + 1, n, _, _, _, by omega, by go_num, by omega, f4, hD, f1, f2, f3⟩
            case measure => simp [intOf]; omega
          · subst hc
            clear hnot hokk hz hcb
            go_wp2
            have hS := st11_grown w6 w.heap.size (.int .i64 nx1) (.slice p1 st1.length cap1) (.int .i64 hi1) (.bool b01) (.bool b11) (.bool b21) (.bool b31) (.bool b41) (.bool b51) (.bool b61) (.bool b71)
            have HEND : Hid (Once ⟨nx1, st1, hi1, [b01, b11, b21, b31, b41, b51, b61, b71]⟩ (fun s => decide (s ∈ cl)) ∧ LBoxR (((((((((((w6.setCell ⟨w.heap.size, 0, none⟩ (.int .i64 nx1)).setCell ⟨w.heap.size, 1, none⟩ (.slice p1 st1.length cap1)).setCell ⟨w.heap.size, 2, none⟩ (.int .i64 hi1)).setCell ⟨w.heap.size, 3, none⟩ (.bool b01)).setCell ⟨w.heap.size, 4, none⟩ (.bool b11)).setCell ⟨w.heap.size, 5, none⟩ (.bool b21)).setCell ⟨w.heap.size, 6, none⟩ (.bool b31)).setCell ⟨w.heap.size, 7, none⟩ (.bool b41)).setCell ⟨w.heap.size, 8, none⟩ (.bool b51)).setCell ⟨w.heap.size, 9, none⟩ (.bool b61)).setCell ⟨w.heap.size, 10, none⟩ (.bool b71)) w.heap.size ⟨nx1, st1, hi1, [b01, b11, b21, b31, b41, b51, b61, b71]⟩ ∧ Below w.heap.size w (((((((((((w6.setCell ⟨w.heap.size, 0, none⟩ (.int .i64 nx1)).setCell ⟨w.heap.size, 1, none⟩ (.slice p1 st1.length cap1)).setCell ⟨w.heap.size, 2, none⟩ (.int .i64 hi1)).setCell ⟨w.heap.size, 3, none⟩ (.bool b01)).setCell ⟨w.heap.size, 4, none⟩ (.bool b11)).setCell ⟨w.heap.size, 5, none⟩ (.bool b21)).setCell ⟨w.heap.size, 6, none⟩ (.bool b31)).setCell ⟨w.heap.size, 7, none⟩ (.bool b41)).setCell ⟨w.heap.size, 8, none⟩ (.bool b51)).setCell ⟨w.heap.size, 9, none⟩ (.bool b61)).setCell ⟨w.heap.size, 10, none⟩ (.bool b71)) ∧ (((((((((((w6.setCell ⟨w.heap.size, 0, none⟩ (.int .i64 nx1)).setCell ⟨w.heap.size, 1, none⟩ (.slice p1 st1.length cap1)).setCell ⟨w.heap.size, 2, none⟩ (.int .i64 hi1)).setCell ⟨w.heap.size, 3, none⟩ (.bool b01)).setCell ⟨w.heap.size, 4, none⟩ (.bool b11)).setCell ⟨w.heap.size, 5, none⟩ (.bool b21)).setCell ⟨w.heap.size, 6, none⟩ (.bool b31)).setCell ⟨w.heap.size, 7, none⟩ (.bool b41)).setCell ⟨w.heap.size, 8, none⟩ (.bool b51)).setCell ⟨w.heap.size, 9, none⟩ (.bool b61)).setCell ⟨w.heap.size, 10, none⟩ (.bool b71)).ownsMap Try.prog 3 (plainElem (H := Unit) Try.prog 4) (w.heap.size + 1) n (D)) := hid ⟨HKEEP.out, lboxr_row ((HO6.out).box hS (by omega)) (by omega) hm1 hl1 nx1 hi1 b01 b11 b21 b31 b41 b51 b61 b71 (st11_heap (.int .i64 nx1) (.slice p1 st1.length cap1) (.int .i64 hi1) (.bool b01) (.bool b11) (.bool b21) (.bool b31) (.bool b41) (.bool b51) (.bool b61) (.bool b71) (HXB6.out)), (hb6).grown hS (hb6).size (fun k hk => by have := Option.some.inj hk; omega), (hown6).kept hS (by simp)⟩
            obtain ⟨f1, f2, f3, f4⟩ := HEND.out
            go_roundw
            case rel => exact ⟨k + 1, n, _, _, _, by omega, by go_num, by omega, f4, hD, f1, f2, f3⟩
            case measure => simp [intOf]; omega
        | false =>
          subst hhd
          clear hnot hokk
          go_wp2
          have hS := st11_grown w6 w.heap.size (.int .i64 nx1) (.slice p1 st1.length cap1) (.int .i64 hi1) (.bool b01) (.bool b11) (.bool b21) (.bool b31) (.bool b41) (.bool b51) (.bool b61) (.bool b71)
          have HEND : Hid (Once ⟨nx1, st1, hi1, [b01, b11, b21, b31, b41, b51, b61, b71]⟩ (fun s => decide (s ∈ cl)) ∧ LBoxR (((((((((((w6.setCell ⟨w.heap.size, 0, none⟩ (.int .i64 nx1)).setCell ⟨w.heap.size, 1, none⟩ (.slice p1 st1.length cap1)).setCell ⟨w.heap.size, 2, none⟩ (.int .i64 hi1)).setCell ⟨w.heap.size, 3, none⟩ (.bool b01)).setCell ⟨w.heap.size, 4, none⟩ (.bool b11)).setCell ⟨w.heap.size, 5, none⟩ (.bool b21)).setCell ⟨w.heap.size, 6, none⟩ (.bool b31)).setCell ⟨w.heap.size, 7, none⟩ (.bool b41)).setCell ⟨w.heap.size, 8, none⟩ (.bool b51)).setCell ⟨w.heap.size, 9, none⟩ (.bool b61)).setCell ⟨w.heap.size, 10, none⟩ (.bool b71)) w.heap.size ⟨nx1, st1, hi1, [b01, b11, b21, b31, b41, b51, b61, b71]⟩ ∧ Below w.heap.size w (((((((((((w6.setCell ⟨w.heap.size, 0, none⟩ (.int .i64 nx1)).setCell ⟨w.heap.size, 1, none⟩ (.slice p1 st1.length cap1)).setCell ⟨w.heap.size, 2, none⟩ (.int .i64 hi1)).setCell ⟨w.heap.size, 3, none⟩ (.bool b01)).setCell ⟨w.heap.size, 4, none⟩ (.bool b11)).setCell ⟨w.heap.size, 5, none⟩ (.bool b21)).setCell ⟨w.heap.size, 6, none⟩ (.bool b31)).setCell ⟨w.heap.size, 7, none⟩ (.bool b41)).setCell ⟨w.heap.size, 8, none⟩ (.bool b51)).setCell ⟨w.heap.size, 9, none⟩ (.bool b61)).setCell ⟨w.heap.size, 10, none⟩ (.bool b71)) ∧ (((((((((((w6.setCell ⟨w.heap.size, 0, none⟩ (.int .i64 nx1)).setCell ⟨w.heap.size, 1, none⟩ (.slice p1 st1.length cap1)).setCell ⟨w.heap.size, 2, none⟩ (.int .i64 hi1)).setCell ⟨w.heap.size, 3, none⟩ (.bool b01)).setCell ⟨w.heap.size, 4, none⟩ (.bool b11)).setCell ⟨w.heap.size, 5, none⟩ (.bool b21)).setCell ⟨w.heap.size, 6, none⟩ (.bool b31)).setCell ⟨w.heap.size, 7, none⟩ (.bool b41)).setCell ⟨w.heap.size, 8, none⟩ (.bool b51)).setCell ⟨w.heap.size, 9, none⟩ (.bool b61)).setCell ⟨w.heap.size, 10, none⟩ (.bool b71)).ownsMap Try.prog 3 (plainElem (H := Unit) Try.prog 4) (w.heap.size + 1) n (D)) := hid ⟨HKEEP.out, lboxr_row ((HO6.out).box hS (by omega)) (by omega) hm1 hl1 nx1 hi1 b01 b11 b21 b31 b41 b51 b61 b71 (st11_heap (.int .i64 nx1) (.slice p1 st1.length cap1) (.int .i64 hi1) (.bool b01) (.bool b11) (.bool b21) (.bool b31) (.bool b41) (.bool b51) (.bool b61) (.bool b71) (HXB6.out)), (hb6).grown hS (hb6).size (fun k hk => by have := Option.some.inj hk; omega), (hown6).kept hS (by simp)⟩
          obtain ⟨f1, f2, f3, f4⟩ := HEND.out
          go_roundw
          case rel => exact ⟨k + 1, n, _, _, _, by omega, by go_num, by omega, f4, hD, f1, f2, f3⟩
          case measure => simp [intOf]; omega
    · have hkc : (decide ((k : Int) < (seqs.length : Int)) && decide ((k : Int) < 100)) = false := by
        rw [Bool.and_eq_false_iff]
        by_cases h1 : k < seqs.length
        · exact Or.inr (decide_eq_false (by omega))
        · exact Or.inl (decide_eq_false (by omega))
      clear hbx hown hon hD
      by_cases h1 : (k : Int) < (seqs.length : Int)
      · have h2 : ¬ (k : Int) < 100 := by omega
        clear hkc
        go_wp2_with (go_at_call 25; refine (klines_any _).mono ?_; rintro e w7 ⟨rfl, hw7⟩)
        go_ret
        exact ⟨rfl, below_then hb hw7⟩
      · clear hkc
        go_wp2_with (go_at_call 25; refine (klines_any _).mono ?_; rintro e w7 ⟨rfl, hw7⟩)
        go_ret
        exact ⟨rfl, below_then hb hw7⟩
end Go.Proofs.Ytdkohhjacgplcaa
