/- cluster.Net, cluster.Now: what they tell. -/
import Derived.Test.YtgpldlbmjakjhaaGreatQCMove
import Derived.Test.YtgpldlbmjakjhaaGreatQTAdd
import Derived.Test.YtgpldlbmjakjhaaGreatQCRo
import Derived.Test.YtgpldlbmjakjhaaGreatQKKer
import Derived.Test.YtgpldlbmjakjhaaGreatQPlain
import Derived.Test.YtgpldlbmjakjhaaGreatQPlainInv
namespace Go.Proofs.YtgpldlbmjakjhaaGreat
open Go.RowKit Go.Proofs.Parclose

set_option maxRecDepth 100000 in
set_option maxHeartbeats 400000 in
theorem cloneT_some (a : Addr) (n cap : Nat) (xs : List Value) (w : World) (hl : xs.length = n * 1) (hn : n ≤ 1000) (hc : ∀ j u, xs[j]? = some u → w.cell? (a.add j) = some u) (h1 : ∀ u ∈ xs, u.oneCell' = true) :
    Calls Tryz.prog 40 #[.slice (some a) n cap] w fun e w' => ∃ v', e = .returned v' ∧ w'.ownsRow w.heap.size 9 1 v' n xs ∧ Below w.heap.size w w' := by
  obtain ⟨i0, hi, hz0, hz1, hz2⟩ := info_parts info_text
  have q : ∀ (wx : World) (p : Option Addr) (n c n' c' : Nat), (binOp .eql 48 (.slice p n c) (.slice none n' c')).run Tryz.prog wx = .ok (.bool p.isNone) wx := fun wx p n c n' c' => Lib.run_eql_slice_nil wx _ _ p n c n' c' Tryz.underlying48
  have HC := hid hc
  clear hc
  go_enter Tryz.func40, Tryz.ntmps40
  go_wp2_with (at_builtin; refine wpList_append_own _ rfl _ _ 48 rfl w.heap.size 9 i0 _ 1 16 Tryz.underlying48 hi hz0 hz1 hz2 rfl (by decide) _ 0 [] rfl (cown_empty w _ _ _ (Nat.le_refl _)) a n cap xs rfl hl (fun j u hu => by have := HC.out j u hu; rw [(below_box w _).cell (cell_block this), this]) h1 (by unfold maxLen; omega) (by omega) (by simp) ?_; intro v6 w6 hown6 hgrow6 hnil6)
  have hb6 : Below w.heap.size w w6 := (below_box w (.cells #[] 9)).grown hgrow6 (by simp) (fun k hk => by cases hk; exact Nat.le_refl _)
  clear hgrow6 hnil6
  rw [Nat.zero_add, List.nil_append] at hown6
  go_ret
  exact ⟨v6, rfl, hown6, hb6⟩
theorem cloneT_none (n cap : Nat) (w : World) : Calls Tryz.prog 40 #[.slice none n cap] w fun e w' => e = .returned (.slice none 0 0) ∧ w' = w := by
  have q : ∀ (wx : World) (p : Option Addr) (n c n' c' : Nat), (binOp .eql 48 (.slice p n c) (.slice none n' c')).run Tryz.prog wx = .ok (.bool p.isNone) wx := fun wx p n c n' c' => Lib.run_eql_slice_nil wx _ _ p n c n' c' Tryz.underlying48
  go_enter Tryz.func40, Tryz.ntmps40
  go_wp2
  go_ret
  exact ⟨rfl, rfl⟩
theorem cloneT_any (v : Value) (l : List (List UInt8)) (w : World) (hv : w.ownsRow 0 9 1 v l.length (strs l)) (hl : l.length ≤ 1000) :
    Calls Tryz.prog 40 #[v] w fun e w' => ∃ v', e = .returned v' ∧ w'.ownsRow w.heap.size 9 1 v' l.length (strs l) ∧ Below w.heap.size w w' := by
  rcases hv.2 with ⟨e0, h0⟩ | ⟨g, cap, cur, e0, _⟩
  · subst e0
    have hn : l = [] := List.length_eq_zero_iff.1 h0
    subst hn
    refine (cloneT_none 0 0 w).mono ?_
    rintro e w' ⟨rfl, rfl⟩
    exact ⟨_, rfl, World.ownsRow_nil _ _ _ _, Below.refl _ _⟩
  · subst e0
    exact cloneT_some ⟨g, 0, none⟩ l.length cap (strs l) w (strs_len l) hl (hv.cells (g := g) rfl) (strs_one l)

set_option maxRecDepth 100000 in
theorem cnet_any (cb : Nat) (F : List Nat) (Z : CluV) (C : Clu) (w : World) (hc : CluAt w cb F Z C) (h60 : C.net.length ≤ 60) :
    Calls Tryz.prog 16 #[.pointer (some ⟨cb, 0, none⟩)] w fun e w' => ∃ p cap, e = .returned (.slice p C.net.length cap) ∧ w'.ownsRow w.heap.size 9 1 (.slice p C.net.length cap) C.net.length (strs C.net) ∧ Below w.heap.size w w' := by
  have k := hc.cnet.1
  obtain ⟨pn, cn, hvn⟩ := texts_slice hc.net
  have hcl := cloneT_any Z.vn C.net w hc.net (by omega)
  rw [hvn] at k hcl
  clear hvn
  have hlt := hc.lt
  clear hc
  go_enter Tryz.func16, Tryz.ntmps16
  go_wp2_with (go_at_call 40; refine hcl.mono ?_; rintro e w1 ⟨v1, rfl, hv1, hw1⟩; obtain ⟨p1, c1, e1⟩ := texts_slice hv1; subst e1)
  go_ret
  exact ⟨p1, c1, rfl, hv1, hw1⟩
end Go.Proofs.YtgpldlbmjakjhaaGreat

namespace Go.Proofs.YtgpldlbmjakjhaaGreat
open Go.RowKit Go.Proofs.Parclose

/-- a new kernel may lie in any set of blocks -/
theorem KerAt.anyF {w : World} {kb : Nat} {F G : List Nat} {h : Int} (k : KerAt w kb F [nilV, nilV, nilV, nilV] (freshKer h)) (h1 : kb ∈ G) (h2 : ∀ k ∈ G, k < w.heap.size) : KerAt w kb G [nilV, nilV, nilV, nilV] (freshKer h) := by
  have hn : ∀ t (h1 : t < [nilV, nilV, nilV, nilV].length), [nilV, nilV, nilV, nilV][t] = nilV := fun t ht => by
    match t, ht with
    | 0, _ => rfl
    | 1, _ => rfl
    | 2, _ => rfl
    | 3, _ => rfl
  have hz : ∀ t (h1 : t < (freshKer h).ths.length), (freshKer h).ths[t] = zeroThr := fun t ht => by
    match t, ht with
    | 0, _ => rfl
    | 1, _ => rfl
    | 2, _ => rfl
    | 3, _ => rfl
  exact ⟨k.len, k.lenK, k.box, fun t g1 g2 => by rw [hn t g1, hz t g2]; exact nil_thr w G, fun t g1 x hx => (by rw [hn t g1] at hx; cases hx), k.apart, h1, h2⟩
theorem part_cell {A : Array Value} {k : Nat} (hsz : A.size = 187) (hk : k < 4) : A[2 + k]? = some (A[2 + k]'(by omega)) := Array.getElem?_eq_getElem _
theorem part_next {w wr w5 : World} {cb k : Nat} {A : Array Value} {kp : Nat → Nat} (hk4 : k < 4) (hA : wr.heap[cb]? = some (.cells A 93 (0, 0))) (hsz : A.size = 187) (hAj : ∀ j, A[j]? = if 2 ≤ j ∧ j < 2 + k then some (.pointer (some ⟨kp (j - 2), 0, none⟩)) else (Tryz.zeroCells93)[j]?) (hks : ∀ h, h < k → KerAt wr (kp h) [kp h] [nilV, nilV, nilV, nilV] (freshKer h)) (hkp : ∀ g h, g < k → h < k → g ≠ h → kp g ≠ kp h) (hge : ∀ h, h < k → w.heap.size ≤ kp h) (hbw : Below cb w wr) (hcb : cb = w.heap.size)
    (hK : KerAt w5 wr.heap.size [wr.heap.size] [nilV, nilV, nilV, nilV] (freshKer k)) (hw : Below wr.heap.size wr w5) :
    ∃ (A' : Array Value) (kp' : Nat → Nat), (w5.setCell ⟨cb, 2 + k, none⟩ (.pointer (some ⟨wr.heap.size, 0, none⟩))).heap[cb]? = some (.cells A' 93 (0, 0)) ∧ A'.size = 187 ∧ (∀ j, A'[j]? = if 2 ≤ j ∧ j < 2 + (k + 1) then some (.pointer (some ⟨kp' (j - 2), 0, none⟩)) else (Tryz.zeroCells93)[j]?) ∧ (∀ h, h < k + 1 → KerAt (w5.setCell ⟨cb, 2 + k, none⟩ (.pointer (some ⟨wr.heap.size, 0, none⟩))) (kp' h) [kp' h] [nilV, nilV, nilV, nilV] (freshKer h)) ∧ (∀ g h, g < k + 1 → h < k + 1 → g ≠ h → kp' g ≠ kp' h) ∧ (∀ h, h < k + 1 → w.heap.size ≤ kp' h) ∧ Below cb w (w5.setCell ⟨cb, 2 + k, none⟩ (.pointer (some ⟨wr.heap.size, 0, none⟩))) := by
  have hA5 := heap_keep hA hw
  have hlc := heap_lt hA
  have hst : ∀ (b : Nat) (x : Int), KerAt w5 b [b] [nilV, nilV, nilV, nilV] (freshKer x) → KerAt (w5.setCell ⟨cb, 2 + k, none⟩ (.pointer (some ⟨wr.heap.size, 0, none⟩))) b [b] [nilV, nilV, nilV, nilV] (freshKer x) := fun b x hb => by
    have hfin : ∀ y ∈ [b, cb], y < w5.heap.size := fun y hy => by
      rcases List.mem_cons.1 hy with e | e
      · rw [e]; exact hb.fin b (by simp)
      · rw [List.mem_singleton.1 e]; exact heap_lt hA5
    have h2 := (hb.anyF (G := [b, cb]) (by simp) hfin).boxed (grown_setCell w5 cb (2 + k) (.pointer (some ⟨wr.heap.size, 0, none⟩))) (by simp) hA5 (by decide) (by decide) (by decide) (by decide)
    exact h2.anyF (by simp) (fun y hy => by rw [List.mem_singleton.1 hy, World.size_setCell]; exact hb.fin b (by simp))
  refine ⟨_, fun h => if h = k then wr.heap.size else kp h, heap_setCell hA5 _, by simpa using hsz, fun j => ?_, fun h hh => ?_, fun g h hg hh hne => ?_, fun h hh => ?_, ?_⟩
  · rw [set_get A (2 + k) j _ (by omega)]
    by_cases e : j = 2 + k
    · rw [if_pos e, if_pos (by omega)]
      simp only
      rw [if_pos (by omega)]
    · rw [if_neg e, hAj j]
      by_cases e2 : 2 ≤ j ∧ j < 2 + k
      · rw [if_pos e2, if_pos (by omega)]
        simp only
        rw [if_neg (by omega)]
      · rw [if_neg e2, if_neg (by omega)]
  · simp only
    by_cases e : h = k
    · rw [if_pos e, e]; exact hst _ _ hK
    · rw [if_neg e]; exact hst _ _ ((hks h (by omega)).below hw)
  · simp only
    have hold : ∀ x, x < k → kp x < wr.heap.size := fun x hx => (hks x hx).fin _ (by simp)
    by_cases e1 : g = k
    · rw [if_pos e1, if_neg (by omega)]
      have := hold h (by omega)
      omega
    · rw [if_neg e1]
      by_cases e2 : h = k
      · rw [if_pos e2]
        have := hold g (by omega)
        omega
      · rw [if_neg e2]; exact hkp g h (by omega) (by omega) hne
  · simp only
    by_cases e : h = k
    · rw [if_pos e]; exact hbw.size
    · rw [if_neg e]; exact hge h (by omega)
  · subst hcb
    exact (below_then hbw hw).setCell (p := ⟨w.heap.size, 2 + k, none⟩) (Nat.le_refl _) _
def zeroZ (kp : Nat → Nat) : CluV := ⟨kp, fun _ => [nilV, nilV, nilV, nilV], fun _ => .slice none 0 0, fun _ _ => .slice none 0 0, .slice none 0 0⟩
set_option maxRecDepth 100000 in
theorem zero_lin : ∀ a, a < 4 → ∀ b, b < 4 → ∀ j, j < 11 → (Tryz.zeroCells93)[10 + a * 44 + b * 11 + j]? = (lneC zeroLne (.slice none 0 0))[j]? := by
  intro a ha b hb j hj
  have h1 : a = 0 ∨ a = 1 ∨ a = 2 ∨ a = 3 := by omega
  have h2 : b = 0 ∨ b = 1 ∨ b = 2 ∨ b = 3 := by omega
  have h3 : j = 0 ∨ j = 1 ∨ j = 2 ∨ j = 3 ∨ j = 4 ∨ j = 5 ∨ j = 6 ∨ j = 7 ∨ j = 8 ∨ j = 9 ∨ j = 10 := by omega
  rcases h1 with rfl | rfl | rfl | rfl <;> rcases h2 with rfl | rfl | rfl | rfl <;> rcases h3 with rfl | rfl | rfl | rfl | rfl | rfl | rfl | rfl | rfl | rfl | rfl <;> rfl
set_option maxRecDepth 100000 in
theorem zero_crt : ∀ h, h < 4 → (Tryz.zeroCells93)[6 + h]? = some (.slice none 0 0) := by
  intro h hh
  have h1 : h = 0 ∨ h = 1 ∨ h = 2 ∨ h = 3 := by omega
  rcases h1 with rfl | rfl | rfl | rfl <;> rfl
theorem part_end {w : World} {cb : Nat} {A : Array Value} {kp : Nat → Nat} (hA : w.heap[cb]? = some (.cells A 93 (0, 0))) (hsz : A.size = 187) (hAj : ∀ j, A[j]? = if 2 ≤ j ∧ j < 2 + 4 then some (.pointer (some ⟨kp (j - 2), 0, none⟩)) else (Tryz.zeroCells93)[j]?) (hks : ∀ h, h < 4 → KerAt w (kp h) [kp h] [nilV, nilV, nilV, nilV] (freshKer h)) (hkp : ∀ g h, g < 4 → h < 4 → g ≠ h → kp g ≠ kp h) : CluAt w cb [cb, kp 0, kp 1, kp 2, kp 3] (zeroZ kp) freshClu := by
  have hfin : ∀ k ∈ [cb, kp 0, kp 1, kp 2, kp 3], k < w.heap.size := fun k hk => by
    simp only [List.mem_cons, List.not_mem_nil, or_false] at hk
    rcases hk with e | e | e | e | e
    · rw [e]; exact heap_lt hA
    · rw [e]; exact (hks 0 (by omega)).fin _ (by simp)
    · rw [e]; exact (hks 1 (by omega)).fin _ (by simp)
    · rw [e]; exact (hks 2 (by omega)).fin _ (by simp)
    · rw [e]; exact (hks 3 (by omega)).fin _ (by simp)
  have hra : rowsAll [nilV, nilV, nilV, nilV] = [] := rfl
  refine ⟨⟨A, hA, hsz, ?_, ?_, fun h hh => ?_, fun h hh => ?_, fun a b ha hb j hj => ?_, ?_⟩, fun h hh => (hks h hh).anyF ?_ hfin, fun h hh => ⟨CrtsAt.nil _ _ _ (fun _ => rfl), fun h0 => (by cases h0)⟩, fun a b ha hb => ⟨[], rfl, fun x hx => (by cases hx), ⟨none, 0, rfl, ⟨Nat.le_refl _, fun _ => rfl⟩, Nat.zero_le _, fun h => (by cases h)⟩, fun h => (by cases h)⟩, fun a b _ _ => rfl, World.ownsRow_nil _ _ _ _, hkp, fun g h _ _ _ k hk => (by rw [show (zeroZ kp).V g = [nilV, nilV, nilV, nilV] from rfl, hra] at hk; cases hk), by simp, fun k hk => (by cases hk), hfin⟩
  · rw [hAj, if_neg (by omega)]; kernel_rfl
  · rw [hAj, if_neg (by omega)]; kernel_rfl
  · rw [hAj, if_pos (by omega), show 2 + h - 2 = h by omega]; rfl
  · rw [hAj, if_neg (by omega)]; exact zero_crt h hh
  · rw [hAj, if_neg (by omega)]; exact zero_lin a ha b hb j hj
  · rw [hAj, if_neg (by omega)]; kernel_rfl
  · have h1 : h = 0 ∨ h = 1 ∨ h = 2 ∨ h = 3 := by omega
    rcases h1 with rfl | rfl | rfl | rfl <;> simp

set_option linter.unusedSimpArgs false in
set_option maxRecDepth 100000 in
set_option maxHeartbeats 6400000 in
theorem cnew_any (w : World) : Calls Tryz.prog 28 #[] w fun e w' => e = .returned (.pointer (some ⟨w.heap.size, 0, none⟩)) ∧ (∃ kp F, CluAt w' w.heap.size F (zeroZ kp) freshClu ∧ ∀ k ∈ F, w.heap.size ≤ k) ∧ Below w.heap.size w w' := by
  have HI0 : Hid ((w.alloc (.cells Tryz.zeroCells93 93)).heap[w.heap.size]? = some (.cells Tryz.zeroCells93 93 (0, 0))) := hid (heap_alloc_new w _)
  have HZS : Hid ((Tryz.zeroCells93).size = 187) := hid (by kernel_rfl)
  go_enter Tryz.func28, Tryz.ntmps28
  go_wp2_with fail
  go_loopw [5] (fun i wr => ∃ (k : Nat) (A : Array Value) (kp : Nat → Nat), k ≤ 4 ∧ i = .int .i64 k ∧ wr.heap[w.heap.size]? = some (.cells A 93 (0, 0)) ∧ A.size = 187 ∧ (∀ j, A[j]? = if 2 ≤ j ∧ j < 2 + k then some (.pointer (some ⟨kp (j - 2), 0, none⟩)) else (Tryz.zeroCells93)[j]?) ∧ (∀ h, h < k → KerAt wr (kp h) [kp h] [nilV, nilV, nilV, nilV] (freshKer h)) ∧ (∀ g h, g < k → h < k → g ≠ h → kp g ≠ kp h) ∧ (∀ h, h < k → w.heap.size ≤ kp h) ∧ Below w.heap.size w wr) (fun i _ => 4 - (intOf i).toNat)
  case atStart => exact ⟨0, _, fun _ => 0, by omega, rfl, HI0.out, HZS.out, fun j => by rw [if_neg (by omega)], fun h hh => by omega, fun g h hg => by omega, fun h hh => by omega, below_box w _⟩
  case round =>
    clear HI0
    obtain ⟨k, A, kp, hk, rfl, hA, hsz, hAj, hks, hkp, hge, hbw⟩ := hrel
    by_cases hk4 : k < 4
    · have hI : (k : Int) < 4 := by omega
      have i0 : ¬ ((k : Int) < 0) := by omega
      have i1 : ¬ ((4 : Int) ≤ k) := by omega
      have i3 : (0 : Int) ≤ k := by omega
      go_upto_region 5 with fail
      refine wp_region_held_drew (S := (fun w' => True)) (by as_aux_lemma => kernel_rfl) trivial (fun _hHeld => ?_)
      refine takeD 0 9 ?v1 rfl (by as_aux_lemma => kernel_rfl) (by as_aux_lemma => kernel_rfl) (by as_aux_lemma => kernel_rfl) (by as_aux_lemma => kernel_rfl) (fun _ _ _ h => h) (Or.inl ⟨by rfl, ?hy1⟩) (by assumption) ?rest1
      case hy1 => intro wz hSw; (try dsimp only at hSw); go_simp; try with_reducible rfl
      simp only [Act.put, List.setIfInBounds_toArray, List.set_cons_zero, List.set_cons_succ]
      refine takeD 1 10 ?v2 rfl (by as_aux_lemma => kernel_rfl) (by as_aux_lemma => kernel_rfl) (by as_aux_lemma => kernel_rfl) (by as_aux_lemma => kernel_rfl) (fun _ _ _ h => h) (Or.inl ⟨by rfl, ?hy2⟩) (by assumption) ?rest2
      case hy2 => intro wz hSw; (try dsimp only at hSw); go_simp; try with_reducible rfl
      simp only [Act.put, List.setIfInBounds_toArray, List.set_cons_zero, List.set_cons_succ]
      refine takeD 2 11 ?v3 rfl (by as_aux_lemma => kernel_rfl) (by as_aux_lemma => kernel_rfl) (by as_aux_lemma => kernel_rfl) (by as_aux_lemma => kernel_rfl) (fun _ _ _ h => h) (Or.inl ⟨by rfl, ?hy3⟩) (by assumption) ?rest3
      case hy3 => intro wz hSw; (try dsimp only at hSw); go_simp; try with_reducible rfl
      simp only [Act.put, List.setIfInBounds_toArray, List.set_cons_zero, List.set_cons_succ]
      refine takeD 7 15 ?v4 rfl (by as_aux_lemma => kernel_rfl) (by as_aux_lemma => kernel_rfl) (by as_aux_lemma => kernel_rfl) (by as_aux_lemma => kernel_rfl) (fun _ _ _ h => h) (Or.inl ⟨by rfl, ?hy4⟩) (by assumption) ?rest4
      case hy4 => intro wz hSw; (try dsimp only at hSw); go_simp; try with_reducible rfl
      simp only [Act.put, List.setIfInBounds_toArray, List.set_cons_zero, List.set_cons_succ]
      refine takeD 8 16 ?v5 rfl (by as_aux_lemma => kernel_rfl) (by as_aux_lemma => kernel_rfl) (by as_aux_lemma => kernel_rfl) (by as_aux_lemma => kernel_rfl) (fun _ _ _ h => h) (Or.inl ⟨by rfl, ?hy5⟩) (by assumption) ?rest5
      case hy5 => intro wz hSw; (try dsimp only at hSw); go_simp; try with_reducible rfl
      simp only [Act.put, List.setIfInBounds_toArray, List.set_cons_zero, List.set_cons_succ]
      refine wpAnyH_ready (rs := [3]) (by as_aux_lemma => kernel_rfl) (by simp) ?_
      refine (AllReadyH.cons rfl (fun K' hK => ?_) AllReadyH.nil)
      go_simp
      go_wp2_with (go_at_call 57; refine (new_in k _ (by omega)).mono ?_; rintro e w5 ⟨rfl, hK5, hw5d⟩)
      have hw5 : Below wr.heap.size wr w5 := ⟨hw5d.os, hw5d.tape, hw5d.output, hw5d.size, hw5d.block⟩
      have HP5 := hid (part_next hk4 hA hsz hAj hks hkp hge hbw rfl hK5 hw5)
      have hA5 := heap_keep hA hw5
      have x2 := (heap_cell hA5 (2 + k)).trans (part_cell hsz hk4)
      have f2 := heap_frozen hA5 (2 + k)
      have hl5 := heap_lt hA5
      clear hK5 hw5d
      refine hK.out _ _ trivial (fun _ => ?_)
      clear hK K'
      refine takeD 4 8 ?v6 rfl (by as_aux_lemma => kernel_rfl) (by as_aux_lemma => kernel_rfl) (by as_aux_lemma => kernel_rfl) (by as_aux_lemma => kernel_rfl) (fun _ _ _ h => h) (Or.inl ⟨by rfl, ?hy6⟩) (by assumption) ?rest6
      case hy6 => intro wz hSw; (try dsimp only at hSw); go_simp; try with_reducible rfl
      simp only [Act.put, List.setIfInBounds_toArray, List.set_cons_zero, List.set_cons_succ]
      refine takeD 5 13 ?v7 rfl (by as_aux_lemma => kernel_rfl) (by as_aux_lemma => kernel_rfl) (by as_aux_lemma => kernel_rfl) (by as_aux_lemma => kernel_rfl) (fun _ _ _ h => h) (Or.inl ⟨by rfl, ?hy7⟩) (by assumption) ?rest7
      case hy7 => intro wz hSw; (try dsimp only at hSw); go_simp; try with_reducible rfl
      simp only [Act.put, List.setIfInBounds_toArray, List.set_cons_zero, List.set_cons_succ]
      refine takeD 6 14 ?v8 rfl (by as_aux_lemma => kernel_rfl) (by as_aux_lemma => kernel_rfl) (by as_aux_lemma => kernel_rfl) (by as_aux_lemma => kernel_rfl) (fun _ _ _ h => h) (Or.inl ⟨by rfl, ?hy8⟩) (by assumption) ?rest8
      case hy8 => intro wz hSw; (try dsimp only at hSw); go_simp; try with_reducible rfl
      simp only [Act.put, List.setIfInBounds_toArray, List.set_cons_zero, List.set_cons_succ]
      refine takeD 9 17 ?v9 rfl (by as_aux_lemma => kernel_rfl) (by as_aux_lemma => kernel_rfl) (by as_aux_lemma => kernel_rfl) (by as_aux_lemma => kernel_rfl) (fun _ _ _ h => h) (Or.inl ⟨by rfl, ?hy9⟩) (by assumption) ?rest9
      case hy9 => intro wz hSw; (try dsimp only at hSw); go_simp; try with_reducible rfl
      simp only [Act.put, List.setIfInBounds_toArray, List.set_cons_zero, List.set_cons_succ]
      refine wpAnyH_ready (rs := [10]) (by as_aux_lemma => kernel_rfl) (by simp) ?_
      refine (AllReadyH.cons rfl (fun K' hK => ?_) AllReadyH.nil)
      go_simp
      refine hK.out _ _ trivial (fun _ => ?_)
      clear hK K'
      refine wpAnyH_done (by as_aux_lemma => kernel_rfl) ?_ _
      clear hA hAj hks hkp hge hbw x2 f2 hA5
      obtain ⟨A', kp', h1, h2, h3, h4, h5, h6, h7⟩ := HP5.out
      go_wp2
      go_roundw
      case rel => exact ⟨k + 1, A', kp', hk4, by go_num, h1, h2, h3, h4, h5, h6, h7⟩
      case measure => simp [intOf]; omega
    · have hk5 : k = 4 := by omega
      subst hk5
      have HE := hid (part_end hA hsz hAj hks hkp)
      have HFB : Hid (∀ x ∈ [w.heap.size, kp 0, kp 1, kp 2, kp 3], w.heap.size ≤ x) := hid (fun x hx => by
        simp only [List.mem_cons, List.not_mem_nil, or_false] at hx
        rcases hx with e | e | e | e | e
        · rw [e]; exact Nat.le_refl _
        · rw [e]; exact hge 0 (by omega)
        · rw [e]; exact hge 1 (by omega)
        · rw [e]; exact hge 2 (by omega)
        · rw [e]; exact hge 3 (by omega))
      clear hA hAj hks hkp
      go_wp2
      go_ret
      exact ⟨rfl, ⟨kp, _, HE.out, HFB.out⟩, hbw⟩
end Go.Proofs.YtgpldlbmjakjhaaGreat

namespace Go.Proofs.YtgpldlbmjakjhaaGreat
open Go.RowKit Go.Proofs.Parclose

theorem acRo_nil (w : World) (F : List Nat) (k h t n : Int) (ck ch ct cn cc : Int) (x : List UInt8) : AcRo w F (.agg #[.int .i64 k, .int .i64 h, .int .i64 t, .int .i64 n, .int .i64 ck, .int .i64 ch, .int .i64 ct, .int .i64 cn, .int .i64 cc, .slice none 0 0, .slice none 0 0, .string ⟨x.toArray⟩]) ⟨k, h, t, n, ⟨ck, ch, ct, cn, cc, [], [], x⟩⟩ :=
  ⟨_, _, rfl, ⟨LabAt.nil _ _ _ (fun _ => rfl), fun h => absurd h (by simp)⟩, ⟨IntsAt.nil _ _ _ (fun _ => rfl), fun h => absurd h (by simp)⟩⟩
theorem Below.trans' {B : Nat} {a b c : World} (h : Below B a b) (k : Below B b c) : Below B a c := ⟨k.os.trans h.os, k.tape.trans h.tape, k.output.trans h.output, Nat.le_trans h.size k.size, fun i hi => by rw [k.block i hi, h.block i hi]⟩
/-- a cluster that lies in blocks from B on, and what has been done since -/
theorem CStep.low {cb B : Nat} {w w' : World} {F G : List Nat} {Z Z' : CluV} {C : Clu} (h : CStep cb w F Z w' G Z') (hc : CluAt w cb F Z C) (hF : ∀ k ∈ F, B ≤ k) (hB : B ≤ w.heap.size) : Below B w w' ∧ ∀ k ∈ G, B ≤ k := by
  have hk := h.keptF hc
  refine ⟨⟨hk.os, hk.tape, hk.output, hk.size, fun k hk' => hk.block k (by omega) (fun e => by have := hF k e; omega)⟩, fun k hk' => ?_⟩
  rcases h.more.2 k hk' with e | e
  · exact hF k e
  · omega

set_option maxRecDepth 100000 in
set_option maxHeartbeats 3200000 in
theorem talive_any (w : World) : Calls Tryz.prog 26 #[] w fun e w' => e = .returned (.bool true) ∧ Below w.heap.size w w' := by
  have HA := hid alive_a
  have HB := hid alive_two
  go_enter Tryz.func26, Tryz.ntmps26
  go_wp2_with fail
  refine (cnew_any w).mono ?_
  rintro e w1 ⟨rfl, ⟨kp, F, hc1, hF⟩, hw1⟩
  have hdo := cdo_any _ F _ freshClu _ aliveA w1 hc1 freshC_good (acRo_nil w1 F 1 2 0 0 1 0 0 0 0 [])
  have HC1 := hid hc1
  generalize hr1 : doC freshClu aliveA = R1 at *
  obtain ⟨C1, r1⟩ := R1
  simp only at hdo
  have HG1 : Hid (GoodC C1) := hid (by have := doC_good freshC_good aliveA; rw [hr1] at this; exact this)
  clear hr1
  go_wp2_with fail
  refine hdo.mono ?_
  rintro e w2 ⟨rfl, G2, Z2, hc2, hs2⟩
  obtain ⟨hb2, hF2⟩ := hs2.low hc1 hF hw1.size
  have HW2 := hid (Below.trans' hw1 hb2)
  have hbx := below_box w2 (.cells #[.int .i64 r1.code, .int .i64 r1.n, .string ⟨r1.text.toArray⟩] 35)
  have hdo2 := cdo_any _ G2 Z2 C1 _ aliveB (w2.alloc (.cells #[.int .i64 r1.code, .int .i64 r1.n, .string ⟨r1.text.toArray⟩] 35)) (hc2.below hbx) HG1.out (acRo_nil _ G2 1 2 0 0 6 1 3 0 0 [104, 105])
  have HX2 := hid (heap_alloc_new w2 (.cells #[.int .i64 r1.code, .int .i64 r1.n, .string ⟨r1.text.toArray⟩] 35))
  have HC2 := hid (hc2.below hbx)
  have HG2 := hid (doC_good HG1.out aliveB)
  have hr40 : r1.n = 40 := HA.out
  have HBX := hid hbx
  clear hdo hs2 hc1 hc2 HC1 HA hbx
  generalize doC C1 aliveB = R2 at *
  obtain ⟨C2, r2⟩ := R2
  obtain ⟨hr0, hn1⟩ : r2.code = 0 ∧ C2.net.length = 1 := HB.out
  simp only at hdo2
  have HN1 := hid hn1
  have H40 := hid hr40
  have H00 := hid hr0
  clear HB hr40 hr0 hn1
  go_wp2_with fail
  refine hdo2.mono ?_
  rintro e w3 ⟨rfl, G3, Z3, hc3, hs3⟩
  have HX3 := hid (box_cstep hs3 HC2.out HX2.out (by decide) (by decide) (by decide) (by decide) (by decide) (by decide))
  obtain ⟨hb3, hF3⟩ := hs3.low HC2.out hF2 (Nat.le_trans HW2.out.size HBX.out.size)
  have HW3 : Hid (Below w.heap.size w w3) := hid (Below.trans' (Below.trans' HW2.out ⟨HBX.out.os, HBX.out.tape, HBX.out.output, HBX.out.size, fun k hk => HBX.out.block k (Nat.lt_of_lt_of_le hk HW2.out.size)⟩) hb3)
  have hbx3 := below_box w3 (.cells #[.int .i64 r2.code, .int .i64 r2.n, .string ⟨r2.text.toArray⟩] 35)
  have hnet := cnet_any _ G3 Z3 C2 (w3.alloc (.cells #[.int .i64 r2.code, .int .i64 r2.n, .string ⟨r2.text.toArray⟩] 35)) (hc3.below hbx3) HG2.out.net
  rw [HN1.out] at hnet
  have HX4 := hid (heap_alloc_new w3 (.cells #[.int .i64 r2.code, .int .i64 r2.n, .string ⟨r2.text.toArray⟩] 35))
  have HX5 := hid (heap_new HX3.out (.cells #[.int .i64 r2.code, .int .i64 r2.n, .string ⟨r2.text.toArray⟩] 35))
  have HBX3 := hid hbx3
  obtain ⟨a0, a1, a2, _⟩ := cells3 HX4.out
  obtain ⟨d0, d1, d2, _⟩ := cells3 HX5.out
  clear hdo2 hs3 hc3 hb3 hbx3
  go_upto_region 6 with fail
  generalize w3.alloc (.cells #[.int .i64 r2.code, .int .i64 r2.n, .string ⟨r2.text.toArray⟩] 35) = w4 at *
  rw [H40.out] at d1
  rw [H00.out] at a0
  go_wp2_with (go_at_call 16; refine hnet.mono ?_; rintro e w5 ⟨pn, cn, rfl, _, hw5⟩)
  go_ret
  exact ⟨rfl, below_then (below_then HW3.out HBX3.out) hw5⟩
end Go.Proofs.YtgpldlbmjakjhaaGreat
