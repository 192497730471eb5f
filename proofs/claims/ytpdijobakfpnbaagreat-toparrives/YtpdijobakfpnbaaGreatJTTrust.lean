/- trust.Home and trust.Trusted answer what the document says, and turn nothing that was there. -/
import Derived.Test.YtpdijobakfpnbaaGreatJTGood
import Derived.Test.YtpdijobakfpnbaaGreatJRows0
namespace Go.Proofs.YtpdijobakfpnbaaGreat
open Go.RowKit Go.Proofs.Parclose
theorem QlF (c : Int) (w : World) (hc : 0 ≤ c) (hc2 : c < 9223372036854775808) : Calls Tryz.prog 200 #[.int .i64 c] w fun e w' => e = .returned (.int .i64 (c / 20)) ∧ w' = w := by
 go_enter Tryz.func200, Tryz.ntmps200
 go_wp2
 go_ret
 exact ⟨rfl, rfl⟩
theorem news1 {W : World} {n : Nat} (hn : W.heap.size = n) (a : Value) (t : TypeId) : ∀ j u, [a][j]? = some u → (W.alloc (.cells #[a] t)).cell? ((⟨n, 0, none⟩ : Addr).add j) = some u := by
 subst hn
 exact laid1 W a t
noncomputable def trV (l : List Crt) (c now : Int) : Value := .agg #[.bool (trB l c now 0), .bool (trB l c now 1), .bool (trB l c now 2), .bool (trB l c now 3)]
structure Inv (w : World) (l : List Crt) (c now : Int) (wr : World) (v : Value) (row : List Int) (B : Int → Bool) (k : Nat) : Prop where
 own : wr.ownsRow (w.heap.size + 2) 3 1 v row.length (flat1 row)
 work : Work l c now B row
 past : ∀ m h, m < k → row[m]? = some h → ∀ x ∈ l, Asked c now B h x
 tr : wr.heap[w.heap.size + 1]? = some (.cells #[.bool (B 0), .bool (B 1), .bool (B 2), .bool (B 3)] 167 (0, 0))
 res : wr.heap[w.heap.size]? = some (.cells #[.bool false, .bool false, .bool false, .bool false] 167 (0, 0))
 below : Below w.heap.size w wr
 size : w.heap.size + 2 ≤ wr.heap.size
theorem Inv.more {w : World} {l : List Crt} {c now : Int} {wr ws : World} {v : Value} {row : List Int} {B : Int → Bool} {k : Nat} (h : Inv w l c now wr v row B k) (hb : Below wr.heap.size wr ws) : Inv w l c now ws v row B k :=
 ⟨Q3 h.own (QU hb), h.work, h.past, Qe h.tr hb, Qe h.res hb, h.below.trans (hb.mono (by have := h.size; omega)), Nat.le_trans h.size hb.size⟩
def withH (B : Int → Bool) (x : Int) : Int → Bool := fun h => B h || decide (h = x)
theorem Qeq {c now : Int} {B : Int → Bool} {h y : Int} {x : Crt} (ha : Asked c now B h x) : Asked c now (withH B y) h x := fun h1 h2 h3 => by
 unfold withH
 rw [ha h1 h2 h3]
 rfl
theorem QfZ {w : World} {T : Nat} {B : Int → Bool} {h : Int} (ht : w.heap[T]? = some (.cells #[.bool (B 0), .bool (B 1), .bool (B 2), .bool (B 3)] 167 (0, 0))) (h1 : 0 ≤ h) (h2 : h < 4) : w.cell? ⟨T, h.toNat, none⟩ = some (.bool (B h)) := by
 rw [Qa ht]
 have : h = 0 ∨ h = 1 ∨ h = 2 ∨ h = 3 := by omega
 rcases this with rfl | rfl | rfl | rfl <;> rfl
theorem QkT {w : World} {T : Nat} {B : Int → Bool} {h : Int} (ht : w.heap[T]? = some (.cells #[.bool (B 0), .bool (B 1), .bool (B 2), .bool (B 3)] 167 (0, 0))) (h1 : 0 ≤ h) (h2 : h < 4) :
 (w.setCell ⟨T, h.toNat, none⟩ (.bool true)).heap[T]? = some (.cells #[.bool (withH B h 0), .bool (withH B h 1), .bool (withH B h 2), .bool (withH B h 3)] 167 (0, 0)) := by
 rw [heap_setCell ht]
 have : h = 0 ∨ h = 1 ∨ h = 2 ∨ h = 3 := by omega
 rcases this with rfl | rfl | rfl | rfl <;> simp [withH]
theorem Inv.put {w : World} {l : List Crt} {c now : Int} {wr w2 : World} {v v2 : Value} {row : List Int} {B : Int → Bool} {k : Nat} (h : Inv w l c now wr v row B k) {x : Crt} (hx : x ∈ l) (hc : x.c = c) (hr : x.b ∈ row) (hu : now ≤ x.u) (hb : B x.h = false) (hh : 0 ≤ x.h ∧ x.h < 4) (hcat : catB c = true) (hk : k < row.length)
 (o : Obj) (h2 : w2.ownsRow (w.heap.size + 2) 3 1 v2 (row.length + 1) (flat1 row ++ [.int .i64 x.h])) (hg : ((wr.setCell ⟨w.heap.size + 1, x.h.toNat, none⟩ (.bool true)).alloc o).grownBy w2 v.ownBlock) :
 Inv w l c now w2 v2 (row ++ [x.h]) (withH B x.h) k := by
 have hs := h.size
 have hc2 : 0 ≤ c ∧ c < 80 := of_decide_eq_true hcat
 have ht1 := Qz (QkT h.tr hh.1 hh.2) o
 have hr1 := Qz (Qr h.res (by omega : w.heap.size ≠ w.heap.size + 1) x.h.toNat (.bool true)) o
 have hown : ∀ j, v.ownBlock = some j → w.heap.size + 2 ≤ j := fun j hj => Qs h.own hj
 have hb1 : Below w.heap.size w ((wr.setCell ⟨w.heap.size + 1, x.h.toNat, none⟩ (.bool true)).alloc o) := by
  refine Below.alloc ?_ (by simp; omega) _
  exact h.below.grown (Qg wr _ _ _) (by omega) (fun j hj => by have := Option.some.inj hj; omega)
 have hz : ((wr.setCell ⟨w.heap.size + 1, x.h.toNat, none⟩ (.bool true)).alloc o).heap.size = wr.heap.size + 1 := by simp
 refine ⟨by simpa [flat1] using h2, h.work.put hx hc hr hu hb hh (fun g _ _ => rfl) (by omega), fun m g hm hg2 y hy => ?_, ?_, ?_, hb1.grown hg (by rw [hz]; omega) (fun j hj => by have := hown j hj; omega), by have := hg.size; omega⟩
 · rw [List.getElem?_append_left (by omega)] at hg2
   exact Qeq (h.past m g hm hg2 y hy)
 · rw [hg.block _ (by omega) (fun e => by have := hown _ e.symm; omega)]
   exact ht1
 · rw [hg.block _ (by omega) (fun e => by have := hown _ e.symm; omega)]
   exact hr1
theorem QaS (w : World) (o p : Obj) : Below w.heap.size w ((w.alloc o).alloc p) := (Qd w o).alloc (by simp) _
theorem Qf3 {w : World} {b : Nat} {a0 a1 a2 a3 : Value} {t : TypeId} {fr : Nat × Nat} (u0 u1 u2 u3 : Value) (h : w.heap[b]? = some (.cells #[a0, a1, a2, a3] t fr)) :
 ((((w.setCell ⟨b, 0, none⟩ u0).setCell ⟨b, 1, none⟩ u1).setCell ⟨b, 2, none⟩ u2).setCell ⟨b, 3, none⟩ u3).heap[b]? = some (.cells #[u0, u1, u2, u3] t fr) := by
 have h1 := heap_setCell (j := 3) (heap_setCell (j := 2) (heap_setCell (j := 1) (heap_setCell (j := 0) h u0) u1) u2) u3
 rw [h1]
 rfl
theorem Qe1 (w : World) (b : Nat) (u0 u1 u2 u3 : Value) : w.grownBy ((((w.setCell ⟨b, 0, none⟩ u0).setCell ⟨b, 1, none⟩ u1).setCell ⟨b, 2, none⟩ u2).setCell ⟨b, 3, none⟩ u3) (some b) :=
 Qh (Qh (Qh (Qg w b 0 u0) (Qg _ b 1 u1)) (Qg _ b 2 u2)) (Qg _ b 3 u3)
set_option maxHeartbeats 1600000 in
theorem QcH (v : Value) (l : List Crt) (c now : Int) (w : World) (hv : CrtsAt w v l) (hn : catB c = false ∨ (catB c = true ∧ csB l = false)) :
 Calls Tryz.prog 168 #[v, .int .i64 c, .int .i64 now] w fun e w' => e = .returned (trV l c now) ∧ Below w.heap.size w w' := by
 have hno : ∀ h, trB l c now h = false := fun h => by
  rcases hn with h1 | ⟨_, h1⟩
  · exact Qjh h1
  · exact Qmd h1
 have HV : Hid (trV l c now = .agg #[.bool false, .bool false, .bool false, .bool false]) := hid (by unfold trV; rw [hno, hno, hno, hno])
 have hg := fun wx (h : Below w.heap.size w wx) => Qc1 v l wx (hv.below h)
 clear hno
 rcases hn with h1 | ⟨h1, h2⟩
 · go_enter Tryz.func168, Tryz.ntmps168
   go_wp2_with (go_at_call 175; refine (QG _ _).mono ?_; rintro e w' ⟨rfl, rfl⟩)
   exact bodyPost_ret (results_cell_row rfl _ _ w.heap.size 167 _ (0, 0) _ rfl (Qz (heap_alloc_new w _) _) Tryz.underlying167 rfl (by kernel_rfl)) rfl ⟨by rw [HV.out], QaS _ _ _⟩
 · go_enter Tryz.func168, Tryz.ntmps168
   go_wp2_with (first | (go_at_call 175; refine (QG _ _).mono ?_; rintro e w' ⟨rfl, rfl⟩) | (go_at_call 170; refine (hg _ (QaS _ _ _)).mono ?_; rintro e w2 ⟨rfl, hw2⟩; have hT := Qe (heap_alloc_new (w.alloc _) _) hw2; rw [QM] at hT; have hR := Qe (Qz (heap_alloc_new w _) _) hw2; have c0 := Qa hT 0; have c1 := Qa hT 1; have c2 := Qa hT 2; have c3 := Qa hT 3; have f0 := Qb hR 0; have f1 := Qb hR 1; have f2 := Qb hR 2; have f3 := Qb hR 3; have d0 := Qa hR 0; have d1 := Qa hR 1; have d2 := Qa hR 2; have d3 := Qa hR 3; have HR := hid hR; have HB2 := hid (Qc (QaS _ _ _) hw2); clear hw2 hT hR))
   have hst := Qf3 (.bool false) (.bool false) (.bool false) (.bool false) HR.out
   have hgr := Qe1 w2 w.heap.size (.bool false) (.bool false) (.bool false) (.bool false)
   exact bodyPost_ret (results_cell_row rfl _ _ w.heap.size 167 _ (0, 0) _ rfl hst Tryz.underlying167 rfl (by kernel_rfl)) rfl ⟨by rw [HV.out], HB2.out.grown hgr (HB2.out.size) (fun k hk => by cases hk; exact Nat.le_refl _)⟩
theorem Qld {w : World} {base g n cap : Nat} {row : List Int} (h : w.ownsRow base 3 1 (.slice (some ⟨g, 0, none⟩) n cap) n (flat1 row)) (k : Nat) (hk : k < row.length) : w.cell? ⟨g, k, none⟩ = some (.int .i64 row[k]) := by
 have := World.ownsRow.cells h (g := g) rfl k (.int .i64 row[k]) (by simp [flat1, hk])
 rwa [WideShapes.add_plain, Nat.zero_add] at this
theorem Qe7 {w : World} {base : Nat} {v : Value} {row : List Int} (h : w.ownsRow base 3 1 v row.length (flat1 row)) (h0 : 0 < row.length) : ∃ g cap, v = .slice (some ⟨g, 0, none⟩) row.length cap ∧ row.length ≤ cap ∧ cap ≤ maxLen := by
 rcases h.2 with ⟨_, hn⟩ | ⟨g, cap, cur, e, _, _, h1, h2, _⟩
 · omega
 · exact ⟨g, cap, e, h1, h2⟩
theorem QgI {w : World} (ob : Obj) {b : Nat} {C : Array Value} {t : TypeId} (h : w.heap[b]? = some (.cells C t (0, 0))) (j : Nat) : (w.alloc ob).frozen? ⟨b, j, none⟩ = false := Qb (Qz h ob) j
theorem Inv.start {w w2 : World} {l : List Crt} {c now H : Int} (hT : w2.heap[w.heap.size + 1]? = some (.cells #[.bool false, .bool false, .bool false, .bool false] 167 (0, 0)))
 (hR : w2.heap[w.heap.size]? = some (.cells #[.bool false, .bool false, .bool false, .bool false] 167 (0, 0))) (hb : Below w.heap.size w w2) (hs : w.heap.size + 2 ≤ w2.heap.size) (hH : c / 20 = H) (hcat : catB c = true) :
 Inv w l c now ((w2.setCell ⟨w.heap.size + 1, H.toNat, none⟩ (.bool true)).alloc (.cells #[.int .i64 H] 3)) (.slice (some ⟨w2.heap.size, 0, none⟩) 1 1) [H] (withH (fun _ => false) H) 0 := by
 have hc : 0 ≤ c ∧ c < 80 := of_decide_eq_true hcat
 have hz : (w2.setCell ⟨w.heap.size + 1, H.toNat, none⟩ (.bool true)).heap.size = w2.heap.size := by simp
 have hn := heap_alloc_new (w2.setCell ⟨w.heap.size + 1, H.toNat, none⟩ (.bool true)) (.cells #[.int .i64 H] 3)
 rw [hz] at hn
 refine ⟨⟨rfl, Or.inr ⟨w2.heap.size, 1, #[.int .i64 H], rfl, hs, hn, Nat.le_refl _, by unfold maxLen; omega, rfl, rfl⟩⟩, ?_, fun m h hm => absurd hm (Nat.not_lt_zero _), Qz (QkT (B := fun _ => false) hT (by omega) (by omega)) _, Qz (Qr hR (by omega) _ _) _, ?_, by simp; omega⟩
 · rw [← hH]
   exact Work.start hcat _ (fun h _ _ => by simp [withH])
 · refine Below.alloc ?_ (by simp; omega) _
   exact hb.grown (Qg w2 _ _ _) (by omega) (fun j hj => by have := Option.some.inj hj; omega)
theorem Inv.pos {w : World} {l : List Crt} {c now : Int} {wr : World} {v : Value} {row : List Int} {B : Int → Bool} {k : Nat} (h : Inv w l c now wr v row B k) (hcat : catB c = true) : 0 < row.length := by
 have hc : 0 ≤ c ∧ c < 80 := of_decide_eq_true hcat
 exact List.length_pos_of_mem ((h.work.mark (c / 20) (by omega) (by omega)).1 h.work.home)
theorem QiL {x : Crt} (h : certB x = true) : (0 ≤ x.b ∧ x.b < 4) ∧ (0 ≤ x.h ∧ x.h < 4) := by
 unfold certB twoB hostB at h
 simp only [Bool.and_eq_true, decide_eq_true_iff] at h
 exact ⟨h.1.2.1.1, h.1.2.1.2⟩
set_option maxRecDepth 100000 in
set_option maxHeartbeats 6400000 in
theorem Qfu (v : Value) (l : List Crt) (c now : Int) (w : World) (hv : CrtsAt w v l) (hcat : catB c = true) (hcs : csB l = true) :
 Calls Tryz.prog 168 #[v, .int .i64 c, .int .i64 now] w fun e w' => e = .returned (trV l c now) ∧ Below w.heap.size w w' := by
 have hgood := fun wx (h : Below w.heap.size w wx) => Qc1 v l wx (hv.below h)
 have hgd : goodCs l := of_decide_eq_true hcs
 have hc80 : 0 ≤ c ∧ c < 80 := of_decide_eq_true hcat
 have hhome := fun wx => QlF c wx hc80.1 (by omega)
 have HGD := hid hgd
 have h24 : l.length ≤ 24 := hgd.1
 obtain ⟨p, cap, rfl, hlc, hcap, hcells⟩ := hv
 have HCL := hid hcells
 obtain ⟨i0, hi, hz0, hz1, hz2⟩ := info_parts QbL
 have hh0 : 0 ≤ c / 20 := by omega
 have hh1 : c / 20 < 4 := by omega
 obtain ⟨H, hH⟩ : ∃ H, c / 20 = H := ⟨_, rfl⟩
 rw [hH] at hhome hh0 hh1
 have HH := hid hH
 have HCAT := hid hcat
 clear hH hgd hcells
 go_enter Tryz.func168, Tryz.ntmps168
 go_wp2_with (first | (go_at_call 175; refine (QG _ _).mono ?_; rintro e w' ⟨rfl, rfl⟩) | (go_at_call 170; refine (hgood _ (QaS _ _ _)).mono ?_; rintro e w2 ⟨rfl, hw2⟩; have hT := Qe (heap_alloc_new (w.alloc _) _) hw2; rw [QM] at hT; have hR := Qe (Qz (heap_alloc_new w _) _) hw2; have f0 := Qb hT H.toNat; have c0 := QfZ (B := fun _ => false) hT hh0 hh1; have HT := hid hT; have HR := hid hR; have HB2 := hid (Qc (QaS _ _ _) hw2); have hs2 := hw2.size; rw [QM, QM] at hs2; clear hw2 hT hR) | (go_at_call 200; refine (hhome _).mono ?_; rintro e w' ⟨rfl, hq⟩; have hq2 := hq.symm; clear hq; subst hq2))
 have HST := hid (Inv.start (l := l) (now := now) HT.out HR.out HB2.out (by omega) HH.out HCAT.out)
 clear HT HR HB2 hs2 f0 c0 hhome hgood hcat hcs
 go_loopw [8, 9] (fun v i wr => ∃ (row : List Int) (B : Int → Bool) (k : Nat), k ≤ row.length ∧ i = .int .i64 k ∧ Inv w l c now wr v row B k) (fun _ i _ => 4 - (intOf i).toNat)
 case atStart => exact ⟨_, _, 0, Nat.zero_le _, rfl, HST.out⟩
 case round =>
  obtain ⟨row, B, k, hk, rfl, hinv⟩ := hrel
  clear HST
  have h4 := hinv.work.four
  obtain ⟨g, rc, rfl, hrc, hmx⟩ := Qe7 hinv.own (hinv.pos HCAT.out)
  unfold maxLen at hmx
  by_cases hlt : k < row.length
  rotate_left
  · have hT := hinv.tr
    have hR := hinv.res
    have c0 := Qa hT 0
    have c1 := Qa hT 1
    have c2 := Qa hT 2
    have c3 := Qa hT 3
    have f0 := Qb hR 0
    have f1 := Qb hR 1
    have f2 := Qb hR 2
    have f3 := Qb hR 3
    have d0 := Qa hR 0
    have d1 := Qa hR 1
    have d2 := Qa hR 2
    have d3 := Qa hR 3
    have HDONE : Hid (∀ h, 0 ≤ h → h < 4 → B h = trB l c now h) := hid (fun h g1 g2 => hinv.work.done HCAT.out HGD.out (fun y hy x hx => by
     obtain ⟨m, hm, e⟩ := List.mem_iff_getElem.1 hy
     exact hinv.past m y (by omega) (by rw [← e]; exact List.getElem?_eq_getElem hm) x hx) h g1 g2)
    have HR := hid hR
    have HBB := hid hinv.below
    clear hinv hT hR
    go_wp2
    have hst := Qf3 (.bool (B 0)) (.bool (B 1)) (.bool (B 2)) (.bool (B 3)) HR.out
    have hgr := Qe1 wr w.heap.size (.bool (B 0)) (.bool (B 1)) (.bool (B 2)) (.bool (B 3))
    exact bodyPost_ret (results_cell_row rfl _ _ w.heap.size 167 _ (0, 0) _ rfl hst Tryz.underlying167 rfl (by kernel_rfl)) rfl ⟨by rw [HDONE.out 0 (by omega) (by omega), HDONE.out 1 (by omega) (by omega), HDONE.out 2 (by omega) (by omega), HDONE.out 3 (by omega) (by omega)]; rfl, HBB.out.grown hgr (HBB.out.size) (fun k hk => by cases hk; exact Nat.le_refl _)⟩
  · have HIN := hid hinv
    obtain ⟨h0, HK0⟩ : ∃ h0, Hid (row[k]? = some h0) := ⟨row[k], hid (List.getElem?_eq_getElem hlt)⟩
    clear hinv
    go_wp2
    go_loopw [8, 35] (fun v j wr => ∃ (row : List Int) (B : Int → Bool) (m : Nat), m ≤ l.length ∧ j = .int .i64 m ∧ Inv w l c now wr v row B k ∧ row[k]? = some h0 ∧ (∀ i (_ : i < m) (hl : i < l.length), Asked c now B h0 l[i])) (fun _ j _ => l.length - (intOf j).toNat)
    case atStart => exact ⟨row, B, 0, Nat.zero_le _, rfl, HIN.out, HK0.out, fun i hi => absurd hi (Nat.not_lt_zero _)⟩
    case round =>
     clear HIN HK0
     obtain ⟨row2, B2, m, hm, rfl, hinv2, hk0, hask⟩ := hrel
     have HASK := hid hask
     have HK0 := hid hk0
     have HIN := hid hinv2
     have h42 := hinv2.work.four
     have hkl : k < row2.length := (List.getElem?_eq_some_iff.1 hk0).1
     have hke : row2[k] = h0 := (List.getElem?_eq_some_iff.1 hk0).2
     by_cases hltm : m < l.length
     · obtain ⟨b, o, rfl, hc⟩ := HCL.out (by omega)
       obtain ⟨g1, g2, g3, g4⟩ := hc.below hinv2.below m hltm
       obtain ⟨hx3, hx4⟩ := QiL (HGD.out.2.1 l[m] (List.getElem_mem hltm))
       have HX := hid (List.getElem_mem hltm)
       have HAN := fun (Bn : Int → Bool) (h1 : ∀ i (_ : i < m) (hl : i < l.length), Asked c now Bn h0 l[i]) (h2 : Asked c now Bn h0 l[m]) => (fun i (hi : i < m + 1) (hl : i < l.length) => (by
        by_cases e : i = m
        · subst e; exact h2
        · exact h1 i (by omega) hl : Asked c now Bn h0 l[i]))
       have HANX := hid HAN
       clear HAN
       generalize l[m] = x at *
       obtain ⟨gg, rc2, rfl, hrc2, hmx2⟩ := Qe7 hinv2.own (by omega)
       unfold maxLen at hmx2
       have hrow := Qld hinv2.own k hkl
       rw [hke] at hrow
       have hrow2 := fun ob => QaX ob hrow
       have htr := fun ob => QaX ob (QfZ hinv2.tr hx4.1 hx4.2)
       have hsz2 := hinv2.size
       have hfr := fun ob => QgI ob hinv2.tr x.h.toNat
       obtain ⟨hx41, hx42⟩ := hx4
       have hb1 : (k : Int) < (row2.length : Int) := by omega
       have hb2 : (0 : Int) ≤ (k : Int) := by omega
       clear hc hinv2 hask hk0 hke hrow
       cases hA : (x.c == c) with
       | false =>
        have HNEW : Hid (Asked c now B2 h0 x) := hid (fun e1 _ _ => by rw [e1] at hA; simp at hA)
        go_wp2
        go_quiet (fail)
        go_wp2
        go_roundw
        case rel => exact ⟨row2, B2, m + 1, hltm, by go_num, HIN.out.more (Qc (Qd _ _) (Qt _ _)), HK0.out, HANX.out B2 HASK.out HNEW.out⟩
        case measure => simp [intOf]; omega
       | true =>
        cases hB : (x.b == h0) with
        | false =>
         have HNEW : Hid (Asked c now B2 h0 x) := hid (fun _ e1 _ => by rw [e1] at hB; simp at hB)
         go_wp2
         go_quiet (fail)
         go_wp2
         go_roundw
         case rel => exact ⟨row2, B2, m + 1, hltm, by go_num, HIN.out.more (Qc (Qd _ _) (Qt _ _)), HK0.out, HANX.out B2 HASK.out HNEW.out⟩
         case measure => simp [intOf]; omega
        | true =>
         cases hU : decide (now ≤ x.u) with
         | false =>
          have HNEW : Hid (Asked c now B2 h0 x) := hid (fun _ _ e1 => absurd e1 (of_decide_eq_false hU))
          go_wp2
          go_quiet (fail)
          go_wp2
          go_roundw
          case rel => exact ⟨row2, B2, m + 1, hltm, by go_num, HIN.out.more (Qc (Qd _ _) (Qt _ _)), HK0.out, HANX.out B2 HASK.out HNEW.out⟩
          case measure => simp [intOf]; omega
         | true =>
          cases hT : B2 x.h with
          | true =>
           have HNEW : Hid (Asked c now B2 h0 x) := hid (fun _ _ _ => hT)
           rw [hT] at htr
           go_wp2
           go_quiet (fail)
           go_wp2
           go_roundw
           case rel => exact ⟨row2, B2, m + 1, hltm, by go_num, HIN.out.more (Qc (Qd _ _) (Qt _ _)), HK0.out, HANX.out B2 HASK.out HNEW.out⟩
           case measure => simp [intOf]; omega
          | false =>
           rw [hT] at htr
           have INVN := hid (fun n => HIN.out.more (Qc (Qd wr (.cells #[.int .i64 x.c, .int .i64 x.b, .int .i64 x.h, .int .i64 x.u] 60)) (Qt _ n)))
           have OWN := hid (fun n => (QA (INVN.out n).own (INVN.out n).tr (by decide) x.h.toNat (.bool true)).alloc (.cells #[.int .i64 x.h] 3))
           have HPUT := hid (fun (n : Nat) w6 v6 h6 hg6 => (INVN.out n).put (w2 := w6) (v2 := v6) HX.out (beq_iff_eq.1 hA) (by rw [beq_iff_eq.1 hB, ← (List.getElem?_eq_some_iff.1 HK0.out).2]; exact List.getElem_mem hkl) (of_decide_eq_true hU) hT ⟨hx41, hx42⟩ HCAT.out hkl (.cells #[.int .i64 x.h] 3) h6 hg6)
           have HNEW : Hid (Asked c now (withH B2 x.h) h0 x) := hid (fun _ _ _ => by simp [withH])
           have HKN : Hid ((row2 ++ [x.h])[k]? = some h0) := hid (by rw [List.getElem?_append_left hkl]; exact HK0.out)
           go_wp2
           go_quiet (fail)
           go_wp2_with (at_builtin; refine wpList_append_own _ rfl _ _ 35 rfl (w.heap.size + 2) 3 i0 _ 1 8 Tryz.underlying35 hi hz0 hz1 hz2 rfl (by decide) _ row2.length (flat1 row2) rfl (OWN.out nq) ⟨wr.heap.size + 1, 0, none⟩ 1 1 [.int .i64 x.h] rfl rfl (news1 (by simp) _ _) (by intro u hu; simp at hu; subst hu; rfl) (by unfold maxLen; omega) (by omega) (by simp; omega) ?_; intro v6 w6 hown6 hgrow6 _)
           go_roundw
           case rel => exact ⟨row2 ++ [x.h], withH B2 x.h, m + 1, hltm, by go_num, HPUT.out nq w6 v6 hown6 hgrow6, HKN.out, HANX.out _ (fun i hi hl => Qeq (HASK.out i hi hl)) HNEW.out⟩
           case measure => simp [intOf]; omega
     · have HNEXT : Hid (Inv w l c now wr _ row2 B2 (k + 1)) := hid ⟨hinv2.own, hinv2.work, fun j h hj he x hx => by
        by_cases e : j = k
        · subst e
          rw [hk0] at he
          have := Option.some.inj he
          subst this
          obtain ⟨i, hi, rfl⟩ := List.mem_iff_getElem.1 hx
          exact hask i (by omega) hi
        · exact hinv2.past j h (by omega) he x hx, hinv2.tr, hinv2.res, hinv2.below, hinv2.size⟩
       clear hinv2 hask hk0 hke
       go_wp2
       go_roundw
       case rel => exact ⟨row2, B2, k + 1, hkl, by go_num, HNEXT.out⟩
       case measure => simp [intOf]; omega
theorem Qgk (v : Value) (l : List Crt) (c now : Int) (w : World) (hv : CrtsAt w v l) :
 Calls Tryz.prog 168 #[v, .int .i64 c, .int .i64 now] w fun e w' => e = .returned (trV l c now) ∧ Below w.heap.size w w' := by
 cases h1 : catB c with
 | false => exact QcH v l c now w hv (Or.inl h1)
 | true =>
  cases h2 : csB l with
  | false => exact QcH v l c now w hv (Or.inr ⟨h1, h2⟩)
  | true => exact Qfu v l c now w hv h1 h2
end Go.Proofs.YtpdijobakfpnbaaGreat
