/- slices.Concat answers the certs one behind the other, in a list of its own. -/
import Derived.Test.YtpdijobakfpnbaaGreatJLClone
import Derived.Test.YtpdijobakfpnbaaGreatJShelf
import Derived.Test.YtpdijobakfpnbaaGreatJRows0
import Derived.Test.YtpdijobakfpnbaaGreatJTTrust
import Derived.Lib.SliceRun
namespace Go.Proofs.YtpdijobakfpnbaaGreat
open Go.RowKit Go.Proofs.Parclose
theorem Qke (a b : List Crt) : flat4 (a ++ b) = flat4 a ++ flat4 b := by simp [flat4]
theorem Qek {w : World} {b o : Nat} {l : List Crt} (h : Cells4 w b o l) : ∀ j u, (flat4 l)[j]? = some u → w.cell? ((⟨b, o, none⟩ : Addr).add j) = some u := by
 intro j u hu
 have hj : j < l.length * 4 := by
  have := (List.getElem?_eq_some_iff.1 hu).1
  rwa [Qbu] at this
 obtain ⟨h1, h2, h3, h4⟩ := h (j / 4) (by omega)
 obtain ⟨g1, g2, g3, g4⟩ := Qdh l (j / 4) (by omega)
 rw [WideShapes.add_plain]
 have hc : j % 4 = 0 ∨ j % 4 = 1 ∨ j % 4 = 2 ∨ j % 4 = 3 := by omega
 rcases hc with hp | hp | hp | hp
 · have e : j = j / 4 * 4 := by omega
   rw [e] at hu ⊢
   rw [g1] at hu
   rw [h1, ← hu]
 · have e : j = j / 4 * 4 + 1 := by omega
   rw [e] at hu ⊢
   rw [g2] at hu
   rw [← Nat.add_assoc, h2, ← hu]
 · have e : j = j / 4 * 4 + 2 := by omega
   rw [e] at hu ⊢
   rw [g3] at hu
   rw [← Nat.add_assoc, h3, ← hu]
 · have e : j = j / 4 * 4 + 3 := by omega
   rw [e] at hu ⊢
   rw [g4] at hu
   rw [← Nat.add_assoc, h4, ← hu]
def CrtssAt (w : World) (v : Value) (ls : List (List Crt)) : Prop :=
 ∃ b o cap, v = .slice (some ⟨b, o, none⟩) ls.length cap ∧ ∀ j (_ : j < ls.length), ∃ u, w.cell? ⟨b, o + j, none⟩ = some u ∧ CrtsAt w u ls[j]
theorem Qcy {w : World} {ops : Array Oper} {rest : List Oper} {o : Oper} {a : Act} {Q : Exit → Act → World → Prop} (hgd : o.guard = none) (s x : Operand)
 (ho : o.op = .call { callee := .builtin .append, args := #[s, x], argTypes := #[57, 57] }) (base : Nat) (v : Value) (n : Nat) (xs : List Value) (hs : a.eval s = v) (hown : w.ownsRow base 60 4 v n xs)
 (u : Value) (l : List Crt) (hx : a.eval x = u) (hu : CrtsAt w u l) (hn : n + l.length ≤ 4398046511104) (hbase : base ≤ w.heap.size)
 (h : ∀ v' w', w'.ownsRow base 60 4 v' (n + l.length) (xs ++ flat4 l) → w.grownBy w' v.ownBlock → wpList Tryz.prog ops Q rest (a.put o.dst v') w') : wpList Tryz.prog ops Q (o :: rest) a w := by
 obtain ⟨i0, hi, hz0, hz1, hz2⟩ := info_parts QaV
 obtain ⟨p, cap, rfl, hlc, hcap, hcells⟩ := hu
 cases p with
 | none =>
  have e : l = [] := by
   by_cases h0 : 0 < l.length
   · obtain ⟨b, o, e, _⟩ := hcells h0
     cases e
   · exact List.length_eq_zero_iff.1 (by omega)
  subst e
  have ec : cap = 0 := hlc.2 rfl
  subst ec
  exact wpList_append_own_none hgd s x 57 ho base 60 i0 4 Tryz.underlying57 hi v n xs hs hown hx (h v w (by simpa [flat4] using hown) ⟨rfl, rfl, rfl, Nat.le_refl _, fun _ _ _ => rfl⟩)
 | some ad =>
  have hnews : ∀ j u, (flat4 l)[j]? = some u → w.cell? (ad.add j) = some u := by
   by_cases h0 : 0 < l.length
   · obtain ⟨b, o, e, hc⟩ := hcells h0
     cases e
     exact Qek hc
   · have e : l = [] := List.length_eq_zero_iff.1 (by omega)
     subst e
     intro j u hu
     simp [flat4] at hu
  exact wpList_append_own w hgd s x 57 ho base 60 i0 _ 4 32 Tryz.underlying57 hi hz0 hz1 hz2 rfl (by decide) v n xs hs hown ad l.length cap (flat4 l) hx (Qbu l) hnews (Qcc l) (by unfold maxLen; omega) (by omega) hbase
   (fun v' w' h1 h2 _ => h v' w' h1 h2)
theorem QdD (z : Array Value) (n : Nat) : (Builtin.zeroCells z n).size = n * z.size := by
 unfold Builtin.zeroCells
 simp
theorem Qj0 (n : Nat) (w : World) (hn : n ≤ 1000) :
 Calls Tryz.prog 202 #[.slice none 0 0, .int .i64 n] w fun e w' => ∃ v, e = .returned v ∧ w'.ownsRow w.heap.size 60 4 v 0 [] ∧ Below w.heap.size w w' := by
 obtain ⟨i0, hi, hz0, hz1, hz2⟩ := info_parts QaV
 by_cases h0 : n = 0
 · subst h0
   refine (Any8.slices_Grow_room Tryz.layGrowC none 0 0 0 w (Nat.le_refl _) (by omega) (by omega) (by omega)).mono ?_
   rintro e w' ⟨rfl, rfl⟩
   exact ⟨_, rfl, World.ownsRow_nil _ _ _ _, Below.refl _ _⟩
 · refine (Any8.slices_Grow_grow Tryz.layGrowC i0 _ hi hz0 (by omega) none 0 0 n [] w (Nat.le_refl _) (by omega) (by rw [hz2]; omega) (by omega) (by simp) (fun _ => rfl) (fun a h => by cases h)).mono ?_
   rintro e w' ⟨rfl, rfl⟩
   have hG := grownCap_ge w (0 + n) 0 60
   have hM := grownCap_le_maxLen w (0 + n) 0 60 (by unfold maxLen; omega)
   have hzc : (Value.agg #[.int .i64 0, .int .i64 0, .int .i64 0, .int .i64 0]).cells.size = 4 := rfl
   refine ⟨_, rfl, ⟨rfl, Or.inr ⟨w.heap.size, grownCap w (0 + n) 0 60, _, rfl, Nat.le_refl _, heap_alloc_new w.drew _, Nat.zero_le _, hM, ?_, by simp⟩⟩, (Below.refl _ w).drew.alloc (Nat.le_refl _) _⟩
   show ([].toArray ++ Builtin.zeroCells (Value.agg #[.int .i64 0, .int .i64 0, .int .i64 0, .int .i64 0]).cells (0 + n - 0) ++ Builtin.zeroCells (Value.agg #[.int .i64 0, .int .i64 0, .int .i64 0, .int .i64 0]).cells (grownCap w (0 + n) 0 60 - (0 + n))).size = _
   generalize grownCap w (0 + n) 0 60 = G at *
   simp only [Array.size_append, QdD, hzc]
   simp
   omega
theorem Qem {w : World} {b o : Nat} {ls : List (List Crt)} (h : ∀ j (_ : j < ls.length), ∃ u, w.cell? ⟨b, o + j, none⟩ = some u ∧ CrtsAt w u ls[j]) (j : Nat) (hj : j < ls.length) {wr : World} (hb : Below w.heap.size w wr) :
 ∃ p cap, wr.cell? ⟨b, o + j, none⟩ = some (.slice p ls[j].length cap) ∧ CrtsAt wr (.slice p ls[j].length cap) ls[j] := by
 obtain ⟨u, h1, h2⟩ := h j hj
 have h3 := h2.below hb
 obtain ⟨p, cap, rfl, _⟩ := id h3
 exact ⟨p, cap, by rw [hb.cell (Qf h1), h1], h3⟩
def flenC (ls : List (List Crt)) : Nat := ls.flatten.length
theorem Qcj (ls : List (List Crt)) (k : Nat) (hk : k < ls.length) : (ls.take (k + 1)).flatten = (ls.take k).flatten ++ ls[k] := by
 rw [List.take_succ_eq_append_getElem hk, List.flatten_append]; simp
theorem QcX {ls : List (List Crt)} (h : ∀ l ∈ ls, l.length ≤ 24) (k : Nat) : (ls.take k).flatten.length ≤ k * 24 := by
 induction k with
 | zero => simp
 | succ k ih =>
  by_cases hk : k < ls.length
  · rw [Qcj ls k hk, List.length_append]
    have := h ls[k] (List.getElem_mem hk)
    omega
  · rw [List.take_of_length_le (by omega)]
    rw [List.take_of_length_le (by omega)] at ih
    omega
def CrtsNew (B : Nat) (w : World) (v : Value) (l : List Crt) : Prop := CrtsAt w v l ∧ ∀ k, v.ownBlock = some k → B ≤ k
set_option maxHeartbeats 1000000 in
theorem QgP (v : Value) (ls : List (List Crt)) (w : World) (hv : CrtssAt w v ls) (hls : ls.length ≤ 4) (h9 : ∀ l ∈ ls, l.length ≤ 24) :
 Calls Tryz.prog 173 #[v] w fun e w' => ∃ v', e = .returned v' ∧ CrtsNew w.heap.size w' v' ls.flatten ∧ Below w.heap.size w w' := by
 obtain ⟨b, o, cap, rfl, hcells⟩ := hv
 have HT : Hid (∀ k (hk : k < ls.length), (ls.take (k + 1)).flatten = (ls.take k).flatten ++ ls[k]) := Qcj ls
 have HN : Hid (∀ k, (ls.take k).flatten.length ≤ k * 24) := QcX h9
 have H9 : Hid (∀ l ∈ ls, l.length ≤ 24) := h9
 clear h9
 go_enter Tryz.func173, Tryz.ntmps173
 go_wp2
 go_loopw [3, 11] (fun s i wr => ∃ k : Nat, k ≤ ls.length ∧ i = .int .i64 k ∧ s = .int .i64 (flenC (ls.take k) : Nat) ∧ w = wr) (fun _ i _ => ls.length - (intOf i).toNat)
 case atStart => exact ⟨0, Nat.zero_le _, rfl, rfl, rfl⟩
 case round =>
  obtain ⟨k, hk, rfl, rfl, rfl⟩ := hrel
  have hnk : flenC (ls.take k) ≤ k * 24 := HN.out k
  by_cases hlt : k < ls.length
  · obtain ⟨p, cp, hc1, hl1⟩ := Qem hcells k hlt (Below.refl _ _)
    have h9k := H9.out ls[k] (List.getElem_mem hlt)
    have HS : Hid (flenC (ls.take (k + 1)) = flenC (ls.take k) + ls[k].length) := by
     show (ls.take (k + 1)).flatten.length = (ls.take k).flatten.length + ls[k].length
     rw [HT.out k hlt, List.length_append]
    clear hcells hl1
    generalize flenC (ls.take k) = n at *
    generalize ls[k].length = m at *
    go_wp2
    all_goals go_roundw
    case rel => exact ⟨k + 1, hlt, by go_num, by rw [HS.out]; go_num, by first | rfl | trivial⟩
    case measure => simp [intOf]; omega
  · have hkl : k = ls.length := by omega
    subst hkl
    rw [List.take_length]
    rw [List.take_length] at hnk
    have hgrow := Qj0 (flenC ls) w (by omega)
    go_wp2_with fail
    refine hgrow.mono ?_
    rintro e w1 ⟨v1, rfl, hown1, hw1⟩
    clear hgrow
    go_wp2
    go_loopw [6, 27] (fun v i wr => ∃ k : Nat, k ≤ ls.length ∧ i = .int .i64 k ∧ wr.ownsRow w.heap.size 60 4 v (ls.take k).flatten.length (flat4 (ls.take k).flatten) ∧ Below w.heap.size w wr) (fun _ i _ => ls.length - (intOf i).toNat)
    case atStart => exact ⟨0, Nat.zero_le _, rfl, hown1, hw1⟩
    case round =>
     clear hown1 hw1 hnk
     obtain ⟨k, hk, rfl, hown, hb⟩ := hrel
     have hnk := HN.out k
     have hsz := hb.size
     by_cases hlt2 : k < ls.length
     · obtain ⟨p, cp, hc1, hl1⟩ := Qem hcells k hlt2 hb
       have h9k := H9.out ls[k] (List.getElem_mem hlt2)
       have HS := HT.out k hlt2
       have HS2 : Hid ((ls.take (k + 1)).flatten = (ls.take k).flatten ++ ls[k]) := HS
       clear HS hcells
       generalize (ls.take k).flatten = out at *
       generalize ls[k] = l at *
       go_wp2_with (at_builtin; refine Qcy rfl _ _ rfl w.heap.size _ _ _ rfl hown _ l rfl hl1 (by omega) hsz ?_; intro v2 w2 hown2 hgrow2)
       go_roundw
       case rel => exact ⟨k + 1, hlt2, by go_num, by rw [HS2.out, Qke, List.length_append]; exact hown2, hb.grown hgrow2 hsz (fun j hj => Qs hown hj)⟩
       case measure => simp [intOf]; omega
     · have hkl : k = ls.length := by omega
       subst hkl
       rw [List.take_length] at hown hnk
       go_wp2
       go_ret
       exact ⟨_, rfl, ⟨QaO hown (by omega), fun k hk => Qs hown hk⟩, hb⟩
theorem Qen (w : World) (base : Nat) (e : TypeId) (size : Nat) (hb : base ≤ w.heap.size) : (w.alloc (.cells #[] e)).ownsRow base e size (.slice (some ⟨w.heap.size, 0, none⟩) 0 0) 0 [] :=
 ⟨by simp, .inr ⟨w.heap.size, 0, #[], rfl, hb, heap_alloc_new w _, Nat.le_refl _, Nat.zero_le _, by simp, by simp⟩⟩
set_option maxRecDepth 100000 in
set_option maxHeartbeats 400000 in
theorem Qg7 (a : Addr) (n cap : Nat) (xs : List Value) (w : World) (hl : xs.length = n * 4) (hn : n ≤ 4398046511104) (hc : ∀ j u, xs[j]? = some u → w.cell? (a.add j) = some u) (h1 : ∀ u ∈ xs, u.oneCell' = true) :
 Calls Tryz.prog 40 #[.slice (some a) n cap] w fun e w' => ∃ v', e = .returned v' ∧ w'.ownsRow w.heap.size 60 4 v' n xs ∧ Below w.heap.size w w' := by
 obtain ⟨i0, hi, hz0, hz1, hz2⟩ := info_parts QaV
 have q : ∀ (wx : World) (p : Option Addr) (n c n' c' : Nat), (binOp .eql 57 (.slice p n c) (.slice none n' c')).run Tryz.prog wx = .ok (.bool p.isNone) wx := fun wx p n c n' c' => Lib.run_eql_slice_nil wx _ _ p n c n' c' Tryz.underlying57
 have HC := hid hc
 clear hc
 go_enter Tryz.func40, Tryz.ntmps40
 go_wp2_with (at_builtin; refine wpList_append_own _ rfl _ _ 57 rfl w.heap.size 60 i0 _ 4 32 Tryz.underlying57 hi hz0 hz1 hz2 rfl (by decide) _ 0 [] rfl (Qen w _ _ _ (Nat.le_refl _)) a n cap xs rfl hl (fun j u hu => by have := HC.out j u hu; rw [(Qd w _).cell (Qf this), this]) h1 (by unfold maxLen; omega) (by omega) (by simp) ?_; intro v6 w6 hown6 hgrow6 hnil6)
 have hb6 : Below w.heap.size w w6 := (Qd w (.cells #[] 60)).grown hgrow6 (by simp) (fun k hk => by cases hk; exact Nat.le_refl _)
 clear hgrow6 hnil6
 rw [Nat.zero_add, List.nil_append] at hown6
 go_ret
 exact ⟨v6, rfl, hown6, hb6⟩
theorem Qg8 (n cap : Nat) (w : World) : Calls Tryz.prog 40 #[.slice none n cap] w fun e w' => e = .returned (.slice none 0 0) ∧ w' = w := by
 have q : ∀ (wx : World) (p : Option Addr) (n c n' c' : Nat), (binOp .eql 57 (.slice p n c) (.slice none n' c')).run Tryz.prog wx = .ok (.bool p.isNone) wx := fun wx p n c n' c' => Lib.run_eql_slice_nil wx _ _ p n c n' c' Tryz.underlying57
 go_enter Tryz.func40, Tryz.ntmps40
 go_wp2
 go_ret
 exact ⟨rfl, rfl⟩
theorem Qlh {l : List Crt} {x : Crt} (h : l.length ≤ 24) : ∀ y ∈ [l, [x]], y.length ≤ 24 := by
 intro y hy
 rcases List.mem_cons.1 hy with e | hy
 · rw [e]; exact h
 · rw [List.mem_singleton.1 hy]; simp
theorem Qmi {w : World} {v : Value} {l : List Crt} {x : Crt} (hv : CrtsAt w v l) : CrtssAt ((w.alloc (.cells #[.int .i64 x.c, .int .i64 x.b, .int .i64 x.h, .int .i64 x.u] 60)).alloc (.cells #[v, .slice (some ⟨w.heap.size, 0, none⟩) 1 1] 57)) (.slice (some ⟨w.heap.size + 1, 0, none⟩) 2 2) [l, [x]] := by
 have hb := Qd (w.alloc (.cells #[.int .i64 x.c, .int .i64 x.b, .int .i64 x.h, .int .i64 x.u] 60)) (.cells #[v, .slice (some ⟨w.heap.size, 0, none⟩) 1 1] 57)
 have hm := fun j => World.cell?_alloc_mark (w.alloc (.cells #[.int .i64 x.c, .int .i64 x.b, .int .i64 x.h, .int .i64 x.u] 60)) #[v, .slice (some ⟨w.heap.size, 0, none⟩) 1 1] 57 (0, 0) j
 simp only [QM] at hm
 refine ⟨w.heap.size + 1, 0, 2, rfl, fun j hj => ?_⟩
 have : j = 0 ∨ j = 1 := by
  have : j < 2 := hj
  omega
 rcases this with rfl | rfl
 · exact ⟨v, hm 0, (hv.below (Qd _ _)).below hb⟩
 · refine ⟨_, hm 1, CrtsAt.below ?_ hb⟩
   refine ⟨_, _, rfl, ⟨Nat.le_refl _, fun h => by cases h⟩, by simp, fun _ => ⟨w.heap.size, 0, rfl, fun j hj => ?_⟩⟩
   have : j = 0 := by
    have : j < 1 := hj
    omega
   subst this
   exact ⟨World.cell?_alloc_mark w _ _ _ 0, World.cell?_alloc_mark w _ _ _ 1, World.cell?_alloc_mark w _ _ _ 2, World.cell?_alloc_mark w _ _ _ 3⟩
theorem QiI (v : Value) (l : List Crt) (w : World) (hv : CrtsAt w v l) :
 Calls Tryz.prog 40 #[v] w fun e w' => ∃ v', e = .returned v' ∧ (CrtsAt w' v' l ∧ ∀ k, v'.ownBlock = some k → w.heap.size ≤ k) ∧ Below w.heap.size w w' := by
 obtain ⟨p, cap, rfl, hlc, hcap, hcells⟩ := hv
 cases p with
 | none =>
  have h0 : l = [] := by
   have := hlc.2 rfl
   exact List.length_eq_zero_iff.1 (by omega)
  subst h0
  refine (Qg8 0 cap w).mono ?_
  rintro e w' ⟨rfl, rfl⟩
  exact ⟨_, rfl, ⟨CrtsAt.nil _ _ _ (fun _ => rfl), fun _ h => by cases h⟩, Below.refl _ _⟩
 | some a =>
  refine (Qg7 a l.length cap (flat4 l) w (Qbu l) hcap (fun j u hu => ?_) (Qcc l)).mono ?_
  · have hj := (List.getElem?_eq_some_iff.1 hu).1
    rw [Qbu] at hj
    obtain ⟨b, o, e, hc⟩ := hcells (by omega)
    cases e
    exact Qek hc j u hu
  · rintro e w' ⟨v', rfl, h1, h2⟩
    exact ⟨v', rfl, ⟨QaO h1 hcap, fun k hk => Qs h1 hk⟩, h2⟩
set_option maxRecDepth 100000 in
set_option maxHeartbeats 3200000 in
theorem Qmz (v : Value) (l : List Crt) (x : Crt) (w : World) (hv : CrtsAt w v l) :
 Calls Tryz.prog 131 #[v, crtV x] w fun e w' => ∃ v', e = .returned (.tuple #[v', .int .i64 (addL l x).2]) ∧ (CrtsAt w' v' (addL l x).1 ∧ ∀ k, v'.ownBlock = some k → w.heap.size ≤ k) ∧ Below w.heap.size w w' := by
 have hg := fun wx (h : Below w.heap.size w wx) => Qc1 v l wx (hv.below h)
 have hc := fun wx => QbD x wx
 have hh := fun wx (h : Below w.heap.size w wx) => Qjd v l x wx (hv.below h)
 have HV := hid hv
 unfold crtV at hc hh ⊢
 have hA : addL l x = if goodCs l ∧ certB x = true then (if x ∈ l then (l, 0) else if 24 ≤ l.length then ([], 5) else (l ++ [x], 0)) else ([], 2) := rfl
 obtain ⟨p, cap, rfl, _⟩ := id hv
 clear hv
 cases h1 : csB l with
 | false =>
  have HA : Hid (addL l x = ([], 2)) := hid (by rw [hA, if_neg (fun h => of_decide_eq_false h1 h.1)])
  clear hA hh hc
  simp only [HA.out]
  go_enter Tryz.func131, Tryz.ntmps131
  go_wp2_with (go_at_call 170; refine (hg _ (Qd _ _)).mono ?_; rintro e w1 ⟨rfl, hw1⟩)
  go_ret2
  exact ⟨_, rfl, ⟨CrtsAt.nil _ _ _ (fun _ => rfl), fun _ h => by cases h⟩, Qc (Qd _ _) hw1⟩
 | true =>
  cases h2 : certB x with
  | false =>
   have HA : Hid (addL l x = ([], 2)) := hid (by rw [hA, if_neg (fun h => by rw [h2] at h; cases h.2)])
   clear hA hh
   simp only [HA.out]
   go_enter Tryz.func131, Tryz.ntmps131
   go_wp2_with (first
    | (go_at_call 170; refine (hg _ (Qd _ _)).mono ?_; rintro e w1 ⟨rfl, hw1⟩; have x0 : w1.cell? ⟨w.heap.size, 0, none⟩ = some (.int .i64 x.c) := Qi hw1 (by simp) 0; have x1 : w1.cell? ⟨w.heap.size, 1, none⟩ = some (.int .i64 x.b) := Qi hw1 (by simp) 1; have x2 : w1.cell? ⟨w.heap.size, 2, none⟩ = some (.int .i64 x.h) := Qi hw1 (by simp) 2; have x3 : w1.cell? ⟨w.heap.size, 3, none⟩ = some (.int .i64 x.u) := Qi hw1 (by simp) 3; have hb1 := Qc (Qd _ _) hw1; clear hw1)
    | (go_at_call 171; refine (hc _).mono ?_; rintro e w2 ⟨rfl, hw2⟩))
   go_ret2
   exact ⟨_, rfl, ⟨CrtsAt.nil _ _ _ (fun _ => rfl), fun _ h => by cases h⟩, Qc hb1 hw2⟩
  | true =>
   have hA2 : addL l x = if x ∈ l then (l, 0) else if 24 ≤ l.length then ([], 5) else (l ++ [x], 0) := by rw [hA, if_pos ⟨of_decide_eq_true h1, h2⟩]
   have h24 : l.length ≤ 24 := (of_decide_eq_true h1 : goodCs l).1
   clear hA
   cases h3 : decide (x ∈ l) with
   | true =>
    have HA : Hid (addL l x = (l, 0)) := hid (by rw [hA2, if_pos (of_decide_eq_true h3)])
    clear hA2
    simp only [HA.out]
    rw [h3] at hh
    go_enter Tryz.func131, Tryz.ntmps131
    go_wp2_with (first
     | (go_at_call 170; refine (hg _ (Qd _ _)).mono ?_; rintro e w1 ⟨rfl, hw1⟩; have x0 : w1.cell? ⟨w.heap.size, 0, none⟩ = some (.int .i64 x.c) := Qi hw1 (by simp) 0; have x1 : w1.cell? ⟨w.heap.size, 1, none⟩ = some (.int .i64 x.b) := Qi hw1 (by simp) 1; have x2 : w1.cell? ⟨w.heap.size, 2, none⟩ = some (.int .i64 x.h) := Qi hw1 (by simp) 2; have x3 : w1.cell? ⟨w.heap.size, 3, none⟩ = some (.int .i64 x.u) := Qi hw1 (by simp) 3; have HW1 := hid hw1; clear hw1)
     | (go_at_call 171; refine (hc _).mono ?_; rintro e w2 ⟨rfl, hw2⟩; have HW2 := hid (Qc HW1.out hw2); clear x0 x1 x2 x3 hw2; have x0 : w2.cell? ⟨w.heap.size, 0, none⟩ = some (.int .i64 x.c) := Qi HW2.out (by simp) 0; have x1 : w2.cell? ⟨w.heap.size, 1, none⟩ = some (.int .i64 x.b) := Qi HW2.out (by simp) 1; have x2 : w2.cell? ⟨w.heap.size, 2, none⟩ = some (.int .i64 x.h) := Qi HW2.out (by simp) 2; have x3 : w2.cell? ⟨w.heap.size, 3, none⟩ = some (.int .i64 x.u) := Qi HW2.out (by simp) 3; have HB2 := hid (Qc (Qd w _) HW2.out))
     | (go_at_call 172; refine (hh _ HB2.out).mono ?_; rintro e w3 ⟨rfl, hw3⟩; have HB3 := hid (Qc HB2.out hw3); clear hw3)
     | (go_at_call 40; refine (QiI _ l _ (HV.out.below HB3.out)).mono ?_; rintro e w4 ⟨v4, rfl, hv4, hw4⟩))
    go_ret2
    exact ⟨_, rfl, ⟨hv4.1, fun k hk => Nat.le_trans HB3.out.size (hv4.2 k hk)⟩, Qc HB3.out hw4⟩
   | false =>
    rw [h3] at hh
    by_cases h4 : 24 ≤ l.length
    · have HA : Hid (addL l x = ([], 5)) := hid (by rw [hA2, if_neg (of_decide_eq_false h3), if_pos h4])
      clear hA2
      simp only [HA.out]
      go_enter Tryz.func131, Tryz.ntmps131
      go_wp2_with (first
       | (go_at_call 170; refine (hg _ (Qd _ _)).mono ?_; rintro e w1 ⟨rfl, hw1⟩; have x0 : w1.cell? ⟨w.heap.size, 0, none⟩ = some (.int .i64 x.c) := Qi hw1 (by simp) 0; have x1 : w1.cell? ⟨w.heap.size, 1, none⟩ = some (.int .i64 x.b) := Qi hw1 (by simp) 1; have x2 : w1.cell? ⟨w.heap.size, 2, none⟩ = some (.int .i64 x.h) := Qi hw1 (by simp) 2; have x3 : w1.cell? ⟨w.heap.size, 3, none⟩ = some (.int .i64 x.u) := Qi hw1 (by simp) 3; have HW1 := hid hw1; clear hw1)
       | (go_at_call 171; refine (hc _).mono ?_; rintro e w2 ⟨rfl, hw2⟩; have HW2 := hid (Qc HW1.out hw2); clear x0 x1 x2 x3 hw2; have x0 : w2.cell? ⟨w.heap.size, 0, none⟩ = some (.int .i64 x.c) := Qi HW2.out (by simp) 0; have x1 : w2.cell? ⟨w.heap.size, 1, none⟩ = some (.int .i64 x.b) := Qi HW2.out (by simp) 1; have x2 : w2.cell? ⟨w.heap.size, 2, none⟩ = some (.int .i64 x.h) := Qi HW2.out (by simp) 2; have x3 : w2.cell? ⟨w.heap.size, 3, none⟩ = some (.int .i64 x.u) := Qi HW2.out (by simp) 3; have HB2 := hid (Qc (Qd w _) HW2.out))
       | (go_at_call 172; refine (hh _ HB2.out).mono ?_; rintro e w3 ⟨rfl, hw3⟩; have HB3 := hid (Qc HB2.out hw3); clear hw3))
      go_ret2
      exact ⟨_, rfl, ⟨CrtsAt.nil _ _ _ (fun _ => rfl), fun _ h => by cases h⟩, HB3.out⟩
    · have HA : Hid (addL l x = (l ++ [x], 0)) := hid (by rw [hA2, if_neg (of_decide_eq_false h3), if_neg h4])
      clear hA2
      simp only [HA.out]
      go_enter Tryz.func131, Tryz.ntmps131
      go_wp2_with (first
       | (go_at_call 170; refine (hg _ (Qd _ _)).mono ?_; rintro e w1 ⟨rfl, hw1⟩; have x0 : w1.cell? ⟨w.heap.size, 0, none⟩ = some (.int .i64 x.c) := Qi hw1 (by simp) 0; have x1 : w1.cell? ⟨w.heap.size, 1, none⟩ = some (.int .i64 x.b) := Qi hw1 (by simp) 1; have x2 : w1.cell? ⟨w.heap.size, 2, none⟩ = some (.int .i64 x.h) := Qi hw1 (by simp) 2; have x3 : w1.cell? ⟨w.heap.size, 3, none⟩ = some (.int .i64 x.u) := Qi hw1 (by simp) 3; have HW1 := hid hw1; clear hw1)
       | (go_at_call 171; refine (hc _).mono ?_; rintro e w2 ⟨rfl, hw2⟩; have HW2 := hid (Qc HW1.out hw2); clear x0 x1 x2 x3 hw2; have x0 : w2.cell? ⟨w.heap.size, 0, none⟩ = some (.int .i64 x.c) := Qi HW2.out (by simp) 0; have x1 : w2.cell? ⟨w.heap.size, 1, none⟩ = some (.int .i64 x.b) := Qi HW2.out (by simp) 1; have x2 : w2.cell? ⟨w.heap.size, 2, none⟩ = some (.int .i64 x.h) := Qi HW2.out (by simp) 2; have x3 : w2.cell? ⟨w.heap.size, 3, none⟩ = some (.int .i64 x.u) := Qi HW2.out (by simp) 3; have HB2 := hid (Qc (Qd w _) HW2.out))
       | (go_at_call 172; refine (hh _ HB2.out).mono ?_; rintro e w3 ⟨rfl, hw3⟩; have HW3 := hid (Qc HW2.out hw3); have HB3 := hid (Qc HB2.out hw3); clear x0 x1 x2 x3 hw3; have x0 : w3.cell? ⟨w.heap.size, 0, none⟩ = some (.int .i64 x.c) := Qi HW3.out (by simp) 0; have x1 : w3.cell? ⟨w.heap.size, 1, none⟩ = some (.int .i64 x.b) := Qi HW3.out (by simp) 1; have x2 : w3.cell? ⟨w.heap.size, 2, none⟩ = some (.int .i64 x.h) := Qi HW3.out (by simp) 2; have x3 : w3.cell? ⟨w.heap.size, 3, none⟩ = some (.int .i64 x.u) := Qi HW3.out (by simp) 3; have hcat := QgP _ _ _ (Qmi (x := x) (HV.out.below HB3.out)) (by simp) (Qlh h24))
       | (go_at_call 173; refine hcat.mono ?_; rintro e w4 ⟨v4, rfl, hv4, hw4⟩))
      go_ret2
      rw [show [l, [x]].flatten = l ++ [x] by simp] at hv4
      exact ⟨_, rfl, ⟨hv4.1, fun k hk => Nat.le_trans HB3.out.size (Nat.le_trans (by simp; omega) (hv4.2 k hk))⟩, Qc HB3.out (Qc (QaS _ _ _) hw4)⟩
end Go.Proofs.YtpdijobakfpnbaaGreat
