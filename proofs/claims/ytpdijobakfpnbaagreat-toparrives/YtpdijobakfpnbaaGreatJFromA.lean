/- The answers of label.Flows, Good and Same in every later world. -/
import Derived.Test.YtpdijobakfpnbaaGreatJNamed
import Derived.Test.YtpdijobakfpnbaaGreatJCat
import Derived.Test.YtpdijobakfpnbaaGreatJSame
import Derived.Test.YtpdijobakfpnbaaGreatJPlain
import Derived.Deep.QuietTactic
import Derived.BigQuiet
import Derived.Test.YtpdijobakfpnbaaGreatJRows0
import Derived.Laws.AppendOwnNone
namespace Go.Proofs.YtpdijobakfpnbaaGreat
open Go.RowKit Go.Proofs.Parclose
def cmpI (x y : Int) : Int := if x < y then -1 else if y < x then 1 else 0
theorem Qc7 (x : Int) (w : World) : Calls Tryz.prog 199 #[.int .i64 x] w fun e w' => e = .returned (.bool false) ∧ w' = w := by
 go_enter Tryz.func199, Tryz.ntmps199
 go_wp2
 go_ret
 exact ⟨Qm (by simp), rfl⟩
theorem QgQ (x y : Int) (w : World) : Calls Tryz.prog 207 #[.int .i64 x, .int .i64 y] w fun e w' => e = .returned (.int .i64 (cmpI x y)) ∧ w' = w := by
 unfold cmpI
 by_cases h1 : x < y
 · go_enter Tryz.func207, Tryz.ntmps207
   go_wp2_with (go_at_call 199; refine (Qc7 _ _).mono ?_; rintro e w' ⟨rfl, rfl⟩)
   go_ret
   exact ⟨rfl, rfl⟩
 · by_cases h2 : y < x
   · go_enter Tryz.func207, Tryz.ntmps207
     go_wp2_with (go_at_call 199; refine (Qc7 _ _).mono ?_; rintro e w' ⟨rfl, rfl⟩)
     go_ret
     exact ⟨rfl, rfl⟩
   · go_enter Tryz.func207, Tryz.ntmps207
     go_wp2_with (go_at_call 199; refine (Qc7 _ _).mono ?_; rintro e w' ⟨rfl, rfl⟩)
     go_ret
     exact ⟨rfl, rfl⟩
theorem QbV (x : Int × Int) (c : Int) (w : World) : Calls Tryz.prog 206 #[.agg #[.int .i64 x.1, .int .i64 x.2], .int .i64 c] w fun e w' => e = .returned (.int .i64 (cmpI x.1 c)) ∧ Below w.heap.size w w' := by
 go_enter Tryz.func206, Tryz.ntmps206
 go_wp2_with (go_at_call 207; refine (QgQ _ _ _).mono ?_; rintro e w' ⟨rfl, rfl⟩)
 go_ret
 exact ⟨rfl, (Below.refl _ _).alloc (Nat.le_refl _) _⟩
theorem Qmt {x y : Int} (h : x < y) : cmpI x y = -1 := by simp [cmpI, h]
theorem Qmu {x y : Int} (h : ¬ x < y) : 0 ≤ cmpI x y := by
 unfold cmpI
 rw [if_neg h]
 split <;> omega
theorem Qmv {x y : Int} : cmpI x y = 0 ↔ x = y := by
 unfold cmpI
 split
 · omega
 · split <;> omega
set_option maxHeartbeats 1000000 in
theorem Qhf (v : Value) (l : List (Int × Int)) (c : Int) (w : World) (hv : LabAt w v l) (h8 : l.length ≤ 8) (hr : l.Pairwise fun x y => x.1 < y.1) :
 Calls Tryz.prog 205 #[v, .int .i64 c, .func (.func 206) #[] #[]] w fun e w' => ∃ i f, e = .returned (.tuple #[.int .i64 (i : Nat), .bool f]) ∧ Spot l c i f ∧ Below w.heap.size w w' := by
 obtain ⟨p, cap, rfl, hlc, hcap, hcells⟩ := hv
 have HR : Hid (l.Pairwise fun x y => x.1 < y.1) := hr
 clear hr
 go_enter Tryz.func205, Tryz.ntmps205
 go_wp2
 go_loopw [9, 10] (fun si sj wr => ∃ i j : Nat, i ≤ j ∧ j ≤ l.length ∧ si = .int .i64 i ∧ sj = .int .i64 j ∧ (∀ m (_ : m < i) (hm : m < l.length), l[m].1 < c) ∧ (∀ m (_ : j ≤ m) (hm : m < l.length), c ≤ l[m].1) ∧ Below w.heap.size w wr)
  (fun si sj _ => (intOf sj).toNat - (intOf si).toNat)
 case atStart => exact ⟨0, l.length, Nat.zero_le _, Nat.le_refl _, rfl, rfl, fun m hm => absurd hm (Nat.not_lt_zero _), fun m h1 h2 => absurd h2 (by omega), Below.refl _ _⟩
 case round =>
  obtain ⟨i, j, hij, hjl, rfl, rfl, hlo, hhi, hb⟩ := hrel
  have HL : Hid (∀ m (_ : m < i) (hm : m < l.length), l[m].1 < c) := hlo
  have HH : Hid (∀ m (_ : j ≤ m) (hm : m < l.length), c ≤ l[m].1) := hhi
  clear hlo hhi
  by_cases hlt : i < j
  · obtain ⟨b, o, rfl, hc⟩ := hcells (by omega)
    have hcr := hc.below hb
    have hh : (i + j) / 2 < l.length := by omega
    obtain ⟨hc1, hc2⟩ := hcr ((i + j) / 2) hh
    have HX : Hid (∀ m (hm : m < l.length), (i + j) / 2 < m → l[(i + j) / 2].1 < l[m].1) := fun m hm h => (List.pairwise_iff_getElem.1 HR.out) _ m hh hm h
    have HY : Hid (∀ m (hm : m < l.length), m < (i + j) / 2 → l[m].1 < l[(i + j) / 2].1) := fun m hm h => (List.pairwise_iff_getElem.1 HR.out) m _ hm hh h
    clear hcells hc hcr
    generalize hlk : l[(i + j) / 2] = x at *
    have HK : Hid (l[(i + j) / 2] = x) := hlk
    clear hlk
    by_cases hx : x.1 < c
    · have hcmp := QbV x c wr
      rw [Qmt hx] at hcmp
      go_wp2_with (go_at_call 206; refine hcmp.mono ?_; rintro e w2 ⟨rfl, hw2⟩)
      go_roundw
      case rel => exact ⟨(i + j) / 2 + 1, j, by omega, hjl, by go_num, rfl, fun m h1 hm => by
       by_cases e : m = (i + j) / 2
       · subst e; rw [HK.out]; exact hx
       · have := HY.out m hm (by omega); omega, HH.out, Qc hb hw2⟩
      case measure => simp [intOf]; omega
    · have hcmp := QbV x c wr
      have hge := Qmu hx
      generalize cmpI x.1 c = r at *
      go_wp2_with (go_at_call 206; refine hcmp.mono ?_; rintro e w2 ⟨rfl, hw2⟩)
      go_roundw
      case rel => exact ⟨i, (i + j) / 2, by omega, by omega, rfl, by go_num, HL.out, fun m h1 hm => by
       by_cases e : m = (i + j) / 2
       · subst e; rw [HK.out]; omega
       · have := HX.out m hm (by omega); omega, Qc hb hw2⟩
      case measure => simp [intOf]; omega
  · have hji : j = i := by omega
    subst hji
    by_cases hin : j < l.length
    · obtain ⟨b, o, rfl, hc⟩ := hcells (by omega)
      obtain ⟨hc1, hc2⟩ := (hc.below hb) j hin
      clear hcells hc
      have HE : Hid (∀ f, (f = true ↔ l[j].1 = c) → Spot l c j f) := fun f hf => ⟨by omega, HL.out, HH.out, fun h => ⟨hin, hf.1 h⟩, fun h _ e => by rw [hf.2 e] at h; cases h⟩
      generalize hlk : l[j] = x at *
      clear hlk
      have hcmp := QbV x c wr
      go_wp2_with (go_at_call 206; refine hcmp.mono ?_; rintro e w2 ⟨rfl, hw2⟩)
      go_ret2
      exact ⟨j, _, rfl, HE.out _ (by rw [beq_iff_eq]; exact Qmv), Qc hb hw2⟩
    · go_wp2
      go_ret2
      exact ⟨j, false, rfl, ⟨by omega, HL.out, HH.out, fun h => (by cases h), fun _ h => absurd h hin⟩, hb⟩
theorem Cells2.drop {w : World} {b o : Nat} {l : List (Int × Int)} (h : Cells2 w b o l) (k : Nat) : Cells2 w b (o + k * 2) (l.drop k) := by
 intro j hj
 simp only [List.length_drop] at hj
 obtain ⟨h1, h2⟩ := h (k + j) (by omega)
 rw [List.getElem_drop]
 rw [show o + k * 2 + j * 2 = o + (k + j) * 2 by omega]
 exact ⟨h1, h2⟩
theorem Cells2.take {w : World} {b o : Nat} {l : List (Int × Int)} (h : Cells2 w b o l) (k : Nat) : Cells2 w b o (l.take k) := by
 intro j hj
 simp only [List.length_take] at hj
 obtain ⟨h1, h2⟩ := h j (by omega)
 rw [List.getElem_take]
 exact ⟨h1, h2⟩
theorem Qfd {w : World} {b o cap i : Nat} {l : List (Int × Int)} (hc : Cells2 w b o l) (hi : i ≤ l.length) (hl : l.length ≤ 8) (hcap : i ≤ cap) : LabAt w (.slice (some ⟨b, o, none⟩) i cap) (l.take i) := by
 have e : (l.take i).length = i := by simp; omega
 refine ⟨some ⟨b, o, none⟩, cap, by rw [e], ⟨by omega, fun h => by cases h⟩, by omega, fun _ => ⟨b, o, rfl, hc.take i⟩⟩
theorem Qeh {w : World} {b o cap k n : Nat} {q : Option Addr} {l : List (Int × Int)} (hc : Cells2 w b o l) (hn : n = l.length - k) (hl : l.length ≤ 8) (h1 : n ≤ cap) (h2 : k < l.length → q = some ⟨b, o + k * 2, none⟩) (h3 : q = none → cap = 0) :
 LabAt w (.slice q n cap) (l.drop k) := by
 have e : (l.drop k).length = n := by simp; omega
 refine ⟨q, cap, by rw [e], ⟨by omega, h3⟩, by omega, fun h => ⟨b, o + k * 2, h2 (by omega), hc.drop k⟩⟩
set_option maxHeartbeats 1000000 in
theorem Qjr (v : Value) (l : List (Int × Int)) (c : Int) (w : World) (hv : LabAt w v l) (h8 : l.length ≤ 8) (hr : l.Pairwise fun x y => x.1 < y.1) :
 Calls Tryz.prog 177 #[v, .int .i64 c] w fun e w' => ∃ v1 v2, e = .returned (.tuple #[v1, v2]) ∧ LabAt w' v1 (frontL l c) ∧ LabAt w' v2 (behindL l c) ∧ Below w.heap.size w w' := by
 have hs := Qhf v l c w hv h8 hr
 obtain ⟨p, cap, rfl, hlc, hcap, hcells⟩ := hv
 go_enter Tryz.func177, Tryz.ntmps177
 go_wp2_with fail
 refine hs.mono ?_
 rintro e w1 ⟨i, f, rfl, hsp, hb⟩
 have hil := hsp.le
 cases f with
 | true =>
  have hf := hsp.front
  have hbh := hsp.behind_yes hr
  obtain ⟨hi2, _⟩ := hsp.yes rfl
  obtain ⟨b, o, rfl, hc⟩ := hcells (by omega)
  have hc1 := hc.below hb
  have g1 : l.length ≤ cap := hlc.1
  have g2 : ((i : Int)) ≤ (cap : Int) := by omega
  have g3 : ((i : Int)) + 1 ≤ (l.length : Int) := by omega
  have g4 : ((l.length : Int)) ≤ (cap : Int) := by omega
  have g5 : (0 : Int) ≤ (i : Int) := by omega
  have g6 : IntKind.i64.wrap ((i : Int) + 1) = (i : Int) + 1 := by
   simp [IntKind.wrap, IntKind.signed, IntKind.bits]
   omega
  have HF : Hid (l.take i = frontL l c) := hf
  have HB : Hid (l.drop (i + 1) = behindL l c) := hbh
  clear hf hbh hcells hc hs hlc
  go_wp2_with fail
  go_quiet (fail)
  go_wp2
  all_goals go_ret2
  all_goals
   have hd := Qt w1 nq
   refine ⟨_, _, rfl, by rw [← HF.out]; exact Qfd (hc1.below hd) (by omega) h8 (by omega), ?_, Qc hb hd⟩
   rw [← HB.out]
   refine Qeh (hc1.below hd) (by omega) h8 (by omega) (fun h => ?_) (fun h => by first | (cases h; done) | omega)
   first | rfl | (exfalso; omega)
 | false =>
  have hf := hsp.front
  have hbh := hsp.behind_no hr
  have HF : Hid (l.take i = frontL l c) := hf
  have HB : Hid (l.drop i = behindL l c) := hbh
  clear hf hbh hs
  by_cases h0 : 0 < l.length
  · obtain ⟨b, o, rfl, hc⟩ := hcells h0
    have hc1 := hc.below hb
    have g1 : l.length ≤ cap := hlc.1
    have g2 : ((i : Int)) ≤ (cap : Int) := by omega
    have g3 : ((i : Int)) ≤ (l.length : Int) := by omega
    have g4 : ((l.length : Int)) ≤ (cap : Int) := by omega
    have g5 : (0 : Int) ≤ (i : Int) := by omega
    clear hcells hc hlc
    go_wp2_with fail
    go_quiet (fail)
    go_wp2
    all_goals go_ret2
    all_goals
     have hd := Qt w1 nq
     refine ⟨_, _, rfl, by rw [← HF.out]; exact Qfd (hc1.below hd) (by omega) h8 (by omega), ?_, Qc hb hd⟩
     rw [← HB.out]
     refine Qeh (hc1.below hd) (by omega) h8 (by omega) (fun h => ?_) (fun h => by first | (cases h; done) | omega)
     first | rfl | (exfalso; omega)
  · have hz : l = [] := List.length_eq_zero_iff.1 (by omega)
    subst hz
    simp at hil
    subst hil
    clear HF HB hcells hsp
    have gc : (0 : Int) ≤ (cap : Int) := by omega
    cases p with
    | none =>
     have hc0 : cap = 0 := hlc.2 rfl
     subst hc0
     go_wp2_with fail
     go_quiet (fail)
     go_wp2
     all_goals go_ret2
     all_goals exact ⟨_, _, rfl, LabAt.nil _ _ _ (fun _ => rfl), LabAt.nil _ _ _ (fun _ => rfl), Qc hb (Qt w1 nq)⟩
    | some ad =>
     clear hlc
     go_wp2_with fail
     go_quiet (fail)
     go_wp2
     all_goals go_ret2
     all_goals exact ⟨_, _, rfl, LabAt.nil _ _ _ (fun h => by cases h), LabAt.nil _ _ _ (fun h => by first | (cases h; done) | omega), Qc hb (Qt w1 nq)⟩
def flat (l : List (Int × Int)) : List Value := l.flatMap fun x => [.int .i64 x.1, .int .i64 x.2]
theorem QbT (l : List (Int × Int)) : (flat l).length = l.length * 2 := by
 induction l with
 | nil => rfl
 | cons x r ih =>
  have e : flat (x :: r) = .int .i64 x.1 :: .int .i64 x.2 :: flat r := rfl
  rw [e]
  simp only [List.length_cons, ih]
  omega
theorem Qgb (l : List (Int × Int)) (i : Nat) (hi : i < l.length) : (flat l)[i * 2]? = some (.int .i64 l[i].1) ∧ (flat l)[i * 2 + 1]? = some (.int .i64 l[i].2) := by
 induction l generalizing i with
 | nil => simp at hi
 | cons x r ih =>
  have e : flat (x :: r) = .int .i64 x.1 :: .int .i64 x.2 :: flat r := rfl
  cases i with
  | zero => rw [e]; exact ⟨rfl, rfl⟩
  | succ i =>
   obtain ⟨h1, h2⟩ := ih i (by simpa using hi)
   rw [e, show (i + 1) * 2 = i * 2 + 1 + 1 by omega]
   simp only [List.getElem?_cons_succ, List.getElem_cons_succ]
   exact ⟨h1, h2⟩
theorem QgJ (a b : List (Int × Int)) : flat (a ++ b) = flat a ++ flat b := by simp [flat]
theorem QlL (l : List (Int × Int)) : ∀ u ∈ flat l, u.oneCell' = true := by
 intro u hu
 obtain ⟨x, _, hx⟩ := List.mem_flatMap.1 hu
 simp at hx
 rcases hx with rfl | rfl <;> rfl
theorem Qil {w : World} {b o : Nat} {l : List (Int × Int)} (h : Cells2 w b o l) : ∀ j u, (flat l)[j]? = some u → w.cell? ((⟨b, o, none⟩ : Addr).add j) = some u := by
 intro j u hu
 have hj : j < l.length * 2 := by
  have := (List.getElem?_eq_some_iff.1 hu).1
  rwa [QbT] at this
 obtain ⟨h1, h2⟩ := h (j / 2) (by omega)
 obtain ⟨g1, g2⟩ := Qgb l (j / 2) (by omega)
 rw [WideShapes.add_plain]
 by_cases hp : j % 2 = 0
 · have e : j = j / 2 * 2 := by omega
   rw [e] at hu ⊢
   rw [g1] at hu
   rw [h1, ← hu]
 · have e : j = j / 2 * 2 + 1 := by omega
   rw [e] at hu ⊢
   rw [g2] at hu
   rw [← Nat.add_assoc, h2, ← hu]
theorem Qib {w : World} {base : Nat} {v : Value} {n : Nat} {l : List (Int × Int)} (h : w.ownsRow base 54 2 v n (flat l)) (hl : l.length ≤ 8796093022208) : LabAt w v l := by
 have h0 := h
 obtain ⟨hlen, h⟩ := h
 rw [QbT] at hlen
 have hn : n = l.length := by omega
 subst hn
 rcases h with ⟨rfl, h⟩ | ⟨g, cap, cur, rfl, hb, hh, h1, h2, h3, h4⟩
 · have : l = [] := List.length_eq_zero_iff.1 h
   subst this
   exact LabAt.nil w none 0 (fun _ => rfl)
 · refine ⟨_, cap, rfl, ⟨h1, fun h => by cases h⟩, hl, fun _ => ⟨g, 0, rfl, fun j hj => ?_⟩⟩
   obtain ⟨g1, g2⟩ := Qgb l j hj
   rw [← h4] at g1 g2
   rw [List.getElem?_take_of_lt (by omega)] at g1 g2
   simp only [World.cell?, hh, Nat.zero_add]
   exact ⟨by simpa using g1, by simpa using g2⟩
theorem QcL {w : World} {base : Nat} {e : TypeId} {size : Nat} {v : Value} {n : Nat} {xs : List Value} (h : w.ownsRow base e size v n xs) {k : Nat} (hk : v.ownBlock = some k) : base ≤ k := by
 rcases h.2 with ⟨rfl, _⟩ | ⟨g, cap, cur, rfl, hb, _⟩
 · cases hk
 · cases hk; exact hb
theorem QcU {w : World} {ops : Array Oper} {rest : List Oper} {o : Oper} {a : Act} {Q : Exit → Act → World → Prop} (hgd : o.guard = none) (s x : Operand)
 (ho : o.op = .call { callee := .builtin .append, args := #[s, x], argTypes := #[34, 34] }) (base : Nat) (v : Value) (n : Nat) (xs : List Value) (hs : a.eval s = v) (hown : w.ownsRow base 54 2 v n xs)
 (u : Value) (l : List (Int × Int)) (hx : a.eval x = u) (hu : LabAt w u l) (hn : n + l.length ≤ 8796093022208) (hbase : base ≤ w.heap.size)
 (h : ∀ v' w', w'.ownsRow base 54 2 v' (n + l.length) (xs ++ flat l) → w.grownBy w' v.ownBlock → wpList Tryz.prog ops Q rest (a.put o.dst v') w') : wpList Tryz.prog ops Q (o :: rest) a w := by
 obtain ⟨i0, hi, hz0, hz1, hz2⟩ := info_parts QbB
 obtain ⟨p, cap, rfl, hlc, hcap, hcells⟩ := hu
 cases p with
 | none =>
  have e : l = [] := by
   by_cases h0 : 0 < l.length
   · obtain ⟨b, o, e, _⟩ := hcells h0
     cases e
   · exact List.length_eq_zero_iff.1 (by omega)
  subst e
  have ec : cap = 0 := hlc.2 rfl
  subst ec
  exact wpList_append_own_none hgd s x 34 ho base 54 i0 2 Tryz.underlying34 hi v n xs hs hown hx (h v w (by simpa [flat] using hown) ⟨rfl, rfl, rfl, Nat.le_refl _, fun _ _ _ => rfl⟩)
 | some ad =>
  have hnews : ∀ j u, (flat l)[j]? = some u → w.cell? (ad.add j) = some u := by
   by_cases h0 : 0 < l.length
   · obtain ⟨b, o, e, hc⟩ := hcells h0
     cases e
     exact Qil hc
   · have e : l = [] := List.length_eq_zero_iff.1 (by omega)
     subst e
     intro j u hu
     simp [flat] at hu
  exact wpList_append_own w hgd s x 34 ho base 54 i0 _ 2 16 Tryz.underlying34 hi hz0 hz1 hz2 rfl (by decide) v n xs hs hown ad l.length cap (flat l) hx (QbT l) hnews (QlL l) (by unfold maxLen; omega) (by omega) hbase
   (fun v' w' h1 h2 _ => h v' w' h1 h2)
theorem Qet (z : Array Value) (n : Nat) : (Builtin.zeroCells z n).size = n * z.size := by
 unfold Builtin.zeroCells
 simp
theorem QlG (n : Nat) (w : World) (hn : n ≤ 1000) :
 Calls Tryz.prog 208 #[.slice none 0 0, .int .i64 n] w fun e w' => ∃ v, e = .returned v ∧ w'.ownsRow w.heap.size 54 2 v 0 [] ∧ Below w.heap.size w w' := by
 obtain ⟨i0, hi, hz0, hz1, hz2⟩ := info_parts QbB
 by_cases h0 : n = 0
 · subst h0
   refine (Any8.slices_Grow_room Tryz.layGrow none 0 0 0 w (Nat.le_refl _) (by omega) (by omega) (by omega)).mono ?_
   rintro e w' ⟨rfl, rfl⟩
   exact ⟨_, rfl, World.ownsRow_nil _ _ _ _, Below.refl _ _⟩
 · refine (Any8.slices_Grow_grow Tryz.layGrow i0 _ hi hz0 (by omega) none 0 0 n [] w (Nat.le_refl _) (by omega) (by rw [hz2]; omega) (by omega) (by simp) (fun _ => rfl) (fun a h => by cases h)).mono ?_
   rintro e w' ⟨rfl, rfl⟩
   have hG := grownCap_ge w (0 + n) 0 54
   have hM := grownCap_le_maxLen w (0 + n) 0 54 (by unfold maxLen; omega)
   have hzc : (Value.agg #[.int .i64 0, .int .i64 0]).cells.size = 2 := rfl
   refine ⟨_, rfl, ⟨rfl, Or.inr ⟨w.heap.size, grownCap w (0 + n) 0 54, _, rfl, Nat.le_refl _, heap_alloc_new w.drew _, Nat.zero_le _, hM, ?_, by simp⟩⟩, (Below.refl _ w).drew.alloc (Nat.le_refl _) _⟩
   show ([].toArray ++ Builtin.zeroCells (Value.agg #[.int .i64 0, .int .i64 0]).cells (0 + n - 0) ++ Builtin.zeroCells (Value.agg #[.int .i64 0, .int .i64 0]).cells (grownCap w (0 + n) 0 54 - (0 + n))).size = _
   generalize grownCap w (0 + n) 0 54 = G at *
   simp only [Array.size_append, Qet, hzc]
   simp
   omega
theorem Qfc {w : World} {b o : Nat} {ls : List (List (Int × Int))} (h : ∀ j (_ : j < ls.length), ∃ u, w.cell? ⟨b, o + j, none⟩ = some u ∧ LabAt w u ls[j]) (j : Nat) (hj : j < ls.length) {wr : World} (hb : Below w.heap.size w wr) :
 ∃ p cap, wr.cell? ⟨b, o + j, none⟩ = some (.slice p ls[j].length cap) ∧ LabAt wr (.slice p ls[j].length cap) ls[j] := by
 obtain ⟨u, h1, h2⟩ := h j hj
 have h3 := h2.below hb
 obtain ⟨p, cap, rfl, _⟩ := id h3
 exact ⟨p, cap, by rw [hb.cell (Qf h1), h1], h3⟩
def flen (ls : List (List (Int × Int))) : Nat := ls.flatten.length
theorem QcO (ls : List (List (Int × Int))) (k : Nat) (hk : k < ls.length) : (ls.take (k + 1)).flatten = (ls.take k).flatten ++ ls[k] := by
 rw [List.take_succ_eq_append_getElem hk, List.flatten_append]; simp
theorem Qdj {ls : List (List (Int × Int))} (h : ∀ l ∈ ls, l.length ≤ 9) (k : Nat) : (ls.take k).flatten.length ≤ k * 9 := by
 induction k with
 | zero => simp
 | succ k ih =>
  by_cases hk : k < ls.length
  · rw [QcO ls k hk, List.length_append]
    have := h ls[k] (List.getElem_mem hk)
    omega
  · rw [List.take_of_length_le (by omega)]
    rw [List.take_of_length_le (by omega)] at ih
    omega
def LabNew (B : Nat) (w : World) (v : Value) (l : List (Int × Int)) : Prop := LabAt w v l ∧ ∀ k, v.ownBlock = some k → B ≤ k
set_option maxHeartbeats 1000000 in
theorem QiB (v : Value) (ls : List (List (Int × Int))) (w : World) (hv : LabsAt w v ls) (hls : ls.length ≤ 4) (h9 : ∀ l ∈ ls, l.length ≤ 9) :
 Calls Tryz.prog 178 #[v] w fun e w' => ∃ v', e = .returned v' ∧ LabNew w.heap.size w' v' ls.flatten ∧ Below w.heap.size w w' := by
 obtain ⟨b, o, cap, rfl, hcells⟩ := hv
 have HT : Hid (∀ k (hk : k < ls.length), (ls.take (k + 1)).flatten = (ls.take k).flatten ++ ls[k]) := QcO ls
 have HN : Hid (∀ k, (ls.take k).flatten.length ≤ k * 9) := Qdj h9
 have H9 : Hid (∀ l ∈ ls, l.length ≤ 9) := h9
 clear h9
 go_enter Tryz.func178, Tryz.ntmps178
 go_wp2
 go_loopw [3, 11] (fun s i wr => ∃ k : Nat, k ≤ ls.length ∧ i = .int .i64 k ∧ s = .int .i64 (flen (ls.take k) : Nat) ∧ w = wr) (fun _ i _ => ls.length - (intOf i).toNat)
 case atStart => exact ⟨0, Nat.zero_le _, rfl, rfl, rfl⟩
 case round =>
  obtain ⟨k, hk, rfl, rfl, rfl⟩ := hrel
  have hnk : flen (ls.take k) ≤ k * 9 := HN.out k
  by_cases hlt : k < ls.length
  · obtain ⟨p, cp, hc1, hl1⟩ := Qfc hcells k hlt (Below.refl _ _)
    have h9k := H9.out ls[k] (List.getElem_mem hlt)
    have HS : Hid (flen (ls.take (k + 1)) = flen (ls.take k) + ls[k].length) := by
     show (ls.take (k + 1)).flatten.length = (ls.take k).flatten.length + ls[k].length
     rw [HT.out k hlt, List.length_append]
    clear hcells hl1
    generalize flen (ls.take k) = n at *
    generalize ls[k].length = m at *
    go_wp2
    all_goals go_roundw
    case rel => exact ⟨k + 1, hlt, by go_num, by rw [HS.out]; go_num, by first | rfl | trivial⟩
    case measure => simp [intOf]; omega
  · have hkl : k = ls.length := by omega
    subst hkl
    rw [List.take_length]
    rw [List.take_length] at hnk
    have hgrow := QlG (flen ls) w (by omega)
    go_wp2_with fail
    refine hgrow.mono ?_
    rintro e w1 ⟨v1, rfl, hown1, hw1⟩
    clear hgrow
    go_wp2
    go_loopw [6, 27] (fun v i wr => ∃ k : Nat, k ≤ ls.length ∧ i = .int .i64 k ∧ wr.ownsRow w.heap.size 54 2 v (ls.take k).flatten.length (flat (ls.take k).flatten) ∧ Below w.heap.size w wr) (fun _ i _ => ls.length - (intOf i).toNat)
    case atStart => exact ⟨0, Nat.zero_le _, rfl, hown1, hw1⟩
    case round =>
     clear hown1 hw1 hnk
     obtain ⟨k, hk, rfl, hown, hb⟩ := hrel
     have hnk := HN.out k
     have hsz := hb.size
     by_cases hlt2 : k < ls.length
     · obtain ⟨p, cp, hc1, hl1⟩ := Qfc hcells k hlt2 hb
       have h9k := H9.out ls[k] (List.getElem_mem hlt2)
       have HS := HT.out k hlt2
       have HS2 : Hid ((ls.take (k + 1)).flatten = (ls.take k).flatten ++ ls[k]) := HS
       clear HS hcells
       generalize (ls.take k).flatten = out at *
       generalize ls[k] = l at *
       go_wp2_with (at_builtin; refine QcU rfl _ _ rfl w.heap.size _ _ _ rfl hown _ l rfl hl1 (by omega) hsz ?_; intro v2 w2 hown2 hgrow2)
       go_roundw
       case rel => exact ⟨k + 1, hlt2, by go_num, by rw [HS2.out, QgJ, List.length_append]; exact hown2, hb.grown hgrow2 hsz (fun j hj => QcL hown hj)⟩
       case measure => simp [intOf]; omega
     · have hkl : k = ls.length := by omega
       subst hkl
       rw [List.take_length] at hown hnk
       go_wp2
       go_ret
       exact ⟨_, rfl, ⟨Qib hown (by omega), fun k hk => QcL hown hk⟩, hb⟩
theorem QcJ {w : World} {va vb vc : Value} {a b c : List (Int × Int)} (ha : LabAt w va a) (hb : LabAt w vb b) (hc : LabAt w vc c) : LabsAt (w.alloc (.cells #[va, vb, vc] 34)) (.slice (some ⟨w.heap.size, 0, none⟩) 3 3) [a, b, c] := by
 have hal : Below w.heap.size w (w.alloc (.cells #[va, vb, vc] 34)) := (Below.refl _ _).alloc (Nat.le_refl _) _
 refine ⟨_, _, 3, rfl, fun j hj => ?_⟩
 match j, hj with
 | 0, _ => exact ⟨va, by simp, ha.below hal⟩
 | 1, _ => exact ⟨vb, by simp, hb.below hal⟩
 | 2, _ => exact ⟨vc, by simp, hc.below hal⟩
theorem QjM (w : World) (c n : Int) (hn : n ≠ 1) : LabAt (w.alloc (.cells #[.int .i64 c, .int .i64 n] 54)) (.slice (some ⟨w.heap.size, 0, none⟩) 1 1) (newL c n) := by
 unfold newL
 rw [if_neg hn]
 refine ⟨_, 1, rfl, ⟨by simp, fun h => by cases h⟩, by simp, fun _ => ⟨_, _, rfl, ?_⟩⟩
 intro j hj
 match j, hj with
 | 0, _ => exact ⟨by simp, by simp⟩
set_option maxHeartbeats 1000000 in
theorem Qmf (v : Value) (l : List (Int × Int)) (c n : Int) (w : World) (hv : LabAt w v l) (hbad : setB l c n = false) :
 Calls Tryz.prog 136 #[v, .int .i64 c, .int .i64 n] w fun e w' => e = .returned (.tuple #[.slice none 0 0, .int .i64 2]) ∧ Below w.heap.size w w' := by
 have hg := Qa1 v l w hv
 unfold setB at hbad
 cases h1 : goodB l with
 | false =>
  rw [h1] at hg
  clear hbad
  go_enter Tryz.func136, Tryz.ntmps136
  go_wp2_with (go_at_call 133; refine hg.mono ?_; rintro e w1 ⟨rfl, hw1⟩)
  go_ret2
  exact ⟨rfl, hw1⟩
 | true =>
  rw [h1] at hg
  cases h2 : catB c with
  | false =>
   clear hbad
   go_enter Tryz.func136, Tryz.ntmps136
   go_wp2_with (first | (go_at_call 133; refine hg.mono ?_; rintro e w1 ⟨rfl, hw1⟩) | (go_at_call 175; refine (QG _ _).mono ?_; rintro e w' ⟨rfl, rfl⟩))
   go_ret2
   exact ⟨rfl, by assumption⟩
  | true =>
   have h3 : bndB n = false := by simpa [h1, h2] using hbad
   clear hbad
   go_enter Tryz.func136, Tryz.ntmps136
   go_wp2_with (first | (go_at_call 133; refine hg.mono ?_; rintro e w1 ⟨rfl, hw1⟩) | (go_at_call 175; refine (QG _ _).mono ?_; rintro e w' ⟨rfl, rfl⟩) | (go_at_call 176; refine (Qao _ _).mono ?_; rintro e w' ⟨rfl, rfl⟩))
   go_ret2
   exact ⟨rfl, by assumption⟩
set_option maxHeartbeats 2000000 in
theorem Qme (v : Value) (l : List (Int × Int)) (c n : Int) (w : World) (hv : LabAt w v l) (hok : setB l c n = true) :
 Calls Tryz.prog 136 #[v, .int .i64 c, .int .i64 n] w fun e w' => ∃ v' x, e = .returned (.tuple #[v', .int .i64 x]) ∧ (if 8 < (setL l c n).length then x = 5 ∧ v' = .slice none 0 0 else x = 0 ∧ LabNew w.heap.size w' v' (setL l c n)) ∧ Below w.heap.size w w' := by
 have hg := Qa1 v l w hv
 unfold setB at hok
 simp only [Bool.and_eq_true] at hok
 obtain ⟨⟨h1, h2⟩, h3⟩ := hok
 rw [h1] at hg
 obtain ⟨g8, _, gr⟩ := (QaC l).1 h1
 have hfl := QeO l c
 have hbl := QeI l c
 have hnl := Qgu c n
 have HSL : Hid (setL l c n = [frontL l c, newL c n, behindL l c].flatten) := by
  show _ = _
  unfold setL
  simp
 have HC : ∀ (w3 : World) (v3 : Value), LabsAt w3 v3 [frontL l c, newL c n, behindL l c] → Calls Tryz.prog 178 #[v3] w3 fun e w' => ∃ v', e = .returned v' ∧ LabNew w3.heap.size w' v' (setL l c n) ∧ Below w3.heap.size w3 w' := fun w3 v3 h => by
  rw [HSL.out]
  refine QiB v3 _ w3 h (by simp) (fun x hx => ?_)
  simp only [List.mem_cons, List.not_mem_nil, or_false] at hx
  rcases hx with rfl | rfl | rfl <;> omega
 have HSP : ∀ w1, Below w.heap.size w w1 → Calls Tryz.prog 177 #[v, .int .i64 c] w1 fun e w' => ∃ v1 v2, e = .returned (.tuple #[v1, v2]) ∧ LabAt w' v1 (frontL l c) ∧ LabAt w' v2 (behindL l c) ∧ Below w1.heap.size w1 w' := fun w1 h => Qjr v l c w1 (hv.below h) g8 gr
 have HC2 : Hid (∀ (w3 : World) (v3 : Value), LabsAt w3 v3 [frontL l c, newL c n, behindL l c] → Calls Tryz.prog 178 #[v3] w3 fun e w' => ∃ v', e = .returned v' ∧ LabNew w3.heap.size w' v' (setL l c n) ∧ Below w3.heap.size w3 w') := HC
 have HSP2 : Hid (∀ w1, Below w.heap.size w w1 → Calls Tryz.prog 177 #[v, .int .i64 c] w1 fun e w' => ∃ v1 v2, e = .returned (.tuple #[v1, v2]) ∧ LabAt w' v1 (frontL l c) ∧ LabAt w' v2 (behindL l c) ∧ Below w1.heap.size w1 w') := HSP
 clear HC HSP HSL g8 gr
 have HN : Hid (∀ h : n = 1, newL c n = []) := fun h => by simp [newL, h]
 have HN2 : Hid (∀ (w : World), n ≠ 1 → LabAt (w.alloc (.cells #[.int .i64 c, .int .i64 n] 54)) (.slice (some ⟨w.heap.size, 0, none⟩) 1 1) (newL c n)) := fun w h => QjM w c n h
 generalize hsl : setL l c n = out at *
 generalize frontL l c = fr at *
 generalize behindL l c = bh at *
 generalize newL c n = nw at *
 clear hsl
 go_enter Tryz.func136, Tryz.ntmps136
 go_wp2_with (first | (go_at_call 133; refine hg.mono ?_; rintro e w1 ⟨rfl, hw1⟩) | (go_at_call 175; refine (QG _ _).mono ?_; rintro e w' ⟨rfl, rfl⟩) | (go_at_call 176; refine (Qao _ _).mono ?_; rintro e w' ⟨rfl, rfl⟩))
 refine (HSP2.out _ hw1).mono ?_
 rintro e w2 ⟨v1, v2, rfl, hf2, hb2, hw2⟩
 obtain ⟨p1, c1, e1, _⟩ := id hf2
 obtain ⟨p2, c2, e2, _⟩ := id hb2
 subst e1
 subst e2
 have b2 := Qc hw1 hw2
 clear hg hw2 hw1 HSP2
 by_cases hn1 : n = 1
 · have hne : (n != 1) = false := by simp [hn1]
   have hnw : LabAt w2 (.slice none 0 0) nw := by rw [HN.out hn1]; exact LabAt.nil w2 none 0 (fun _ => rfl)
   have hls := QcJ hf2 hnw hb2
   have hc3 := HC2.out _ _ hls
   have hal := (Below.refl w2.heap.size w2).alloc (Nat.le_refl _) (.cells #[.slice p1 fr.length c1, .slice none 0 0, .slice p2 bh.length c2] 34)
   clear hls hnw hf2 hb2 hn1 HC2 HN2
   go_wp2_with (go_at_call 178; refine hc3.mono ?_; rintro e w4 ⟨v4, rfl, hv4, hw4⟩; obtain ⟨p4, c4, e4, hrest⟩ := id hv4.1; subst e4)
   all_goals
    have b4 := Qc (Qc b2 hal) hw4
    go_ret2
    refine ⟨_, _, rfl, ?_, b4⟩
    first
    | exact ⟨rfl, hv4.1, fun k hk => Nat.le_trans (by have := (Qc b2 hal).size; first | exact this | simpa using this) (hv4.2 k hk)⟩
    | exact ⟨rfl, rfl⟩
    | (exfalso; omega)
 · have hne : (n != 1) = true := by simp [hn1]
   have hal0 := (Below.refl w2.heap.size w2).alloc (Nat.le_refl _) (.cells #[.int .i64 c, .int .i64 n] 54)
   have hnw := HN2.out w2 hn1
   obtain ⟨w3, hw3⟩ : ∃ w3, w3 = w2.alloc (.cells #[.int .i64 c, .int .i64 n] 54) := ⟨_, rfl⟩
   have hls := QcJ (hf2.below hal0) hnw (hb2.below hal0)
   have hc3 := HC2.out _ _ hls
   have hal := (Below.refl (w2.alloc (.cells #[.int .i64 c, .int .i64 n] 54)).heap.size (w2.alloc (.cells #[.int .i64 c, .int .i64 n] 54))).alloc (Nat.le_refl _) (.cells #[.slice p1 fr.length c1, .slice (some ⟨w2.heap.size, 0, none⟩) 1 1, .slice p2 bh.length c2] 34)
   rw [World.size_alloc] at hc3
   clear hls hnw hf2 hb2 hn1 HC2 HN2 hw3
   go_wp2_with (go_at_call 178; refine hc3.mono ?_; rintro e w4 ⟨v4, rfl, hv4, hw4⟩; obtain ⟨p4, c4, e4, hrest⟩ := id hv4.1; subst e4)
   all_goals
    have b4 := Qc (Qc (Qc b2 hal0) hal) (by first | exact hw4 | simpa using hw4)
    go_ret2
    refine ⟨_, _, rfl, ?_, b4⟩
    first
    | exact ⟨rfl, hv4.1, fun k hk => Nat.le_trans (by have := (Qc (Qc b2 hal0) hal).size; first | exact this | simpa using this) (hv4.2 k hk)⟩
    | exact ⟨rfl, rfl⟩
    | (exfalso; omega)
end Go.Proofs.YtpdijobakfpnbaaGreat
