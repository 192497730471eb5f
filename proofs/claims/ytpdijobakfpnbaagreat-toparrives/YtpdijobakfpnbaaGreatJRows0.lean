/- Rows of levels and numbers that a call has made, as lists in memory. -/
import Derived.Test.YtpdijobakfpnbaaGreatJWMem
import Derived.Laws.AppendOwn
import Derived.Laws.AppendOwnNone
import Derived.OwnWalk
import Derived.Laws.Tables
import Derived.Test.YtpdijobakfpnbaaGreatJMem
namespace Go.Proofs.YtpdijobakfpnbaaGreat
open Go.RowKit Go.Proofs.Parclose
theorem QbB : (Tryz.prog.info? 54).map (fun i => (i.zero, i.size, i.bytes)) = some (some (.agg #[.int .i64 0, .int .i64 0]), 2, 16) := by kernel_rfl
theorem QbL : (Tryz.prog.info? 3).map (fun i => (i.zero, i.size, i.bytes)) = some (some (.int .i64 0), 1, 8) := by kernel_rfl
theorem Qad {w : World} {base : Nat} {e : TypeId} {s : Nat} {v : Value} {n : Nat} {xs : List Value} (h : w.ownsRow base e s v n xs) :
 ∃ p cap, v = .slice p n cap ∧ (n ≤ cap ∧ (p = none → cap = 0)) ∧ (0 < n → ∃ g, p = some ⟨g, 0, none⟩ ∧ ∀ j u, xs[j]? = some u → w.cell? ⟨g, j, none⟩ = some u) := by
 have h0 := h
 rcases h.2 with ⟨rfl, rfl⟩ | ⟨g, cap, cur, rfl, hb, hh, h1, h2, h3, h4⟩
 · exact ⟨none, 0, rfl, ⟨Nat.le_refl _, fun _ => rfl⟩, fun h => absurd h (by omega)⟩
 · refine ⟨_, cap, rfl, ⟨h1, fun h => by cases h⟩, fun _ => ⟨g, rfl, fun j u hu => ?_⟩⟩
   have := World.ownsRow.cells h0 (g := g) rfl j u hu
   rwa [WideShapes.add_plain, Nat.zero_add] at this
def flat2 (l : List (Int × Int)) : List Value := l.flatMap fun x => [.int .i64 x.1, .int .i64 x.2]
def flat1 (l : List Int) : List Value := l.map (Value.int .i64)
theorem Qfk (l : List (Int × Int)) (i : Nat) (hi : i < l.length) : (flat2 l)[i * 2]? = some (.int .i64 l[i].1) ∧ (flat2 l)[i * 2 + 1]? = some (.int .i64 l[i].2) := by
 induction l generalizing i with
 | nil => simp at hi
 | cons x r ih =>
  have e : flat2 (x :: r) = .int .i64 x.1 :: .int .i64 x.2 :: flat2 r := rfl
  cases i with
  | zero => rw [e]; exact ⟨rfl, rfl⟩
  | succ i =>
   obtain ⟨h1, h2⟩ := ih i (by simpa using hi)
   rw [e, show (i + 1) * 2 = i * 2 + 1 + 1 by omega]
   simp only [List.getElem?_cons_succ, List.getElem_cons_succ]
   exact ⟨h1, h2⟩
theorem QR {w : World} {base : Nat} {v : Value} {l : List (Int × Int)} (h : w.ownsRow base 54 2 v l.length (flat2 l)) (hl : l.length ≤ 8796093022208) : LabAt w v l := by
 obtain ⟨p, cap, rfl, h1, h2⟩ := Qad h
 refine ⟨p, cap, rfl, h1, hl, fun h0 => ?_⟩
 obtain ⟨g, rfl, hc⟩ := h2 h0
 exact ⟨g, 0, rfl, fun j hj => by
  obtain ⟨g1, g2⟩ := Qfk l j hj
  rw [Nat.zero_add]
  exact ⟨hc _ _ g1, hc _ _ g2⟩⟩
theorem QV {w : World} {base : Nat} {v : Value} {l : List Int} (h : w.ownsRow base 3 1 v l.length (flat1 l)) (hl : l.length ≤ 17592186044416) : IntsAt w v l := by
 obtain ⟨p, cap, rfl, h1, h2⟩ := Qad h
 refine ⟨p, cap, rfl, h1, hl, fun h0 => ?_⟩
 obtain ⟨g, rfl, hc⟩ := h2 h0
 exact ⟨g, 0, rfl, fun j hj => by
  rw [Nat.zero_add]
  exact hc j _ (by simp [flat1, hj])⟩
theorem Qfj (l : List (Int × Int)) : ∀ u ∈ flat2 l, u.oneCell' = true := by
 intro u hu
 obtain ⟨x, _, hx⟩ := List.mem_flatMap.1 hu
 simp at hx
 rcases hx with rfl | rfl <;> rfl
theorem QaW (l : List Int) : ∀ u ∈ flat1 l, u.oneCell' = true := by
 intro u hu
 obtain ⟨x, _, rfl⟩ := List.mem_map.1 hu
 rfl
theorem laid2 (w : World) (a b : Value) (t : TypeId) : ∀ j u, [a, b][j]? = some u → (w.alloc (.cells #[a, b] t)).cell? ((⟨w.heap.size, 0, none⟩ : Addr).add j) = some u := by
 intro j u hu
 rw [WideShapes.add_plain, Nat.zero_add, World.cell?_alloc_mark]
 simpa using hu
theorem laid1 (w : World) (a : Value) (t : TypeId) : ∀ j u, [a][j]? = some u → (w.alloc (.cells #[a] t)).cell? ((⟨w.heap.size, 0, none⟩ : Addr).add j) = some u := by
 intro j u hu
 rw [WideShapes.add_plain, Nat.zero_add, World.cell?_alloc_mark]
 simpa using hu
theorem Qs {w : World} {base : Nat} {e : TypeId} {size : Nat} {v : Value} {n : Nat} {xs : List Value} (h : w.ownsRow base e size v n xs) {k : Nat} (hk : v.ownBlock = some k) : base ≤ k := by
 rcases h.2 with ⟨rfl, _⟩ | ⟨g, cap, cur, rfl, hb, _⟩
 · cases hk
 · cases hk; exact hb
theorem QaV : (Tryz.prog.info? 60).map (fun i => (i.zero, i.size, i.bytes)) = some (some (.agg #[.int .i64 0, .int .i64 0, .int .i64 0, .int .i64 0]), 4, 32) := by kernel_rfl
def flat4 (l : List Crt) : List Value := l.flatMap fun x => [.int .i64 x.c, .int .i64 x.b, .int .i64 x.h, .int .i64 x.u]
theorem Qdh (l : List Crt) (i : Nat) (hi : i < l.length) : (flat4 l)[i * 4]? = some (.int .i64 l[i].c) ∧ (flat4 l)[i * 4 + 1]? = some (.int .i64 l[i].b) ∧ (flat4 l)[i * 4 + 2]? = some (.int .i64 l[i].h) ∧ (flat4 l)[i * 4 + 3]? = some (.int .i64 l[i].u) := by
 induction l generalizing i with
 | nil => simp at hi
 | cons x r ih =>
  have e : flat4 (x :: r) = .int .i64 x.c :: .int .i64 x.b :: .int .i64 x.h :: .int .i64 x.u :: flat4 r := rfl
  cases i with
  | zero => rw [e]; exact ⟨rfl, rfl, rfl, rfl⟩
  | succ i =>
   obtain ⟨h1, h2, h3, h4⟩ := ih i (by simpa using hi)
   rw [e, show (i + 1) * 4 = i * 4 + 1 + 1 + 1 + 1 by omega, show i * 4 + 1 + 1 + 1 + 1 + 1 = i * 4 + 1 + 1 + 1 + 1 + 1 from rfl]
   refine ⟨?_, ?_, ?_, ?_⟩
   · simp only [List.getElem?_cons_succ, List.getElem_cons_succ]; exact h1
   · rw [show i * 4 + 1 + 1 + 1 + 1 + 1 = (i * 4 + 1) + 1 + 1 + 1 + 1 by omega]; simp only [List.getElem?_cons_succ, List.getElem_cons_succ]; exact h2
   · rw [show i * 4 + 1 + 1 + 1 + 1 + 2 = (i * 4 + 2) + 1 + 1 + 1 + 1 by omega]; simp only [List.getElem?_cons_succ, List.getElem_cons_succ]; exact h3
   · rw [show i * 4 + 1 + 1 + 1 + 1 + 3 = (i * 4 + 3) + 1 + 1 + 1 + 1 by omega]; simp only [List.getElem?_cons_succ, List.getElem_cons_succ]; exact h4
theorem QaO {w : World} {base : Nat} {v : Value} {l : List Crt} (h : w.ownsRow base 60 4 v l.length (flat4 l)) (hl : l.length ≤ 4398046511104) : CrtsAt w v l := by
 obtain ⟨p, cap, rfl, h1, h2⟩ := Qad h
 refine ⟨p, cap, rfl, h1, hl, fun h0 => ?_⟩
 obtain ⟨g, rfl, hc⟩ := h2 h0
 exact ⟨g, 0, rfl, fun j hj => by
  obtain ⟨g1, g2, g3, g4⟩ := Qdh l j hj
  rw [Nat.zero_add]
  exact ⟨hc _ _ g1, hc _ _ g2, hc _ _ g3, hc _ _ g4⟩⟩
theorem Qcc (l : List Crt) : ∀ u ∈ flat4 l, u.oneCell' = true := by
 intro u hu
 obtain ⟨x, _, hx⟩ := List.mem_flatMap.1 hu
 simp at hx
 rcases hx with rfl | rfl | rfl | rfl <;> rfl
theorem laid4 (w : World) (a b c d : Value) (t : TypeId) : ∀ j u, [a, b, c, d][j]? = some u → (w.alloc (.cells #[a, b, c, d] t)).cell? ((⟨w.heap.size, 0, none⟩ : Addr).add j) = some u := by
 intro j u hu
 rw [WideShapes.add_plain, Nat.zero_add, World.cell?_alloc_mark]
 simpa using hu
theorem heap_setCell {w : World} {a j : Nat} {C : Array Value} {t : TypeId} {fr : Nat × Nat} (h : w.heap[a]? = some (.cells C t fr)) (u : Value) : (w.setCell ⟨a, j, none⟩ u).heap[a]? = some (.cells (C.setIfInBounds j u) t fr) := by
 simp [World.setCell, Array.getElem?_modify, h]
theorem Qh {a b c : World} {r : Option Nat} (h : a.grownBy b r) (k : b.grownBy c r) : a.grownBy c r :=
 ⟨k.os.trans h.os, k.tape.trans h.tape, k.output.trans h.output, Nat.le_trans h.size k.size, fun i hi hr => by rw [k.block i (by have := h.size; omega) hr, h.block i hi hr]⟩
theorem Qg (w : World) (a j : Nat) (u : Value) : w.grownBy (w.setCell ⟨a, j, none⟩ u) (some a) :=
 ⟨rfl, rfl, rfl, by simp, fun k _ hr => Below.heap_setCell w _ _ k (fun e => hr (by rw [e]))⟩
theorem Q1 {w w' : World} (h : Below w.heap.size w w') (r : Option Nat) : w.grownBy w' r := ⟨h.os, h.tape, h.output, h.size, fun k hk _ => h.block k hk⟩
theorem Qa {w : World} {b : Nat} {C : Array Value} {t : TypeId} {fr : Nat × Nat} (h : w.heap[b]? = some (.cells C t fr)) (j : Nat) : w.cell? ⟨b, j, none⟩ = C[j]? := by simp only [World.cell?]; rw [h]; rfl
theorem Qb {w : World} {b : Nat} {C : Array Value} {t : TypeId} (h : w.heap[b]? = some (.cells C t (0, 0))) (j : Nat) : w.frozen? ⟨b, j, none⟩ = false := by simp only [World.frozen?]; rw [h]; simp
theorem Qw {w : World} {b : Nat} {o : Obj} (h : w.heap[b]? = some o) : b < w.heap.size := (Array.getElem?_eq_some_iff.1 h).1
theorem Qn {w w' : World} {a b : Nat} {o : Obj} (h : w.heap[b]? = some o) (hab : b ≠ a) (hg : w.grownBy w' (some a)) : w'.heap[b]? = some o := by
 rw [hg.block b (Qw h) (fun e => hab (Option.some.inj e)), h]
theorem Qa0 {w w' : World} {base : Nat} {e : TypeId} {size : Nat} {v : Value} {n : Nat} {xs : List Value} {b : Nat} {C : Array Value} {t : TypeId} (h : w.heap[b]? = some (.cells C t (0, 0))) (ho : w.ownsRow base e size v n xs) (hte : t ≠ e) (hg : w.grownBy w' v.ownBlock) : w'.heap[b]? = some (.cells C t (0, 0)) := by
 rw [hg.block b (Qw h) (fun ee => ?_), h]
 rcases ho.2 with ⟨rfl, _⟩ | ⟨g, cap, cur, rfl, _, hh, _⟩
 · cases ee
 · have e' : b = g := Option.some.inj ee
   subst e'
   rw [h] at hh
   injection hh with hh
   injection hh with _ h2 _
   exact hte h2
theorem Qz {w : World} {b : Nat} {o : Obj} (h : w.heap[b]? = some o) (x : Obj) : (w.alloc x).heap[b]? = some o := by rw [Below.heap_alloc w x b (Qw h), h]
theorem Qbc {w0 w : World} {r : Option Nat} (h : w0.grownBy w r) {b : Nat} (hb : w0.heap.size ≤ b) (j : Nat) (u : Value) : w0.grownBy (w.setCell ⟨b, j, none⟩ u) r :=
 ⟨h.os, h.tape, h.output, by simpa using h.size, fun k hk hr => by
  rw [Below.heap_setCell w _ _ k (by show k ≠ b; omega)]
  exact h.block k hk hr⟩
theorem Qr {w : World} {b c : Nat} {o : Obj} (h : w.heap[b]? = some o) (hbc : b ≠ c) (j : Nat) (u : Value) : (w.setCell ⟨c, j, none⟩ u).heap[b]? = some o := by
 rw [Below.heap_setCell w _ _ b hbc, h]
theorem QA {w : World} {base : Nat} {e : TypeId} {size : Nat} {v : Value} {n : Nat} {xs : List Value} {b : Nat} {C : Array Value} {t : TypeId} (ho : w.ownsRow base e size v n xs) (h : w.heap[b]? = some (.cells C t (0, 0))) (hte : t ≠ e) (j : Nat) (u : Value) : (w.setCell ⟨b, j, none⟩ u).ownsRow base e size v n xs := by
 refine ho.kept (Qg w b j u) (Or.inr fun ee => ?_)
 rcases ho.2 with ⟨rfl, _⟩ | ⟨g, cap, cur, rfl, _, hh, _⟩
 · cases ee
 · have e' : g = b := Option.some.inj ee
   subst e'
   rw [h] at hh
   injection hh with hh
   injection hh with _ h2 _
   exact hte h2
theorem Qav {w w' : World} {base : Nat} {e : TypeId} {size : Nat} {v : Value} {n : Nat} {xs : List Value} {b : Nat} {C : Array Value} {t : TypeId} (ho : w.ownsRow base e size v n xs) (h : w.heap[b]? = some (.cells C t (0, 0))) (hte : t ≠ e) (hg : w.grownBy w' (some b)) : w'.ownsRow base e size v n xs := by
 refine ho.kept hg (Or.inr fun ee => ?_)
 rcases ho.2 with ⟨rfl, _⟩ | ⟨g, cap, cur, rfl, _, hh, _⟩
 · cases ee
 · have e' : g = b := Option.some.inj ee
   subst e'
   rw [h] at hh
   injection hh with hh
   injection hh with _ h2 _
   exact hte h2
theorem Qaw {w0 w w' : World} {r : Option Nat} {b : Nat} (h : w0.grownBy w r) (hb : w0.heap.size ≤ b) (hg : w.grownBy w' (some b)) : w0.grownBy w' r :=
 ⟨hg.os.trans h.os, hg.tape.trans h.tape, hg.output.trans h.output, Nat.le_trans h.size hg.size, fun k hk hr => by
  rw [hg.block k (by have := h.size; omega) (fun e => by have := Option.some.inj e; omega), h.block k hk hr]⟩
theorem Qbw {w w' : World} {base base' : Nat} {e e' : TypeId} {size size' : Nat} {v v' : Value} {n n' : Nat} {xs xs' : List Value} (h : w.ownsRow base e size v n xs) (h' : w.ownsRow base' e' size' v' n' xs') (hne : e ≠ e') (hg : w.grownBy w' v'.ownBlock) : w'.ownsRow base e size v n xs := by
 rcases h.2 with ⟨rfl, hn⟩ | ⟨g, cap, cur, rfl, hb, hh, hrest⟩
 · exact ⟨h.1, Or.inl ⟨rfl, hn⟩⟩
 · refine h.kept hg (Or.inr fun ee => ?_)
   rcases h'.2 with ⟨rfl, _⟩ | ⟨g', cap', cur', rfl, _, hh', _⟩
   · cases ee
   · have e1 : g = g' := Option.some.inj ee
     subst e1
     rw [hh] at hh'
     injection hh' with hh'
     injection hh' with _ h2 _
     exact hne h2
theorem QaF {w w' : World} {r : Option Nat} (h : w.drew.grownBy w' r) : w.grownBy w' r := ⟨h.os, h.tape, h.output, h.size, h.block⟩
def Since (base : Nat) (w w' : World) : Prop := ∀ k, base ≤ k → k < w.heap.size → w'.heap[k]? = w.heap[k]?
theorem Since.refl (base : Nat) (w : World) : Since base w w := fun _ _ _ => rfl
theorem Q3 {w w' : World} {base : Nat} {e : TypeId} {size : Nat} {v : Value} {n : Nat} {xs : List Value} (h : w.ownsRow base e size v n xs) (hs : Since base w w') : w'.ownsRow base e size v n xs := by
 refine ⟨h.1, ?_⟩
 rcases h.2 with hn | ⟨g, cap, cur, rfl, hb, hgg, rest⟩
 · exact .inl hn
 · refine .inr ⟨g, cap, cur, rfl, hb, ?_, rest⟩
   rw [hs g hb (Array.getElem?_eq_some_iff.1 hgg).1]
   exact hgg
theorem Qdb {w0 w w' : World} {base : Nat} {e : TypeId} {size : Nat} {v : Value} {n : Nat} {xs : List Value} {r : Option Nat} (h : w0.grownBy w r) (ho : w.ownsRow base e size v n xs) (hb : w0.heap.size ≤ base) (hg : w.grownBy w' v.ownBlock) : w0.grownBy w' r :=
 ⟨hg.os.trans h.os, hg.tape.trans h.tape, hg.output.trans h.output, Nat.le_trans h.size hg.size, fun k hk hr => by
  rw [hg.block k (by have := h.size; omega) (fun e => by have := Qs ho e.symm; omega), h.block k hk hr]⟩
theorem QfI (w : World) (b : Nat) (cs : Array Value) : w.grownBy (w.setRow b cs) (some b) :=
 ⟨rfl, rfl, rfl, by simp, fun k _ hr => setRow_other w b k cs (fun e => hr (by rw [e]))⟩
theorem Q0 {w w' : World} {a base : Nat} (h : w.grownBy w' (some a)) (ha : a < base) : Since base w w' := fun k hk hs => h.block k hs (fun e => by have := Option.some.inj e; omega)
theorem QU {w w' : World} {base : Nat} (h : Below w.heap.size w w') : Since base w w' := fun k _ hs => h.block k hs
theorem Since.trans {base : Nat} {a b c : World} (h : Since base a b) (k : Since base b c) (hs : a.heap.size ≤ b.heap.size) : Since base a c := fun i hi his => by rw [k i hi (by omega), h i hi his]
theorem Since.mono {base base' : Nat} {a b : World} (h : Since base a b) (hb : base ≤ base') : Since base' a b := fun k hk hs => h k (by omega) hs
theorem Qe {w w' : World} {b : Nat} {o : Obj} (h : w.heap[b]? = some o) (hb : Below w.heap.size w w') : w'.heap[b]? = some o := by rw [hb.block b (Qw h), h]
theorem Qce (n : Int) (w : World) : Calls Tryz.prog 31 #[.int .i64 n] w fun e w' => e = .returned (.bool (hostB n)) ∧ w' = w := by
 go_enter Tryz.func31, Tryz.ntmps31
 by_cases h1 : 0 ≤ n
 · by_cases h2 : n < 4
   · go_wp2
     go_ret
     exact ⟨by rw [show hostB n = true by simp [hostB, h1, h2]]; rfl, rfl⟩
   · go_wp2
     go_ret
     exact ⟨by rw [show hostB n = false by simp [hostB]; omega]; rfl, rfl⟩
 · go_wp2
   go_ret
   exact ⟨by rw [show hostB n = false by simp [hostB]; omega]; rfl, rfl⟩
theorem Qcm (n : Int) (w : World) : Calls Tryz.prog 52 #[.int .i64 n] w fun e w' => e = .returned (.bool (hostB n)) ∧ w' = w := by
 go_enter Tryz.func52, Tryz.ntmps52
 by_cases h1 : 0 ≤ n
 · by_cases h2 : n < 4
   · go_wp2
     go_ret
     exact ⟨by rw [show hostB n = true by simp [hostB, h1, h2]]; rfl, rfl⟩
   · go_wp2
     go_ret
     exact ⟨by rw [show hostB n = false by simp [hostB]; omega]; rfl, rfl⟩
 · go_wp2
   go_ret
   exact ⟨by rw [show hostB n = false by simp [hostB]; omega]; rfl, rfl⟩
theorem Qkl (n : Int) (w : World) : Calls Tryz.prog 88 #[.int .i64 n] w fun e w' => e = .returned (.bool (timeB n)) ∧ w' = w := by
 go_enter Tryz.func88, Tryz.ntmps88
 by_cases h1 : 0 ≤ n
 · by_cases h2 : n ≤ 1099511627776
   · go_wp2
     go_ret
     exact ⟨by rw [show timeB n = true by simp [timeB, h1, h2]]; rfl, rfl⟩
   · go_wp2
     go_ret
     exact ⟨by rw [show timeB n = false by simp [timeB]; omega]; rfl, rfl⟩
 · go_wp2
   go_ret
   exact ⟨by rw [show timeB n = false by simp [timeB]; omega]; rfl, rfl⟩
theorem Q2 (n : Int) (w : World) : Calls Tryz.prog 26 #[.int .i64 n] w fun e w' => e = .returned (.agg #[.int .i64 n, .int .i64 0, .string ⟨#[]⟩]) ∧ Below w.heap.size w w' := by
 go_enter Tryz.func26, Tryz.ntmps26
 go_wp2
 refine bodyPost_ret (results_cell_row rfl _ _ w.heap.size 31 _ (0, 0) _ rfl (heap_alloc_new w _) Tryz.underlying31 rfl (by kernel_rfl)) rfl ⟨rfl, Qd _ _⟩
theorem Qbo (k n : Int) (w : World) (hn : 0 < n) (hn2 : n ≤ 1099511627776) : Calls Tryz.prog 9 #[.int .i64 k, .int .i64 n] w fun e w' => ∃ p : Nat, e = .returned (.int .i64 p) ∧ (p : Int) < n ∧ w' = w := by
 have hne : n ≠ 0 := by omega
 have h1 := Int.tmod_lt_of_pos k hn
 have h2 : -n < k.tmod n := by have := Int.lt_tmod_of_pos k hn; omega
 by_cases hneg : k.tmod n < 0
 · go_enter Tryz.func9, Tryz.ntmps9
   go_wp2
   go_ret
   refine ⟨(k.tmod n + n).toNat, QE ?_, by omega, rfl⟩
   omega
 · go_enter Tryz.func9, Tryz.ntmps9
   go_wp2
   go_ret
   refine ⟨(k.tmod n).toNat, QE ?_, by omega, rfl⟩
   omega
end Go.Proofs.YtpdijobakfpnbaaGreat
