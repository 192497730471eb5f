/- Rows of levels and numbers that a call has made, as lists in memory. -/
import Derived.Test.YtpdijobakfpnbaaQWMem
import Derived.Laws.AppendOwn
import Derived.Laws.AppendOwnNone
import Derived.OwnWalk
import Derived.Laws.Tables
namespace Go.Proofs.Ytpdijobakfpnbaa
open Go.RowKit Go.Proofs.Parclose
theorem Qaf : (Try.prog.info? 86).map (fun i => (i.zero, i.size, i.bytes)) = some (some (.agg #[.int .i64 0, .int .i64 0]), 2, 16) := by kernel_rfl
theorem Qa3 : (Try.prog.info? 3).map (fun i => (i.zero, i.size, i.bytes)) = some (some (.int .i64 0), 1, 8) := by kernel_rfl
theorem QN {w : World} {base : Nat} {e : TypeId} {s : Nat} {v : Value} {n : Nat} {xs : List Value} (h : w.ownsRow base e s v n xs) :
 ∃ p cap, v = .slice p n cap ∧ (n ≤ cap ∧ (p = none → cap = 0)) ∧ (0 < n → ∃ g, p = some ⟨g, 0, none⟩ ∧ ∀ j u, xs[j]? = some u → w.cell? ⟨g, j, none⟩ = some u) := by
 have h0 := h
 rcases h.2 with ⟨rfl, rfl⟩ | ⟨g, cap, cur, rfl, hb, hh, h1, h2, h3, h4⟩
 · exact ⟨none, 0, rfl, ⟨Nat.le_refl _, fun _ => rfl⟩, fun h => absurd h (by omega)⟩
 · refine ⟨_, cap, rfl, ⟨h1, fun h => by cases h⟩, fun _ => ⟨g, rfl, fun j u hu => ?_⟩⟩
   have := World.ownsRow.cells h0 (g := g) rfl j u hu
   rwa [WideShapes.add_plain, Nat.zero_add] at this
def flat2 (l : List (Int × Int)) : List Value := l.flatMap fun x => [.int .i64 x.1, .int .i64 x.2]
def flat1 (l : List Int) : List Value := l.map (Value.int .i64)
theorem QbW (l : List (Int × Int)) (i : Nat) (hi : i < l.length) : (flat2 l)[i * 2]? = some (.int .i64 l[i].1) ∧ (flat2 l)[i * 2 + 1]? = some (.int .i64 l[i].2) := by
 induction l generalizing i with
 | nil => simp at hi
 | cons x r ih =>
  have e : flat2 (x :: r) = .int .i64 x.1 :: .int .i64 x.2 :: flat2 r := rfl
  cases i with
  | zero => rw [e]; exact ⟨rfl, rfl⟩
  | succ i =>
   obtain ⟨h1, h2⟩ := ih i (by simpa using hi)
   rw [e, show (i + 1) * 2 = i * 2 + 1 + 1 by omega]
   simp only [List.getElem?_cons_succ, List.getElem_cons_succ]
   exact ⟨h1, h2⟩
theorem QY {w : World} {base : Nat} {v : Value} {l : List (Int × Int)} (h : w.ownsRow base 86 2 v l.length (flat2 l)) (hl : l.length ≤ 8796093022208) : LabAt w v l := by
 obtain ⟨p, cap, rfl, h1, h2⟩ := QN h
 refine ⟨p, cap, rfl, h1, hl, fun h0 => ?_⟩
 obtain ⟨g, rfl, hc⟩ := h2 h0
 exact ⟨g, 0, rfl, fun j hj => by
  obtain ⟨g1, g2⟩ := QbW l j hj
  rw [Nat.zero_add]
  exact ⟨hc _ _ g1, hc _ _ g2⟩⟩
theorem QX {w : World} {base : Nat} {v : Value} {l : List Int} (h : w.ownsRow base 3 1 v l.length (flat1 l)) (hl : l.length ≤ 17592186044416) : IntsAt w v l := by
 obtain ⟨p, cap, rfl, h1, h2⟩ := QN h
 refine ⟨p, cap, rfl, h1, hl, fun h0 => ?_⟩
 obtain ⟨g, rfl, hc⟩ := h2 h0
 exact ⟨g, 0, rfl, fun j hj => by
  rw [Nat.zero_add]
  exact hc j _ (by simp [flat1, hj])⟩
theorem Qdi (l : List (Int × Int)) : ∀ u ∈ flat2 l, u.oneCell' = true := by
 intro u hu
 obtain ⟨x, _, hx⟩ := List.mem_flatMap.1 hu
 simp at hx
 rcases hx with rfl | rfl <;> rfl
theorem QaS (l : List Int) : ∀ u ∈ flat1 l, u.oneCell' = true := by
 intro u hu
 obtain ⟨x, _, rfl⟩ := List.mem_map.1 hu
 rfl
theorem laid2 (w : World) (a b : Value) (t : TypeId) : ∀ j u, [a, b][j]? = some u → (w.alloc (.cells #[a, b] t)).cell? ((⟨w.heap.size, 0, none⟩ : Addr).add j) = some u := by
 intro j u hu
 rw [WideShapes.add_plain, Nat.zero_add, World.cell?_alloc_mark]
 simpa using hu
theorem laid1 (w : World) (a : Value) (t : TypeId) : ∀ j u, [a][j]? = some u → (w.alloc (.cells #[a] t)).cell? ((⟨w.heap.size, 0, none⟩ : Addr).add j) = some u := by
 intro j u hu
 rw [WideShapes.add_plain, Nat.zero_add, World.cell?_alloc_mark]
 simpa using hu
theorem QE {w : World} {base : Nat} {e : TypeId} {size : Nat} {v : Value} {n : Nat} {xs : List Value} (h : w.ownsRow base e size v n xs) {k : Nat} (hk : v.ownBlock = some k) : base ≤ k := by
 rcases h.2 with ⟨rfl, _⟩ | ⟨g, cap, cur, rfl, hb, _⟩
 · cases hk
 · cases hk; exact hb
theorem heap_setCell {w : World} {a j : Nat} {C : Array Value} {t : TypeId} {fr : Nat × Nat} (h : w.heap[a]? = some (.cells C t fr)) (u : Value) : (w.setCell ⟨a, j, none⟩ u).heap[a]? = some (.cells (C.setIfInBounds j u) t fr) := by
 simp [World.setCell, Array.getElem?_modify, h]
theorem Qh {a b c : World} {r : Option Nat} (h : a.grownBy b r) (k : b.grownBy c r) : a.grownBy c r :=
 ⟨k.os.trans h.os, k.tape.trans h.tape, k.output.trans h.output, Nat.le_trans h.size k.size, fun i hi hr => by rw [k.block i (by have := h.size; omega) hr, h.block i hi hr]⟩
theorem Qg (w : World) (a j : Nat) (u : Value) : w.grownBy (w.setCell ⟨a, j, none⟩ u) (some a) :=
 ⟨rfl, rfl, rfl, by simp, fun k _ hr => Below.heap_setCell w _ _ k (fun e => hr (by rw [e]))⟩
theorem Qa {w : World} {b : Nat} {C : Array Value} {t : TypeId} {fr : Nat × Nat} (h : w.heap[b]? = some (.cells C t fr)) (j : Nat) : w.cell? ⟨b, j, none⟩ = C[j]? := by simp only [World.cell?]; rw [h]; rfl
theorem Qf {w : World} {b : Nat} {C : Array Value} {t : TypeId} (h : w.heap[b]? = some (.cells C t (0, 0))) (j : Nat) : w.frozen? ⟨b, j, none⟩ = false := by simp only [World.frozen?]; rw [h]; simp
theorem QJ {w : World} {b : Nat} {o : Obj} (h : w.heap[b]? = some o) : b < w.heap.size := (Array.getElem?_eq_some_iff.1 h).1
theorem QI {w : World} {b : Nat} {o : Obj} (h : w.heap[b]? = some o) (x : Obj) : (w.alloc x).heap[b]? = some o := by rw [Below.heap_alloc w x b (QJ h), h]
theorem Qr {w : World} {b c : Nat} {o : Obj} (h : w.heap[b]? = some o) (hbc : b ≠ c) (j : Nat) (u : Value) : (w.setCell ⟨c, j, none⟩ u).heap[b]? = some o := by
 rw [Below.heap_setCell w _ _ b hbc, h]
theorem Qy {w : World} {base : Nat} {e : TypeId} {size : Nat} {v : Value} {n : Nat} {xs : List Value} {b : Nat} {C : Array Value} {t : TypeId} (ho : w.ownsRow base e size v n xs) (h : w.heap[b]? = some (.cells C t (0, 0))) (hte : t ≠ e) (j : Nat) (u : Value) : (w.setCell ⟨b, j, none⟩ u).ownsRow base e size v n xs := by
 refine ho.kept (Qg w b j u) (Or.inr fun ee => ?_)
 rcases ho.2 with ⟨rfl, _⟩ | ⟨g, cap, cur, rfl, _, hh, _⟩
 · cases ee
 · have e' : g = b := Option.some.inj ee
   subst e'
   rw [h] at hh
   injection hh with hh
   injection hh with _ h2 _
   exact hte h2
theorem Qaz {w w' : World} {base : Nat} {e : TypeId} {size : Nat} {v : Value} {n : Nat} {xs : List Value} {b : Nat} {C : Array Value} {t : TypeId} (ho : w.ownsRow base e size v n xs) (h : w.heap[b]? = some (.cells C t (0, 0))) (hte : t ≠ e) (hg : w.grownBy w' (some b)) : w'.ownsRow base e size v n xs := by
 refine ho.kept hg (Or.inr fun ee => ?_)
 rcases ho.2 with ⟨rfl, _⟩ | ⟨g, cap, cur, rfl, _, hh, _⟩
 · cases ee
 · have e' : g = b := Option.some.inj ee
   subst e'
   rw [h] at hh
   injection hh with hh
   injection hh with _ h2 _
   exact hte h2
theorem Qdp {w w' : World} {base base' : Nat} {e e' : TypeId} {size size' : Nat} {v v' : Value} {n n' : Nat} {xs xs' : List Value} (h : w.ownsRow base e size v n xs) (h' : w.ownsRow base' e' size' v' n' xs') (hne : e ≠ e') (hg : w.grownBy w' v'.ownBlock) : w'.ownsRow base e size v n xs := by
 rcases h.2 with ⟨rfl, hn⟩ | ⟨g, cap, cur, rfl, hb, hh, hrest⟩
 · exact ⟨h.1, Or.inl ⟨rfl, hn⟩⟩
 · refine h.kept hg (Or.inr fun ee => ?_)
   rcases h'.2 with ⟨rfl, _⟩ | ⟨g', cap', cur', rfl, _, hh', _⟩
   · cases ee
   · have e1 : g = g' := Option.some.inj ee
     subst e1
     rw [hh] at hh'
     injection hh' with hh'
     injection hh' with _ h2 _
     exact hne h2
theorem QaF {w w' : World} {r : Option Nat} (h : w.drew.grownBy w' r) : w.grownBy w' r := ⟨h.os, h.tape, h.output, h.size, h.block⟩
def Since (base : Nat) (w w' : World) : Prop := ∀ k, base ≤ k → k < w.heap.size → w'.heap[k]? = w.heap[k]?
theorem Since.refl (base : Nat) (w : World) : Since base w w := fun _ _ _ => rfl
theorem Qbe {w w' : World} {base : Nat} {e : TypeId} {size : Nat} {v : Value} {n : Nat} {xs : List Value} (h : w.ownsRow base e size v n xs) (hs : Since base w w') : w'.ownsRow base e size v n xs := by
 refine ⟨h.1, ?_⟩
 rcases h.2 with hn | ⟨g, cap, cur, rfl, hb, hgg, rest⟩
 · exact .inl hn
 · refine .inr ⟨g, cap, cur, rfl, hb, ?_, rest⟩
   rw [hs g hb (Array.getElem?_eq_some_iff.1 hgg).1]
   exact hgg
theorem Qaj {w w' : World} {a base : Nat} (h : w.grownBy w' (some a)) (ha : a < base) : Since base w w' := fun k hk hs => h.block k hs (fun e => by have := Option.some.inj e; omega)
theorem Q8 {w w' : World} {base : Nat} (h : Below w.heap.size w w') : Since base w w' := fun k _ hs => h.block k hs
theorem Since.trans {base : Nat} {a b c : World} (h : Since base a b) (k : Since base b c) (hs : a.heap.size ≤ b.heap.size) : Since base a c := fun i hi his => by rw [k i hi (by omega), h i hi his]
theorem Since.mono {base base' : Nat} {a b : World} (h : Since base a b) (hb : base ≤ base') : Since base' a b := fun k hk hs => h k (by omega) hs
theorem Qc {w w' : World} {b : Nat} {o : Obj} (h : w.heap[b]? = some o) (hb : Below w.heap.size w w') : w'.heap[b]? = some o := by rw [hb.block b (QJ h), h]
end Go.Proofs.Ytpdijobakfpnbaa
