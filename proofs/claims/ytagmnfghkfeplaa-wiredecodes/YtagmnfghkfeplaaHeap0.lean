/- Blocks of memory: what stays, what a store turns, what is made later. -/
import Derived.Test.YtagmnfghkfeplaaRows0
import Derived.Laws.Tables
namespace Go.Proofs.Ytagmnfghkfeplaa
open Go.RowKit Go.Proofs.Parclose

theorem heap_setCell {w : World} {a j : Nat} {C : Array Value} {t : TypeId} {fr : Nat × Nat} (h : w.heap[a]? = some (.cells C t fr)) (u : Value) : (w.setCell ⟨a, j, none⟩ u).heap[a]? = some (.cells (C.setIfInBounds j u) t fr) := by
  simp [World.setCell, Array.getElem?_modify, h]
theorem grown_refl (w : World) (r : Option Nat) : w.grownBy w r := ⟨rfl, rfl, rfl, Nat.le_refl _, fun _ _ _ => rfl⟩
theorem grown_trans {a b c : World} {r : Option Nat} (h : a.grownBy b r) (k : b.grownBy c r) : a.grownBy c r :=
  ⟨k.os.trans h.os, k.tape.trans h.tape, k.output.trans h.output, Nat.le_trans h.size k.size, fun i hi hr => by rw [k.block i (by have := h.size; omega) hr, h.block i hi hr]⟩
theorem grown_setCell (w : World) (a j : Nat) (u : Value) : w.grownBy (w.setCell ⟨a, j, none⟩ u) (some a) :=
  ⟨rfl, rfl, rfl, by simp, fun k _ hr => Below.heap_setCell w _ _ k (fun e => hr (by rw [e]))⟩
theorem grown_below {w w' : World} (h : Below w.heap.size w w') (r : Option Nat) : w.grownBy w' r := ⟨h.os, h.tape, h.output, h.size, fun k hk _ => h.block k hk⟩
theorem heap_cell {w : World} {b : Nat} {C : Array Value} {t : TypeId} {fr : Nat × Nat} (h : w.heap[b]? = some (.cells C t fr)) (j : Nat) : w.cell? ⟨b, j, none⟩ = C[j]? := by simp only [World.cell?]; rw [h]; rfl
theorem heap_frozen {w : World} {b : Nat} {C : Array Value} {t : TypeId} (h : w.heap[b]? = some (.cells C t (0, 0))) (j : Nat) : w.frozen? ⟨b, j, none⟩ = false := by simp only [World.frozen?]; rw [h]; simp
theorem heap_lt {w : World} {b : Nat} {o : Obj} (h : w.heap[b]? = some o) : b < w.heap.size := (Array.getElem?_eq_some_iff.1 h).1
theorem heap_tk {w w' : World} {a b : Nat} {o : Obj} (h : w.heap[b]? = some o) (hab : b ≠ a) (hg : w.grownBy w' (some a)) : w'.heap[b]? = some o := by
  rw [hg.block b (heap_lt h) (fun e => hab (Option.some.inj e)), h]
theorem heap_own {w w' : World} {base : Nat} {e : TypeId} {size : Nat} {v : Value} {n : Nat} {xs : List Value} {b : Nat} {C : Array Value} {t : TypeId} (h : w.heap[b]? = some (.cells C t (0, 0))) (ho : w.ownsRow base e size v n xs) (hte : t ≠ e) (hg : w.grownBy w' v.ownBlock) : w'.heap[b]? = some (.cells C t (0, 0)) := by
  rw [hg.block b (heap_lt h) (fun ee => ?_), h]
  rcases ho.2 with ⟨rfl, _⟩ | ⟨g, cap, cur, rfl, _, hh, _⟩
  · cases ee
  · have e' : b = g := Option.some.inj ee
    subst e'
    rw [h] at hh
    injection hh with hh
    injection hh with _ h2 _
    exact hte h2
theorem heap_new {w : World} {b : Nat} {o : Obj} (h : w.heap[b]? = some o) (x : Obj) : (w.alloc x).heap[b]? = some o := by rw [Below.heap_alloc w x b (heap_lt h), h]
theorem grown_store {w0 w : World} {r : Option Nat} (h : w0.grownBy w r) {b : Nat} (hb : w0.heap.size ≤ b) (j : Nat) (u : Value) : w0.grownBy (w.setCell ⟨b, j, none⟩ u) r :=
  ⟨h.os, h.tape, h.output, by simpa using h.size, fun k hk hr => by
    rw [Below.heap_setCell w _ _ k (by show k ≠ b; omega)]
    exact h.block k hk hr⟩
theorem heap_store {w : World} {b c : Nat} {o : Obj} (h : w.heap[b]? = some o) (hbc : b ≠ c) (j : Nat) (u : Value) : (w.setCell ⟨c, j, none⟩ u).heap[b]? = some o := by
  rw [Below.heap_setCell w _ _ b hbc, h]
theorem own_store {w : World} {base : Nat} {e : TypeId} {size : Nat} {v : Value} {n : Nat} {xs : List Value} {b : Nat} {C : Array Value} {t : TypeId} (ho : w.ownsRow base e size v n xs) (h : w.heap[b]? = some (.cells C t (0, 0))) (hte : t ≠ e) (j : Nat) (u : Value) : (w.setCell ⟨b, j, none⟩ u).ownsRow base e size v n xs := by
  refine ho.kept (grown_setCell w b j u) (Or.inr fun ee => ?_)
  rcases ho.2 with ⟨rfl, _⟩ | ⟨g, cap, cur, rfl, _, hh, _⟩
  · cases ee
  · have e' : g = b := Option.some.inj ee
    subst e'
    rw [h] at hh
    injection hh with hh
    injection hh with _ h2 _
    exact hte h2
theorem own_block {w w' : World} {base : Nat} {e : TypeId} {size : Nat} {v : Value} {n : Nat} {xs : List Value} {b : Nat} {C : Array Value} {t : TypeId} (ho : w.ownsRow base e size v n xs) (h : w.heap[b]? = some (.cells C t (0, 0))) (hte : t ≠ e) (hg : w.grownBy w' (some b)) : w'.ownsRow base e size v n xs := by
  refine ho.kept hg (Or.inr fun ee => ?_)
  rcases ho.2 with ⟨rfl, _⟩ | ⟨g, cap, cur, rfl, _, hh, _⟩
  · cases ee
  · have e' : g = b := Option.some.inj ee
    subst e'
    rw [h] at hh
    injection hh with hh
    injection hh with _ h2 _
    exact hte h2
theorem grown_block {w0 w w' : World} {r : Option Nat} {b : Nat} (h : w0.grownBy w r) (hb : w0.heap.size ≤ b) (hg : w.grownBy w' (some b)) : w0.grownBy w' r :=
  ⟨hg.os.trans h.os, hg.tape.trans h.tape, hg.output.trans h.output, Nat.le_trans h.size hg.size, fun k hk hr => by
    rw [hg.block k (by have := h.size; omega) (fun e => by have := Option.some.inj e; omega), h.block k hk hr]⟩
theorem own_own {w w' : World} {base base' : Nat} {e e' : TypeId} {size size' : Nat} {v v' : Value} {n n' : Nat} {xs xs' : List Value} (h : w.ownsRow base e size v n xs) (h' : w.ownsRow base' e' size' v' n' xs') (hne : e ≠ e') (hg : w.grownBy w' v'.ownBlock) : w'.ownsRow base e size v n xs := by
  rcases h.2 with ⟨rfl, hn⟩ | ⟨g, cap, cur, rfl, hb, hh, hrest⟩
  · exact ⟨h.1, Or.inl ⟨rfl, hn⟩⟩
  · refine h.kept hg (Or.inr fun ee => ?_)
    rcases h'.2 with ⟨rfl, _⟩ | ⟨g', cap', cur', rfl, _, hh', _⟩
    · cases ee
    · have e1 : g = g' := Option.some.inj ee
      subst e1
      rw [hh] at hh'
      injection hh' with hh'
      injection hh' with _ h2 _
      exact hne h2
theorem grown_drew {w w' : World} {r : Option Nat} (h : w.drew.grownBy w' r) : w.grownBy w' r := ⟨h.os, h.tape, h.output, h.size, h.block⟩
/-- from block base on the world is as it was -/
def Since (base : Nat) (w w' : World) : Prop := ∀ k, base ≤ k → k < w.heap.size → w'.heap[k]? = w.heap[k]?
theorem Since.refl (base : Nat) (w : World) : Since base w w := fun _ _ _ => rfl
theorem own_since {w w' : World} {base : Nat} {e : TypeId} {size : Nat} {v : Value} {n : Nat} {xs : List Value} (h : w.ownsRow base e size v n xs) (hs : Since base w w') : w'.ownsRow base e size v n xs := by
  refine ⟨h.1, ?_⟩
  rcases h.2 with hn | ⟨g, cap, cur, rfl, hb, hgg, rest⟩
  · exact .inl hn
  · refine .inr ⟨g, cap, cur, rfl, hb, ?_, rest⟩
    rw [hs g hb (Array.getElem?_eq_some_iff.1 hgg).1]
    exact hgg
theorem grown_own {w0 w w' : World} {base : Nat} {e : TypeId} {size : Nat} {v : Value} {n : Nat} {xs : List Value} {r : Option Nat} (h : w0.grownBy w r) (ho : w.ownsRow base e size v n xs) (hb : w0.heap.size ≤ base) (hg : w.grownBy w' v.ownBlock) : w0.grownBy w' r :=
  ⟨hg.os.trans h.os, hg.tape.trans h.tape, hg.output.trans h.output, Nat.le_trans h.size hg.size, fun k hk hr => by
    rw [hg.block k (by have := h.size; omega) (fun e => by have := own_base ho e.symm; omega), h.block k hk hr]⟩
theorem grown_setRow (w : World) (b : Nat) (cs : Array Value) : w.grownBy (w.setRow b cs) (some b) :=
  ⟨rfl, rfl, rfl, by simp, fun k _ hr => setRow_other w b k cs (fun e => hr (by rw [e]))⟩
theorem since_grown {w w' : World} {a base : Nat} (h : w.grownBy w' (some a)) (ha : a < base) : Since base w w' := fun k hk hs => h.block k hs (fun e => by have := Option.some.inj e; omega)
theorem since_below {w w' : World} {base : Nat} (h : Below w.heap.size w w') : Since base w w' := fun k _ hs => h.block k hs
theorem Since.trans {base : Nat} {a b c : World} (h : Since base a b) (k : Since base b c) (hs : a.heap.size ≤ b.heap.size) : Since base a c := fun i hi his => by rw [k i hi (by omega), h i hi his]
theorem Since.mono {base base' : Nat} {a b : World} (h : Since base a b) (hb : base ≤ base') : Since base' a b := fun k hk hs => h k (by omega) hs
theorem heap_keep {w w' : World} {b : Nat} {o : Obj} (h : w.heap[b]? = some o) (hb : Below w.heap.size w w') : w'.heap[b]? = some o := by rw [hb.block b (heap_lt h), h]
end Go.Proofs.Ytagmnfghkfeplaa
