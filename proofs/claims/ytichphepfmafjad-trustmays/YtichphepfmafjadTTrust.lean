/- trust.Home and trust.Trusted answer what the document says, and turn nothing that was there. -/
import Derived.Test.YtichphepfmafjadTGood
import Derived.Test.YtichphepfmafjadHeap0
namespace Go.Proofs.Ytichphepfmafjad
open Go.RowKit Go.Proofs.Parclose

theorem home_any (c : Int) (w : World) (hc : 0 ≤ c) (hc2 : c < 9223372036854775808) : Calls Try.prog 16 #[.int .i64 c] w fun e w' => e = .returned (.int .i64 (c / 20)) ∧ w' = w := by
  go_enter Try.func16, Try.ntmps16
  go_wp2
  go_ret
  exact ⟨rfl, rfl⟩

theorem news1 {W : World} {n : Nat} (hn : W.heap.size = n) (a : Value) (t : TypeId) : ∀ j u, [a][j]? = some u → (W.alloc (.cells #[a] t)).cell? ((⟨n, 0, none⟩ : Addr).add j) = some u := by
  subst hn
  exact laid1 W a t

noncomputable def trV (l : List Crt) (c now : Int) : Value := .agg #[.bool (trB l c now 0), .bool (trB l c now 1), .bool (trB l c now 2), .bool (trB l c now 3)]

/-- what holds while the row of hosts is gone through -/
structure Inv (w : World) (l : List Crt) (c now : Int) (wr : World) (v : Value) (row : List Int) (B : Int → Bool) (k : Nat) : Prop where
  own : wr.ownsRow (w.heap.size + 2) 3 1 v row.length (flat1 row)
  work : Work l c now B row
  past : ∀ m h, m < k → row[m]? = some h → ∀ x ∈ l, Asked c now B h x
  tr : wr.heap[w.heap.size + 1]? = some (.cells #[.bool (B 0), .bool (B 1), .bool (B 2), .bool (B 3)] 28 (0, 0))
  res : wr.heap[w.heap.size]? = some (.cells #[.bool false, .bool false, .bool false, .bool false] 28 (0, 0))
  below : Below w.heap.size w wr
  size : w.heap.size + 2 ≤ wr.heap.size

theorem Inv.more {w : World} {l : List Crt} {c now : Int} {wr ws : World} {v : Value} {row : List Int} {B : Int → Bool} {k : Nat} (h : Inv w l c now wr v row B k) (hb : Below wr.heap.size wr ws) : Inv w l c now ws v row B k :=
  ⟨own_since h.own (since_below hb), h.work, h.past, heap_keep h.tr hb, heap_keep h.res hb, h.below.trans (hb.mono (by have := h.size; omega)), Nat.le_trans h.size hb.size⟩

def withH (B : Int → Bool) (x : Int) : Int → Bool := fun h => B h || decide (h = x)

theorem asked_more {c now : Int} {B : Int → Bool} {h y : Int} {x : Crt} (ha : Asked c now B h x) : Asked c now (withH B y) h x := fun h1 h2 h3 => by
  unfold withH
  rw [ha h1 h2 h3]
  rfl

theorem tr_cells {w : World} {T : Nat} {B : Int → Bool} {h : Int} (ht : w.heap[T]? = some (.cells #[.bool (B 0), .bool (B 1), .bool (B 2), .bool (B 3)] 28 (0, 0))) (h1 : 0 ≤ h) (h2 : h < 4) : w.cell? ⟨T, h.toNat, none⟩ = some (.bool (B h)) := by
  rw [heap_cell ht]
  have : h = 0 ∨ h = 1 ∨ h = 2 ∨ h = 3 := by omega
  rcases this with rfl | rfl | rfl | rfl <;> rfl
theorem tr_put {w : World} {T : Nat} {B : Int → Bool} {h : Int} (ht : w.heap[T]? = some (.cells #[.bool (B 0), .bool (B 1), .bool (B 2), .bool (B 3)] 28 (0, 0))) (h1 : 0 ≤ h) (h2 : h < 4) :
    (w.setCell ⟨T, h.toNat, none⟩ (.bool true)).heap[T]? = some (.cells #[.bool (withH B h 0), .bool (withH B h 1), .bool (withH B h 2), .bool (withH B h 3)] 28 (0, 0)) := by
  rw [heap_setCell ht]
  have : h = 0 ∨ h = 1 ∨ h = 2 ∨ h = 3 := by omega
  rcases this with rfl | rfl | rfl | rfl <;> simp [withH]

/-- a host more -/
theorem Inv.put {w : World} {l : List Crt} {c now : Int} {wr w2 : World} {v v2 : Value} {row : List Int} {B : Int → Bool} {k : Nat} (h : Inv w l c now wr v row B k) {x : Crt} (hx : x ∈ l) (hc : x.c = c) (hr : x.b ∈ row) (hu : now ≤ x.u) (hb : B x.h = false) (hh : 0 ≤ x.h ∧ x.h < 4) (hcat : catB c = true) (hk : k < row.length)
    (o : Obj) (h2 : w2.ownsRow (w.heap.size + 2) 3 1 v2 (row.length + 1) (flat1 row ++ [.int .i64 x.h])) (hg : ((wr.setCell ⟨w.heap.size + 1, x.h.toNat, none⟩ (.bool true)).alloc o).grownBy w2 v.ownBlock) :
    Inv w l c now w2 v2 (row ++ [x.h]) (withH B x.h) k := by
  have hs := h.size
  have hc2 : 0 ≤ c ∧ c < 80 := of_decide_eq_true hcat
  have ht1 := heap_new (tr_put h.tr hh.1 hh.2) o
  have hr1 := heap_new (heap_store h.res (by omega : w.heap.size ≠ w.heap.size + 1) x.h.toNat (.bool true)) o
  have hown : ∀ j, v.ownBlock = some j → w.heap.size + 2 ≤ j := fun j hj => own_base h.own hj
  have hb1 : Below w.heap.size w ((wr.setCell ⟨w.heap.size + 1, x.h.toNat, none⟩ (.bool true)).alloc o) := by
    refine Below.alloc ?_ (by simp; omega) _
    exact h.below.grown (grown_setCell wr _ _ _) (by omega) (fun j hj => by have := Option.some.inj hj; omega)
  have hz : ((wr.setCell ⟨w.heap.size + 1, x.h.toNat, none⟩ (.bool true)).alloc o).heap.size = wr.heap.size + 1 := by simp
  refine ⟨by simpa [flat1] using h2, h.work.put hx hc hr hu hb hh (fun g _ _ => rfl) (by omega), fun m g hm hg2 y hy => ?_, ?_, ?_, hb1.grown hg (by rw [hz]; omega) (fun j hj => by have := hown j hj; omega), by have := hg.size; omega⟩
  · rw [List.getElem?_append_left (by omega)] at hg2
    exact asked_more (h.past m g hm hg2 y hy)
  · rw [hg.block _ (by omega) (fun e => by have := hown _ e.symm; omega)]
    exact ht1
  · rw [hg.block _ (by omega) (fun e => by have := hown _ e.symm; omega)]
    exact hr1
end Go.Proofs.Ytichphepfmafjad
