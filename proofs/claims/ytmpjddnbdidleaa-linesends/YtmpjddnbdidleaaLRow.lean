/- Rows of what was sent, in memory of one's own: how one of them is set anew. -/
import Derived.Test.YtmpjddnbdidleaaLCopyF
namespace Go.Proofs.Ytmpjddnbdidleaa
open Go.RowKit Go.Proofs.Parclose

theorem own_of_cells {w : World} {g : Nat} {e : TypeId} {size n cap : Nat} {cur : Array Value} {xs : List Value} (h : w.heap[g]? = some (.cells cur e (0, 0))) (hn : n ≤ cap) (hm : cap ≤ maxLen) (hs : cur.size = cap * size) (hx : xs.length = n * size) (hc : ∀ j, j < n * size → cur[j]? = xs[j]?) :
    w.ownsRow 0 e size (.slice (some ⟨g, 0, none⟩) n cap) n xs := by
  refine ⟨hx, .inr ⟨g, cap, cur, rfl, Nat.zero_le _, h, hn, hm, hs, ?_⟩⟩
  refine List.ext_getElem? fun j => ?_
  rw [List.getElem?_take]
  split
  · rename_i hj
    rw [Array.getElem?_toList]
    exact hc j hj
  · rename_i hj
    rw [List.getElem?_eq_none (by omega)]

theorem own_get {w : World} {g : Nat} {e : TypeId} {size n cap : Nat} {xs : List Value} (h : w.ownsRow 0 e size (.slice (some ⟨g, 0, none⟩) n cap) n xs) : ∃ cur, w.heap[g]? = some (.cells cur e (0, 0)) ∧ n ≤ cap ∧ cap ≤ maxLen ∧ cur.size = cap * size ∧ ∀ j, j < n * size → cur[j]? = xs[j]? := by
  rcases h.2 with ⟨h1, _⟩ | ⟨g', cap', cur, h1, _, hh, h2, h3, h4, h5⟩
  · cases h1
  · cases h1
    refine ⟨cur, hh, h2, h3, h4, fun j hj => ?_⟩
    rw [← h5, List.getElem?_take, if_pos hj, Array.getElem?_toList]

theorem own_set {w : World} {e : TypeId} {sz n g cap j : Nat} {xs : List Value} (h : w.ownsRow 0 e sz (.slice (some ⟨g, 0, none⟩) n cap) n xs) (hj : j < n * sz) (u : Value) : (w.setCell ⟨g, j, none⟩ u).ownsRow 0 e sz (.slice (some ⟨g, 0, none⟩) n cap) n (xs.set j u) := by
  have hx := h.1
  obtain ⟨cur, hg, h1, h2, h3, h4⟩ := own_get h
  refine own_of_cells (heap_setCell hg u) h1 h2 (by simpa using h3) (by simpa using hx) fun k hk => ?_
  by_cases e : j = k
  · subst e
    have hc : j < cur.size := by rw [h3]; exact Nat.lt_of_lt_of_le hj (Nat.mul_le_mul_right _ h1)
    rw [Array.getElem?_setIfInBounds_self, if_pos hc, List.getElem?_set_self (by omega)]
  · rw [Array.getElem?_setIfInBounds_ne e, List.getElem?_set_ne e, h4 k hk]

theorem own_rebase {w : World} {b B : Nat} {e : TypeId} {s : Nat} {v : Value} {n : Nat} {xs : List Value} (h : w.ownsRow b e s v n xs) (hB : ∀ k, v.ownBlock = some k → B ≤ k) : w.ownsRow B e s v n xs := by
  refine ⟨h.1, ?_⟩
  rcases h.2 with hn | ⟨g, cap, cur, rfl, _, rest⟩
  · exact .inl hn
  · exact .inr ⟨g, cap, cur, rfl, hB g rfl, rest⟩
theorem own_setB {w : World} {B : Nat} {e : TypeId} {sz n g cap j : Nat} {xs : List Value} (h : w.ownsRow B e sz (.slice (some ⟨g, 0, none⟩) n cap) n xs) (hj : j < n * sz) (u : Value) : (w.setCell ⟨g, j, none⟩ u).ownsRow B e sz (.slice (some ⟨g, 0, none⟩) n cap) n (xs.set j u) :=
  own_rebase (own_set (own_base_le h (Nat.zero_le _)) hj u) fun _ hk => own_base h hk

theorem set_row (a x b : List Value) (i : Nat) (v : Value) (hi : i < x.length) : (a ++ x ++ b).set (a.length + i) v = a ++ x.set i v ++ b := by
  rw [List.append_assoc, List.set_append_right _ _ (by omega), List.append_assoc, Nat.add_sub_cancel_left, List.set_append_left _ _ hi]
theorem flatS_split (q : List SntV) (k : Nat) (hk : k < q.length) : flatS q = flatS (q.take k) ++ (q[k]).cells ++ flatS (q.drop (k + 1)) := by
  conv => lhs; rw [← List.take_append_drop k q, List.drop_eq_getElem_cons hk]
  rw [flatS_app, flatS_cons, List.append_assoc]
theorem flatS_set (q : List SntV) (k : Nat) (hk : k < q.length) (x : SntV) : flatS (q.set k x) = flatS (q.take k) ++ x.cells ++ flatS (q.drop (k + 1)) := by
  rw [List.set_eq_take_append_cons_drop, if_pos hk, flatS_app, flatS_cons, List.append_assoc]
theorem flatS_setv (q : List SntV) (k : Nat) (hk : k < q.length) (u1 u2 u3 : Value) (s : Snt) (hs : (q[k]).s = s) :
    (((((((((((flatS q).set (k * 13) (.int .i64 s.f.fr)).set (k * 13 + 1) (.int .i64 s.f.to)).set (k * 13 + 2) (.int .i64 s.f.seq)).set (k * 13 + 3) (.bool s.f.ack)).set (k * 13 + 4) (.int .i64 s.f.thread)).set (k * 13 + 5) (.int .i64 s.f.mail.host)).set (k * 13 + 6) (.int .i64 s.f.mail.thread)).set (k * 13 + 7) (u1)).set (k * 13 + 8) (u2)).set (k * 13 + 9) (.string ⟨s.f.mail.text.toArray⟩)).set (k * 13 + 10) (u3) = flatS (q.set k ⟨s, u1, u2, u3⟩) := by
  rw [flatS_set q k hk, flatS_split q k hk]
  have ha : (flatS (q.take k)).length = k * 13 := by rw [flatS_len, List.length_take]; omega
  generalize flatS (q.take k) = a at *
  generalize flatS (q.drop (k + 1)) = b
  generalize q[k] = x at *
  subst hs
  rw [← ha]
  have h0 : a.length = a.length + 0 := rfl
  have e0 : ∀ v, (a ++ x.cells ++ b).set a.length v = a ++ x.cells.set 0 v ++ b := fun v => set_row a x.cells b 0 v (show 0 < 13 by omega)
  rw [e0]
  rw [set_row a _ b 1 _ (by simp [SntV.cells])]
  rw [set_row a _ b 2 _ (by simp [SntV.cells])]
  rw [set_row a _ b 3 _ (by simp [SntV.cells])]
  rw [set_row a _ b 4 _ (by simp [SntV.cells])]
  rw [set_row a _ b 5 _ (by simp [SntV.cells])]
  rw [set_row a _ b 6 _ (by simp [SntV.cells])]
  rw [set_row a _ b 7 _ (by simp [SntV.cells])]
  rw [set_row a _ b 8 _ (by simp [SntV.cells])]
  rw [set_row a _ b 9 _ (by simp [SntV.cells])]
  rw [set_row a _ b 10 _ (by simp [SntV.cells])]
  rfl

/-- all blocks from B on, but one, are as they were -/
def Off (B : Nat) (r : Option Nat) (w w' : World) : Prop := ∀ k, B ≤ k → k < w.heap.size → r ≠ some k → w'.heap[k]? = w.heap[k]?
theorem cell_agree {w w' : World} {a : Addr} {v : Value} (h : ∀ k, k < w.heap.size → w'.heap[k]? = w.heap[k]?) (hc : w.cell? a = some v) : w'.cell? a = some v := by
  have hb := cell_block hc
  simp only [World.cell?] at hc ⊢
  rw [h _ hb]
  exact hc
theorem LabAt.agree {w w' : World} {v : Value} {l : List (Int × Int)} (h : LabAt w v l) (ha : ∀ k, k < w.heap.size → w'.heap[k]? = w.heap[k]?) : LabAt w' v l := by
  obtain ⟨p, cap, h1, h2, h3, h4⟩ := h
  refine ⟨p, cap, h1, h2, h3, fun g => ?_⟩
  obtain ⟨b, o, h5, h6⟩ := h4 g
  exact ⟨b, o, h5, fun j hj => ⟨cell_agree ha (h6 j hj).1, cell_agree ha (h6 j hj).2⟩⟩
theorem IntsAt.agree {w w' : World} {v : Value} {l : List Int} (h : IntsAt w v l) (ha : ∀ k, k < w.heap.size → w'.heap[k]? = w.heap[k]?) : IntsAt w' v l := by
  obtain ⟨p, cap, h1, h2, h3, h4⟩ := h
  refine ⟨p, cap, h1, h2, h3, fun g => ?_⟩
  obtain ⟨b, o, h5, h6⟩ := h4 g
  exact ⟨b, o, h5, fun j hj => cell_agree ha (h6 j hj)⟩
theorem CrtsAt.agree {w w' : World} {v : Value} {l : List Crt} (h : CrtsAt w v l) (ha : ∀ k, k < w.heap.size → w'.heap[k]? = w.heap[k]?) : CrtsAt w' v l := by
  obtain ⟨p, cap, h1, h2, h3, h4⟩ := h
  refine ⟨p, cap, h1, h2, h3, fun g => ?_⟩
  obtain ⟨b, o, h5, h6⟩ := h4 g
  exact ⟨b, o, h5, fun j hj => ⟨cell_agree ha (h6 j hj).1, cell_agree ha (h6 j hj).2.1, cell_agree ha (h6 j hj).2.2.1, cell_agree ha (h6 j hj).2.2.2⟩⟩
theorem SntV.Ok.agree {w w' : World} {x : SntV} (h : x.Ok w) (ha : ∀ k, k < w.heap.size → w'.heap[k]? = w.heap[k]?) : x.Ok w' := ⟨h.lab.agree ha, h.nums.agree ha, h.crts.agree ha⟩

/-- a row of what was sent, in memory from B on: its lists do not lie in its block -/
structure OwnRow (B : Nat) (w : World) (v : Value) (q : List SntV) : Prop where
  own : w.ownsRow B 56 13 v q.length (flatS q)
  ok : ∀ x ∈ q, ∀ w', Off B v.ownBlock w w' → x.Ok w'
theorem Off.refl (B : Nat) (r : Option Nat) (w : World) : Off B r w w := fun _ _ _ _ => rfl
theorem off_below {B : Nat} {r : Option Nat} {w w1 w2 : World} (hb : Below w.heap.size w w1) (h : Off B r w1 w2) : Off B r w w2 := fun k hB hk hr => by rw [h k hB (Nat.lt_of_lt_of_le hk hb.size) hr, hb.block k hk]
theorem off_grown {B : Nat} {r : Option Nat} {w w1 w2 : World} (hg : w.grownBy w1 r) (h : Off B r w1 w2) : Off B r w w2 := fun k hB hk hr => by rw [h k hB (Nat.lt_of_lt_of_le hk hg.size) hr, hg.block k hk (Ne.symm hr)]
theorem off_box {B b : Nat} {r : Option Nat} {w w1 w2 : World} (hg : w.grownBy w1 (some b)) (hb : b < B) (h : Off B r w1 w2) : Off B r w w2 := fun k hB hk hr => by rw [h k hB (Nat.lt_of_lt_of_le hk hg.size) hr, hg.block k hk (fun e => by have := Option.some.inj e; omega)]
theorem OwnRow.below {B : Nat} {w w1 : World} {v : Value} {q : List SntV} (h : OwnRow B w v q) (hb : Below w.heap.size w w1) : OwnRow B w1 v q :=
  ⟨own_later h.own hb, fun x hx w' ho => h.ok x hx w' (off_below hb ho)⟩
/-- a store to a block below leaves it -/
theorem OwnRow.box {B b : Nat} {w w1 : World} {v : Value} {q : List SntV} (h : OwnRow B w v q) (hg : w.grownBy w1 (some b)) (hb : b < B) : OwnRow B w1 v q :=
  ⟨h.own.kept hg (Or.inr fun e => by have := own_base h.own e; omega), fun x hx w' ho => h.ok x hx w' (off_box hg hb ho)⟩
theorem OwnRow.low {B B' : Nat} {w : World} {v : Value} {q : List SntV} (h : OwnRow B w v q) (hB : B' ≤ B) : OwnRow B' w v q :=
  ⟨own_base_le h.own hB, fun x hx w' ho => h.ok x hx w' fun k hk => ho k (by omega)⟩
theorem OwnRow.snts {B : Nat} {w : World} {v : Value} {q : List SntV} (h : OwnRow B w v q) (hl : q.length ≤ 879609302220) : SntsAt w v (q.map (·.s)) := by
  refine ⟨q, rfl, fun x hx => h.ok x hx w (Off.refl _ _ _), ?_⟩
  have hx := h.own.1
  rcases h.own.2 with ⟨hn, h0⟩ | ⟨g, cap, cur, rfl, hbg, hgg, h1, h2, h3, h4⟩
  · rw [hn]
    refine ⟨none, 0, by rw [h0], ⟨by omega, fun _ => rfl⟩, hl, fun h => by omega⟩
  · refine ⟨some ⟨g, 0, none⟩, cap, rfl, ⟨h1, fun e => by cases e⟩, hl, fun _ => ⟨g, 0, rfl, fun j u hu => ?_⟩⟩
    have := World.ownsRow.cells h.own (g := g) rfl _ _ hu
    rwa [WideShapes.add_plain] at this
end Go.Proofs.Ytmpjddnbdidleaa
