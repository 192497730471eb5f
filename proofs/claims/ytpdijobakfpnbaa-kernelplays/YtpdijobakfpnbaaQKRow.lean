/- Rows that are written in the middle, and slices.Insert at lists of numbers. -/
import Derived.Test.YtpdijobakfpnbaaQKText
import Derived.Test.YtpdijobakfpnbaaQShelf
namespace Go.Proofs.Ytpdijobakfpnbaa
open Go.RowKit Go.Proofs.Parclose
theorem Q0 {b : Nat} {t : TypeId} {fr : Nat × Nat} : ∀ (vs : List Value) (o : Nat) (w : World) (cur : Array Value), w.heap[b]? = some (.cells cur t fr) →
 ∃ cur', (w.setCells b o vs).heap[b]? = some (.cells cur' t fr) ∧ cur'.size = cur.size ∧ ∀ j, cur'[j]? = if o ≤ j ∧ j < o + vs.length ∧ j < cur.size then vs[j - o]? else cur[j]?
 | [], o, w, cur, h => ⟨cur, h, rfl, fun j => by rw [if_neg (by simp; omega)]⟩
 | v :: r, o, w, cur, h => by
  obtain ⟨cur', h1, h2, h3⟩ := Q0 r (o + 1) (w.setCell ⟨b, o, none⟩ v) _ (Q4 h v)
  refine ⟨cur', h1, by rw [h2]; simp, fun j => ?_⟩
  rw [h3 j]
  simp only [Array.size_setIfInBounds, List.length_cons]
  by_cases e : j = o
  · subst e
    rw [if_neg (by omega)]
    by_cases hj : j < cur.size
    · rw [if_pos (by omega), Nat.sub_self, Array.getElem?_setIfInBounds_self, if_pos hj]
      rfl
    · rw [if_neg (by omega), Array.getElem?_setIfInBounds_self, if_neg hj, Array.getElem?_eq_none (by omega)]
  · by_cases hc : o + 1 ≤ j ∧ j < o + 1 + r.length ∧ j < cur.size
    · rw [if_pos hc, if_pos (by omega), show j - o = j - (o + 1) + 1 by omega]
      rfl
    · rw [if_neg hc, if_neg (by omega), Array.getElem?_setIfInBounds_ne (fun h => e h.symm)]
theorem QZ {b : Nat} : ∀ (vs : List Value) (o : Nat) (w : World), w.grownBy (w.setCells b o vs) (some b)
 | [], _, _ => ⟨rfl, rfl, rfl, Nat.le_refl _, fun _ _ _ => rfl⟩
 | v :: r, o, w => by
  have h := QZ (b := b) r (o + 1) (w.setCell ⟨b, o, none⟩ v)
  show w.grownBy ((w.setCell ⟨b, o, none⟩ v).setCells b (o + 1) r) (some b)
  exact ⟨h.os, h.tape, h.output, by have := h.size; simpa using this, fun k hk hr => by
   rw [h.block k (by simpa using hk) hr, Below.heap_setCell w _ _ k (fun e => hr (by rw [e]))]⟩
theorem Qaa {w : World} {g : Nat} {e : TypeId} {size n cap : Nat} {cur : Array Value} {xs : List Value} (h : w.heap[g]? = some (.cells cur e (0, 0))) (hn : n ≤ cap) (hm : cap ≤ maxLen) (hs : cur.size = cap * size) (hx : xs.length = n * size) (hc : ∀ j, j < n * size → cur[j]? = xs[j]?) :
 w.ownsRow 0 e size (.slice (some ⟨g, 0, none⟩) n cap) n xs := by
 refine ⟨hx, .inr ⟨g, cap, cur, rfl, Nat.zero_le _, h, hn, hm, hs, ?_⟩⟩
 refine List.ext_getElem? fun j => ?_
 rw [List.getElem?_take]
 split
 · rename_i hj
   rw [Array.getElem?_toList]
   exact hc j hj
 · rename_i hj
   rw [List.getElem?_eq_none (by omega)]
theorem QaU {w : World} {g : Nat} {e : TypeId} {size n cap : Nat} {xs : List Value} (h : w.ownsRow 0 e size (.slice (some ⟨g, 0, none⟩) n cap) n xs) : ∃ cur, w.heap[g]? = some (.cells cur e (0, 0)) ∧ n ≤ cap ∧ cap ≤ maxLen ∧ cur.size = cap * size ∧ ∀ j, j < n * size → cur[j]? = xs[j]? := by
 rcases h.2 with ⟨h1, _⟩ | ⟨g', cap', cur, h1, _, hh, h2, h3, h4, h5⟩
 · cases h1
 · cases h1
   refine ⟨cur, hh, h2, h3, h4, fun j hj => ?_⟩
   rw [← h5, List.getElem?_take, if_pos hj, Array.getElem?_toList]
theorem Qdr (l : List Int) (i : Nat) (c : Int) (hi : i ≤ l.length) (j : Nat) : (flat1 (l.take i ++ c :: l.drop i))[j]? = if j < i then (flat1 l)[j]? else if j = i then some (.int .i64 c) else (flat1 l)[j - 1]? := by
 unfold flat1
 rw [List.getElem?_map, List.getElem?_append]
 rw [List.length_take, Nat.min_eq_left hi]
 by_cases h1 : j < i
 · rw [if_pos h1, if_pos h1, List.getElem?_take, if_pos h1, List.getElem?_map]
 · rw [if_neg h1, if_neg h1]
   by_cases h2 : j = i
   · subst h2
     rw [if_pos rfl, Nat.sub_self]
     rfl
   · rw [if_neg h2, show j - i = j - 1 - i + 1 by omega, List.getElem?_cons_succ, List.getElem?_drop, List.getElem?_map, show i + (j - 1 - i) = j - 1 by omega]
theorem QL (l : List Int) : (flat1 l).length = l.length := by simp [flat1]
theorem Qc2 (k : Nat) : (Builtin.zeroCells (Value.int .i64 0).cells k).size = k := by rw [size_zeroCells]; simp [Value.cells]
theorem Qfv (W : World) (xs : List Value) (n cap : Nat) (hx : xs.length = n) (hn : n ≤ cap) (hm : cap ≤ maxLen) :
 (W.drew.alloc (.cells (xs.toArray ++ Builtin.zeroCells (Value.int .i64 0).cells (cap - n)) 3)).ownsRow 0 3 1 (.slice (some ⟨W.heap.size, 0, none⟩) n cap) n xs := by
 refine Qaa (heap_alloc_new W.drew _) hn hm (by rw [Array.size_append, Qc2]; simp; omega) (by omega) fun j hj => ?_
 rw [Array.getElem?_append_left (by simp; omega)]
 simp
theorem Qf8 (w : World) (c : Int) : ∀ j v, [Value.int .i64 c][j]? = some v → (w.alloc (.cells #[.int .i64 c] 3)).cell? ⟨w.heap.size, 0 + j, none⟩ = some v := by
 intro j v hv
 rw [World.cell?_alloc_mark, Nat.zero_add]
 simpa using hv
theorem Qde (W : World) (o : Obj) (r : Option Nat) : W.grownBy (W.drew.alloc o) r := ⟨rfl, rfl, rfl, by simp, fun k hk _ => Below.heap_alloc W.drew o k hk⟩
theorem Qeb (b off n c i vb voff m vc : Nat) (cs vs : List Value) (w : World) (hi : i < n) (hm : 0 < m) (hnc : n ≤ c) (hroom : c < n + m) (hbig : (n + m) * 8 ≤ 140737488355328)
 (hcl : cs.length = n) (hvl : vs.length = m) (hcs : ∀ j v, cs[j]? = some v → w.cell? ⟨b, off + j, none⟩ = some v)
 (hvs : ∀ j v, vs[j]? = some v → w.cell? ⟨vb, voff + j, none⟩ = some v) (h1c : ∀ v ∈ cs, v.oneCell' = true) (h1v : ∀ v ∈ vs, v.oneCell' = true) :
 Calls Try.prog 71 #[.slice (some ⟨b, off, none⟩) n c, .int .i64 i, .slice (some ⟨vb, voff, none⟩) m vc] w fun e w' =>
  e = .returned (.slice (some ⟨w.heap.size, 0, none⟩) (n + m) (grownCap w (n + m) c 3)) ∧
  w' = (((w.alloc (.cells ((cs.take i).toArray ++ Builtin.zeroCells (Value.int .i64 0).cells (n + m - i) ++ Builtin.zeroCells (Value.int .i64 0).cells (grownCap w (n + m) c 3 - (n + m))) 3)).drew.setCells w.heap.size i vs).drew).setCells w.heap.size (i + m) (cs.drop i) :=
 Any2.slices_Insert_int_grow Try.layInsert b off n c i vb voff m vc cs vs w hi hm hnc hroom hbig hcl hvl hcs hvs h1c h1v
theorem Qe2 (v : Value) (l : List Int) (i : Nat) (c : Int) (w : World) (hv : OwnAt w v l) (hi : i ≤ l.length) (hl : l.length ≤ 1000) :
 Calls Try.prog 71 #[v, .int .i64 i, .slice (some ⟨w.heap.size, 0, none⟩) 1 1] (w.alloc (.cells #[.int .i64 c] 3)) fun e w' => ∃ v', e = .returned v' ∧ OwnAt w' v' (l.take i ++ c :: l.drop i) ∧ (w.alloc (.cells #[.int .i64 c] 3)).grownBy w' v.ownBlock ∧ ∀ k, v'.ownBlock = some k → v.ownBlock = some k ∨ w.heap.size + 1 ≤ k := by
 have hWs : (w.alloc (.cells #[.int .i64 c] 3)).heap.size = w.heap.size + 1 := by simp
 have harg := Qf8 w c
 have hlen : (l.take i ++ c :: l.drop i).length = l.length + 1 := by simp; omega
 have hone : ∀ u ∈ [Value.int .i64 c], u.oneCell' = true := QaS [c]
 have hv0 := hv
 have hml : ∀ n, n ≤ 2000 → n ≤ maxLen := fun n h => by unfold maxLen; omega
 unfold OwnAt
 rw [hlen]
 rcases hv.2 with ⟨rfl, hn⟩ | ⟨g, cap, cur, rfl, _, hg, hnc, hcm, hcs, htk⟩
 · have hl0 : l = [] := List.length_eq_zero_iff.1 hn
   subst hl0
   have hi0 : i = 0 := by simpa using hi
   subst hi0
   refine (Any2.slices_Insert_int_end_grow Try.layInsert none 0 0 w.heap.size 0 1 1 [] [.int .i64 c] (w.alloc (.cells #[.int .i64 c] 3)) (by omega) (by omega) (by omega) (by omega) rfl rfl (fun _ => rfl) (fun a h => by cases h) harg hone).mono ?_
   rintro e w' ⟨rfl, rfl⟩
   exact ⟨_, rfl, Qfv _ [.int .i64 c] 1 _ rfl (grownCap_ge _ _ _ _) (grownCap_le_maxLen _ _ _ _ (hml _ (by omega))), Qde _ _ _, fun k hk => .inr (by cases hk; simp)⟩
 · have hgw : g < w.heap.size := (Array.getElem?_eq_some_iff.1 hg).1
   have hgW : (w.alloc (.cells #[.int .i64 c] 3)).heap[g]? = some (.cells cur 3 (0, 0)) := by rw [Below.heap_alloc w _ g hgw, hg]
   have hcell : ∀ j, (w.alloc (.cells #[.int .i64 c] 3)).cell? ⟨g, j, none⟩ = cur[j]? := fun j => by simp only [World.cell?]; rw [hgW]; rfl
   have hfroz : ∀ j, (w.alloc (.cells #[.int .i64 c] 3)).frozen? ⟨g, j, none⟩ = false := fun j => by simp only [World.frozen?]; rw [hgW]; simp
   obtain ⟨cur1, hcur1, _, _, _, hget⟩ := QaU hv0
   rw [hg] at hcur1
   cases hcur1
   have hcsz : cur.size = cap := by omega
   have hold : ∀ j u, (flat1 l)[j]? = some u → (w.alloc (.cells #[.int .i64 c] 3)).cell? ⟨g, 0 + j, none⟩ = some u := fun j u hu => by
    have hj : j < l.length := by have := (List.getElem?_eq_some_iff.1 hu).1; rwa [QL] at this
    rw [Nat.zero_add, hcell, hget j (by omega), hu]
   have hc63 : cap ≤ 9223372036854775807 := by have := hcm; unfold maxLen at this; omega
   by_cases hin : i = l.length
   · subst hin
     by_cases hroom : l.length + 1 ≤ cap
     · refine (Any2.slices_Insert_int_end_room Try.layInsert g 0 l.length cap w.heap.size 0 1 1 [.int .i64 c] (w.alloc (.cells #[.int .i64 c] 3)) (by omega) hroom hc63 rfl (fun j hj => ?_) (fun j hj => hfroz _) harg hone).mono ?_
       · rw [hcell, Array.getElem?_eq_getElem (by omega)]; rfl
       · rintro e w' ⟨rfl, rfl⟩
         obtain ⟨cur', h1, h2, h3⟩ := Q0 [.int .i64 c] (0 + l.length) _ _ hgW
         refine ⟨_, rfl, Qaa h1 hroom hcm (by omega) (by rw [QL]; omega) fun j hj => ?_, QZ _ _ _, fun k hk => .inl hk⟩
         rw [h3 j, Qdr l l.length c hi j]
         by_cases e1 : j < l.length
         · rw [if_neg (by omega), if_pos e1, hget j (by omega)]
         · have e2 : j = l.length := by omega
           subst e2
           rw [if_pos (by simp; omega), if_neg e1, if_pos rfl, Nat.zero_add, Nat.sub_self]
           rfl
     · refine (Any2.slices_Insert_int_end_grow Try.layInsert (some ⟨g, 0, none⟩) l.length cap w.heap.size 0 1 1 (flat1 l) [.int .i64 c] (w.alloc (.cells #[.int .i64 c] 3)) (by omega) hnc (by omega) (by omega) (QL l) rfl (fun h => by cases h) (fun a h j u hu => by cases h; rw [WideShapes.add_plain]; exact hold j u hu) harg hone).mono ?_
       rintro e w' ⟨rfl, rfl⟩
       refine ⟨_, rfl, ?_, Qde _ _ _, fun k hk => .inr (by cases hk; simp)⟩
       have hr := Qfv (w.alloc (.cells #[.int .i64 c] 3)) (flat1 l ++ [.int .i64 c]) (l.length + 1) _ (by rw [List.length_append, QL]; rfl) (grownCap_ge (w.alloc (.cells #[.int .i64 c] 3)) (l.length + 1) cap 3) (grownCap_le_maxLen _ _ _ _ (hml _ (by omega)))
       have e : flat1 (l.take l.length ++ c :: l.drop l.length) = flat1 l ++ [.int .i64 c] := by simp [flat1]
       rw [e]
       exact hr
   · have hilt : i < l.length := by omega
     by_cases hroom : l.length + 1 ≤ cap
     · refine (Any2.slices_Insert_int_shift Try.layInsert g 0 l.length cap i w.heap.size 0 1 1 (flat1 l) [.int .i64 c] (w.alloc (.cells #[.int .i64 c] 3)) hilt (by omega) hroom hc63 (by omega) (QL l) rfl hold (fun j hj => ?_) (fun j hj => hfroz _) harg (QaS l) hone 3 3 1 cur.size ?_ ?_ (by omega) ?_ ?_).mono ?_
       · rw [hcell, Array.getElem?_eq_getElem (by omega)]; rfl
       · unfold World.shape?; rw [heap_alloc_new]; rfl
       · unfold World.shape?; rw [hgW]
       · simp only [World.frozen?, heap_alloc_new]; simp
       · simp only [World.frozen?, heap_alloc_new]; simp
       · rintro e w' ⟨rfl, rfl⟩
         obtain ⟨cur', h1, h2, h3⟩ := Q0 ((flat1 l).drop i) (0 + (i + 1)) (w.alloc (.cells #[.int .i64 c] 3)).drew _ hgW
         obtain ⟨cur2, k1, k2, k3⟩ := Q0 [.int .i64 c] (0 + i) _ _ h1
         have hG : (w.alloc (.cells #[.int .i64 c] 3)).grownBy (((w.alloc (.cells #[.int .i64 c] 3)).drew.setCells g (0 + (i + 1)) ((flat1 l).drop i)).setCells g (0 + i) [.int .i64 c]) (some g) := by
          have a1 := QZ (b := g) ((flat1 l).drop i) (0 + (i + 1)) (w.alloc (.cells #[.int .i64 c] 3)).drew
          have a2 := QZ (b := g) [.int .i64 c] (0 + i) ((w.alloc (.cells #[.int .i64 c] 3)).drew.setCells g (0 + (i + 1)) ((flat1 l).drop i))
          exact ⟨a2.os.trans a1.os, a2.tape.trans a1.tape, a2.output.trans a1.output, Nat.le_trans a1.size a2.size, fun k hk hr => by rw [a2.block k (Nat.lt_of_lt_of_le hk a1.size) hr, a1.block k hk hr]; rfl⟩
         refine ⟨_, rfl, Qaa k1 hroom hcm (by omega) (by rw [QL]; omega) fun j hj => ?_, hG, fun k hk => .inl hk⟩
         rw [k3 j, Qdr l i c hi j]
         by_cases e1 : j < i
         · rw [if_neg (by omega), if_pos e1, h3 j, if_neg (by omega), hget j (by omega)]
         · rw [if_neg e1]
           by_cases e2 : j = i
           · subst e2
             rw [if_pos (by simp; omega), if_pos rfl, Nat.zero_add, Nat.sub_self]
             rfl
           · rw [if_neg (by simp; omega), if_neg e2, h3 j, if_pos (by rw [List.length_drop, QL]; omega), List.getElem?_drop]
             congr 1
             omega
     · refine (Qeb g 0 l.length cap i w.heap.size 0 1 1 (flat1 l) [.int .i64 c] (w.alloc (.cells #[.int .i64 c] 3)) hilt (by omega) hnc (by omega) (by omega) (QL l) rfl hold harg (QaS l) hone).mono ?_
       rintro e w' ⟨rfl, hw'⟩
       have hge := grownCap_ge (w.alloc (.cells #[.int .i64 c] 3)) (l.length + 1) cap 3
       have hle := grownCap_le_maxLen (w.alloc (.cells #[.int .i64 c] 3)) (l.length + 1) cap 3 (hml _ (by omega))
       generalize w.alloc (.cells #[.int .i64 c] 3) = W at *
       generalize grownCap W (l.length + 1) cap 3 = nc at *
       have hA0 : (W.alloc (.cells (((flat1 l).take i).toArray ++ Builtin.zeroCells (Value.int .i64 0).cells (l.length + 1 - i) ++ Builtin.zeroCells (Value.int .i64 0).cells (nc - (l.length + 1))) 3)).drew.heap[W.heap.size]? = _ := heap_alloc_new W _
       have hA : W.grownBy (W.alloc (.cells (((flat1 l).take i).toArray ++ Builtin.zeroCells (Value.int .i64 0).cells (l.length + 1 - i) ++ Builtin.zeroCells (Value.int .i64 0).cells (nc - (l.length + 1))) 3)).drew (some g) := ⟨rfl, rfl, rfl, by simp, fun k hk _ => Below.heap_alloc W _ k hk⟩
       generalize (W.alloc (.cells (((flat1 l).take i).toArray ++ Builtin.zeroCells (Value.int .i64 0).cells (l.length + 1 - i) ++ Builtin.zeroCells (Value.int .i64 0).cells (nc - (l.length + 1))) 3)).drew = A at *
       obtain ⟨cur', h1, h2, h3⟩ := Q0 [.int .i64 c] i _ _ hA0
       have a1 := QZ (b := W.heap.size) [.int .i64 c] i A
       generalize A.setCells W.heap.size i [.int .i64 c] = B at *
       obtain ⟨cur2, k1, k2, k3⟩ := Q0 ((flat1 l).drop i) (i + 1) B.drew _ h1
       have a2 := QZ (b := W.heap.size) ((flat1 l).drop i) (i + 1) B.drew
       rw [← hw'] at k1 a2
       refine ⟨_, rfl, ?_, ?_, fun k hk => .inr (by cases hk; show w.heap.size + 1 ≤ W.heap.size; omega)⟩
       · have hsz : cur'.size = nc := by
          rw [h2]
          simp only [Array.size_append, Qc2, List.size_toArray, List.length_take, QL]
          omega
         refine Qaa k1 hge hle (by omega) (by rw [QL]; omega) fun j hj => ?_
         rw [k3 j, Qdr l i c hi j]
         by_cases e1 : j < i
         · rw [if_neg (by omega), if_pos e1, h3 j, if_neg (by omega), Array.append_assoc, Array.getElem?_append_left (by simp [QL]; omega)]
           simp [e1]
         · rw [if_neg e1]
           by_cases e2 : j = i
           · subst e2
             rw [if_neg (by omega), if_pos rfl, h3 j, if_pos (by rw [← h2, hsz]; simp; omega), Nat.sub_self]
             rfl
           · rw [if_neg e2, if_pos (by rw [List.length_drop, QL]; omega), List.getElem?_drop]
             congr 1
             omega
       · exact ⟨a2.os.trans (a1.os.trans hA.os), a2.tape.trans (a1.tape.trans hA.tape), a2.output.trans (a1.output.trans hA.output), Nat.le_trans hA.size (Nat.le_trans a1.size a2.size), fun k hk hr => by
          have n1 : some k ≠ some W.heap.size := fun e => by have := Option.some.inj e; omega
          rw [a2.block k (Nat.lt_of_lt_of_le hk (Nat.le_trans hA.size a1.size)) n1]
          refine (a1.block k (Nat.lt_of_lt_of_le hk hA.size) n1).trans ?_
          exact hA.block k hk hr⟩
theorem Qd8 (v : Value) (l : List Int) (c : Int) (w : World) (hv : OwnAt w v l) (hs : l.Pairwise (· < ·)) (hl : l.length ≤ 1000) :
 Calls Try.prog 70 #[v, .int .i64 c] w fun e w' => e = .returned (.tuple #[.int .i64 (l.countP (· < c) : Nat), .bool (l.contains c)]) ∧ Below w.heap.size w w' := by
 have hv0 := hv
 rcases hv.2 with ⟨rfl, hn⟩ | ⟨g, cap, cur, rfl, _, hg, hnc, hcm, hcs, htk⟩
 · have hl0 : l = [] := List.length_eq_zero_iff.1 hn
   subst hl0
   refine (Try.slices_BinarySearch_int_empty none 0 c w).mono ?_
   rintro e w' ⟨rfl, rfl⟩
   exact ⟨rfl, Below.refl _ _⟩
 · obtain ⟨cur1, hcur1, _, _, _, hget⟩ := QaU hv0
   refine (Try.slices_BinarySearch_int g 0 l.length cap l c w (Nat.le_refl _) (by omega) (fun j hj => ?_) ?_).mono ?_
   · have e : w.cell? ⟨g, 0 + j, none⟩ = cur1[j]? := by simp only [World.cell?]; rw [hcur1, Nat.zero_add]; rfl
     rw [e, hget j (by omega)]
     simp [flat1, hj]
   · rw [List.take_length]
     exact hs.imp fun h => Int.le_of_lt h
   · rintro e w' ⟨rfl, q, rfl⟩
     rw [List.take_length]
     exact ⟨rfl, Qq w q⟩
theorem TAt.after {w w1 : World} {kb o : Nat} {F : List Nat} {v : ThrV} {th : Thr} (h : TAt w kb o F v th) {r : Option Nat} (hg : w.grownBy w1 r) (hr : ∀ k, r = some k → k ∈ rowsOf v) {j : Nat} {u : Value} (hc : w.cell? ⟨kb, j, none⟩ = some u) : w1.cell? ⟨kb, j, none⟩ = some u ∧ w1.frozen? ⟨kb, j, none⟩ = false := by
 have hk := h.kb_rows
 have hb := hg.block kb (Qb hc) (fun e => hk (hr kb e.symm))
 have hf := h.frozen j
 refine ⟨by rw [World.cell?_of_block (w := w) hb, hc], by rw [World.frozen?_of_block (w := w) hb, hf]⟩
theorem ownV {w : World} {v : Value} {l : List Int} (h : OwnAt w v l) : ∃ p cap, v = .slice p l.length cap := by
 obtain ⟨p, cap, e, _⟩ := QN h
 exact ⟨p, cap, e⟩
set_option maxRecDepth 100000 in
set_option maxHeartbeats 1600000 in
theorem Qfu (kb o : Nat) (F : List Nat) (v : ThrV) (th : Thr) (c : Int) (w : World) (h : TAt w kb o F v th) (hs : th.own.Pairwise (· < ·)) (hl : th.own.length ≤ 8) :
 Calls Try.prog 55 #[.pointer (some ⟨kb, o, none⟩), .int .i64 c] w fun e w' => e = .returned (.int .i64 (ownL th.own c).1) ∧ ∃ G v', TAt w' kb o G v' { th with own := (ownL th.own c).2 } ∧ TStep kb o w F v w' G v' := by
 have HO : Hid (ownL th.own c = if th.own.contains c then (0, th.own) else if 8 ≤ th.own.length then (5, th.own) else (0, insL th.own c)) := hid rfl
 obtain ⟨_, c1, _, _, _⟩ := h.cells
 have ho := h.thr.2.1
 obtain ⟨p, cap, hvo⟩ := ownV ho
 have hbs := Qd8 v.vo th.own c w ho hs (by omega)
 have HV := hid hvo
 have hcnt : th.own.countP (· < c) ≤ th.own.length := List.countP_le_length
 generalize hk : th.own.countP (· < c) = n at *
 have HK := hid hk
 rw [hvo] at c1 hbs
 clear hvo ho hk hs
 cases hcon : th.own.contains c with
 | true =>
  rw [hcon] at hbs
  have HO2 : Hid (ownL th.own c = (0, th.own)) := hid (by rw [HO.out, hcon]; rfl)
  clear HO
  go_enter Try.func55, Try.ntmps55
  go_wp2_with (go_at_call 70; refine hbs.mono ?_; rintro e w1 ⟨rfl, hw1⟩)
  go_ret
  rw [HO2.out]
  exact ⟨rfl, F, v, h.below hw1, TStep.below hw1⟩
 | false =>
  rw [hcon] at hbs
  by_cases h8 : 8 ≤ th.own.length
  · have HO2 : Hid (ownL th.own c = (5, th.own)) := hid (by rw [HO.out, hcon, if_pos h8]; rfl)
    clear HO
    go_enter Try.func55, Try.ntmps55
    go_wp2_with (go_at_call 70; refine hbs.mono ?_; rintro e w1 ⟨rfl, hw1⟩; have h1 := h.below hw1; obtain ⟨_, d1, _, _, _⟩ := h1.cells; rw [HV.out] at d1)
    go_ret
    rw [HO2.out]
    exact ⟨rfl, F, v, h1, TStep.below hw1⟩
  · have HO2 : Hid (ownL th.own c = (0, insL th.own c)) := hid (by rw [HO.out, hcon, if_neg h8]; rfl)
    clear HO
    go_enter Try.func55, Try.ntmps55
    go_wp2_with (first
     | (go_at_call 70; refine hbs.mono ?_; rintro e w1 ⟨rfl, hw1⟩; have h1 := h.below hw1; obtain ⟨_, d1, _, _, _⟩ := h1.cells; rw [HV.out] at d1; have hins := Qe2 v.vo th.own n c w1 h1.thr.2.1 hcnt (by omega); rw [HV.out] at hins; generalize hl2 : th.own.take n ++ c :: th.own.drop n = l2 at hins; have HL2 := hid hl2; clear hl2)
     | (go_at_call 71; refine hins.mono ?_; rintro e w2 ⟨vo2, rfl, hown2, hg2, hwh2⟩; have h1b := h1.below (Qe w1 (.cells #[.int .i64 c] 3)); have hst := h1b.own (by rw [HV.out]; exact hg2) hown2 (by rw [HV.out]; intro k hk; have := hwh2 k hk; simpa using this); obtain ⟨d2, f2⟩ := h1b.after hg2 (fun k hk => mem_rows.2 (.inl (by rw [HV.out]; exact hk))) (h1b.cells.2.1); obtain ⟨p2, cap2, hv2⟩ := ownV hown2; subst hv2))
    go_ret
    rw [HO2.out]
    have e2 : insL th.own c = l2 := by unfold insL; rw [HK.out, HL2.out]
    simp only [e2]
    exact ⟨rfl, _, _, hst.1, (TStep.below hw1).trans ((TStep.below (Qe _ _)).trans hst.2)⟩
end Go.Proofs.Ytpdijobakfpnbaa
