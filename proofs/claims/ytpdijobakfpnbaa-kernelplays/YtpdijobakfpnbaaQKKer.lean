/- A row that was cut from the front: where it lies, and append of one more. -/
import Derived.Test.YtpdijobakfpnbaaQKAns
import Derived.Test.YtpdijobakfpnbaaQPlain
import Derived.WalkSpells
namespace Go.Proofs.Ytpdijobakfpnbaa
open Go.RowKit Go.Proofs.Parclose
def cutRow (w : World) (e : TypeId) (size : Nat) (v : Value) (n : Nat) (xs : List Value) : Prop :=
 xs.length = n * size ∧ ((v = .slice none 0 0 ∧ n = 0) ∨ ∃ g o cap cur, v = .slice (some ⟨g, o * size, none⟩) n cap ∧ w.heap[g]? = some (.cells cur e (0, 0)) ∧ n ≤ cap ∧ cap ≤ maxLen ∧ (o + cap) * size ≤ cur.size ∧ ∀ j u, xs[j]? = some u → cur[o * size + j]? = some u)
theorem Qg4 (w : World) (e : TypeId) (size : Nat) : cutRow w e size (.slice none 0 0) 0 [] := ⟨by simp, .inl ⟨rfl, rfl⟩⟩
theorem Qax {w : World} {b : Nat} {e : TypeId} {size : Nat} {v : Value} {n : Nat} {xs : List Value} (h : w.ownsRow b e size v n xs) : cutRow w e size v n xs := by
 refine ⟨h.1, ?_⟩
 rcases h.2 with hn | ⟨g, cap, cur, rfl, _, hgg, h1, h2, h3, h4⟩
 · exact .inl hn
 · refine .inr ⟨g, 0, cap, cur, by rw [Nat.zero_mul], hgg, h1, h2, by rw [Nat.zero_add, h3]; exact Nat.le_refl _, fun j u hu => ?_⟩
   rw [Nat.zero_mul, Nat.zero_add, ← Array.getElem?_toList]
   have hj := (List.getElem?_eq_some_iff.1 hu).1
   rw [← h4, List.getElem?_take] at hu
   split at hu
   · exact hu
   · cases hu
theorem Qcv {w w' : World} {F : List Nat} {e : TypeId} {size : Nat} {v : Value} {n : Nat} {xs : List Value} (h : cutRow w e size v n xs) (hk : KeptF F w w') (hv : ∀ k, v.ownBlock = some k → k ∉ F) : cutRow w' e size v n xs := by
 refine ⟨h.1, ?_⟩
 rcases h.2 with hn | ⟨g, o, cap, cur, rfl, hgg, rest⟩
 · exact .inl hn
 · exact .inr ⟨g, o, cap, cur, rfl, hk.heap hgg (hv g rfl), rest⟩
theorem Qgf {w : World} {e : TypeId} {size : Nat} {v : Value} {n : Nat} {xs : List Value} (h : cutRow w e size v n xs) {k : Nat} (hk : v.ownBlock = some k) : k < w.heap.size := by
 rcases h.2 with ⟨rfl, _⟩ | ⟨g, o, cap, cur, rfl, hgg, _⟩
 · cases hk
 · cases hk
   exact QJ hgg
theorem QbL {w : World} {e e' : TypeId} {s s' : Nat} {v v' : Value} {n n' : Nat} {xs xs' : List Value} (h : cutRow w e s v n xs) (h' : cutRow w e' s' v' n' xs') (hne : e ≠ e') {k : Nat} (hk : v.ownBlock = some k) : v'.ownBlock ≠ some k := by
 intro hk'
 rcases h.2 with ⟨rfl, _⟩ | ⟨g, o, cap, cur, rfl, hh, _⟩
 · cases hk
 · rcases h'.2 with ⟨rfl, _⟩ | ⟨g', o', cap', cur', rfl, hh', _⟩
   · cases hk'
   · cases hk
     cases hk'
     rw [hh] at hh'
     injection hh' with hh'
     injection hh' with _ h2 _
     exact hne h2
theorem QfA {w : World} {e t : TypeId} {s : Nat} {v : Value} {n : Nat} {xs : List Value} {C : Array Value} {kb : Nat} (h : cutRow w e s v n xs) (hb : w.heap[kb]? = some (.cells C t (0, 0))) (hne : e ≠ t) : v.ownBlock ≠ some kb := by
 intro hk
 rcases h.2 with ⟨rfl, _⟩ | ⟨g, o, cap, cur, rfl, hh, _⟩
 · cases hk
 · cases hk
   rw [hh] at hb
   injection hb with hb
   injection hb with _ h2 _
   exact hne h2
theorem Q6 {w : World} {e : TypeId} {size : Nat} {v : Value} {n : Nat} {xs : List Value} (h : cutRow w e size v n xs) : ∃ p cap, v = .slice p n cap ∧ n ≤ cap ∧ (p = none → cap = 0) ∧ (0 < n → ∃ g o, p = some ⟨g, o, none⟩ ∧ (∀ j u, xs[j]? = some u → w.cell? ⟨g, o + j, none⟩ = some u)) := by
 rcases h.2 with ⟨rfl, rfl⟩ | ⟨g, o, cap, cur, rfl, hgg, h1, _, h3, h4⟩
 · exact ⟨none, 0, rfl, Nat.le_refl _, fun _ => rfl, fun h => absurd h (by omega)⟩
 · refine ⟨_, cap, rfl, h1, (fun e => nomatch e), fun _ => ⟨g, o * size, rfl, fun j u hu => ?_⟩⟩
   rw [Qa hgg]
   exact h4 j u hu
theorem Qfl {w : World} {t ty e : TypeId} {i : TypeInfo} {z : Value} {size bytes : Nat} (ht : Try.prog.underlying t = some (.slice e)) (hi : Try.prog.info? e = some i) (hz : i.zero = some z) (hsize : i.size = size) (hby : i.bytes = bytes) (hzs : z.cells.size = size) (hsz : 0 < size)
 {v : Value} {n : Nat} {xs : List Value} (hown : cutRow w e size v n xs) {a : Addr} {c : Nat} {news : List Value} (hl : news.length = size) (hnews : ∀ j u, news[j]? = some u → w.cell? (a.add j) = some u) (h1 : ∀ u ∈ news, u.oneCell' = true)
 (h63 : n + 1 ≤ maxLen) (hbytes : (n + 1) * bytes ≤ 140737488355328) :
 ∃ v' w', (Builtin.append_ #[t, t] ty #[v, .slice (some a) 1 c]).run Try.prog w = .ok v' w' ∧ cutRow w' e size v' (n + 1) (xs ++ news) ∧ w.grownBy w' v.ownBlock ∧ ∀ k, v'.ownBlock = some k → v.ownBlock = some k ∨ w.heap.size ≤ k := by
 subst hsize
 subst hby
 have hl1 : news.length = 1 * i.size := by omega
 rcases hown.2 with ⟨rfl, rfl⟩ | ⟨g, o, cap, cur, rfl, hg, hnc, hcm, hcs, htake⟩
 · have hx : xs = [] := List.eq_nil_of_length_eq_zero (by simpa using hown.1)
   subst hx
   obtain ⟨v', w', hr, h2, h3, h4⟩ := Qa0 (ty := ty) (c := c) ht hi hz rfl rfl hzs hsz (World.ownsRow_nil w 0 e i.size) hl1 hnews h1 h63 hbytes
   exact ⟨v', w', hr, Qax h2, h3, h4⟩
 · have hlen : (xs ++ news).length = (n + 1) * i.size := by rw [List.length_append, hown.1, hl, Nat.add_mul, Nat.one_mul]
   by_cases hroom : n + 1 ≤ cap
   · have hfit : o * i.size + n * i.size + news.length ≤ cur.size := by
      refine Nat.le_trans ?_ hcs
      rw [hl, ← Nat.add_mul, ← Nat.succ_mul]
      exact Nat.mul_le_mul_right _ (by omega)
     have hf := run_firstCells_some (P := Try.prog) w i.size 1 a 1 c news hl1 hnews
     have hst := run_storeCells_at Try.prog g (o * i.size + n * i.size) e news 0 cur w hg (by simpa using hfit) h1
     simp only [Nat.add_zero] at hst
     refine ⟨.slice (some ⟨g, o * i.size, none⟩) (n + 1) cap, w.setRow g (cur.toList.take (o * i.size + n * i.size) ++ news ++ cur.toList.drop (o * i.size + n * i.size + news.length)).toArray, ?_, ⟨hlen, .inr ⟨g, o, cap, _, rfl, setRow_heap w g cur _ e _ hg, hroom, hcm, ?_, ?_⟩⟩, ⟨rfl, rfl, rfl, by simp, fun k _ hk => setRow_other w g k _ (fun e => hk (by simp [Value.ownBlock, e]))⟩, fun k hk => .inl hk⟩
     · simp [Builtin.append_, run_underlying ht, sizeOf, typeInfo, hi, Builtin.lenOf, hroom, hf, Addr.add_lit, hst]
     · simp only [List.size_toArray, List.length_append, List.length_take, List.length_drop, Array.length_toList]
       omega
     · intro j u hu
       have hj := (List.getElem?_eq_some_iff.1 hu).1
       rw [List.getElem?_toArray]
       have ht : (cur.toList.take (o * i.size + n * i.size)).length = o * i.size + n * i.size := by rw [List.length_take, Array.length_toList]; omega
       by_cases hjx : j < xs.length
       · rw [List.getElem?_append_left hjx] at hu
         have hx := hown.1
         rw [List.append_assoc, List.getElem?_append_left (by omega), List.getElem?_take, if_pos (by omega), Array.getElem?_toList]
         exact htake j u hu
       · rw [List.getElem?_append_right (by omega)] at hu
         have hx := hown.1
         rw [List.append_assoc, List.getElem?_append_right (by omega), ht, List.getElem?_append_left (by rw [hlen] at hj; rw [Nat.add_mul, Nat.one_mul] at hj; omega)]
         rw [show o * i.size + j - (o * i.size + n * i.size) = j - xs.length by omega]
         exact hu
   · have holds : ∀ j u, xs[j]? = some u → w.cell? ((⟨g, o * i.size, none⟩ : Addr).add j) = some u := fun j u hu => by
      rw [WideShapes.add_plain, Qa hg]
      exact htake j u hu
     have hr := run_append_grow (P := Try.prog) w t ty e i z ht hi hz ⟨g, o * i.size, none⟩ n cap xs hown.1 holds a 1 c news hl1 hnews (by omega) (by simp only [maxLen] at h63; omega) (growslice_fits (by omega) hbytes)
     have hge := grownCap_ge w (n + 1) cap e
     have hcm2 : grownCap w (n + 1) cap e ≤ maxLen := grownCap_le_maxLen w (n + 1) cap e h63
     refine ⟨_, _, hr, Qax (b := 0) ⟨hlen, .inr ⟨w.heap.size, _, _, rfl, Nat.zero_le _, heap_alloc_new w.drew _, hge, hcm2, ?_, ?_⟩⟩, ⟨rfl, rfl, rfl, by simp, fun k hk _ => _root_.Go.heap_alloc_old w.drew _ hk⟩, fun k hk => .inr (by cases hk; exact Nat.le_refl _)⟩
     · simp only [Array.size_append, List.size_toArray, size_zeroCells, hzs, hown.1, hl1, ← Nat.add_mul]
       rw [Nat.add_sub_cancel' hge]
     · simp only [Array.toList_append, List.append_assoc]
       rw [← List.append_assoc, ← hlen]
       exact List.take_left
theorem Qf3 {w : World} {e : TypeId} {size : Nat} {g a n cap : Nat} {xs : List Value} (h : cutRow w e size (.slice (some ⟨g, a, none⟩) (n + 1) cap) (n + 1) xs) : cutRow w e size (.slice (if cap = 1 then some ⟨g, a, none⟩ else some ⟨g, a + size, none⟩) n (cap - 1)) n (xs.drop size) := by
 obtain ⟨hl, h2⟩ := h
 rcases h2 with ⟨e, _⟩ | ⟨g', o, cap', cur, e, hg, hnc, hcm, hcs, hc⟩
 · cases e
 · cases e
   refine ⟨by rw [List.length_drop, hl, Nat.succ_mul]; omega, .inr ?_⟩
   by_cases h1 : cap = 1
   · rw [if_pos h1]
     refine ⟨g, o, cap - 1, cur, rfl, hg, by omega, by omega, ?_, fun j u hu => ?_⟩
     · exact Nat.le_trans (Nat.mul_le_mul_right _ (by omega)) hcs
     · have hj := (List.getElem?_eq_some_iff.1 hu).1
       rw [List.length_drop, hl, show n + 1 = 1 by omega, Nat.one_mul] at hj
       omega
   · rw [if_neg h1]
     refine ⟨g, o + 1, cap - 1, cur, by rw [Nat.succ_mul], hg, by omega, by omega, ?_, fun j u hu => ?_⟩
     · rw [show o + 1 + (cap - 1) = o + cap by omega]
       exact hcs
     · rw [List.getElem?_drop] at hu
       rw [Nat.succ_mul, Nat.add_assoc]
       exact hc _ u hu
structure KerAt (w : World) (kb : Nat) (F : List Nat) (V : List ThrV) (K : Ker) : Prop where
 len : V.length = 4
 lenK : K.ths.length = 4
 box : ∃ C, w.heap[kb]? = some (.cells C 58 (0, 0)) ∧ C[0]? = some (.int .i64 K.host) ∧ C[1]? = some (.int .i64 K.made) ∧
  ∀ t (h1 : t < V.length) (h2 : t < K.ths.length), C[2 + t * 5]? = some V[t].vl ∧ C[2 + t * 5 + 1]? = some V[t].vo ∧ C[2 + t * 5 + 2]? = some (.string ⟨K.ths[t].text.toArray⟩) ∧ C[2 + t * 5 + 3]? = some V[t].vj ∧ C[2 + t * 5 + 4]? = some V[t].vm
 thr : ∀ t (h1 : t < V.length) (h2 : t < K.ths.length), ThrAt w F V[t] K.ths[t]
 rows : ∀ t (h1 : t < V.length), ∀ k ∈ rowsOf V[t], k ∈ F
 apart : ∀ s t (hs : s < V.length) (ht : t < V.length), s ≠ t → ∀ k ∈ rowsOf V[s], k ∉ rowsOf V[t]
 kbF : kb ∈ F
 fin : ∀ k ∈ F, k < w.heap.size
theorem KerAt.tat {w : World} {kb : Nat} {F : List Nat} {V : List ThrV} {K : Ker} (h : KerAt w kb F V K) (t : Nat) (h1 : t < V.length) (h2 : t < K.ths.length) : TAt w kb (2 + t * 5) F V[t] K.ths[t] := by
 obtain ⟨C, hC, _, _, hc⟩ := h.box
 exact ⟨⟨C, hC, hc t h1 h2⟩, h.thr t h1 h2, h.rows t h1, h.kbF, h.fin⟩
theorem KerAt.step {w w' : World} {kb : Nat} {F G : List Nat} {V : List ThrV} {K : Ker} {t : Nat} {v' : ThrV} {th' : Thr} (h : KerAt w kb F V K) (h1 : t < V.length) (h2 : t < K.ths.length) (ht : TAt w' kb (2 + t * 5) G v' th') (hs : TStep kb (2 + t * 5) w F V[t] w' G v') : KerAt w' kb G (V.set t v') { K with ths := K.ths.set t th' } := by
 have hkr := (h.tat t h1 h2).kb_rows
 obtain ⟨C, hC, c0, c1, hc⟩ := h.box
 obtain ⟨C', hC', hsz, hout⟩ := hs.box C hC
 obtain ⟨C2, hC2, hc2⟩ := ht.box
 rw [hC'] at hC2
 cases hC2
 refine ⟨by simp [h.len], by simp [h.lenK], ⟨C', hC', by rw [hout 0 (by omega), c0], by rw [hout 1 (by omega), c1], fun s g1 g2 => ?_⟩, fun s g1 g2 => ?_, fun s g1 k hk => ?_, fun s u g1 g2 hne k hk => ?_, hs.more.1 kb h.kbF, ht.fin⟩
 · rw [List.length_set] at g1 g2
   by_cases e : t = s
   · subst e
     simp only [List.getElem_set_self]
     exact hc2
   · rw [List.getElem_set_ne e, List.getElem_set_ne e]
     obtain ⟨d0, d1, d2, d3, d4⟩ := hc s g1 g2
     refine ⟨?_, ?_, ?_, ?_, ?_⟩
     · rw [hout _ (by omega), d0]
     · rw [hout _ (by omega), d1]
     · rw [hout _ (by omega), d2]
     · rw [hout _ (by omega), d3]
     · rw [hout _ (by omega), d4]
 · rw [List.length_set] at g1 g2
   by_cases e : t = s
   · subst e
     simp only [List.getElem_set_self]
     exact ht.thr
   · rw [List.getElem_set_ne e, List.getElem_set_ne e]
     refine (h.thr s g1 g2).keep hs.kept (fun k e => ?_) hs.more fun k hk e2 => ?_
     · rcases List.mem_cons.1 e with rfl | e
       · exact h.kbF
       · exact h.rows t h1 k e
     · rcases List.mem_cons.1 e2 with rfl | e2
       · exact (h.tat s g1 g2).kb_rows hk
       · exact h.apart t s h1 g1 e k e2 hk
 · rw [List.length_set] at g1
   by_cases e : t = s
   · subst e
     rw [List.getElem_set_self] at hk
     exact ht.rows k hk
   · rw [List.getElem_set_ne e] at hk
     exact hs.more.1 k (h.rows s g1 k hk)
 · rw [List.length_set] at g1 g2
   have key : ∀ a (ga : a < V.length), t ≠ a → ∀ k ∈ rowsOf v', k ∉ rowsOf V[a] := fun a ga hna k hk hm => by
    rcases hs.rows k hk with g | g
    · exact h.apart t a h1 ga hna k g hm
    · have := h.fin k (h.rows a ga k hm); omega
   by_cases e : t = s
   · subst e
     rw [List.getElem_set_self] at hk
     rw [List.getElem_set_ne hne]
     exact key u g2 hne k hk
   · rw [List.getElem_set_ne e] at hk
     by_cases e2 : t = u
     · subst e2
       rw [List.getElem_set_self]
       exact fun hm => key s g1 e k hm hk
     · rw [List.getElem_set_ne e2]
       exact h.apart s u g1 g2 hne k hk
theorem KerAt.below {w w' : World} {kb : Nat} {F : List Nat} {V : List ThrV} {K : Ker} (h : KerAt w kb F V K) (hb : Below w.heap.size w w') : KerAt w' kb F V K := by
 obtain ⟨C, hC, hc⟩ := h.box
 exact ⟨h.len, h.lenK, ⟨C, Qc hC hb, hc⟩, fun t g1 g2 => (h.thr t g1 g2).keep (R := []) (Qk _ hb) (fun _ h => by cases h) (More.refl _ _) (fun _ _ h => by cases h), h.rows, h.apart, h.kbF, fun k hk => Nat.lt_of_lt_of_le (h.fin k hk) hb.size⟩
theorem QaE (kb : Nat) (t : Int) (w : World) (ht : ¬ (0 ≤ t ∧ t < 4)) : Calls Try.prog 17 #[.pointer (some ⟨kb, 0, none⟩), .int .i64 t] w fun e w' => e = .returned (.pointer none) ∧ w' = w := by
 by_cases h0 : t < 0
 · go_enter Try.func17, Try.ntmps17
   go_wp2
   go_ret
   exact ⟨rfl, rfl⟩
 · have h4 : 4 ≤ t := by omega
   go_enter Try.func17, Try.ntmps17
   go_wp2
   go_ret
   exact ⟨rfl, rfl⟩
theorem Qz (kb t : Nat) (w : World) (ht : t < 4) : Calls Try.prog 17 #[.pointer (some ⟨kb, 0, none⟩), .int .i64 t] w fun e w' => e = .returned (.pointer (some ⟨kb, 2 + t * 5, none⟩)) ∧ w' = w := by
 have h0 : ¬ ((t : Int) < 0) := by omega
 have h4 : ¬ ((4 : Int) ≤ t) := by omega
 have h5 : (t : Int) < 4 := by omega
 go_enter Try.func17, Try.ntmps17
 go_wp2
 go_ret
 exact ⟨rfl, rfl⟩
def nilV : ThrV := ⟨.slice none 0 0, .slice none 0 0, .slice none 0 0, .slice none 0 0⟩
theorem Qcn (w : World) (F : List Nat) : ThrAt w F nilV zeroThr :=
 ⟨⟨LabAt.nil _ _ _ (fun _ => rfl), fun h => by cases h⟩, World.ownsRow_nil _ _ _ _, ⟨[], rfl, World.ownsRow_nil _ _ _ _, fun j h => by cases h⟩, ⟨[], rfl, World.ownsRow_nil _ _ _ _, fun j h => by cases h⟩⟩
theorem QgB (w : World) (host : Int) : KerAt (w.alloc (.cells #[.int .i64 host, .int .i64 0, .slice none 0 0, .slice none 0 0, .string ⟨#[]⟩, .slice none 0 0, .slice none 0 0, .slice none 0 0, .slice none 0 0, .string ⟨#[]⟩, .slice none 0 0, .slice none 0 0, .slice none 0 0, .slice none 0 0, .string ⟨#[]⟩, .slice none 0 0, .slice none 0 0, .slice none 0 0, .slice none 0 0, .string ⟨#[]⟩, .slice none 0 0, .slice none 0 0] 58)) w.heap.size [w.heap.size] [nilV, nilV, nilV, nilV] (freshKer host) := by
 refine ⟨rfl, rfl, ⟨_, heap_alloc_new w _, rfl, rfl, fun t h1 h2 => ?_⟩, fun t h1 h2 => ?_, fun t h1 k hk => ?_, fun s t hs ht _ k hk => ?_, by simp, fun k hk => by simp at hk; subst hk; simp⟩
 · match t, h1, h2 with
   | 0, _, _ => exact ⟨rfl, rfl, rfl, rfl, rfl⟩
   | 1, _, _ => exact ⟨rfl, rfl, rfl, rfl, rfl⟩
   | 2, _, _ => exact ⟨rfl, rfl, rfl, rfl, rfl⟩
   | 3, _, _ => exact ⟨rfl, rfl, rfl, rfl, rfl⟩
 · match t, h1, h2 with
   | 0, _, _ => exact Qcn _ _
   | 1, _, _ => exact Qcn _ _
   | 2, _, _ => exact Qcn _ _
   | 3, _, _ => exact Qcn _ _
 · match t, h1, hk with
   | 0, _, hk => cases hk
   | 1, _, hk => cases hk
   | 2, _, hk => cases hk
   | 3, _, hk => cases hk
 · match s, hs, hk with
   | 0, _, hk => cases hk
   | 1, _, hk => cases hk
   | 2, _, hk => cases hk
   | 3, _, hk => cases hk
set_option maxRecDepth 100000 in
theorem Qgd (host : Int) (w : World) (h : 0 ≤ host ∧ host < 4) : Calls Try.prog 4 #[.int .i64 host] w fun e w' => e = .returned (.tuple #[.pointer (some ⟨w.heap.size, 0, none⟩), .int .i64 0]) ∧ KerAt w' w.heap.size [w.heap.size] [nilV, nilV, nilV, nilV] (freshKer host) ∧ Below w.heap.size w w' := by
 have h0 : ¬ (host < 0) := by omega
 have h4 : ¬ ((4 : Int) ≤ host) := by omega
 go_enter Try.func4, Try.ntmps4
 go_wp2
 go_ret2
 exact ⟨rfl, QgB w host, Qe _ _⟩
theorem Qfw (host : Int) (w : World) (h : ¬ (0 ≤ host ∧ host < 4)) : Calls Try.prog 4 #[.int .i64 host] w fun e w' => e = .returned (.tuple #[.pointer none, .int .i64 2]) ∧ w' = w := by
 by_cases h0 : host < 0
 · go_enter Try.func4, Try.ntmps4
   go_wp2
   go_ret2
   exact ⟨rfl, rfl⟩
 · have h4 : (4 : Int) ≤ host := by omega
   go_enter Try.func4, Try.ntmps4
   go_wp2
   go_ret2
   exact ⟨rfl, rfl⟩
theorem KerAt.head {w : World} {kb : Nat} {F : List Nat} {V : List ThrV} {K : Ker} (h : KerAt w kb F V K) : w.cell? ⟨kb, 0, none⟩ = some (.int .i64 K.host) ∧ w.cell? ⟨kb, 1, none⟩ = some (.int .i64 K.made) ∧ w.frozen? ⟨kb, 1, none⟩ = false := by
 obtain ⟨C, hC, c0, c1, _⟩ := h.box
 exact ⟨by rw [Qa hC, c0], by rw [Qa hC, c1], Qf hC 1⟩
theorem KerAt.madeMore {w : World} {kb : Nat} {F : List Nat} {V : List ThrV} {K : Ker} (h : KerAt w kb F V K) (n : Int) : KerAt (w.setCell ⟨kb, 1, none⟩ (.int .i64 n)) kb F V { K with made := n } := by
 obtain ⟨C, hC, c0, c1, hc⟩ := h.box
 have hk : KeptF [kb] w (w.setCell ⟨kb, 1, none⟩ (.int .i64 n)) := QK w kb _ _ (by simp)
 refine ⟨h.len, h.lenK, ⟨_, heap_setCell hC _, Qu c0 (by omega), QaK c1, fun t h1 h2 => ?_⟩, fun t h1 h2 => ?_, h.rows, h.apart, h.kbF, fun k hk => by simpa using h.fin k hk⟩
 · obtain ⟨d0, d1, d2, d3, d4⟩ := hc t h1 h2
   exact ⟨Qu d0 (by omega), Qu d1 (by omega), Qu d2 (by omega), Qu d3 (by omega), Qu d4 (by omega)⟩
 · exact (h.thr t h1 h2).keep hk (fun k e => by simp at e; subst e; exact h.kbF) (More.refl _ _) (fun k e g => by simp at g; subst g; exact (h.tat t h1 h2).kb_rows e)
theorem KerAt.reserve {w : World} {kb : Nat} {F : List Nat} {V : List ThrV} {K : Ker} (h : KerAt w kb F V K) (ob : Obj) : KerAt (w.alloc ob) kb (F ++ [w.heap.size]) V K := by
 have hb := Qe w ob
 have hm := QaM w F
 obtain ⟨C, hC, hc⟩ := h.box
 refine ⟨h.len, h.lenK, ⟨C, Qc hC hb, hc⟩, fun t g1 g2 => (h.thr t g1 g2).keep (R := []) (Qk _ hb) (fun _ h => by cases h) hm (fun _ _ h => by cases h), fun t g1 k hk => hm.1 k (h.rows t g1 k hk), h.apart, hm.1 kb h.kbF, fun k hk => ?_⟩
 rw [World.size_alloc]
 rcases List.mem_append.1 hk with g | g
 · have := h.fin k g; omega
 · simp at g; omega
theorem KerAt.boxed {w w' : World} {kb : Nat} {F : List Nat} {V : List ThrV} {K : Ker} {B : Nat} {C : Array Value} {t : TypeId} (h : KerAt w kb F V K) (hg : w.grownBy w' (some B)) (hB : B ∈ F) (hC : w.heap[B]? = some (.cells C t (0, 0))) (t1 : (58 : Nat) ≠ t) (t2 : (3 : Nat) ≠ t) (t3 : (80 : Nat) ≠ t) (t4 : (42 : Nat) ≠ t) : KerAt w' kb F V K := by
 have hx : ∀ s (g1 : s < V.length) (g2 : s < K.ths.length), TAt w' kb (2 + s * 5) F V[s] K.ths[s] := fun s g1 g2 => (h.tat s g1 g2).boxed hg hB hC t1 t2 t3 t4
 obtain ⟨D, hD, hd⟩ := h.box
 have hne : kb ≠ B := fun e => by
  subst e
  rw [hC] at hD
  injection hD with hD
  injection hD with _ e2 _
  exact t1 e2.symm
 exact ⟨h.len, h.lenK, ⟨D, by rw [hg.block kb (QJ hD) (fun e => hne (Option.some.inj e)), hD], hd⟩, fun s g1 g2 => (hx s g1 g2).thr, h.rows, h.apart, h.kbF, fun k hk => Nat.lt_of_lt_of_le (h.fin k hk) hg.size⟩
def rowsAll (V : List ThrV) : List Nat := V.flatMap rowsOf
theorem Qaw {V : List ThrV} {k : Nat} : k ∈ rowsAll V ↔ ∃ t, ∃ h : t < V.length, k ∈ rowsOf V[t] := by
 unfold rowsAll
 rw [List.mem_flatMap]
 constructor
 · rintro ⟨v, hv, hk⟩
   obtain ⟨t, ht, rfl⟩ := List.mem_iff_getElem.1 hv
   exact ⟨t, ht, hk⟩
 · rintro ⟨t, ht, hk⟩
   exact ⟨V[t], List.getElem_mem ht, hk⟩
structure KStep (kb : Nat) (w : World) (F : List Nat) (V : List ThrV) (w' : World) (G : List Nat) (V' : List ThrV) : Prop where
 kept : KeptF (kb :: rowsAll V) w w'
 rows : ∀ k ∈ rowsAll V', k ∈ rowsAll V ∨ w.heap.size ≤ k
 more : More w F G
theorem KStep.refl (kb : Nat) (w : World) (F : List Nat) (V : List ThrV) : KStep kb w F V w F V := ⟨KeptF.refl _ _, fun _ h => .inl h, More.refl _ _⟩
theorem KStep.trans {kb : Nat} {a b c : World} {F G H : List Nat} {V V1 V2 : List ThrV} (h : KStep kb a F V b G V1) (k : KStep kb b G V1 c H V2) : KStep kb a F V c H V2 :=
 ⟨⟨k.kept.os.trans h.kept.os, k.kept.tape.trans h.kept.tape, k.kept.output.trans h.kept.output, Nat.le_trans h.kept.size k.kept.size, fun i hi hn => by
  rw [k.kept.block i (by have := h.kept.size; omega) (fun e => ?_), h.kept.block i hi hn]
  rcases List.mem_cons.1 e with rfl | e
  · exact hn (by simp)
  · rcases h.rows i e with g | g
    · exact hn (List.mem_cons_of_mem _ g)
    · omega⟩, fun i hi => by
  rcases k.rows i hi with g | g
  · exact h.rows i g
  · exact .inr (by have := h.kept.size; omega), h.more.trans k.more h.kept.size⟩
theorem KStep.below {kb : Nat} {w w' : World} {F : List Nat} {V : List ThrV} (h : Below w.heap.size w w') : KStep kb w F V w' F V := ⟨Qk _ h, fun _ h => .inl h, More.refl _ _⟩
theorem KStep.reserve (kb : Nat) (w : World) (F : List Nat) (V : List ThrV) (ob : Obj) : KStep kb w F V (w.alloc ob) (F ++ [w.heap.size]) V := ⟨Qk _ (Qe _ _), fun _ h => .inl h, QaM w F⟩
theorem KStep.boxed {kb : Nat} {w0 w w' : World} {F G : List Nat} {V V' : List ThrV} {B : Nat} (h : KStep kb w0 F V w G V') (hg : w.grownBy w' (some B)) (hB : w0.heap.size ≤ B) : KStep kb w0 F V w' G V' :=
 ⟨⟨hg.os.trans h.kept.os, hg.tape.trans h.kept.tape, hg.output.trans h.kept.output, Nat.le_trans h.kept.size hg.size, fun k hk hn => by
  rw [hg.block k (by have := h.kept.size; omega) (fun e => by have := Option.some.inj e; omega), h.kept.block k hk hn]⟩, h.rows, h.more⟩
theorem KStep.of {w w' : World} {kb o t : Nat} {F G : List Nat} {V : List ThrV} {v' : ThrV} (ht : t < V.length) (h : TStep kb o w F V[t] w' G v') : KStep kb w F V w' G (V.set t v') := by
 refine ⟨h.kept.sub fun k e => .inl ?_, fun k hk => ?_, h.more⟩
 · rcases List.mem_cons.1 e with rfl | e
   · simp
   · exact List.mem_cons_of_mem _ (Qaw.2 ⟨t, ht, e⟩)
 · obtain ⟨s, hs, hk⟩ := Qaw.1 hk
   rw [List.length_set] at hs
   by_cases e : t = s
   · subst e
     rw [List.getElem_set_self] at hk
     rcases h.rows k hk with g | g
     · exact .inl (Qaw.2 ⟨t, ht, g⟩)
     · exact .inr g
   · rw [List.getElem_set_ne e] at hk
     exact .inl (Qaw.2 ⟨s, hs, hk⟩)
theorem KStep.set {w : World} {kb : Nat} {F : List Nat} {V : List ThrV} (j : Nat) (u : Value) : KStep kb w F V (w.setCell ⟨kb, j, none⟩ u) F V := ⟨QK w kb j u (by simp), fun _ h => .inl h, More.refl _ _⟩
theorem KStep.keptF {kb : Nat} {w w' : World} {F G : List Nat} {V V' : List ThrV} {K : Ker} (h : KStep kb w F V w' G V') (hk : KerAt w kb F V K) : KeptF F w w' := h.kept.sub fun k e => .inl (by
 rcases List.mem_cons.1 e with rfl | e
 · exact hk.kbF
 · obtain ⟨t, ht, hk2⟩ := Qaw.1 e
   exact hk.rows t ht k hk2)
theorem Qai {w w' : World} {kb : Nat} {F G : List Nat} {V V' : List ThrV} {K : Ker} {B : Nat} {C : Array Value} {t : TypeId} (h : KStep kb w F V w' G V') (hk : KerAt w kb F V K) (hC : w.heap[B]? = some (.cells C t (0, 0))) (t1 : (58 : Nat) ≠ t) (t2 : (3 : Nat) ≠ t) (t3 : (80 : Nat) ≠ t) (t4 : (42 : Nat) ≠ t) : w'.heap[B]? = some (.cells C t (0, 0)) := by
 obtain ⟨D, hD, _⟩ := hk.box
 refine h.kept.heap hC fun e => ?_
 rcases List.mem_cons.1 e with rfl | e
 · rw [hC] at hD
   injection hD with hD
   injection hD with _ e2 _
   exact t1 e2.symm
 · obtain ⟨s, hs, e⟩ := Qaw.1 e
   obtain ⟨_, o1, ⟨_, _, o2, _⟩, ⟨_, _, o3, _⟩⟩ := hk.thr s hs (by rw [hk.lenK, ← hk.len]; exact hs)
   rcases mem_rows.1 e with e | e | e
   · exact Qn o1 hC t2 e
   · exact Qn o2 hC t3 e
   · exact Qn o3 hC t4 e
theorem Qbp {kb : Nat} {w w1 : World} {F G : List Nat} {V V1 : List ThrV} {K1 : Ker} {y0 y1 y2 : Value} (x0 x1 : Int) (x2 : List UInt8) (hb : w1.heap[w.heap.size]? = some (.cells #[y0, y1, y2] 52 (0, 0))) (hF : w.heap.size ∈ G) (h1 : KerAt w1 kb G V1 K1) (hs : KStep kb w F V w1 G V1) :
 (st3 w1 w.heap.size (.int .i64 x0) (.int .i64 x1) (.string ⟨x2.toArray⟩)).heap[w.heap.size]? = some (.cells #[.int .i64 x0, .int .i64 x1, .string ⟨x2.toArray⟩] 52 (0, 0)) ∧ KerAt (st3 w1 w.heap.size (.int .i64 x0) (.int .i64 x1) (.string ⟨x2.toArray⟩)) kb G V1 K1 ∧ KStep kb w F V (st3 w1 w.heap.size (.int .i64 x0) (.int .i64 x1) (.string ⟨x2.toArray⟩)) G V1 :=
 ⟨QA _ _ _ hb, h1.boxed (Qv _ _ _ _ _) hF hb (by decide) (by decide) (by decide) (by decide), hs.boxed (Qv _ _ _ _ _) (Nat.le_refl _)⟩
theorem QaC {w w' : World} {kb o : Nat} {F G : List Nat} {v v' : ThrV} {B : Nat} {C : Array Value} {t : TypeId} {th : Thr} (h : TStep kb o w F v w' G v') (ht : TAt w kb o F v th) (hC : w.heap[B]? = some (.cells C t (0, 0))) (t1 : (58 : Nat) ≠ t) (t2 : (3 : Nat) ≠ t) (t3 : (80 : Nat) ≠ t) (t4 : (42 : Nat) ≠ t) : w'.heap[B]? = some (.cells C t (0, 0)) := by
 obtain ⟨D, hD, _⟩ := ht.box
 obtain ⟨_, o1, ⟨_, _, o2, _⟩, ⟨_, _, o3, _⟩⟩ := ht.thr
 refine h.kept.heap hC fun e => ?_
 rcases List.mem_cons.1 e with rfl | e
 · rw [hC] at hD
   injection hD with hD
   injection hD with _ e2 _
   exact t1 e2.symm
 · rcases mem_rows.1 e with e | e | e
   · exact Qn o1 hC t2 e
   · exact Qn o2 hC t3 e
   · exact Qn o3 hC t4 e
set_option maxRecDepth 100000 in
set_option maxHeartbeats 3200000 in
theorem Qb2 (kb t : Nat) (F : List Nat) (V : List ThrV) (K : Ker) (w : World) (h : KerAt w kb F V K) (h1 : t < V.length) (h2 : t < K.ths.length) (hs : K.ths[t].own.Pairwise (· < ·)) (hl : K.ths[t].own.length ≤ 8) (hh : 0 ≤ K.host ∧ K.host < 4) (hm : 0 ≤ K.made ∧ K.made ≤ 20) :
 Calls Try.prog 33 #[.pointer (some ⟨kb, 0, none⟩), .pointer (some ⟨kb, 2 + t * 5, none⟩)] w fun e w' => e = .returned (repV (categoryL K t K.ths[t]).2) ∧ ∃ G V', KerAt w' kb G V' (categoryL K t K.ths[t]).1 ∧ KStep kb w F V w' G V' := by
 have HC : Hid (categoryL K t K.ths[t] = if 20 ≤ K.made then (K, code 5)
  else if (ownL K.ths[t].own (K.host * 20 + K.made)).1 = 0 then ({ setT K t { K.ths[t] with own := (ownL K.ths[t].own (K.host * 20 + K.made)).2 } with made := K.made + 1 }, ⟨0, K.host * 20 + K.made, []⟩)
  else (K, code (ownL K.ths[t].own (K.host * 20 + K.made)).1)) := hid rfl
 have hkb := h.fin kb h.kbF
 have HR := hid (h.reserve (.cells #[.int .i64 0, .int .i64 0, .string ⟨#[]⟩] 52))
 have HS := hid (KStep.reserve kb w F V (.cells #[.int .i64 0, .int .i64 0, .string ⟨#[]⟩] 52))
 have HBX := hid (Qcr w)
 have HMEM : Hid (w.heap.size ∈ F ++ [w.heap.size]) := hid (by simp)
 obtain ⟨k0, k1, _⟩ := h.head
 by_cases h20 : 20 ≤ K.made
 · have HC2 : Hid (categoryL K t K.ths[t] = (K, code 5)) := hid (by rw [HC.out, if_pos h20])
   clear HC
   go_enter Try.func33, Try.ntmps33
   go_wp2_with (go_at_call 32; refine (QB _ _).mono ?_; rintro e w2 ⟨rfl, hw2⟩; have HB2 := hid hw2; have hb2 := Qc HBX.out HB2.out; obtain ⟨c0, c1, c2, f0, f1, f2⟩ := cells3 hb2; have HX2 := hid hb2; clear hb2 hw2)
   obtain ⟨e1, e2, e3⟩ := Qbp 5 0 [] HX2.out HMEM.out (HR.out.below HB2.out) (HS.out.trans (KStep.below HB2.out))
   refine bodyPost_ret (results_cell_row rfl _ _ w.heap.size 52 _ (0, 0) _ rfl e1 Try.underlying52 rfl (by kernel_rfl)) rfl ⟨?_, ?_⟩
   · rw [HC2.out]; rfl
   · rw [HC2.out]; exact ⟨_, _, e2, e3⟩
 · have HC2 : Hid (categoryL K t K.ths[t] = if (ownL K.ths[t].own (K.host * 20 + K.made)).1 = 0 then ({ setT K t { K.ths[t] with own := (ownL K.ths[t].own (K.host * 20 + K.made)).2 } with made := K.made + 1 }, ⟨0, K.host * 20 + K.made, []⟩)
    else (K, code (ownL K.ths[t].own (K.host * 20 + K.made)).1)) := hid (by rw [HC.out, if_neg h20])
   clear HC
   have hw1 : wrap64 (K.host * 20) = K.host * 20 := by unfold wrap64; omega
   have hw2 : wrap64 (K.host * 20 + K.made) = K.host * 20 + K.made := by unfold wrap64; omega
   have hw3 : wrap64 (K.made + 1) = K.made + 1 := by unfold wrap64; omega
   have hlt := h20
   have hT := fun wx (hb : Below (w.alloc (.cells #[.int .i64 0, .int .i64 0, .string ⟨#[]⟩] 52)).heap.size (w.alloc (.cells #[.int .i64 0, .int .i64 0, .string ⟨#[]⟩] 52)) wx) => Qfu kb (2 + t * 5) (F ++ [w.heap.size]) V[t] K.ths[t] (K.host * 20 + K.made) wx ((HR.out.tat t h1 h2).below hb) hs hl
   have HT := hid hT
   clear hT
   have HL0 : Hid ((ownL K.ths[t].own (K.host * 20 + K.made)).1 ≠ 0 → (ownL K.ths[t].own (K.host * 20 + K.made)).2 = K.ths[t].own) := hid (by
    unfold ownL
    split
    · exact fun h => absurd rfl h
    · split
      · exact fun _ => rfl
      · exact fun h => absurd rfl h)
   clear h
   by_cases hz : (ownL K.ths[t].own (K.host * 20 + K.made)).1 = 0
   · have hne : ((ownL K.ths[t].own (K.host * 20 + K.made)).1 != 0) = false := by simpa using hz
     have HC3 : Hid (categoryL K t K.ths[t] = ({ setT K t { K.ths[t] with own := (ownL K.ths[t].own (K.host * 20 + K.made)).2 } with made := K.made + 1 }, ⟨0, K.host * 20 + K.made, []⟩)) := hid (by rw [HC2.out, if_pos hz])
     clear HC2 HL0
     generalize ownL K.ths[t].own (K.host * 20 + K.made) = ow at *
     go_enter Try.func33, Try.ntmps33
     go_wp2_with fail
     go_quiet (fail)
     go_wp2_with fail
     refine (HT.out _ (Qq _ _)).mono ?_
     rintro e w2 ⟨rfl, G, v', hT2, hS2⟩
     have hK1 := HR.out.below (Qq (w.alloc (.cells #[.int .i64 0, .int .i64 0, .string ⟨#[]⟩] 52)) nq)
     have hK2 := hK1.step h1 h2 hT2 hS2
     have hx2 := QaC hS2 (hK1.tat t h1 h2) (Qc HBX.out (Qq _ nq)) (by decide) (by decide) (by decide) (by decide)
     have hst2 := (HS.out.trans (KStep.below (Qq _ nq))).trans (KStep.of h1 hS2)
     obtain ⟨m0, m1, mf⟩ := hK2.head
     have hK3 := hK2.madeMore (K.made + 1)
     have hne2 : w.heap.size ≠ kb := by omega
     have hx3 := Qr hx2 hne2 1 (.int .i64 (K.made + 1))
     have hst3 := hst2.trans (KStep.set 1 (.int .i64 (K.made + 1)))
     obtain ⟨e1, e2, e3⟩ := Qbp 0 (K.host * 20 + K.made) [] hx3 (hS2.more.1 _ HMEM.out) hK3 hst3
     obtain ⟨c0, c1, c2, f0, f1, f2⟩ := cells3 hx3
     have E1 := hid e1
     have E2 := hid e2
     have E3 := hid e3
     clear e1 e2 e3 hK1 hK2 hK3 hx2 hx3 hst2 hst3 hT2 hS2 HT HR HS
     go_wp2
     refine bodyPost_ret (results_cell_row rfl _ _ w.heap.size 52 _ (0, 0) _ rfl E1.out Try.underlying52 rfl (by kernel_rfl)) rfl ⟨?_, ?_⟩
     · rw [HC3.out]; rfl
     · rw [HC3.out]; exact ⟨_, _, E2.out, E3.out⟩
   · have hne : ((ownL K.ths[t].own (K.host * 20 + K.made)).1 != 0) = true := by simpa using hz
     have HC3 : Hid (categoryL K t K.ths[t] = (K, code (ownL K.ths[t].own (K.host * 20 + K.made)).1)) := hid (by rw [HC2.out, if_neg hz])
     have HL1 := hid (HL0.out hz)
     clear HC2 HL0
     generalize ownL K.ths[t].own (K.host * 20 + K.made) = ow at *
     go_enter Try.func33, Try.ntmps33
     go_wp2_with fail
     go_quiet (fail)
     go_wp2_with fail
     refine (HT.out _ (Qq _ _)).mono ?_
     rintro e w2 ⟨rfl, G, v', hT2, hS2⟩
     have hK1 := HR.out.below (Qq (w.alloc (.cells #[.int .i64 0, .int .i64 0, .string ⟨#[]⟩] 52)) nq)
     have hK2 := hK1.step h1 h2 hT2 hS2
     have hx2 := QaC hS2 (hK1.tat t h1 h2) (Qc HBX.out (Qq _ nq)) (by decide) (by decide) (by decide) (by decide)
     have HST := hid ((HS.out.trans (KStep.below (Qq _ nq))).trans (KStep.of h1 hS2))
     have HX := hid hx2
     have HG : Hid (w.heap.size ∈ G) := hid (hS2.more.1 _ HMEM.out)
     have HK2 : Hid (KerAt w2 kb G (V.set t v') K) := hid (by
      have e : ({ K with ths := K.ths.set t { K.ths[t] with own := ow.2 } } : Ker) = K := by
       rw [HL1.out]
       show ({ K with ths := K.ths.set t K.ths[t] } : Ker) = K
       rw [List.set_getElem_self]
      rw [e] at hK2
      exact hK2)
     clear hK1 hK2 hx2 hT2 hS2 HT HR HS
     go_wp2_with (go_at_call 32; refine (QB _ _).mono ?_; rintro e w3 ⟨rfl, hw3⟩; have HB3 := hid hw3; have hb3 := Qc HX.out hw3; obtain ⟨c0, c1, c2, f0, f1, f2⟩ := cells3 hb3; have HX3 := hid hb3; clear hb3 hw3)
     obtain ⟨e1, e2, e3⟩ := Qbp ow.1 0 [] HX3.out HG.out (HK2.out.below HB3.out) (HST.out.trans (KStep.below HB3.out))
     refine bodyPost_ret (results_cell_row rfl _ _ w.heap.size 52 _ (0, 0) _ rfl e1 Try.underlying52 rfl (by kernel_rfl)) rfl ⟨?_, ?_⟩
     · rw [HC3.out]; rfl
     · rw [HC3.out]; exact ⟨_, _, e2, e3⟩
def RMails (w : World) (F : List Nat) (v : Value) (ms : List Mal) : Prop :=
 ∃ vs, vs.length = ms.length ∧ cutRow w 42 5 v ms.length (flatM vs ms) ∧ ∀ j (h1 : j < vs.length) (h2 : j < ms.length), RoLab w F vs[j].1 ms[j].label ∧ RoInts w F vs[j].2 ms[j].grants
def RThr (w : World) (F : List Nat) (v : ThrV) (th : Thr) : Prop := RoLab w F v.vl th.label ∧ RoInts w F v.vo th.own ∧ ObjsAt w F v.vj th.objs ∧ RMails w F v.vm th.mails
def rrows (v : ThrV) : List Nat := v.vj.ownBlock.toList ++ v.vm.ownBlock.toList
theorem mem_rrows {v : ThrV} {k : Nat} : k ∈ rrows v ↔ v.vj.ownBlock = some k ∨ v.vm.ownBlock = some k := by
 unfold rrows
 simp only [List.mem_append, Option.mem_toList]
theorem RMails.keep {w w' : World} {R F G : List Nat} {v : Value} {ms : List Mal} (h : RMails w F v ms) (hk : KeptF R w w') (hR : ∀ k ∈ R, k ∈ F) (hm : More w F G) (hv : ∀ k, v.ownBlock = some k → k ∉ R) : RMails w' G v ms := by
 obtain ⟨vs, h1, h2, h3⟩ := h
 exact ⟨vs, h1, Qcv h2 hk hv, fun j g1 g2 => ⟨(h3 j g1 g2).1.keep (hk.sub fun k hk => .inl (hR k hk)) hm, (h3 j g1 g2).2.keep (hk.sub fun k hk => .inl (hR k hk)) hm⟩⟩
theorem RThr.keep {w w' : World} {R F G : List Nat} {v : ThrV} {th : Thr} (h : RThr w F v th) (hk : KeptF R w w') (hR : ∀ k ∈ R, k ∈ F) (hm : More w F G) (hv : ∀ k ∈ rrows v, k ∉ R) : RThr w' G v th :=
 ⟨h.1.keep (hk.sub fun k hk => .inl (hR k hk)) hm, h.2.1.keep (hk.sub fun k hk => .inl (hR k hk)) hm, h.2.2.1.keep hk hR hm (fun k e => hv k (mem_rrows.2 (.inl e))), h.2.2.2.keep hk hR hm (fun k e => hv k (mem_rrows.2 (.inr e)))⟩
theorem RThr.box {w : World} {F : List Nat} {v : ThrV} {th : Thr} {rb : Nat} {C : Array Value} (h : RThr w F v th) (hC : w.heap[rb]? = some (.cells C 38 (0, 0))) : rb ∉ rrows v := by
 obtain ⟨_, _, ⟨_, _, h3, _⟩, ⟨_, _, h4, _⟩⟩ := h
 intro hm
 rcases mem_rrows.1 hm with e | e
 · exact Qn h3 hC (by decide) e
 · exact QfA h4 hC (by decide) e
structure RKerAt (w : World) (rb : Nat) (F : List Nat) (V : List ThrV) (K : Ker) : Prop where
 len : V.length = 4
 lenK : K.ths.length = 4
 box : ∃ C, w.heap[rb]? = some (.cells C 38 (0, 0)) ∧ C.size = 22 ∧ C[0]? = some (.int .i64 K.host) ∧ C[21]? = some (.int .i64 K.made) ∧
  ∀ t (h1 : t < V.length) (h2 : t < K.ths.length), C[1 + t * 5]? = some V[t].vl ∧ C[1 + t * 5 + 1]? = some V[t].vo ∧ C[1 + t * 5 + 2]? = some (.string ⟨K.ths[t].text.toArray⟩) ∧ C[1 + t * 5 + 3]? = some V[t].vj ∧ C[1 + t * 5 + 4]? = some V[t].vm
 thr : ∀ t (h1 : t < V.length) (h2 : t < K.ths.length), RThr w F V[t] K.ths[t]
 rows : ∀ t (h1 : t < V.length), ∀ k ∈ rrows V[t], k ∈ F
 apart : ∀ s t (hs : s < V.length) (ht : t < V.length), s ≠ t → ∀ k ∈ rrows V[s], k ∉ rrows V[t]
 kbF : rb ∈ F
 fin : ∀ k ∈ F, k < w.heap.size
theorem RKerAt.below {w w' : World} {rb : Nat} {F : List Nat} {V : List ThrV} {K : Ker} (h : RKerAt w rb F V K) (hb : Below w.heap.size w w') : RKerAt w' rb F V K := by
 obtain ⟨C, hC, hc⟩ := h.box
 exact ⟨h.len, h.lenK, ⟨C, Qc hC hb, hc⟩, fun t g1 g2 => (h.thr t g1 g2).keep (R := []) (Qk _ hb) (fun _ h => by cases h) (More.refl _ _) (fun _ _ h => by cases h), h.rows, h.apart, h.kbF, fun k hk => Nat.lt_of_lt_of_le (h.fin k hk) hb.size⟩
theorem RKerAt.others {w w' : World} {rb : Nat} {R F G : List Nat} {V : List ThrV} {K : Ker} (h : RKerAt w rb F V K) (hk : KeptF R w w') (hR : ∀ k ∈ R, k ∈ F) (hb : rb ∉ R) (hv : ∀ t (h1 : t < V.length), ∀ k ∈ rrows V[t], k ∉ R) (hm : More w F G) (hf : ∀ k ∈ G, k < w'.heap.size) : RKerAt w' rb G V K := by
 obtain ⟨C, hC, hc⟩ := h.box
 exact ⟨h.len, h.lenK, ⟨C, hk.heap hC hb, hc⟩, fun t g1 g2 => (h.thr t g1 g2).keep hk hR hm (hv t g1), fun t g1 k e => hm.1 k (h.rows t g1 k e), h.apart, hm.1 rb h.kbF, hf⟩
theorem KerAt.others {w w' : World} {kb : Nat} {R F G : List Nat} {V : List ThrV} {K : Ker} (h : KerAt w kb F V K) (hk : KeptF R w w') (hR : ∀ k ∈ R, k ∈ F) (hb : kb ∉ R) (hv : ∀ t (h1 : t < V.length), ∀ k ∈ rowsOf V[t], k ∉ R) (hm : More w F G) (hf : ∀ k ∈ G, k < w'.heap.size) : KerAt w' kb G V K := by
 obtain ⟨C, hC, hc⟩ := h.box
 exact ⟨h.len, h.lenK, ⟨C, hk.heap hC hb, hc⟩, fun t g1 g2 => (h.thr t g1 g2).keep hk hR hm (hv t g1), fun t g1 k e => hm.1 k (h.rows t g1 k e), h.apart, hm.1 kb h.kbF, hf⟩
theorem RKerAt.turn {w w' : World} {rb : Nat} {F G : List Nat} {V : List ThrV} {K : Ker} {t : Nat} {v' : ThrV} {th' : Thr} {made' : Int} (h : RKerAt w rb F V K) (h1 : t < V.length) (hk : KeptF (rb :: rrows V[t]) w w')
 (hb : ∀ C, w.heap[rb]? = some (.cells C 38 (0, 0)) → ∃ C', w'.heap[rb]? = some (.cells C' 38 (0, 0)) ∧ C'.size = C.size ∧ (∀ j, j < 1 + t * 5 ∨ 1 + t * 5 + 5 ≤ j → j ≠ 21 → C'[j]? = C[j]?) ∧ C'[21]? = some (.int .i64 made') ∧
  C'[1 + t * 5]? = some v'.vl ∧ C'[1 + t * 5 + 1]? = some v'.vo ∧ C'[1 + t * 5 + 2]? = some (.string ⟨th'.text.toArray⟩) ∧ C'[1 + t * 5 + 3]? = some v'.vj ∧ C'[1 + t * 5 + 4]? = some v'.vm)
 (ht : RThr w' G v' th') (hr : ∀ k ∈ rrows v', k ∈ rrows V[t] ∨ w.heap.size ≤ k) (hG : ∀ k ∈ rrows v', k ∈ G) (hm : More w F G) (hf : ∀ k ∈ G, k < w'.heap.size) : RKerAt w' rb G (V.set t v') { K with made := made', ths := K.ths.set t th' } := by
 obtain ⟨C, hC, csz, c0, c1, hc⟩ := h.box
 obtain ⟨C', hC', hsz, hout, c21, hc2⟩ := hb C hC
 have ht4 : t < 4 := by have := h.len; omega
 refine ⟨by simp [h.len], by simp [h.lenK], ⟨C', hC', by omega, by rw [hout 0 (by omega) (by omega), c0], c21, fun s g1 g2 => ?_⟩, fun s g1 g2 => ?_, fun s g1 k hk => ?_, fun s u g1 g2 hne k hk => ?_, hm.1 rb h.kbF, hf⟩
 · rw [List.length_set] at g1 g2
   have hs4 : s < 4 := by have := h.len; omega
   by_cases e : t = s
   · subst e
     simp only [List.getElem_set_self]
     exact hc2
   · rw [List.getElem_set_ne e, List.getElem_set_ne e]
     obtain ⟨d0, d1, d2, d3, d4⟩ := hc s g1 g2
     refine ⟨?_, ?_, ?_, ?_, ?_⟩
     · rw [hout _ (by omega) (by omega), d0]
     · rw [hout _ (by omega) (by omega), d1]
     · rw [hout _ (by omega) (by omega), d2]
     · rw [hout _ (by omega) (by omega), d3]
     · rw [hout _ (by omega) (by omega), d4]
 · rw [List.length_set] at g1 g2
   by_cases e : t = s
   · subst e
     simp only [List.getElem_set_self]
     exact ht
   · rw [List.getElem_set_ne e, List.getElem_set_ne e]
     refine (h.thr s g1 g2).keep hk (fun k e => ?_) hm fun k hk2 e2 => ?_
     · rcases List.mem_cons.1 e with rfl | e
       · exact h.kbF
       · exact h.rows t h1 k e
     · rcases List.mem_cons.1 e2 with rfl | e2
       · exact (h.thr s g1 g2).box hC hk2
       · exact h.apart t s h1 g1 e k e2 hk2
 · rw [List.length_set] at g1
   by_cases e : t = s
   · subst e
     rw [List.getElem_set_self] at hk
     exact hG k hk
   · rw [List.getElem_set_ne e] at hk
     exact hm.1 k (h.rows s g1 k hk)
 · rw [List.length_set] at g1 g2
   have key : ∀ a (ga : a < V.length), t ≠ a → ∀ k ∈ rrows v', k ∉ rrows V[a] := fun a ga hna k hk hm => by
    rcases hr k hk with g | g
    · exact h.apart t a h1 ga hna k g hm
    · have := h.fin k (h.rows a ga k hm); omega
   by_cases e : t = s
   · subst e
     rw [List.getElem_set_self] at hk
     rw [List.getElem_set_ne hne]
     exact key u g2 hne k hk
   · rw [List.getElem_set_ne e] at hk
     by_cases e2 : t = u
     · subst e2
       rw [List.getElem_set_self]
       exact fun hm => key s g1 e k hm hk
     · rw [List.getElem_set_ne e2]
       exact h.apart s u g1 g2 hne k hk
def tcells (v : ThrV) (th : Thr) : List Value := [v.vl, v.vo, .string ⟨th.text.toArray⟩, v.vj, v.vm]
theorem RKerAt.store {w w1 : World} {rb : Nat} {F G : List Nat} {V : List ThrV} {K : Ker} {t : Nat} {v' : ThrV} {th' : Thr} (h : RKerAt w rb F V K) (h1 : t < V.length) (h2 : t < K.ths.length) (hk : KeptF (rrows V[t]) w w1) (j : Nat) (hj : j < 5) (u : Value)
 (hu : tcells v' th' = (tcells V[t] K.ths[t]).set j u) (ht : RThr w1 G v' th') (hr : ∀ k ∈ rrows v', k ∈ rrows V[t] ∨ w.heap.size ≤ k) (hG : ∀ k ∈ rrows v', k ∈ G) (hm : More w F G) (hf : ∀ k ∈ G, k < w1.heap.size) :
 RKerAt (w1.setCell ⟨rb, 1 + t * 5 + j, none⟩ u) rb G (V.set t v') { K with ths := K.ths.set t th' } := by
 obtain ⟨C, hC, csz, c0, c1, hc⟩ := h.box
 have hb := (h.thr t h1 h2).box hC
 have hC1 := hk.heap hC hb
 have ht4 : t < 4 := by have := h.len; omega
 have hs := heap_setCell (j := 1 + t * 5 + j) hC1 u
 have hks : KeptF [rb] w1 (w1.setCell ⟨rb, 1 + t * 5 + j, none⟩ u) := QK w1 rb _ u (by simp)
 refine h.turn (made' := K.made) h1 ?_ ?_ (ht.keep hks (fun k e => ?_) (More.refl _ _) (fun k hk e => ?_)) hr hG hm (fun k hk => ?_)
 · exact (hk.sub fun k e => .inl (List.mem_cons_of_mem _ e)).trans (hks.sub fun k e => .inl (by rw [List.mem_singleton] at e; subst e; simp))
 · intro C2 hC2
   rw [hC] at hC2
   cases hC2
   refine ⟨_, hs, by simp, fun i hi hn => ?_, ?_, ?_⟩
   · rw [Array.getElem?_setIfInBounds_ne (by omega)]
   · rw [Array.getElem?_setIfInBounds_ne (by omega), c1]
   · obtain ⟨d0, d1, d2, d3, d4⟩ := hc t h1 h2
     have key : ∀ i, i < 5 → (C.setIfInBounds (1 + t * 5 + j) u)[1 + t * 5 + i]? = (tcells v' th')[i]? := fun i hi => by
      rw [hu, List.getElem?_set]
      by_cases e : j = i
      · subst e
        rw [if_pos rfl, if_pos (by unfold tcells; simpa using hj), Array.getElem?_setIfInBounds_self_of_lt (by omega)]
      · rw [if_neg e, Array.getElem?_setIfInBounds_ne (by omega)]
        unfold tcells
        match i, hi with
        | 0, _ => exact d0
        | 1, _ => exact d1
        | 2, _ => exact d2
        | 3, _ => exact d3
        | 4, _ => exact d4
     exact ⟨key 0 (by omega), key 1 (by omega), key 2 (by omega), key 3 (by omega), key 4 (by omega)⟩
 · rw [List.mem_singleton] at e
   subst e
   exact hm.1 _ h.kbF
 · rw [List.mem_singleton] at e
   subst e
   exact ht.box hC1 hk
 · have := hf k hk
   simpa using this
def rrAll (V : List ThrV) : List Nat := V.flatMap rrows
theorem Q9 {V : List ThrV} {k : Nat} : k ∈ rrAll V ↔ ∃ t, ∃ h : t < V.length, k ∈ rrows V[t] := by
 unfold rrAll
 rw [List.mem_flatMap]
 constructor
 · rintro ⟨v, hv, hk⟩
   obtain ⟨t, ht, rfl⟩ := List.getElem_of_mem hv
   exact ⟨t, ht, hk⟩
 · rintro ⟨t, ht, hk⟩
   exact ⟨V[t], List.getElem_mem ht, hk⟩
structure RStep (rb : Nat) (w : World) (F : List Nat) (V : List ThrV) (w' : World) (G : List Nat) (V' : List ThrV) : Prop where
 kept : KeptF (rb :: rrAll V) w w'
 rows : ∀ k ∈ rrAll V', k ∈ rrAll V ∨ w.heap.size ≤ k
 more : More w F G
theorem RStep.refl (rb : Nat) (w : World) (F : List Nat) (V : List ThrV) : RStep rb w F V w F V := ⟨KeptF.refl _ _, fun _ h => .inl h, More.refl _ _⟩
theorem RStep.below {rb : Nat} {w w' : World} {F : List Nat} {V : List ThrV} (h : Below w.heap.size w w') : RStep rb w F V w' F V := ⟨Qk _ h, fun _ h => .inl h, More.refl _ _⟩
theorem RStep.trans {rb : Nat} {a b c : World} {F G H : List Nat} {V V1 V2 : List ThrV} (h : RStep rb a F V b G V1) (k : RStep rb b G V1 c H V2) : RStep rb a F V c H V2 :=
 ⟨⟨k.kept.os.trans h.kept.os, k.kept.tape.trans h.kept.tape, k.kept.output.trans h.kept.output, Nat.le_trans h.kept.size k.kept.size, fun i hi hn => by
  rw [k.kept.block i (by have := h.kept.size; omega) (fun e => ?_), h.kept.block i hi hn]
  rcases List.mem_cons.1 e with rfl | e
  · exact hn (by simp)
  · rcases h.rows i e with g | g
    · exact hn (List.mem_cons_of_mem _ g)
    · omega⟩, fun i hi => by
  rcases k.rows i hi with g | g
  · exact h.rows i g
  · exact .inr (by have := h.kept.size; omega), h.more.trans k.more h.kept.size⟩
theorem RStep.store {rb : Nat} {w w1 : World} {F G : List Nat} {V : List ThrV} {t : Nat} {v' : ThrV} (h1 : t < V.length) (hk : KeptF (rrows V[t]) w w1) (hr : ∀ k ∈ rrows v', k ∈ rrows V[t] ∨ w.heap.size ≤ k) (hm : More w F G) (j : Nat) (u : Value) : RStep rb w F V (w1.setCell ⟨rb, j, none⟩ u) G (V.set t v') := by
 refine ⟨?_, fun k hk => ?_, hm⟩
 · exact (hk.sub fun k e => .inl (List.mem_cons_of_mem _ (Q9.2 ⟨t, h1, e⟩))).trans ((QK w1 rb j u (by simp : rb ∈ [rb])).sub fun k e => .inl (by rw [List.mem_singleton] at e; subst e; simp))
 · obtain ⟨s, hs, e⟩ := Q9.1 hk
   rw [List.length_set] at hs
   by_cases est : t = s
   · subst est
     rw [List.getElem_set_self] at e
     rcases hr k e with g | g
     · exact .inl (Q9.2 ⟨t, h1, g⟩)
     · exact .inr g
   · rw [List.getElem_set_ne est] at e
     exact .inl (Q9.2 ⟨s, hs, e⟩)
structure Pair (w : World) (F : List Nat) (kb : Nat) (V : List ThrV) (rb : Nat) (U : List ThrV) (K : Ker) : Prop where
 one : KerAt w kb F V K
 two : RKerAt w rb F U K
 apart : ∀ k ∈ kb :: rowsAll V, k ∉ rb :: rrAll U
theorem Pair.kstep {w w' : World} {F G : List Nat} {kb rb : Nat} {V V' U : List ThrV} {K K' K2 : Ker} (h : KerAt w kb F V K) (k : RKerAt w rb F U K2) (ha : ∀ k ∈ kb :: rowsAll V, k ∉ rb :: rrAll U) (hs : KStep kb w F V w' G V') (hc : KerAt w' kb G V' K') : RKerAt w' rb G U K2 ∧ ∀ k ∈ kb :: rowsAll V', k ∉ rb :: rrAll U := by
 have hlt : ∀ i ∈ rb :: rrAll U, i < w.heap.size := fun i hi => by
  rcases List.mem_cons.1 hi with rfl | hi
  · exact k.fin _ k.kbF
  · obtain ⟨t, ht, e⟩ := Q9.1 hi
    exact k.fin _ (k.rows t ht i e)
 refine ⟨k.others hs.kept (fun i hi => ?_) (fun e => ha _ e (by simp)) (fun t ht i hi e => ha _ e (List.mem_cons_of_mem _ (Q9.2 ⟨t, ht, hi⟩))) hs.more hc.fin, fun i hi e => ?_⟩
 · rcases List.mem_cons.1 hi with rfl | hi
   · exact h.kbF
   · obtain ⟨t, ht, e⟩ := Qaw.1 hi
     exact h.rows t ht i e
 · rcases List.mem_cons.1 hi with rfl | hi
   · exact ha _ (by simp) e
   · rcases hs.rows i hi with g | g
     · exact ha _ (List.mem_cons_of_mem _ g) e
     · have := hlt i e
       omega
theorem Pair.rstep {w w' : World} {F G : List Nat} {kb rb : Nat} {V U U' : List ThrV} {K K' K2 : Ker} (h : KerAt w kb F V K) (k : RKerAt w rb F U K2) (ha : ∀ k ∈ kb :: rowsAll V, k ∉ rb :: rrAll U) (hs : RStep rb w F U w' G U') (hc : RKerAt w' rb G U' K') : KerAt w' kb G V K ∧ ∀ k ∈ kb :: rowsAll V, k ∉ rb :: rrAll U' := by
 have hlt : ∀ i ∈ kb :: rowsAll V, i < w.heap.size := fun i hi => by
  rcases List.mem_cons.1 hi with rfl | hi
  · exact h.fin _ h.kbF
  · obtain ⟨t, ht, e⟩ := Qaw.1 hi
    exact h.fin _ (h.rows t ht i e)
 refine ⟨h.others hs.kept (fun i hi => ?_) (fun e => ha kb (by simp) e) (fun t ht i hi e => ha i (List.mem_cons_of_mem _ (Qaw.2 ⟨t, ht, hi⟩)) e) hs.more hc.fin, fun i hi e => ?_⟩
 · rcases List.mem_cons.1 hi with rfl | hi
   · exact k.kbF
   · obtain ⟨t, ht, e⟩ := Q9.1 hi
     exact k.rows t ht i e
 · rcases List.mem_cons.1 e with rfl | e
   · exact ha _ hi (by simp)
   · rcases hs.rows i e with g | g
     · exact ha _ hi (List.mem_cons_of_mem _ g)
     · have := hlt i hi
       omega
abbrev st5 (w : World) (b : Nat) (x0 x1 x2 x3 x4 : Value) : World := ((((w.setCell ⟨b, 0, none⟩ x0).setCell ⟨b, 1, none⟩ x1).setCell ⟨b, 2, none⟩ x2).setCell ⟨b, 3, none⟩ x3).setCell ⟨b, 4, none⟩ x4
theorem Qbu {w : World} {b : Nat} {t : TypeId} {y0 y1 y2 y3 y4 : Value} (x0 x1 x2 x3 x4 : Value) (h : w.heap[b]? = some (.cells #[y0, y1, y2, y3, y4] t (0, 0))) : (st5 w b x0 x1 x2 x3 x4).heap[b]? = some (.cells #[x0, x1, x2, x3, x4] t (0, 0)) := by
 have h0 : (w.setCell ⟨b, 0, none⟩ x0).heap[b]? = some (.cells #[x0, y1, y2, y3, y4] t (0, 0)) := by rw [heap_setCell h x0]; rfl
 have h1 : ((w.setCell ⟨b, 0, none⟩ x0).setCell ⟨b, 1, none⟩ x1).heap[b]? = some (.cells #[x0, x1, y2, y3, y4] t (0, 0)) := by rw [heap_setCell h0 x1]; rfl
 have h2 : (((w.setCell ⟨b, 0, none⟩ x0).setCell ⟨b, 1, none⟩ x1).setCell ⟨b, 2, none⟩ x2).heap[b]? = some (.cells #[x0, x1, x2, y3, y4] t (0, 0)) := by rw [heap_setCell h1 x2]; rfl
 have h3 : ((((w.setCell ⟨b, 0, none⟩ x0).setCell ⟨b, 1, none⟩ x1).setCell ⟨b, 2, none⟩ x2).setCell ⟨b, 3, none⟩ x3).heap[b]? = some (.cells #[x0, x1, x2, x3, y4] t (0, 0)) := by rw [heap_setCell h2 x3]; rfl
 rw [heap_setCell h3 x4]; rfl
theorem Qbc (w : World) (b : Nat) (x0 x1 x2 x3 x4 : Value) : w.grownBy (st5 w b x0 x1 x2 x3 x4) (some b) := Qh (Qh (Qh (Qh (Qg w b 0 x0) (Qg _ b 1 x1)) (Qg _ b 2 x2)) (Qg _ b 3 x3)) (Qg _ b 4 x4)
theorem cells5 {w : World} {b : Nat} {t : TypeId} {y0 y1 y2 y3 y4 : Value} (h : w.heap[b]? = some (.cells #[y0, y1, y2, y3, y4] t (0, 0))) : (w.cell? ⟨b, 0, none⟩ = some y0 ∧ w.cell? ⟨b, 1, none⟩ = some y1 ∧ w.cell? ⟨b, 2, none⟩ = some y2 ∧ w.cell? ⟨b, 3, none⟩ = some y3 ∧ w.cell? ⟨b, 4, none⟩ = some y4) ∧ w.frozen? ⟨b, 0, none⟩ = false ∧ w.frozen? ⟨b, 1, none⟩ = false ∧ w.frozen? ⟨b, 2, none⟩ = false ∧ w.frozen? ⟨b, 3, none⟩ = false ∧ w.frozen? ⟨b, 4, none⟩ = false :=
 ⟨⟨Qa h 0, Qa h 1, Qa h 2, Qa h 3, Qa h 4⟩, Qf h 0, Qf h 1, Qf h 2, Qf h 3, Qf h 4⟩
theorem Qb7 {w : World} {e : TypeId} {s : Nat} {v : Value} {xs : List Value} (h : w.ownsRow 0 e s v 0 xs) : ∃ p c, v = .slice p 0 c := by
 obtain ⟨p, c, rfl⟩ := Qi h
 exact ⟨p, c, rfl⟩
theorem Qej (p : Option Addr) (c : Nat) (w : World) : Calls Try.prog 63 #[.slice p 0 c] w fun e w' => ∃ p' c', e = .returned (.slice p' 0 c') ∧ Below w.heap.size w w' := by
 cases p with
 | none =>
  refine (Qcb 0 c w).mono ?_
  rintro e w' ⟨rfl, rfl⟩
  exact ⟨none, 0, rfl, Below.refl _ _⟩
 | some a =>
  refine (Qca a 0 c [] w rfl (by omega) (fun j u h => by simp at h) (fun u h => by simp at h)).mono ?_
  rintro e w' ⟨v', rfl, h1, h2⟩
  obtain ⟨p', c', rfl⟩ := Qi h1
  exact ⟨p', c', rfl, h2⟩
theorem Qek (p : Option Addr) (c : Nat) (w : World) : Calls Try.prog 64 #[.slice p 0 c] w fun e w' => ∃ p' c', e = .returned (.slice p' 0 c') ∧ Below w.heap.size w w' := by
 cases p with
 | none =>
  refine (Qcd 0 c w).mono ?_
  rintro e w' ⟨rfl, rfl⟩
  exact ⟨none, 0, rfl, Below.refl _ _⟩
 | some a =>
  refine (Qcc a 0 c [] w rfl (by omega) (fun j u h => by simp at h) (fun u h => by simp at h)).mono ?_
  rintro e w' ⟨v', rfl, h1, h2⟩
  obtain ⟨p', c', rfl⟩ := Qi h1
  exact ⟨p', c', rfl, h2⟩
set_option maxRecDepth 100000 in
set_option maxHeartbeats 3200000 in
theorem copyThread0 (vl vo : Value) (pj pm : Option Addr) (cj cm : Nat) (l : List (Int × Int)) (own : List Int) (x : List UInt8) (w : World) (hl : LabAt w vl l) (ho : IntsAt w vo own) :
 Calls Try.prog 43 #[.agg #[vl, vo, .string ⟨x.toArray⟩, .slice pj 0 cj, .slice pm 0 cm]] w fun e w' => ∃ p q p' q' p5 q5 p6 q6, e = .returned (.agg #[.slice p l.length q, .slice p' own.length q', .string ⟨x.toArray⟩, .slice p5 0 q5, .slice p6 0 q6]) ∧ Below w.heap.size w w' := by
 have HL := hid hl
 have HO := hid ho
 obtain ⟨pl, cl, rfl, _⟩ := id hl
 obtain ⟨po, co, rfl, _⟩ := id ho
 clear hl ho
 have hb0 : Below w.heap.size w ((w.alloc (.cells #[.slice pl l.length cl, .slice po own.length co, .string ⟨x.toArray⟩, .slice pj 0 cj, .slice pm 0 cm] 35)).alloc (.cells #[.slice none 0 0, .slice none 0 0, .string ⟨#[]⟩, .slice none 0 0, .slice none 0 0] 35)) := (Qe w _).alloc (by simp) _
 go_enter Try.func43, Try.ntmps43
 go_wp2_with fail
 refine (QaG _ l _ (HL.out.below hb0)).mono ?_
 rintro e w1 ⟨v1, rfl, hown1, hw1⟩
 obtain ⟨p1, q1, rfl⟩ := Qi hown1
 have hbx1 := Qc (heap_alloc2_old w _ _) hw1
 have hrs1 := Qc (heap_alloc2_new w _ _) hw1
 have hbw1 := Qd hb0 hw1
 obtain ⟨⟨c0, c1, c2, c3, c4⟩, f0, f1, f2, f3, f4⟩ := cells5 hbx1
 clear hown1 hw1 hb0
 go_wp2_with fail
 have hbx2 := heap_setCell (j := 0) hbx1 (.slice p1 l.length q1)
 have hrs2 := Qr hrs1 (show w.heap.size + 1 ≠ w.heap.size by omega) 0 (.slice p1 l.length q1)
 have hbw2 := hbw1.grown (Qg w1 w.heap.size 0 (.slice p1 l.length q1)) hbw1.size (fun k hk => by cases hk; exact Nat.le_refl _)
 clear hbx1 hrs1 hbw1 c0 c1 c2 c3 c4 f0 f1 f2 f3 f4
 generalize w1.setCell ⟨w.heap.size, 0, none⟩ (.slice p1 l.length q1) = w2 at *
 refine (Qbr _ own _ (HO.out.below hbw2)).mono ?_
 rintro e w3 ⟨v3, rfl, hown3, hw3⟩
 obtain ⟨p3, q3, rfl⟩ := Qi hown3
 have hbx3 := Qc hbx2 hw3
 have hrs3 := Qc hrs2 hw3
 have hbw3 := Qd hbw2 hw3
 clear hown3 hw3 hbx2 hrs2 hbw2
 obtain ⟨⟨c0, c1, c2, c3, c4⟩, f0, f1, f2, f3, f4⟩ := cells5 hbx3
 go_wp2_with fail
 have hbx4 := heap_setCell (j := 1) hbx3 (.slice p3 own.length q3)
 have hrs4 := Qr hrs3 (show w.heap.size + 1 ≠ w.heap.size by omega) 1 (.slice p3 own.length q3)
 have hbw4 := hbw3.grown (Qg w3 w.heap.size 1 (.slice p3 own.length q3)) hbw3.size (fun k hk => by cases hk; exact Nat.le_refl _)
 clear hbx3 hrs3 hbw3 c0 c1 c2 c3 c4 f0 f1 f2 f3 f4
 generalize w3.setCell ⟨w.heap.size, 1, none⟩ (.slice p3 own.length q3) = w4 at *
 refine (Qej pj cj w4).mono ?_
 rintro e w' ⟨p5, q5, rfl, hw4⟩
 have hbx4 := Qc hbx4 hw4
 have hrs4 := Qc hrs4 hw4
 have hbw4 := Qd hbw4 hw4
 clear hw4
 obtain ⟨⟨c0, c1, c2, c3, c4⟩, f0, f1, f2, f3, f4⟩ := cells5 hbx4
 go_wp2
 refine wp_loop_rounds 1 ?_
 rw [rounds_succ]
 go_wp2_with fail
 have hbx5 := heap_setCell (j := 3) hbx4 (.slice p5 0 q5)
 have hrs5 := Qr hrs4 (show w.heap.size + 1 ≠ w.heap.size by omega) 3 (.slice p5 0 q5)
 have hbw5 := hbw4.grown (Qg w' w.heap.size 3 (.slice p5 0 q5)) hbw4.size (fun k hk => by cases hk; exact Nat.le_refl _)
 clear hbx4 hrs4 hbw4 c0 c1 c2 c3 c4 f0 f1 f2 f3 f4
 generalize w'.setCell ⟨w.heap.size, 3, none⟩ (.slice p5 0 q5) = w5 at *
 refine (Qek pm cm w5).mono ?_
 rintro e w6 ⟨p6, q6, rfl, hw5⟩
 have hbx5 := Qc hbx5 hw5
 have hrs5 := Qc hrs5 hw5
 have hbw5 := Qd hbw5 hw5
 clear hw5
 obtain ⟨⟨c0, c1, c2, c3, c4⟩, f0, f1, f2, f3, f4⟩ := cells5 hbx5
 obtain ⟨⟨d0, d1, d2, d3, d4⟩, g0, g1, g2, g3, g4⟩ := cells5 hrs5
 have hne : w.heap.size ≠ w.heap.size + 1 := by omega
 have hne2 : w.heap.size + 1 ≠ w.heap.size := by omega
 go_wp2
 refine wp_loop_rounds 1 ?_
 rw [rounds_succ]
 go_wp2
 have hrs6 := Qr hrs5 hne2 4 (.slice p6 0 q6)
 have hbw6 := hbw5.grown (Qg w6 w.heap.size 4 (.slice p6 0 q6)) hbw5.size (fun k hk => by cases hk; exact Nat.le_refl _)
 have hW := Qbu (.slice p1 l.length q1) (.slice p3 own.length q3) (.string ⟨x.toArray⟩) (.slice p5 0 q5) (.slice p6 0 q6) hrs6
 have hS := Qbc (w6.setCell ⟨w.heap.size, 4, none⟩ (.slice p6 0 q6)) (w.heap.size + 1) (.slice p1 l.length q1) (.slice p3 own.length q3) (.string ⟨x.toArray⟩) (.slice p5 0 q5) (.slice p6 0 q6)
 have hb7 := hbw6.grown hS hbw6.size (fun k hk => by cases hk; omega)
 exact bodyPost_ret (results_cell_row rfl _ _ (w.heap.size + 1) 35 _ (0, 0) _ rfl hW Try.underlying35 rfl (by kernel_rfl)) rfl ⟨p1, q1, p3, q3, p5, q5, p6, q6, rfl, hb7⟩
set_option maxRecDepth 100000 in
set_option maxHeartbeats 1600000 in
theorem Thread0 (kb t : Nat) (F : List Nat) (V : List ThrV) (K : Ker) (w : World) (h : KerAt w kb F V K) (h1 : t < V.length) (h2 : t < K.ths.length) (h4 : t < 4) (hl : K.ths[t].own.length ≤ 1000) (ho : K.ths[t].objs = []) (hms : K.ths[t].mails = []) :
 Calls Try.prog 16 #[.pointer (some ⟨kb, 0, none⟩), .int .i64 t] w fun e w' => ∃ p q p' q' p5 q5 p6 q6, e = .returned (.agg #[.slice p K.ths[t].label.length q, .slice p' K.ths[t].own.length q', .string ⟨K.ths[t].text.toArray⟩, .slice p5 0 q5, .slice p6 0 q6]) ∧ Below w.heap.size w w' := by
 have hT := h.tat t h1 h2
 obtain ⟨t0, t1, t2, t3, t4⟩ := hT.cells
 obtain ⟨ptl, ctl, hvl, _⟩ := id hT.thr.1.1
 obtain ⟨po, co, hvo⟩ := ownV hT.thr.2.1
 obtain ⟨pj, cj, hj⟩ : ∃ p c, V[t].vj = .slice p 0 c := by
  obtain ⟨_, _, j2, _⟩ := hT.thr.2.2.1
  rw [ho] at j2
  exact Qb7 j2
 obtain ⟨pm, cm, hm⟩ : ∃ p c, V[t].vm = .slice p 0 c := by
  obtain ⟨_, _, j2, _⟩ := hT.thr.2.2.2
  rw [hms] at j2
  exact Qb7 j2
 have hcp := fun wx (hb : Below w.heap.size w wx) => copyThread0 V[t].vl V[t].vo pj pm cj cm K.ths[t].label K.ths[t].own K.ths[t].text wx (hT.thr.1.1.below hb) ((QV hT.thr.2.1 hl).below hb)
 rw [hvl] at t0
 rw [hvo] at t1
 rw [hj] at t3
 rw [hm] at t4
 rw [hvl, hvo] at hcp
 have hkb := h.fin kb h.kbF
 clear hT h
 generalize K.ths[t] = th at *
 go_enter Try.func16, Try.ntmps16
 go_wp2_with (first
  | (go_at_call 17; refine (Qz kb t _ h4).mono ?_; rintro e w1 ⟨rfl, rfl⟩)
  | (go_at_call 43; refine (hcp _ (Qe _ _)).mono ?_; rintro e w2 ⟨p, q, p', q', p5, q5, p6, q6, rfl, hw2⟩; have hx := Qc (heap_alloc_new w _) hw2; obtain ⟨⟨c0, c1, c2, c3, c4⟩, f0, f1, f2, f3, f4⟩ := cells5 hx; have HX := hid hx; have HB := hid (Qd (Qe _ _) hw2); clear hx hw2))
 have hW := Qbu (.slice p th.label.length q) (.slice p' th.own.length q') (.string ⟨th.text.toArray⟩) (.slice p5 0 q5) (.slice p6 0 q6) HX.out
 have hb7 := HB.out.grown (Qbc w2 w.heap.size (.slice p th.label.length q) (.slice p' th.own.length q') (.string ⟨th.text.toArray⟩) (.slice p5 0 q5) (.slice p6 0 q6)) HB.out.size (fun k hk => by cases hk; exact Nat.le_refl _)
 exact bodyPost_ret (results_cell_row rfl _ _ w.heap.size 35 _ (0, 0) _ rfl hW Try.underlying35 rfl (by kernel_rfl)) rfl ⟨p, q, p', q', p5, q5, p6, q6, rfl, hb7⟩
def calV (c : Cal) (vl vg : Value) : Value := .agg #[.int .i64 c.kind, .int .i64 c.h, .int .i64 c.t, .int .i64 c.n, .int .i64 c.c, vl, vg, .string ⟨c.text.toArray⟩]
def CalAt (w : World) (v : Value) (c : Cal) : Prop := ∃ vl vg, v = calV c vl vg ∧ LabAt w vl c.label ∧ IntsAt w vg c.grants
theorem CalAt.below {w wr : World} {v : Value} {c : Cal} (h : CalAt w v c) (hb : Below w.heap.size w wr) : CalAt wr v c := by
 obtain ⟨vl, vg, e, h1, h2⟩ := h
 exact ⟨vl, vg, e, h1.below hb, h2.below hb⟩
theorem QT {fn : Func} {p u : Tmp} (h : fn.results = #[.cell p 42, .tmp u]) (tmps : Array Value) (w : World) (g : Nat) (cs : Array Value) (hc : cs.size = 5)
 (hp : tmps.getD p undef = .pointer (some ⟨g, 0, none⟩)) (hg : w.heap[g]? = some (.cells cs 42 (0, 0))) :
 (results fn tmps).run Try.prog w = .ok (.tuple #[.agg cs, tmps.getD u undef]) w := by
 have hl := run_loadVar_row (P := Try.prog) w g 42 42 cs (0, 0) _ hg Try.underlying42 rfl (by rw [hc]; kernel_rfl)
 rw [results_cell_tmp h, hp]
 simp [asAddr, hl]
abbrev catV : Value := .agg #[.int .i64 1, .int .i64 0, .int .i64 0, .int .i64 0, .int .i64 0, .slice none 0 0, .slice none 0 0, .string ⟨#[]⟩]
set_option maxRecDepth 100000 in
set_option maxHeartbeats 1600000 in
theorem QgI (kb t : Nat) (F : List Nat) (V : List ThrV) (K : Ker) (w : World) (h : KerAt w kb F V K) (h1 : t < V.length) (h2 : t < K.ths.length) (h4 : t < 4) (hs : K.ths[t].own.Pairwise (· < ·)) (hl : K.ths[t].own.length ≤ 8) (hh : 0 ≤ K.host ∧ K.host < 4) (hm : 0 ≤ K.made ∧ K.made ≤ 20) :
 Calls Try.prog 13 #[.pointer (some ⟨kb, 0, none⟩), .int .i64 t, catV] w fun e w' => e = .returned (repV (categoryL K t K.ths[t]).2) ∧ ∃ G V', KerAt w' kb G V' (categoryL K t K.ths[t]).1 ∧ KStep kb w F V w' G V' := by
 have HA := hid ((h.reserve (.cells #[.int .i64 1, .int .i64 0, .int .i64 0, .int .i64 0, .int .i64 0, .slice none 0 0, .slice none 0 0, .string ⟨#[]⟩] 40)).reserve (.cells #[.int .i64 0, .int .i64 0, .string ⟨#[]⟩] 52))
 have HS := hid ((KStep.reserve kb w F V (.cells #[.int .i64 1, .int .i64 0, .int .i64 0, .int .i64 0, .int .i64 0, .slice none 0 0, .slice none 0 0, .string ⟨#[]⟩] 40)).trans (KStep.reserve kb _ _ V (.cells #[.int .i64 0, .int .i64 0, .string ⟨#[]⟩] 52)))
 have hcat := Qb2 kb t _ V K _ HA.out h1 h2 hs hl hh hm
 have HC := hid hcat
 clear h hcat
 generalize categoryL K t K.ths[t] = R at *
 unfold catV
 go_enter Try.func13, Try.ntmps13
 have HBX : Hid (((w.alloc (.cells #[.int .i64 1, .int .i64 0, .int .i64 0, .int .i64 0, .int .i64 0, .slice none 0 0, .slice none 0 0, .string ⟨#[]⟩] 40)).alloc (.cells #[.int .i64 0, .int .i64 0, .string ⟨#[]⟩] 52)).heap[w.heap.size + 1]? = some (.cells #[.int .i64 0, .int .i64 0, .string ⟨#[]⟩] 52 (0, 0))) := hid (heap_alloc2_new w _ _)
 go_wp2_with (first | (go_at_call 17; refine (Qz kb t _ h4).mono ?_; rintro e w1 ⟨rfl, rfl⟩) | (go_at_call 33; refine HC.out.mono ?_; rintro e w2 ⟨rfl, G, V', hk2, hs2⟩; have hx2 := Qai hs2 HA.out HBX.out (by decide) (by decide) (by decide) (by decide); obtain ⟨c0, c1, c2, f0, f1, f2⟩ := cells3 hx2; have HX2 := hid hx2; have HK2 := hid hk2; have HS2 := hid hs2; unfold repV; clear hx2 hk2 hs2))
 have hin : w.heap.size + 1 ∈ G := HS2.out.more.1 _ (by simp)
 have hg := Qv w2 (w.heap.size + 1) (.int .i64 R.2.code) (.int .i64 R.2.n) (.string ⟨R.2.text.toArray⟩)
 exact bodyPost_ret (results_cell_row rfl _ _ (w.heap.size + 1) 52 _ (0, 0) _ rfl (QA (.int .i64 R.2.code) (.int .i64 R.2.n) (.string ⟨R.2.text.toArray⟩) HX2.out) Try.underlying52 rfl (by kernel_rfl)) rfl ⟨rfl, G, V', HK2.out.boxed hg hin HX2.out (by decide) (by decide) (by decide) (by decide), (HS.out.trans HS2.out).boxed hg (by omega)⟩
theorem QbU (vs : List Value) (os : List Obt) (h : vs.length = os.length) (i : Nat) (h1 : i < vs.length) (h2 : i < os.length) : (flatO vs os)[i * 2]? = some vs[i] ∧ (flatO vs os)[i * 2 + 1]? = some (.string ⟨os[i].text.toArray⟩) := by
 induction vs generalizing os i with
 | nil => simp at h1
 | cons x r ih =>
  cases os with
  | nil => simp at h2
  | cons y t =>
   have e : flatO (x :: r) (y :: t) = x :: .string ⟨y.text.toArray⟩ :: flatO r t := rfl
   cases i with
   | zero => rw [e]; exact ⟨rfl, rfl⟩
   | succ i =>
    obtain ⟨g1, g2⟩ := ih t (by simpa using h) i (by simpa using h1) (by simpa using h2)
    rw [e, show (i + 1) * 2 = i * 2 + 1 + 1 by omega]
    simp only [List.getElem?_cons_succ, List.getElem_cons_succ]
    exact ⟨g1, g2⟩
theorem ObjsAt.cell {w : World} {F : List Nat} {v : Value} {os : List Obt} (h : ObjsAt w F v os) (i : Nat) (hi : i < os.length) : ∃ g cap u, v = .slice (some ⟨g, 0, none⟩) os.length cap ∧ w.cell? ⟨g, i * 2, none⟩ = some u ∧ w.cell? ⟨g, i * 2 + 1, none⟩ = some (.string ⟨os[i].text.toArray⟩) ∧ w.frozen? ⟨g, i * 2 + 1, none⟩ = false ∧ RoLab w F u os[i].label := by
 obtain ⟨vs, h1, h2, h3⟩ := h
 rcases h2.2 with ⟨_, hn⟩ | ⟨g, cap, cur, rfl, _, hg, _⟩
 · omega
 · obtain ⟨g1, g2⟩ := QbU vs os h1 i (by omega) hi
   have c1 := World.ownsRow.cells h2 (g := g) rfl _ _ g1
   have c2 := World.ownsRow.cells h2 (g := g) rfl _ _ g2
   rw [WideShapes.add_plain, Nat.zero_add] at c1 c2
   exact ⟨g, cap, vs[i], rfl, c1, c2, Qf hg _, h3 i (by omega) hi⟩
theorem Qb1 (kb : Nat) (F : List Nat) (V : List ThrV) (K : Ker) (t n : Int) (w : World) (h : KerAt w kb F V K) (hno : objAt K t n = none) :
 Calls Try.prog 56 #[.pointer (some ⟨kb, 0, none⟩), .int .i64 t, .int .i64 n] w fun e w' => e = .returned (.pointer none) ∧ w' = w := by
 by_cases ht : 0 ≤ t ∧ t < 4
 rotate_left
 · go_enter Try.func56, Try.ntmps56
   go_wp2_with (go_at_call 17; refine (QaE kb t _ ht).mono ?_; rintro e w1 ⟨rfl, rfl⟩)
   go_ret
   exact ⟨rfl, rfl⟩
 · obtain ⟨u, hu⟩ : ∃ u : Nat, t = u := ⟨t.toNat, by omega⟩
   subst hu
   have h4 : u < 4 := by omega
   have h1 : u < V.length := by rw [h.len]; exact h4
   have h2 : u < K.ths.length := by rw [h.lenK]; exact h4
   have hT := h.tat u h1 h2
   obtain ⟨_, _, _, t3, _⟩ := hT.cells
   obtain ⟨_, _, j2, _⟩ := hT.thr.2.2.1
   obtain ⟨pj, cj, hj⟩ := Qi j2
   rw [hj] at t3
   have hbad : n < 0 ∨ (K.ths[u].objs.length : Int) ≤ n := by
    unfold objAt getT at hno
    rw [if_pos (by omega)] at hno
    simp only [Int.toNat_natCast, List.getElem?_eq_getElem h2] at hno
    split at hno
    · right
      have := List.getElem?_eq_none_iff.1 hno
      omega
    · left; omega
   generalize K.ths[u].objs.length = m at t3 hbad
   clear hT hno j2 hj
   by_cases hn : n < 0
   · go_enter Try.func56, Try.ntmps56
     go_wp2_with (go_at_call 17; refine (Qz kb u _ h4).mono ?_; rintro e w1 ⟨rfl, rfl⟩)
     go_ret
     exact ⟨rfl, rfl⟩
   · have hm : (m : Int) ≤ n := by omega
     go_enter Try.func56, Try.ntmps56
     go_wp2_with (go_at_call 17; refine (Qz kb u _ h4).mono ?_; rintro e w1 ⟨rfl, rfl⟩)
     go_ret
     exact ⟨rfl, rfl⟩
theorem QaI (kb u i g cap m : Nat) (F : List Nat) (v : ThrV) (th : Thr) (w : World) (h : TAt w kb (2 + u * 5) F v th) (h4 : u < 4) (hi : i < m) (hv : v.vj = .slice (some ⟨g, 0, none⟩) m cap) :
 Calls Try.prog 56 #[.pointer (some ⟨kb, 0, none⟩), .int .i64 u, .int .i64 i] w fun e w' => e = .returned (.pointer (some ⟨g, i * 2, none⟩)) ∧ w' = w := by
 obtain ⟨_, _, _, t3, _⟩ := h.cells
 rw [hv] at t3
 clear h
 have h0 : ¬ ((i : Int) < 0) := by omega
 have h1 : ¬ ((m : Int) ≤ i) := by omega
 have h2 : (i : Int) < m := by omega
 go_enter Try.func56, Try.ntmps56
 go_wp2_with (go_at_call 17; refine (Qz kb u _ h4).mono ?_; rintro e w1 ⟨rfl, rfl⟩)
 go_ret
 exact ⟨rfl, rfl⟩
theorem Qdo {w : World} {e : TypeId} {sz n g cap j : Nat} {xs : List Value} (h : w.ownsRow 0 e sz (.slice (some ⟨g, 0, none⟩) n cap) n xs) (hj : j < n * sz) (u : Value) : (w.setCell ⟨g, j, none⟩ u).ownsRow 0 e sz (.slice (some ⟨g, 0, none⟩) n cap) n (xs.set j u) := by
 have hx := h.1
 obtain ⟨cur, hg, h1, h2, h3, h4⟩ := QaU h
 refine Qaa (heap_setCell hg u) h1 h2 (by simpa using h3) (by simpa using hx) fun k hk => ?_
 by_cases e : j = k
 · subst e
   have hc : j < cur.size := by rw [h3]; exact Nat.lt_of_lt_of_le hj (Nat.mul_le_mul_right _ h1)
   rw [Array.getElem?_setIfInBounds_self, if_pos hc, List.getElem?_set_self (by omega)]
 · rw [Array.getElem?_setIfInBounds_ne e, List.getElem?_set_ne e, h4 k hk]
theorem Qdh (vs : List Value) (os : List Obt) (h : vs.length = os.length) (i : Nat) (hi : i < os.length) (x : List UInt8) : (flatO vs os).set (i * 2 + 1) (.string ⟨x.toArray⟩) = flatO vs (os.modify i fun o => { o with text := x }) := by
 induction vs generalizing os i with
 | nil => simp at h; omega
 | cons y r ih =>
  cases os with
  | nil => simp at hi
  | cons z t =>
   have e : flatO (y :: r) (z :: t) = y :: .string ⟨z.text.toArray⟩ :: flatO r t := rfl
   cases i with
   | zero => rw [e]; rfl
   | succ i =>
    rw [e, show (i + 1) * 2 + 1 = i * 2 + 1 + 1 + 1 by omega, List.set_cons_succ, List.set_cons_succ, ih t (by simpa using h) i (by simpa using hi)]
    rfl
theorem TAt.put {w : World} {kb o : Nat} {F : List Nat} {v : ThrV} {th : Thr} (h : TAt w kb o F v th) {g cap i : Nat} (hv : v.vj = .slice (some ⟨g, 0, none⟩) th.objs.length cap) (hi : i < th.objs.length) (x : List UInt8) :
 TAt (w.setCell ⟨g, i * 2 + 1, none⟩ (.string ⟨x.toArray⟩)) kb o F v (putO th i x) ∧ TStep kb o w F v (w.setCell ⟨g, i * 2 + 1, none⟩ (.string ⟨x.toArray⟩)) F v := by
 have hkr := h.kb_rows
 obtain ⟨⟨C, hC, hc⟩, ⟨t1, t2, t3, t4⟩, h3, h4, h5⟩ := h
 have hgv : v.vj.ownBlock = some g := by rw [hv]; rfl
 have hgF : g ∈ F := h3 g (mem_rows.2 (.inr (.inl hgv)))
 have hne : kb ≠ g := fun e => hkr (mem_rows.2 (.inr (.inl (by rw [hgv, e]))))
 have hk : KeptF [g] w (w.setCell ⟨g, i * 2 + 1, none⟩ (.string ⟨x.toArray⟩)) := QK w g _ _ (by simp)
 have hR : ∀ k ∈ [g], k ∈ F := fun k e => by simp at e; subst e; exact hgF
 obtain ⟨vs, j1, j2, j3⟩ := t3
 have m2 := t4
 obtain ⟨_, _, m2, _⟩ := m2
 refine ⟨⟨⟨C, hk.heap hC (by simpa using hne), hc⟩, ⟨t1.keep (hk.sub fun k e => .inl (hR k e)) (More.refl _ _), QM t2 hk (fun k e g2 => ?_), ⟨vs, ?_, ?_, fun j g1 g2 => ?_⟩, t4.keep hk hR (More.refl _ _) (fun k e g2 => ?_)⟩, h3, h4, fun k e => by simpa using h5 k e⟩, ⟨hk.sub fun k e => .inl ?_, fun D hD => ⟨D, hk.heap hD (by simpa using hne), rfl, fun _ _ => rfl⟩, fun _ h => .inl h, More.refl _ _⟩⟩
 · simp at g2; subst g2; exact Qac t2 j2 (by decide) e hgv
 · show vs.length = (th.objs.modify _ _).length
   rw [List.length_modify]; exact j1
 · show (w.setCell _ _).ownsRow 0 80 2 v.vj (th.objs.modify _ _).length (flatO vs (th.objs.modify _ _))
   rw [List.length_modify, Int.toNat_natCast, ← Qdh vs th.objs j1 i hi x]
   rw [hv] at j2 ⊢
   exact Qdo j2 (by omega) _
 · have e : ((putO th i x).objs[j]'g2).label = (th.objs[j]'(by have := g2; simp [putO] at this; exact this)).label := by
    simp only [putO, List.getElem_modify]
    split <;> rfl
   rw [e]
   exact (j3 j g1 _).keep (hk.sub fun k e => .inl (hR k e)) (More.refl _ _)
 · simp at g2; subst g2; exact Qac m2 j2 (by decide) e hgv
 · simp at e; subst e; exact List.mem_cons_of_mem _ (mem_rows.2 (.inr (.inl hgv)))
theorem cells8' {w : World} {b : Nat} {t : TypeId} {y0 y1 y2 y3 y4 y5 y6 y7 : Value} (h : w.heap[b]? = some (.cells #[y0, y1, y2, y3, y4, y5, y6, y7] t (0, 0))) : w.cell? ⟨b, 0, none⟩ = some y0 ∧ w.cell? ⟨b, 1, none⟩ = some y1 ∧ w.cell? ⟨b, 2, none⟩ = some y2 ∧ w.cell? ⟨b, 3, none⟩ = some y3 ∧ w.cell? ⟨b, 4, none⟩ = some y4 ∧ w.cell? ⟨b, 5, none⟩ = some y5 ∧ w.cell? ⟨b, 6, none⟩ = some y6 ∧ w.cell? ⟨b, 7, none⟩ = some y7 :=
 ⟨Qa h 0, Qa h 1, Qa h 2, Qa h 3, Qa h 4, Qa h 5, Qa h 6, Qa h 7⟩
set_option maxRecDepth 100000 in
set_option maxHeartbeats 3200000 in
theorem Qgm (kb t : Nat) (F : List Nat) (V : List ThrV) (K : Ker) (c : Cal) (vc : Value) (w : World) (h : KerAt w kb F V K) (hc : CalAt w vc c) (hno : objAt K c.t c.n = none) :
 Calls Try.prog 35 #[.pointer (some ⟨kb, 0, none⟩), .pointer (some ⟨kb, 2 + t * 5, none⟩), vc] w fun e w' => e = .returned (repV (code 0)) ∧ ∃ G, KerAt w' kb G V K ∧ KStep kb w F V w' G V := by
 obtain ⟨vl, vg, rfl, ⟨pl, cl, rfl, _⟩, ⟨pg, cg, rfl, _⟩⟩ := hc
 unfold calV
 have HA := hid ((h.reserve (.cells #[.int .i64 c.kind, .int .i64 c.h, .int .i64 c.t, .int .i64 c.n, .int .i64 c.c, .slice pl c.label.length cl, .slice pg c.grants.length cg, .string ⟨c.text.toArray⟩] 40)).reserve (.cells #[.int .i64 0, .int .i64 0, .string ⟨#[]⟩] 52))
 have HS := hid ((KStep.reserve kb w F V (.cells #[.int .i64 c.kind, .int .i64 c.h, .int .i64 c.t, .int .i64 c.n, .int .i64 c.c, .slice pl c.label.length cl, .slice pg c.grants.length cg, .string ⟨c.text.toArray⟩] 40)).trans (KStep.reserve kb _ _ V (.cells #[.int .i64 0, .int .i64 0, .string ⟨#[]⟩] 52)))
 have hob := Qb1 kb _ V K c.t c.n _ HA.out hno
 have HBX := hid (heap_alloc2_new w (.cells #[.int .i64 c.kind, .int .i64 c.h, .int .i64 c.t, .int .i64 c.n, .int .i64 c.c, .slice pl c.label.length cl, .slice pg c.grants.length cg, .string ⟨c.text.toArray⟩] 40) (.cells #[.int .i64 0, .int .i64 0, .string ⟨#[]⟩] 52))
 clear h hno
 go_enter Try.func35, Try.ntmps35
 go_wp2_with (go_at_call 56; refine hob.mono ?_; rintro e w1 ⟨rfl, rfl⟩)
 go_quiet (fail)
 go_wp2_with (go_at_call 32; refine (QB _ _).mono ?_; rintro e w2 ⟨rfl, hw2⟩; have HB2 := hid (Qd (Qq _ _) hw2); have hb2 := Qc HBX.out HB2.out; obtain ⟨c0, c1, c2, f0, f1, f2⟩ := cells3 hb2; have HX2 := hid hb2; clear hb2 hw2)
 have hg := Qv w2 (w.heap.size + 1) (.int .i64 0) (.int .i64 0) (.string ⟨#[]⟩)
 exact bodyPost_ret (results_cell_row rfl _ _ (w.heap.size + 1) 52 _ (0, 0) _ rfl (QA (.int .i64 0) (.int .i64 0) (.string ⟨#[]⟩) HX2.out) Try.underlying52 rfl (by kernel_rfl)) rfl ⟨rfl, _, (HA.out.below HB2.out).boxed hg (by simp) HX2.out (by decide) (by decide) (by decide) (by decide), (HS.out.trans (KStep.below HB2.out)).boxed hg (by omega)⟩
set_option maxRecDepth 100000 in
set_option maxHeartbeats 3200000 in
theorem QgU (kb t u i : Nat) (F : List Nat) (V : List ThrV) (K : Ker) (c : Cal) (vc : Value) (w : World) (h : KerAt w kb F V K) (h1 : t < V.length) (h2 : t < K.ths.length) (u1 : u < V.length) (u2 : u < K.ths.length) (hl : K.ths[t].own.length ≤ 1000) (hi : i < K.ths[u].objs.length) (hct : c.t = u) (hcn : c.n = i) (hx : c.text.length ≤ 1000) (hc : CalAt w vc c) (hf : flowsL K.ths[t].label K.ths[u].objs[i].label K.ths[t].own = false) :
 Calls Try.prog 35 #[.pointer (some ⟨kb, 0, none⟩), .pointer (some ⟨kb, 2 + t * 5, none⟩), vc] w fun e w' => e = .returned (repV (code 0)) ∧ ∃ G, KerAt w' kb G V K ∧ KStep kb w F V w' G V := by
 obtain ⟨vl, vg, rfl, ⟨pl, cl, rfl, _⟩, ⟨pg, cg, rfl, _⟩⟩ := hc
 unfold calV
 obtain ⟨ck, ch, ct, cn, cc, clb, cgr, cx⟩ := c
 simp only at hct hcn hx ⊢
 subst hct
 subst hcn
 have HA := hid ((h.reserve (.cells #[.int .i64 ck, .int .i64 ch, .int .i64 u, .int .i64 i, .int .i64 cc, .slice pl clb.length cl, .slice pg cgr.length cg, .string ⟨cx.toArray⟩] 40)).reserve (.cells #[.int .i64 0, .int .i64 0, .string ⟨#[]⟩] 52))
 have HS := hid ((KStep.reserve kb w F V (.cells #[.int .i64 ck, .int .i64 ch, .int .i64 u, .int .i64 i, .int .i64 cc, .slice pl clb.length cl, .slice pg cgr.length cg, .string ⟨cx.toArray⟩] 40)).trans (KStep.reserve kb _ _ V (.cells #[.int .i64 0, .int .i64 0, .string ⟨#[]⟩] 52)))
 have HBX := hid (heap_alloc2_new w (.cells #[.int .i64 ck, .int .i64 ch, .int .i64 u, .int .i64 i, .int .i64 cc, .slice pl clb.length cl, .slice pg cgr.length cg, .string ⟨cx.toArray⟩] 40) (.cells #[.int .i64 0, .int .i64 0, .string ⟨#[]⟩] 52))
 have HCX := hid (heap_alloc2_old w (.cells #[.int .i64 ck, .int .i64 ch, .int .i64 u, .int .i64 i, .int .i64 cc, .slice pl clb.length cl, .slice pg cgr.length cg, .string ⟨cx.toArray⟩] 40) (.cells #[.int .i64 0, .int .i64 0, .string ⟨#[]⟩] 52))
 have h4u : u < 4 := by rw [← h.len]; exact u1
 have hTu := HA.out.tat u u1 u2
 obtain ⟨g, cap, uo, hvj, o1, o2, of, hro⟩ := hTu.thr.2.2.1.cell i hi
 have hob := QaI kb u i g cap K.ths[u].objs.length _ V[u] K.ths[u] _ hTu h4u hi hvj
 have hTt := HA.out.tat t h1 h2
 obtain ⟨t0, t1, t2, _, _⟩ := hTt.cells
 obtain ⟨ptl, ctl, hvl, _⟩ := id hTt.thr.1.1
 obtain ⟨po, co, hvo⟩ := ownV hTt.thr.2.1
 obtain ⟨puo, cuo, huo, _⟩ := id hro.1
 have HVJ := hid hvj
 have hfl := fun wx (hb : Below (((w.alloc (.cells #[.int .i64 ck, .int .i64 ch, .int .i64 u, .int .i64 i, .int .i64 cc, .slice pl clb.length cl, .slice pg cgr.length cg, .string ⟨cx.toArray⟩] 40)).alloc (.cells #[.int .i64 0, .int .i64 0, .string ⟨#[]⟩] 52))).heap.size ((w.alloc (.cells #[.int .i64 ck, .int .i64 ch, .int .i64 u, .int .i64 i, .int .i64 cc, .slice pl clb.length cl, .slice pg cgr.length cg, .string ⟨cx.toArray⟩] 40)).alloc (.cells #[.int .i64 0, .int .i64 0, .string ⟨#[]⟩] 52)) wx) => QS _ _ _ _ _ _ wx (hTt.thr.1.1.below hb) (hro.1.below hb) ((QV hTt.thr.2.1 hl).below hb)
 rw [hf] at hfl
 rw [hvl] at t0
 rw [hvo] at t1
 rw [huo] at o1
 rw [hvl, hvo, huo] at hfl
 clear h hTu hTt hvj hro of o2 t2
 generalize hW : ((w.alloc (.cells #[.int .i64 ck, .int .i64 ch, .int .i64 u, .int .i64 i, .int .i64 cc, .slice pl clb.length cl, .slice pg cgr.length cg, .string ⟨cx.toArray⟩] 40)).alloc (.cells #[.int .i64 0, .int .i64 0, .string ⟨#[]⟩] 52)) = W at HA HS HBX HCX hfl t0 t1 o1 hob
 have HW := hid hW
 have HIN : Hid (w.heap.size + 1 ∈ F ++ [w.heap.size] ++ [(w.alloc (.cells #[.int .i64 ck, .int .i64 ch, .int .i64 u, .int .i64 i, .int .i64 cc, .slice pl clb.length cl, .slice pg cgr.length cg, .string ⟨cx.toArray⟩] 40)).heap.size]) := hid (by simp)
 clear hW
 go_enter Try.func35, Try.ntmps35
 go_wp2_with fail
 rw [HW.out]
 refine hob.mono ?_
 rintro e w1 ⟨rfl, rfl⟩
 clear hob
 go_wp2_with fail
 go_region_held3 (fun w' => w'.cell? ⟨kb, 2 + t * 5, none⟩ = some (.slice ptl K.ths[t].label.length ctl) ∧ w'.cell? ⟨kb, 2 + t * 5 + 1, none⟩ = some (.slice po K.ths[t].own.length co) ∧ w'.cell? ⟨g, i * 2, none⟩ = some (.slice puo K.ths[u].objs[i].label.length cuo)) (go_keep)
  (first | (go_at_call 31; refine (hfl _ (Below.refl _ _).drew).mono ?_; rintro e w5 ⟨rfl, hw5d⟩; have hw5 := kundrew hw5d; have HB5 := hid hw5; have r0 := hw5.cell (Qb t0); rw [t0] at r0; have r1 := hw5.cell (Qb t1); rw [t1] at r1; have r2 := hw5.cell (Qb o1); rw [o1] at r2; clear hw5d hw5))
 all_goals
  go_wp2_with (go_at_call 32; refine (QB _ _).mono ?_; rintro e w2 ⟨rfl, hw2⟩; have HB2 := hid (Qd HB5.out hw2); have hb2 := Qc HBX.out HB2.out; obtain ⟨c0, c1, c2, f0, f1, f2⟩ := cells3 hb2; have HX2 := hid hb2; clear hb2 hw2)
  have hg := Qv w2 (w.heap.size + 1) (.int .i64 0) (.int .i64 0) (.string ⟨#[]⟩)
  exact bodyPost_ret (results_cell_row rfl _ _ (w.heap.size + 1) 52 _ (0, 0) _ rfl (QA (.int .i64 0) (.int .i64 0) (.string ⟨#[]⟩) HX2.out) Try.underlying52 rfl (by kernel_rfl)) rfl ⟨rfl, _, (HA.out.below HB2.out).boxed hg HIN.out HX2.out (by decide) (by decide) (by decide) (by decide), (HS.out.trans (KStep.below HB2.out)).boxed hg (by omega)⟩
set_option maxRecDepth 100000 in
set_option maxHeartbeats 3200000 in
theorem QgT (kb t u i : Nat) (F : List Nat) (V : List ThrV) (K : Ker) (c : Cal) (vc : Value) (w : World) (h : KerAt w kb F V K) (h1 : t < V.length) (h2 : t < K.ths.length) (u1 : u < V.length) (u2 : u < K.ths.length) (hl : K.ths[t].own.length ≤ 1000) (hi : i < K.ths[u].objs.length) (hct : c.t = u) (hcn : c.n = i) (hx : c.text.length ≤ 1000) (hc : CalAt w vc c) (hf : flowsL K.ths[t].label K.ths[u].objs[i].label K.ths[t].own = true) (hxt : K.ths[t].text.length ≤ 1000) :
 Calls Try.prog 35 #[.pointer (some ⟨kb, 0, none⟩), .pointer (some ⟨kb, 2 + t * 5, none⟩), vc] w fun e w' => e = .returned (repV (code 0)) ∧ ∃ G, KerAt w' kb G V { K with ths := K.ths.set u (putO K.ths[u] i (lastL (K.ths[t].text ++ c.text))) } ∧ KStep kb w F V w' G V := by
 obtain ⟨vl, vg, rfl, ⟨pl, cl, rfl, _⟩, ⟨pg, cg, rfl, _⟩⟩ := hc
 unfold calV
 obtain ⟨ck, ch, ct, cn, cc, clb, cgr, cx⟩ := c
 simp only at hct hcn hx ⊢
 subst hct
 subst hcn
 have HA := hid ((h.reserve (.cells #[.int .i64 ck, .int .i64 ch, .int .i64 u, .int .i64 i, .int .i64 cc, .slice pl clb.length cl, .slice pg cgr.length cg, .string ⟨cx.toArray⟩] 40)).reserve (.cells #[.int .i64 0, .int .i64 0, .string ⟨#[]⟩] 52))
 have HS := hid ((KStep.reserve kb w F V (.cells #[.int .i64 ck, .int .i64 ch, .int .i64 u, .int .i64 i, .int .i64 cc, .slice pl clb.length cl, .slice pg cgr.length cg, .string ⟨cx.toArray⟩] 40)).trans (KStep.reserve kb _ _ V (.cells #[.int .i64 0, .int .i64 0, .string ⟨#[]⟩] 52)))
 have HBX := hid (heap_alloc2_new w (.cells #[.int .i64 ck, .int .i64 ch, .int .i64 u, .int .i64 i, .int .i64 cc, .slice pl clb.length cl, .slice pg cgr.length cg, .string ⟨cx.toArray⟩] 40) (.cells #[.int .i64 0, .int .i64 0, .string ⟨#[]⟩] 52))
 have HCX := hid (heap_alloc2_old w (.cells #[.int .i64 ck, .int .i64 ch, .int .i64 u, .int .i64 i, .int .i64 cc, .slice pl clb.length cl, .slice pg cgr.length cg, .string ⟨cx.toArray⟩] 40) (.cells #[.int .i64 0, .int .i64 0, .string ⟨#[]⟩] 52))
 have h4u : u < 4 := by rw [← h.len]; exact u1
 have hTu := HA.out.tat u u1 u2
 obtain ⟨g, cap, uo, hvj, o1, o2, of, hro⟩ := hTu.thr.2.2.1.cell i hi
 have hob := QaI kb u i g cap K.ths[u].objs.length _ V[u] K.ths[u] _ hTu h4u hi hvj
 have hTt := HA.out.tat t h1 h2
 obtain ⟨t0, t1, t2, _, _⟩ := hTt.cells
 obtain ⟨ptl, ctl, hvl, _⟩ := id hTt.thr.1.1
 obtain ⟨po, co, hvo⟩ := ownV hTt.thr.2.1
 obtain ⟨puo, cuo, huo, _⟩ := id hro.1
 have HVJ := hid hvj
 have hfl := fun wx (hb : Below (((w.alloc (.cells #[.int .i64 ck, .int .i64 ch, .int .i64 u, .int .i64 i, .int .i64 cc, .slice pl clb.length cl, .slice pg cgr.length cg, .string ⟨cx.toArray⟩] 40)).alloc (.cells #[.int .i64 0, .int .i64 0, .string ⟨#[]⟩] 52))).heap.size ((w.alloc (.cells #[.int .i64 ck, .int .i64 ch, .int .i64 u, .int .i64 i, .int .i64 cc, .slice pl clb.length cl, .slice pg cgr.length cg, .string ⟨cx.toArray⟩] 40)).alloc (.cells #[.int .i64 0, .int .i64 0, .string ⟨#[]⟩] 52)) wx) => QS _ _ _ _ _ _ wx (hTt.thr.1.1.below hb) (hro.1.below hb) ((QV hTt.thr.2.1 hl).below hb)
 rw [hf] at hfl
 rw [hvl] at t0
 rw [hvo] at t1
 rw [huo] at o1
 rw [hvl, hvo, huo] at hfl
 clear h hTu hTt hvj hro
 generalize hW : ((w.alloc (.cells #[.int .i64 ck, .int .i64 ch, .int .i64 u, .int .i64 i, .int .i64 cc, .slice pl clb.length cl, .slice pg cgr.length cg, .string ⟨cx.toArray⟩] 40)).alloc (.cells #[.int .i64 0, .int .i64 0, .string ⟨#[]⟩] 52)) = W at HA HS HBX HCX hfl t0 t1 o1 hob t2 o2 of
 have HW := hid hW
 have HIN : Hid (w.heap.size + 1 ∈ F ++ [w.heap.size] ++ [(w.alloc (.cells #[.int .i64 ck, .int .i64 ch, .int .i64 u, .int .i64 i, .int .i64 cc, .slice pl clb.length cl, .slice pg cgr.length cg, .string ⟨cx.toArray⟩] 40)).heap.size]) := hid (by simp)
 clear hW
 go_enter Try.func35, Try.ntmps35
 go_wp2_with fail
 rw [HW.out]
 refine hob.mono ?_
 rintro e w1 ⟨rfl, rfl⟩
 clear hob
 go_wp2_with fail
 have hstr : ∀ a b : List UInt8, (⟨a.toArray⟩ : ByteArray) ++ ⟨b.toArray⟩ = ⟨(a ++ b).toArray⟩ := fun a b => ByteArray.mk_append_mk a b
 have hsum : K.ths[t].text.length + cx.length < 4611686018427387904 := by omega
 have hsum2 : ¬ (9223372036854775807 < K.ths[t].text.length + cx.length) := by omega
 have hsum3 : K.ths[t].text.length + cx.length ≤ 9223372036854775807 := by omega
 have hg1 : kb ≠ g := fun e => (HA.out.tat u u1 u2).kb_rows (mem_rows.2 (.inr (.inl (by rw [HVJ.out, e]; rfl))))
 have hg2 : g ≠ kb := fun e => hg1 e.symm
 have hg3 : w.heap.size ≠ g := fun e => by
  obtain ⟨_, _, j2, _⟩ := (HA.out.tat u u1 u2).thr.2.2.1
  exact Qn j2 HCX.out (by decide) (by rw [HVJ.out, e]; rfl)
 have hg4 : g ≠ w.heap.size := fun e => hg3 e.symm
 have x7 := (cells8' HCX.out).2.2.2.2.2.2.2
 go_region_held3 (fun w' => w'.cell? ⟨kb, 2 + t * 5, none⟩ = some (.slice ptl K.ths[t].label.length ctl) ∧ w'.cell? ⟨kb, 2 + t * 5 + 1, none⟩ = some (.slice po K.ths[t].own.length co) ∧ w'.cell? ⟨g, i * 2, none⟩ = some (.slice puo K.ths[u].objs[i].label.length cuo)) (go_keep)
  (first | (go_at_call 31; refine (hfl _ (Below.refl _ _).drew).mono ?_; rintro e w5 ⟨rfl, hw5d⟩; have hw5 := kundrew hw5d; have HB5 := hid hw5; have r0 := hw5.cell (Qb t0); rw [t0] at r0; have r1 := hw5.cell (Qb t1); rw [t1] at r1; have r2 := hw5.cell (Qb o1); rw [o1] at r2; have y2 := hw5.cell (Qb t2); rw [t2] at y2; have y7 := hw5.cell (Qb x7); rw [x7] at y7; have z2 := hw5.cell (Qb o2); rw [o2] at z2; clear hw5d hw5))
 all_goals
  clear r0 r1 r2 t0 t1 t2 o1 o2 x7 hfl
  go_wp2_with fail
  go_region_held3 (fun w' => w'.cell? ⟨kb, 2 + t * 5 + 2, none⟩ = some (.string ⟨K.ths[t].text.toArray⟩) ∧ w'.cell? ⟨w.heap.size, 7, none⟩ = some (.string ⟨cx.toArray⟩)) (go_keep)
   (first | (go_at_call 18; refine (QaO (K.ths[t].text ++ cx) _ (by rw [List.length_append]; omega)).mono ?_; rintro e w6 ⟨rfl, hw6d⟩; have hw6 := kundrew hw6d; have HB6 := hid (Qd HB5.out hw6); have q2 := hw6.cell (Qb y2); rw [y2] at q2; have q7 := hw6.cell (Qb y7); rw [y7] at q7; have hK6 := HA.out.below HB6.out; have hT6 := hK6.tat u u1 u2; have s2 := hw6.cell (Qb z2); rw [z2] at s2; obtain ⟨g', cap', uo', hvj', _, _, sf, _⟩ := hT6.thr.2.2.1.cell i hi; have hgg : g' = g := (by have e := hvj'.symm.trans HVJ.out; cases e; rfl); subst hgg; have HT6 := hid hT6; have HK6 := hid hK6; clear hw6d hw6 hT6 hK6))
  all_goals
   have hput := HT6.out.put hvj' hi (lastL (K.ths[t].text ++ cx))
   have hK7 := HK6.out.step u1 u2 hput.1 hput.2
   have hx7 := QaC hput.2 HT6.out (Qc HBX.out HB6.out) (by decide) (by decide) (by decide) (by decide)
   have hS7 := (HS.out.trans (KStep.below HB6.out)).trans (KStep.of u1 hput.2)
   rw [List.set_getElem_self] at hK7 hS7
   have HK7 := hid hK7
   have HS7 := hid hS7
   have HX7 := hid hx7
   clear hput hK7 hx7 hS7
   generalize w6.setCell ⟨g', i * 2 + 1, none⟩ (.string ⟨(lastL (K.ths[t].text ++ cx)).toArray⟩) = w7 at *
   go_wp2_with (go_at_call 32; refine (QB _ _).mono ?_; rintro e w2 ⟨rfl, hw2⟩; have HB2 := hid hw2; have hb2 := Qc HX7.out HB2.out; obtain ⟨c0, c1, c2, f0, f1, f2⟩ := cells3 hb2; have HX2 := hid hb2; clear hb2 hw2)
   have hg := Qv w2 (w.heap.size + 1) (.int .i64 0) (.int .i64 0) (.string ⟨#[]⟩)
   exact bodyPost_ret (results_cell_row rfl _ _ (w.heap.size + 1) 52 _ (0, 0) _ rfl (QA (.int .i64 0) (.int .i64 0) (.string ⟨#[]⟩) HX2.out) Try.underlying52 rfl (by kernel_rfl)) rfl ⟨rfl, _, (HK7.out.below HB2.out).boxed hg HIN.out HX2.out (by decide) (by decide) (by decide) (by decide), (HS7.out.trans (KStep.below HB2.out)).boxed hg (by omega)⟩
theorem QeP {w : World} {kb t u i g cap : Nat} {F : List Nat} {V : List ThrV} {K : Ker} {x : List UInt8} {ht : t < K.ths.length} (h : KerAt w kb F V { K with ths := K.ths.set t { K.ths[t] with text := x } }) (u1 : u < V.length) (u2 : u < K.ths.length) (hi : i < K.ths[u].objs.length) (hv : V[u].vj = .slice (some ⟨g, 0, none⟩) K.ths[u].objs.length cap) : w.cell? ⟨g, i * 2 + 1, none⟩ = some (.string ⟨K.ths[u].objs[i].text.toArray⟩) := by
 have hT := (h.tat u u1 (by simpa using u2)).thr.2.2.1
 have e : ((K.ths.set t { K.ths[t] with text := x })[u]'(by simpa using u2)).objs = K.ths[u].objs := by
  rw [List.getElem_set]
  split
  · rename_i e
    subst e
    rfl
  · rfl
 rw [e] at hT
 obtain ⟨g', cap', uo, hv', _, c2, _⟩ := hT.cell i hi
 have e2 := hv.symm.trans hv'
 cases e2
 exact c2
set_option maxRecDepth 100000 in
set_option maxHeartbeats 3200000 in
theorem QgA (kb t : Nat) (F : List Nat) (V : List ThrV) (K : Ker) (c : Cal) (vc : Value) (w : World) (h : KerAt w kb F V K) (hc : CalAt w vc c) (hno : objAt K c.t c.n = none) :
 Calls Try.prog 36 #[.pointer (some ⟨kb, 0, none⟩), .pointer (some ⟨kb, 2 + t * 5, none⟩), vc] w fun e w' => e = .returned (repV (code 4)) ∧ ∃ G, KerAt w' kb G V K ∧ KStep kb w F V w' G V := by
 obtain ⟨vl, vg, rfl, ⟨pl, cl, rfl, _⟩, ⟨pg, cg, rfl, _⟩⟩ := hc
 unfold calV
 have HA := hid ((h.reserve (.cells #[.int .i64 c.kind, .int .i64 c.h, .int .i64 c.t, .int .i64 c.n, .int .i64 c.c, .slice pl c.label.length cl, .slice pg c.grants.length cg, .string ⟨c.text.toArray⟩] 40)).reserve (.cells #[.int .i64 0, .int .i64 0, .string ⟨#[]⟩] 52))
 have HS := hid ((KStep.reserve kb w F V (.cells #[.int .i64 c.kind, .int .i64 c.h, .int .i64 c.t, .int .i64 c.n, .int .i64 c.c, .slice pl c.label.length cl, .slice pg c.grants.length cg, .string ⟨c.text.toArray⟩] 40)).trans (KStep.reserve kb _ _ V (.cells #[.int .i64 0, .int .i64 0, .string ⟨#[]⟩] 52)))
 have hob := Qb1 kb _ V K c.t c.n _ HA.out hno
 have HBX := hid (heap_alloc2_new w (.cells #[.int .i64 c.kind, .int .i64 c.h, .int .i64 c.t, .int .i64 c.n, .int .i64 c.c, .slice pl c.label.length cl, .slice pg c.grants.length cg, .string ⟨c.text.toArray⟩] 40) (.cells #[.int .i64 0, .int .i64 0, .string ⟨#[]⟩] 52))
 clear h hno
 go_enter Try.func36, Try.ntmps36
 go_wp2_with (go_at_call 56; refine hob.mono ?_; rintro e w1 ⟨rfl, rfl⟩)
 go_quiet (fail)
 go_wp2_with (go_at_call 32; refine (QB _ _).mono ?_; rintro e w2 ⟨rfl, hw2⟩; have HB2 := hid (Qd (Qq _ _) hw2); have hb2 := Qc HBX.out HB2.out; obtain ⟨c0, c1, c2, f0, f1, f2⟩ := cells3 hb2; have HX2 := hid hb2; clear hb2 hw2)
 have hg := Qv w2 (w.heap.size + 1) (.int .i64 4) (.int .i64 0) (.string ⟨#[]⟩)
 exact bodyPost_ret (results_cell_row rfl _ _ (w.heap.size + 1) 52 _ (0, 0) _ rfl (QA (.int .i64 4) (.int .i64 0) (.string ⟨#[]⟩) HX2.out) Try.underlying52 rfl (by kernel_rfl)) rfl ⟨rfl, _, (HA.out.below HB2.out).boxed hg (by simp) HX2.out (by decide) (by decide) (by decide) (by decide), (HS.out.trans (KStep.below HB2.out)).boxed hg (by omega)⟩
set_option maxRecDepth 100000 in
set_option maxHeartbeats 3200000 in
theorem QgZ (kb t u i : Nat) (F : List Nat) (V : List ThrV) (K : Ker) (c : Cal) (vc : Value) (w : World) (h : KerAt w kb F V K) (h1 : t < V.length) (h2 : t < K.ths.length) (u1 : u < V.length) (u2 : u < K.ths.length) (hl : K.ths[t].own.length ≤ 1000) (hi : i < K.ths[u].objs.length) (hct : c.t = u) (hcn : c.n = i) (hx : c.text.length ≤ 1000) (hc : CalAt w vc c) (hf : flowsL K.ths[u].objs[i].label K.ths[t].label K.ths[t].own = false) :
 Calls Try.prog 36 #[.pointer (some ⟨kb, 0, none⟩), .pointer (some ⟨kb, 2 + t * 5, none⟩), vc] w fun e w' => e = .returned (repV (code 4)) ∧ ∃ G, KerAt w' kb G V K ∧ KStep kb w F V w' G V := by
 obtain ⟨vl, vg, rfl, ⟨pl, cl, rfl, _⟩, ⟨pg, cg, rfl, _⟩⟩ := hc
 unfold calV
 obtain ⟨ck, ch, ct, cn, cc, clb, cgr, cx⟩ := c
 simp only at hct hcn hx ⊢
 subst hct
 subst hcn
 have HA := hid ((h.reserve (.cells #[.int .i64 ck, .int .i64 ch, .int .i64 u, .int .i64 i, .int .i64 cc, .slice pl clb.length cl, .slice pg cgr.length cg, .string ⟨cx.toArray⟩] 40)).reserve (.cells #[.int .i64 0, .int .i64 0, .string ⟨#[]⟩] 52))
 have HS := hid ((KStep.reserve kb w F V (.cells #[.int .i64 ck, .int .i64 ch, .int .i64 u, .int .i64 i, .int .i64 cc, .slice pl clb.length cl, .slice pg cgr.length cg, .string ⟨cx.toArray⟩] 40)).trans (KStep.reserve kb _ _ V (.cells #[.int .i64 0, .int .i64 0, .string ⟨#[]⟩] 52)))
 have HBX := hid (heap_alloc2_new w (.cells #[.int .i64 ck, .int .i64 ch, .int .i64 u, .int .i64 i, .int .i64 cc, .slice pl clb.length cl, .slice pg cgr.length cg, .string ⟨cx.toArray⟩] 40) (.cells #[.int .i64 0, .int .i64 0, .string ⟨#[]⟩] 52))
 have HCX := hid (heap_alloc2_old w (.cells #[.int .i64 ck, .int .i64 ch, .int .i64 u, .int .i64 i, .int .i64 cc, .slice pl clb.length cl, .slice pg cgr.length cg, .string ⟨cx.toArray⟩] 40) (.cells #[.int .i64 0, .int .i64 0, .string ⟨#[]⟩] 52))
 have h4u : u < 4 := by rw [← h.len]; exact u1
 have hTu := HA.out.tat u u1 u2
 obtain ⟨g, cap, uo, hvj, o1, o2, of, hro⟩ := hTu.thr.2.2.1.cell i hi
 have hob := QaI kb u i g cap K.ths[u].objs.length _ V[u] K.ths[u] _ hTu h4u hi hvj
 have hTt := HA.out.tat t h1 h2
 obtain ⟨t0, t1, t2, _, _⟩ := hTt.cells
 obtain ⟨ptl, ctl, hvl, _⟩ := id hTt.thr.1.1
 obtain ⟨po, co, hvo⟩ := ownV hTt.thr.2.1
 obtain ⟨puo, cuo, huo, _⟩ := id hro.1
 have HVJ := hid hvj
 have hfl := fun wx (hb : Below (((w.alloc (.cells #[.int .i64 ck, .int .i64 ch, .int .i64 u, .int .i64 i, .int .i64 cc, .slice pl clb.length cl, .slice pg cgr.length cg, .string ⟨cx.toArray⟩] 40)).alloc (.cells #[.int .i64 0, .int .i64 0, .string ⟨#[]⟩] 52))).heap.size ((w.alloc (.cells #[.int .i64 ck, .int .i64 ch, .int .i64 u, .int .i64 i, .int .i64 cc, .slice pl clb.length cl, .slice pg cgr.length cg, .string ⟨cx.toArray⟩] 40)).alloc (.cells #[.int .i64 0, .int .i64 0, .string ⟨#[]⟩] 52)) wx) => QS _ _ _ _ _ _ wx (hro.1.below hb) (hTt.thr.1.1.below hb) ((QV hTt.thr.2.1 hl).below hb)
 rw [hf] at hfl
 rw [hvl] at t0
 rw [hvo] at t1
 rw [huo] at o1
 rw [hvl, hvo, huo] at hfl
 clear h hTu hTt hvj hro of o2 t2
 generalize hW : ((w.alloc (.cells #[.int .i64 ck, .int .i64 ch, .int .i64 u, .int .i64 i, .int .i64 cc, .slice pl clb.length cl, .slice pg cgr.length cg, .string ⟨cx.toArray⟩] 40)).alloc (.cells #[.int .i64 0, .int .i64 0, .string ⟨#[]⟩] 52)) = W at HA HS HBX HCX hfl t0 t1 o1 hob
 have HW := hid hW
 have HIN : Hid (w.heap.size + 1 ∈ F ++ [w.heap.size] ++ [(w.alloc (.cells #[.int .i64 ck, .int .i64 ch, .int .i64 u, .int .i64 i, .int .i64 cc, .slice pl clb.length cl, .slice pg cgr.length cg, .string ⟨cx.toArray⟩] 40)).heap.size]) := hid (by simp)
 clear hW
 go_enter Try.func36, Try.ntmps36
 go_wp2_with fail
 rw [HW.out]
 refine hob.mono ?_
 rintro e w1 ⟨rfl, rfl⟩
 clear hob
 go_wp2_with fail
 go_region_held3 (fun w' => w'.cell? ⟨kb, 2 + t * 5, none⟩ = some (.slice ptl K.ths[t].label.length ctl) ∧ w'.cell? ⟨kb, 2 + t * 5 + 1, none⟩ = some (.slice po K.ths[t].own.length co) ∧ w'.cell? ⟨g, i * 2, none⟩ = some (.slice puo K.ths[u].objs[i].label.length cuo)) (go_keep)
  (first | (go_at_call 31; refine (hfl _ (Below.refl _ _).drew).mono ?_; rintro e w5 ⟨rfl, hw5d⟩; have hw5 := kundrew hw5d; have HB5 := hid hw5; have r0 := hw5.cell (Qb t0); rw [t0] at r0; have r1 := hw5.cell (Qb t1); rw [t1] at r1; have r2 := hw5.cell (Qb o1); rw [o1] at r2; clear hw5d hw5))
 all_goals
  go_wp2_with (go_at_call 32; refine (QB _ _).mono ?_; rintro e w2 ⟨rfl, hw2⟩; have HB2 := hid (Qd HB5.out hw2); have hb2 := Qc HBX.out HB2.out; obtain ⟨c0, c1, c2, f0, f1, f2⟩ := cells3 hb2; have HX2 := hid hb2; clear hb2 hw2)
  have hg := Qv w2 (w.heap.size + 1) (.int .i64 4) (.int .i64 0) (.string ⟨#[]⟩)
  exact bodyPost_ret (results_cell_row rfl _ _ (w.heap.size + 1) 52 _ (0, 0) _ rfl (QA (.int .i64 4) (.int .i64 0) (.string ⟨#[]⟩) HX2.out) Try.underlying52 rfl (by kernel_rfl)) rfl ⟨rfl, _, (HA.out.below HB2.out).boxed hg HIN.out HX2.out (by decide) (by decide) (by decide) (by decide), (HS.out.trans (KStep.below HB2.out)).boxed hg (by omega)⟩
set_option maxRecDepth 100000 in
set_option maxHeartbeats 3200000 in
theorem QgY (kb t u i : Nat) (F : List Nat) (V : List ThrV) (K : Ker) (c : Cal) (vc : Value) (w : World) (h : KerAt w kb F V K) (h1 : t < V.length) (h2 : t < K.ths.length) (u1 : u < V.length) (u2 : u < K.ths.length) (hl : K.ths[t].own.length ≤ 1000) (hi : i < K.ths[u].objs.length) (hct : c.t = u) (hcn : c.n = i) (hx : c.text.length ≤ 1000) (hc : CalAt w vc c) (hf : flowsL K.ths[u].objs[i].label K.ths[t].label K.ths[t].own = true) (hxt : K.ths[t].text.length ≤ 1000) (hxo : K.ths[u].objs[i].text.length ≤ 1000) :
 Calls Try.prog 36 #[.pointer (some ⟨kb, 0, none⟩), .pointer (some ⟨kb, 2 + t * 5, none⟩), vc] w fun e w' => e = .returned (repV ⟨0, (K.ths[u].objs[i].text.length : Int), []⟩) ∧ ∃ G, KerAt w' kb G V { K with ths := K.ths.set t { K.ths[t] with text := lastL (K.ths[t].text ++ K.ths[u].objs[i].text) } } ∧ KStep kb w F V w' G V := by
 obtain ⟨vl, vg, rfl, ⟨pl, cl, rfl, _⟩, ⟨pg, cg, rfl, _⟩⟩ := hc
 unfold calV
 obtain ⟨ck, ch, ct, cn, cc, clb, cgr, cx⟩ := c
 simp only at hct hcn hx ⊢
 subst hct
 subst hcn
 have HA := hid ((h.reserve (.cells #[.int .i64 ck, .int .i64 ch, .int .i64 u, .int .i64 i, .int .i64 cc, .slice pl clb.length cl, .slice pg cgr.length cg, .string ⟨cx.toArray⟩] 40)).reserve (.cells #[.int .i64 0, .int .i64 0, .string ⟨#[]⟩] 52))
 have HS := hid ((KStep.reserve kb w F V (.cells #[.int .i64 ck, .int .i64 ch, .int .i64 u, .int .i64 i, .int .i64 cc, .slice pl clb.length cl, .slice pg cgr.length cg, .string ⟨cx.toArray⟩] 40)).trans (KStep.reserve kb _ _ V (.cells #[.int .i64 0, .int .i64 0, .string ⟨#[]⟩] 52)))
 have HBX := hid (heap_alloc2_new w (.cells #[.int .i64 ck, .int .i64 ch, .int .i64 u, .int .i64 i, .int .i64 cc, .slice pl clb.length cl, .slice pg cgr.length cg, .string ⟨cx.toArray⟩] 40) (.cells #[.int .i64 0, .int .i64 0, .string ⟨#[]⟩] 52))
 have HCX := hid (heap_alloc2_old w (.cells #[.int .i64 ck, .int .i64 ch, .int .i64 u, .int .i64 i, .int .i64 cc, .slice pl clb.length cl, .slice pg cgr.length cg, .string ⟨cx.toArray⟩] 40) (.cells #[.int .i64 0, .int .i64 0, .string ⟨#[]⟩] 52))
 have h4u : u < 4 := by rw [← h.len]; exact u1
 have hTu := HA.out.tat u u1 u2
 obtain ⟨g, cap, uo, hvj, o1, o2, of, hro⟩ := hTu.thr.2.2.1.cell i hi
 have hob := QaI kb u i g cap K.ths[u].objs.length _ V[u] K.ths[u] _ hTu h4u hi hvj
 have hTt := HA.out.tat t h1 h2
 obtain ⟨t0, t1, t2, _, _⟩ := hTt.cells
 obtain ⟨ptl, ctl, hvl, _⟩ := id hTt.thr.1.1
 obtain ⟨po, co, hvo⟩ := ownV hTt.thr.2.1
 obtain ⟨puo, cuo, huo, _⟩ := id hro.1
 have HVJ := hid hvj
 have hfl := fun wx (hb : Below (((w.alloc (.cells #[.int .i64 ck, .int .i64 ch, .int .i64 u, .int .i64 i, .int .i64 cc, .slice pl clb.length cl, .slice pg cgr.length cg, .string ⟨cx.toArray⟩] 40)).alloc (.cells #[.int .i64 0, .int .i64 0, .string ⟨#[]⟩] 52))).heap.size ((w.alloc (.cells #[.int .i64 ck, .int .i64 ch, .int .i64 u, .int .i64 i, .int .i64 cc, .slice pl clb.length cl, .slice pg cgr.length cg, .string ⟨cx.toArray⟩] 40)).alloc (.cells #[.int .i64 0, .int .i64 0, .string ⟨#[]⟩] 52)) wx) => QS _ _ _ _ _ _ wx (hro.1.below hb) (hTt.thr.1.1.below hb) ((QV hTt.thr.2.1 hl).below hb)
 rw [hf] at hfl
 rw [hvl] at t0
 rw [hvo] at t1
 rw [huo] at o1
 rw [hvl, hvo, huo] at hfl
 clear h hTu hTt hvj hro of t2
 generalize hW : ((w.alloc (.cells #[.int .i64 ck, .int .i64 ch, .int .i64 u, .int .i64 i, .int .i64 cc, .slice pl clb.length cl, .slice pg cgr.length cg, .string ⟨cx.toArray⟩] 40)).alloc (.cells #[.int .i64 0, .int .i64 0, .string ⟨#[]⟩] 52)) = W at HA HS HBX HCX hfl t0 t1 o1 hob o2
 have HW := hid hW
 have HIN : Hid (w.heap.size + 1 ∈ F ++ [w.heap.size] ++ [(w.alloc (.cells #[.int .i64 ck, .int .i64 ch, .int .i64 u, .int .i64 i, .int .i64 cc, .slice pl clb.length cl, .slice pg cgr.length cg, .string ⟨cx.toArray⟩] 40)).heap.size]) := hid (by simp)
 clear hW
 go_enter Try.func36, Try.ntmps36
 go_wp2_with fail
 rw [HW.out]
 refine hob.mono ?_
 rintro e w1 ⟨rfl, rfl⟩
 clear hob
 go_wp2_with fail
 go_region_held3 (fun w' => w'.cell? ⟨kb, 2 + t * 5, none⟩ = some (.slice ptl K.ths[t].label.length ctl) ∧ w'.cell? ⟨kb, 2 + t * 5 + 1, none⟩ = some (.slice po K.ths[t].own.length co) ∧ w'.cell? ⟨g, i * 2, none⟩ = some (.slice puo K.ths[u].objs[i].label.length cuo)) (go_keep)
  (first | (go_at_call 31; refine (hfl _ (Below.refl _ _).drew).mono ?_; rintro e w5 ⟨rfl, hw5d⟩; have hw5 := kundrew hw5d; have HB5 := hid hw5; have r0 := hw5.cell (Qb t0); rw [t0] at r0; have r1 := hw5.cell (Qb t1); rw [t1] at r1; have r2 := hw5.cell (Qb o1); rw [o1] at r2; have z2 := hw5.cell (Qb o2); rw [o2] at z2; clear hw5d hw5))
 all_goals
  clear r0 r1 r2 t0 t1 o1 o2 hfl
  have hln := Qda kb (2 + t * 5) _ V[t] K.ths[t] K.ths[u].objs[i].text w5 ((HA.out.below HB5.out).tat t h1 h2) (by omega)
  have HLN := hid hln
  clear hln
  go_wp2_with (go_at_call 57; refine HLN.out.mono ?_; rintro e w6 ⟨rfl, hT6, hS6⟩; have hK5 := HA.out.below HB5.out; have hK6 := hK5.step h1 h2 hT6 hS6; rw [List.set_getElem_self] at hK6; have hx6 := QaC hS6 (hK5.tat t h1 h2) (Qc HBX.out HB5.out) (by decide) (by decide) (by decide) (by decide); have hst := (HS.out.trans (KStep.below HB5.out)).trans (KStep.of h1 hS6); rw [List.set_getElem_self] at hst; have hzz := QeP hK6 u1 u2 hi HVJ.out; obtain ⟨c0, c1, c2, f0, f1, f2⟩ := cells3 hx6; have HK6 := hid hK6; have HX6 := hid hx6; have HST := hid hst; clear hK5 hK6 hx6 hst hT6 hS6)
  have hg := Qv w6 (w.heap.size + 1) (.int .i64 0) (.int .i64 K.ths[u].objs[i].text.length) (.string ⟨#[]⟩)
  exact bodyPost_ret (results_cell_row rfl _ _ (w.heap.size + 1) 52 _ (0, 0) _ rfl (QA (.int .i64 0) (.int .i64 K.ths[u].objs[i].text.length) (.string ⟨#[]⟩) HX6.out) Try.underlying52 rfl (by kernel_rfl)) rfl ⟨rfl, _, HK6.out.boxed hg HIN.out HX6.out (by decide) (by decide) (by decide) (by decide), HST.out.boxed hg (by omega)⟩
set_option maxRecDepth 100000 in
set_option maxHeartbeats 3200000 in
theorem Qdw (kb o : Nat) (F : List Nat) (v : ThrV) (th : Thr) (m : Mal) (vl vg : Value) (w : World) (h : TAt w kb o F v th) (hs : th.own.Pairwise (· < ·)) (hl : th.own.length ≤ 8) (hg : RoInts w F vg m.grants) (hvl : ∃ p n c, vl = .slice p n c) (hx : th.text.length + m.text.length < 4611686018427387904) :
 Calls Try.prog 60 #[.pointer (some ⟨kb, o, none⟩), malV m vl vg] w fun e w' => e = .returned (.tuple #[]) ∧ ∃ G v', TAt w' kb o G v' (readL th m) ∧ TStep kb o w F v w' G v' := by
 obtain ⟨pl, nl, cl, rfl⟩ := hvl
 obtain ⟨pg, cg, rfl, _⟩ := id hg.1
 unfold malV
 have hln := fun wx (hb : Below w.heap.size w wx) => Qda kb o F v th m.text wx (h.below hb) hx
 have hB : w.heap.size ∉ kb :: rowsOf v := fun e => by
  rcases List.mem_cons.1 e with e | e
  · have := h.fin kb h.kbF; omega
  · have := h.fin _ (h.rows _ e); omega
 have HG := hid hg
 have HT := hid h
 have HLN := hid hln
 have HB := hid hB
 have HR : Hid (readL th m = { th with text := lastL (th.text ++ m.text), own := grantL m.grants th.own }) := hid rfl
 clear h hg hln hB
 go_enter Try.func60, Try.ntmps60
 go_wp2_with fail
 refine (HLN.out _ (Qe _ _)).mono ?_
 rintro e w1 ⟨rfl, hT1, hS1⟩
 have hbx := hS1.kept.heap (heap_alloc_new w _) HB.out
 have c3 := Qa hbx 3
 have hS01 := (TStep.below (kb := kb) (o := o) (F := F) (v := v) (Qe w (.cells #[.int .i64 m.host, .int .i64 m.thread, .slice pl nl cl, .slice pg m.grants.length cg, .string ⟨m.text.toArray⟩] 42))).trans hS1
 have HT1 := hid hT1
 have HS01 := hid hS01
 have HG1 : Hid (RoInts w1 F (.slice pg m.grants.length cg) m.grants) := hid (HG.out.keep (hS01.kept.sub fun k e => .inl (by rcases List.mem_cons.1 e with rfl | e; exact HT.out.kbF; exact HT.out.rows k e)) (More.refl _ _))
 clear hT1 hS1 hS01 hbx HLN HB
 go_wp2
 go_loopw [13] (fun i wr => ∃ (k : Nat) (G : List Nat) (v' : ThrV) (ow : List Int), k ≤ m.grants.length ∧ i = .int .i64 k ∧ grantL m.grants th.own = grantL (m.grants.drop k) ow ∧ ow.Pairwise (· < ·) ∧ ow.length ≤ 8 ∧ TAt wr kb o G v' { th with text := lastL (th.text ++ m.text), own := ow } ∧ TStep kb o w F v wr G v' ∧ RoInts wr G (.slice pg m.grants.length cg) m.grants) (fun i _ => m.grants.length - (intOf i).toNat)
 case atStart => exact ⟨0, F, v, th.own, Nat.zero_le _, rfl, rfl, hs, hl, HT1.out, HS01.out, HG1.out⟩
 case round =>
  clear c3 HT1 HS01 HG1 hs hl
  obtain ⟨k, G, v', ow, hk, rfl, hgr, hs, hl, hT, hS, hg⟩ := hrel
  have HGR := hid hgr
  have HTk := hid hT
  have HSk := hid hS
  have HGk := hid hg
  by_cases hlt : k < m.grants.length
  · obtain ⟨b, ob, hpe, hc⟩ := hg.1.cells (by omega)
    have hck := hc k hlt
    subst hpe
    have how := Qfu kb o G v' { th with text := lastL (th.text ++ m.text), own := ow } m.grants[k] wr hT hs hl
    have HOW := hid how
    have HD : Hid (m.grants.drop k = m.grants[k] :: m.grants.drop (k + 1)) := hid (List.drop_eq_getElem_cons hlt)
    simp only at HOW
    clear how hT hS hg hgr hc
    by_cases hz : (ownL ow m.grants[k]).1 = 0
    · have hne : ((ownL ow m.grants[k]).1 != 0) = false := by simpa using hz
      have HN : Hid (grantL m.grants th.own = grantL (m.grants.drop (k + 1)) (ownL ow m.grants[k]).2) := hid (by rw [HGR.out, HD.out, Qak, if_pos hz])
      have hs2 := QaH hs m.grants[k]
      have hl2 := Qbw hl m.grants[k]
      generalize ownL ow m.grants[k] = R at *
      go_wp2_with (go_at_call 55; refine HOW.out.mono ?_; rintro e w2 ⟨rfl, G2, v2, hT2, hS2⟩)
      go_roundw
      case rel =>
       have hg2 := HGk.out.keep (hS2.kept.sub fun j e => .inl (by rcases List.mem_cons.1 e with rfl | e; exact HTk.out.kbF; exact HTk.out.rows j e)) hS2.more
       exact ⟨k + 1, G2, v2, R.2, hlt, by go_num, HN.out, hs2, hl2, hT2, HSk.out.trans hS2, hg2⟩
      case measure => simp [intOf]; omega
    · have hne : ((ownL ow m.grants[k]).1 != 0) = true := by simpa using hz
      have HN : Hid (grantL m.grants th.own = ow) := hid (by rw [HGR.out, HD.out, Qak, if_neg hz])
      have HF := hid (QfR hz)
      generalize ownL ow m.grants[k] = R at *
      go_wp2_with (go_at_call 55; refine HOW.out.mono ?_; rintro e w2 ⟨rfl, G2, v2, hT2, hS2⟩)
      refine bodyPost_ret (results_none rfl _ _ _) rfl ⟨rfl, G2, v2, ?_, HSk.out.trans hS2⟩
      rw [HR.out, HN.out]
      rw [HF.out] at hT2
      exact hT2
  · have hkl : k = m.grants.length := by omega
    have HN : Hid (grantL m.grants th.own = ow) := hid (by rw [HGR.out, hkl, List.drop_length]; rfl)
    clear hT hS hg hgr
    go_wp2
    go_end0
    refine ⟨rfl, G, v', ?_, HSk.out⟩
    rw [HR.out, HN.out]
    exact HTk.out
theorem QcT (w : World) : Calls Try.prog 28 #[.slice none 0 0, .slice none 0 0] w fun e w' => e = .returned (.bool true) ∧ w' = w := by
 go_enter Try.func28, Try.ntmps28
 go_wp2
 refine wp_loop_rounds 1 ?_
 rw [rounds_succ]
 go_wp2
 go_ret
 exact ⟨rfl, rfl⟩
theorem Qcf (w : World) : Calls Try.prog 29 #[.slice none 0 0, .slice none 0 0] w fun e w' => e = .returned (.bool true) ∧ w' = w := by
 go_enter Try.func29, Try.ntmps29
 go_wp2
 refine wp_loop_rounds 1 ?_
 rw [rounds_succ]
 go_wp2
 go_ret
 exact ⟨rfl, rfl⟩
abbrev zeroT : Value := .agg #[.slice none 0 0, .slice none 0 0, .string ⟨#[]⟩, .slice none 0 0, .slice none 0 0]
set_option maxRecDepth 100000 in
set_option maxHeartbeats 1600000 in
theorem Qae (w : World) : Calls Try.prog 15 #[zeroT, zeroT] w fun e w' => e = .returned (.bool true) ∧ Below w.heap.size w w' := by
 go_enter Try.func15, Try.ntmps15
 go_wp2_with (first | (go_at_call 28; refine (QcT _).mono ?_; rintro e w1 ⟨rfl, rfl⟩) | (go_at_call 29; refine (Qcf _).mono ?_; rintro e w1 ⟨rfl, rfl⟩))
 refine wp_loop_rounds 1 ?_
 rw [rounds_succ]
 go_wp2
 refine wp_loop_rounds 1 ?_
 rw [rounds_succ]
 go_wp2
 go_ret
 exact ⟨rfl, (Qe w _).alloc (by simp) _⟩
theorem QdD (a b c : Value) (w : World) : (Instr.field 52 (.agg #[a, b, c]) 1).run Try.prog w = .ok b w := by kernel_rfl
theorem QcX (a b c d e : Value) (w : World) : (Instr.field 35 (.agg #[a, b, c, d, e]) 1).run Try.prog w = .ok b w := by kernel_rfl
def firstKer : Ker := ⟨2, 1, [zeroThr, { zeroThr with own := [40] }, zeroThr, zeroThr]⟩
theorem Qf1 : categoryL (freshKer 2) ((1 : Nat) : Int) zeroThr = (firstKer, ⟨0, 40, []⟩) := rfl
set_option maxRecDepth 100000 in
set_option maxHeartbeats 1600000 in
theorem QaV (w : World) : Calls Try.prog 5 #[] w fun e w' => e = .returned (.bool true) ∧ Below w.heap.size w w' := by
 have hcall := fun (wx : World) (h : KerAt wx w.heap.size [w.heap.size] [nilV, nilV, nilV, nilV] (freshKer 2)) => QgI w.heap.size 1 _ _ (freshKer 2) wx h (by decide) (by decide) (by decide) List.Pairwise.nil (by decide) (by decide) (by decide)
 have hthr := fun (wx : World) (F : List Nat) (V : List ThrV) (h : KerAt wx w.heap.size F V firstKer) => Thread0 w.heap.size 1 F V firstKer wx h (by rw [h.len]; omega) (by decide) (by decide) (by decide) rfl rfl
 have e1 : (freshKer 2).ths[1] = zeroThr := rfl
 simp only [e1, Qf1] at hcall
 have e2 : repV ⟨0, 40, []⟩ = .agg #[.int .i64 0, .int .i64 40, .string ⟨#[]⟩] := rfl
 simp only [e2] at hcall
 have e3 : firstKer.ths[1].own.length = 1 := rfl
 have e4 : firstKer.ths[1].label.length = 0 := rfl
 simp only [e3, e4] at hthr
 have HC := hid hcall
 have HT := hid hthr
 clear hcall hthr e1 e2 e3 e4
 have hfr := QdD
 have hft := QcX
 go_enter Try.func5, Try.ntmps5
 go_wp2_with (first
  | (go_at_call 4; refine (Qgd 2 _ (by omega)).mono ?_; rintro e w1 ⟨rfl, hk1, hw1⟩; have HK1 := hid hk1; have HB1 := hid hw1; clear hk1 hw1)
  | (go_at_call 13; refine (HC.out _ HK1.out).mono ?_; rintro e w2 ⟨rfl, G, V', hk2, hs2⟩; have HK2 := hid hk2; have HS2 := hid hs2; clear hk2 hs2)
  | (go_at_call 16; refine (HT.out _ _ _ HK2.out).mono ?_; rintro e w3 ⟨p, q, p', q', p5, q5, p6, q6, rfl, hw3⟩))
 go_ret
 refine ⟨rfl, ?_⟩
 have hs := HS2.out.keptF HK1.out
 have hb12 : Below w.heap.size w w2 := HB1.out.trans ⟨hs.os, hs.tape, hs.output, hs.size, fun k hk => hs.block k (Nat.lt_of_lt_of_le hk HB1.out.size) (by simp; omega)⟩
 exact Qd hb12 hw3
end Go.Proofs.Ytpdijobakfpnbaa
