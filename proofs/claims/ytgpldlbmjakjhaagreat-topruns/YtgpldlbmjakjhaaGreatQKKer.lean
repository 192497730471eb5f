/- How a kernel lies in memory; where its threads lie. -/
import Derived.Test.YtgpldlbmjakjhaaGreatQKObj
namespace Go.Proofs.YtgpldlbmjakjhaaGreat
open Go.RowKit Go.Proofs.Parclose

structure KerAt (w : World) (kb : Nat) (F : List Nat) (V : List ThrV) (K : Ker) : Prop where
  len : V.length = 4
  lenK : K.ths.length = 4
  box : ∃ C, w.heap[kb]? = some (.cells C 131 (0, 0)) ∧ C[0]? = some (.int .i64 K.host) ∧ C[1]? = some (.int .i64 K.made) ∧
    ∀ t (h1 : t < V.length) (h2 : t < K.ths.length), C[2 + t * 5]? = some V[t].vl ∧ C[2 + t * 5 + 1]? = some V[t].vo ∧ C[2 + t * 5 + 2]? = some (.string ⟨K.ths[t].text.toArray⟩) ∧ C[2 + t * 5 + 3]? = some V[t].vj ∧ C[2 + t * 5 + 4]? = some V[t].vm
  thr : ∀ t (h1 : t < V.length) (h2 : t < K.ths.length), ThrAt w F V[t] K.ths[t]
  rows : ∀ t (h1 : t < V.length), ∀ k ∈ rowsOf V[t], k ∈ F
  apart : ∀ s t (hs : s < V.length) (ht : t < V.length), s ≠ t → ∀ k ∈ rowsOf V[s], k ∉ rowsOf V[t]
  kbF : kb ∈ F
  fin : ∀ k ∈ F, k < w.heap.size

theorem KerAt.tat {w : World} {kb : Nat} {F : List Nat} {V : List ThrV} {K : Ker} (h : KerAt w kb F V K) (t : Nat) (h1 : t < V.length) (h2 : t < K.ths.length) : TAt w kb (2 + t * 5) F V[t] K.ths[t] := by
  obtain ⟨C, hC, _, _, hc⟩ := h.box
  exact ⟨⟨C, hC, hc t h1 h2⟩, h.thr t h1 h2, h.rows t h1, h.kbF, h.fin⟩

theorem KerAt.step {w w' : World} {kb : Nat} {F G : List Nat} {V : List ThrV} {K : Ker} {t : Nat} {v' : ThrV} {th' : Thr} (h : KerAt w kb F V K) (h1 : t < V.length) (h2 : t < K.ths.length) (ht : TAt w' kb (2 + t * 5) G v' th') (hs : TStep kb (2 + t * 5) w F V[t] w' G v') : KerAt w' kb G (V.set t v') { K with ths := K.ths.set t th' } := by
  have hkr := (h.tat t h1 h2).kb_rows
  obtain ⟨C, hC, c0, c1, hc⟩ := h.box
  obtain ⟨C', hC', hsz, hout⟩ := hs.box C hC
  obtain ⟨C2, hC2, hc2⟩ := ht.box
  rw [hC'] at hC2
  cases hC2
  refine ⟨by simp [h.len], by simp [h.lenK], ⟨C', hC', by rw [hout 0 (by omega), c0], by rw [hout 1 (by omega), c1], fun s g1 g2 => ?_⟩, fun s g1 g2 => ?_, fun s g1 k hk => ?_, fun s u g1 g2 hne k hk => ?_, hs.more.1 kb h.kbF, ht.fin⟩
  · rw [List.length_set] at g1 g2
    by_cases e : t = s
    · subst e
      simp only [List.getElem_set_self]
      exact hc2
    · rw [List.getElem_set_ne e, List.getElem_set_ne e]
      obtain ⟨d0, d1, d2, d3, d4⟩ := hc s g1 g2
      refine ⟨?_, ?_, ?_, ?_, ?_⟩
      · rw [hout _ (by omega), d0]
      · rw [hout _ (by omega), d1]
      · rw [hout _ (by omega), d2]
      · rw [hout _ (by omega), d3]
      · rw [hout _ (by omega), d4]
  · rw [List.length_set] at g1 g2
    by_cases e : t = s
    · subst e
      simp only [List.getElem_set_self]
      exact ht.thr
    · rw [List.getElem_set_ne e, List.getElem_set_ne e]
      refine (h.thr s g1 g2).keep hs.kept (fun k e => ?_) hs.more fun k hk e2 => ?_
      · rcases List.mem_cons.1 e with rfl | e
        · exact h.kbF
        · exact h.rows t h1 k e
      · rcases List.mem_cons.1 e2 with rfl | e2
        · exact (h.tat s g1 g2).kb_rows hk
        · exact h.apart t s h1 g1 e k e2 hk
  · rw [List.length_set] at g1
    by_cases e : t = s
    · subst e
      rw [List.getElem_set_self] at hk
      exact ht.rows k hk
    · rw [List.getElem_set_ne e] at hk
      exact hs.more.1 k (h.rows s g1 k hk)
  · rw [List.length_set] at g1 g2
    have key : ∀ a (ga : a < V.length), t ≠ a → ∀ k ∈ rowsOf v', k ∉ rowsOf V[a] := fun a ga hna k hk hm => by
      rcases hs.rows k hk with g | g
      · exact h.apart t a h1 ga hna k g hm
      · have := h.fin k (h.rows a ga k hm); omega
    by_cases e : t = s
    · subst e
      rw [List.getElem_set_self] at hk
      rw [List.getElem_set_ne hne]
      exact key u g2 hne k hk
    · rw [List.getElem_set_ne e] at hk
      by_cases e2 : t = u
      · subst e2
        rw [List.getElem_set_self]
        exact fun hm => key s g1 e k hm hk
      · rw [List.getElem_set_ne e2]
        exact h.apart s u g1 g2 hne k hk

theorem KerAt.below {w w' : World} {kb : Nat} {F : List Nat} {V : List ThrV} {K : Ker} (h : KerAt w kb F V K) (hb : Below w.heap.size w w') : KerAt w' kb F V K := by
  obtain ⟨C, hC, hc⟩ := h.box
  exact ⟨h.len, h.lenK, ⟨C, heap_keep hC hb, hc⟩, fun t g1 g2 => (h.thr t g1 g2).keep (R := []) (kept_below _ hb) (fun _ h => by cases h) (More.refl _ _) (fun _ _ h => by cases h), h.rows, h.apart, h.kbF, fun k hk => Nat.lt_of_lt_of_le (h.fin k hk) hb.size⟩

theorem thread_out (kb : Nat) (t : Int) (w : World) (ht : ¬ (0 ≤ t ∧ t < 4)) : Calls Tryz.prog 58 #[.pointer (some ⟨kb, 0, none⟩), .int .i64 t] w fun e w' => e = .returned (.pointer none) ∧ w' = w := by
  by_cases h0 : t < 0
  · go_enter Tryz.func58, Tryz.ntmps58
    go_wp2
    go_ret
    exact ⟨rfl, rfl⟩
  · have h4 : 4 ≤ t := by omega
    go_enter Tryz.func58, Tryz.ntmps58
    go_wp2
    go_ret
    exact ⟨rfl, rfl⟩

theorem thread_in (kb t : Nat) (w : World) (ht : t < 4) : Calls Tryz.prog 58 #[.pointer (some ⟨kb, 0, none⟩), .int .i64 t] w fun e w' => e = .returned (.pointer (some ⟨kb, 2 + t * 5, none⟩)) ∧ w' = w := by
  have h0 : ¬ ((t : Int) < 0) := by omega
  have h4 : ¬ ((4 : Int) ≤ t) := by omega
  have h5 : (t : Int) < 4 := by omega
  go_enter Tryz.func58, Tryz.ntmps58
  go_wp2
  go_ret
  exact ⟨rfl, rfl⟩
end Go.Proofs.YtgpldlbmjakjhaaGreat

namespace Go.Proofs.YtgpldlbmjakjhaaGreat
open Go.RowKit Go.Proofs.Parclose

def nilV : ThrV := ⟨.slice none 0 0, .slice none 0 0, .slice none 0 0, .slice none 0 0⟩
theorem nil_thr (w : World) (F : List Nat) : ThrAt w F nilV zeroThr :=
  ⟨⟨LabAt.nil _ _ _ (fun _ => rfl), fun h => by cases h⟩, World.ownsRow_nil _ _ _ _, ⟨[], rfl, World.ownsRow_nil _ _ _ _, fun j h => by cases h⟩, ⟨[], rfl, World.ownsRow_nil _ _ _ _, fun j h => by cases h⟩⟩

theorem fresh_at (w : World) (host : Int) : KerAt (w.alloc (.cells #[.int .i64 host, .int .i64 0, .slice none 0 0, .slice none 0 0, .string ⟨#[]⟩, .slice none 0 0, .slice none 0 0, .slice none 0 0, .slice none 0 0, .string ⟨#[]⟩, .slice none 0 0, .slice none 0 0, .slice none 0 0, .slice none 0 0, .string ⟨#[]⟩, .slice none 0 0, .slice none 0 0, .slice none 0 0, .slice none 0 0, .string ⟨#[]⟩, .slice none 0 0, .slice none 0 0] 131)) w.heap.size [w.heap.size] [nilV, nilV, nilV, nilV] (freshKer host) := by
  refine ⟨rfl, rfl, ⟨_, heap_alloc_new w _, rfl, rfl, fun t h1 h2 => ?_⟩, fun t h1 h2 => ?_, fun t h1 k hk => ?_, fun s t hs ht _ k hk => ?_, by simp, fun k hk => by simp at hk; subst hk; simp⟩
  · match t, h1, h2 with
    | 0, _, _ => exact ⟨rfl, rfl, rfl, rfl, rfl⟩
    | 1, _, _ => exact ⟨rfl, rfl, rfl, rfl, rfl⟩
    | 2, _, _ => exact ⟨rfl, rfl, rfl, rfl, rfl⟩
    | 3, _, _ => exact ⟨rfl, rfl, rfl, rfl, rfl⟩
  · match t, h1, h2 with
    | 0, _, _ => exact nil_thr _ _
    | 1, _, _ => exact nil_thr _ _
    | 2, _, _ => exact nil_thr _ _
    | 3, _, _ => exact nil_thr _ _
  · match t, h1, hk with
    | 0, _, hk => cases hk
    | 1, _, hk => cases hk
    | 2, _, hk => cases hk
    | 3, _, hk => cases hk
  · match s, hs, hk with
    | 0, _, hk => cases hk
    | 1, _, hk => cases hk
    | 2, _, hk => cases hk
    | 3, _, hk => cases hk

set_option maxRecDepth 100000 in
theorem new_in (host : Int) (w : World) (h : 0 ≤ host ∧ host < 4) : Calls Tryz.prog 57 #[.int .i64 host] w fun e w' => e = .returned (.tuple #[.pointer (some ⟨w.heap.size, 0, none⟩), .int .i64 0]) ∧ KerAt w' w.heap.size [w.heap.size] [nilV, nilV, nilV, nilV] (freshKer host) ∧ Below w.heap.size w w' := by
  have h0 : ¬ (host < 0) := by omega
  have h4 : ¬ ((4 : Int) ≤ host) := by omega
  go_enter Tryz.func57, Tryz.ntmps57
  go_wp2
  go_ret2
  exact ⟨rfl, fresh_at w host, below_box _ _⟩
/-- the kernel's own two cells -/
theorem KerAt.head {w : World} {kb : Nat} {F : List Nat} {V : List ThrV} {K : Ker} (h : KerAt w kb F V K) : w.cell? ⟨kb, 0, none⟩ = some (.int .i64 K.host) ∧ w.cell? ⟨kb, 1, none⟩ = some (.int .i64 K.made) ∧ w.frozen? ⟨kb, 1, none⟩ = false := by
  obtain ⟨C, hC, c0, c1, _⟩ := h.box
  exact ⟨by rw [heap_cell hC, c0], by rw [heap_cell hC, c1], heap_frozen hC 1⟩

/-- one category more is made -/
theorem KerAt.madeMore {w : World} {kb : Nat} {F : List Nat} {V : List ThrV} {K : Ker} (h : KerAt w kb F V K) (n : Int) : KerAt (w.setCell ⟨kb, 1, none⟩ (.int .i64 n)) kb F V { K with made := n } := by
  obtain ⟨C, hC, c0, c1, hc⟩ := h.box
  have hk : KeptF [kb] w (w.setCell ⟨kb, 1, none⟩ (.int .i64 n)) := kept_set w kb _ _ (by simp)
  refine ⟨h.len, h.lenK, ⟨_, heap_setCell hC _, set_other c0 (by omega), set_same c1, fun t h1 h2 => ?_⟩, fun t h1 h2 => ?_, h.rows, h.apart, h.kbF, fun k hk => by simpa using h.fin k hk⟩
  · obtain ⟨d0, d1, d2, d3, d4⟩ := hc t h1 h2
    exact ⟨set_other d0 (by omega), set_other d1 (by omega), set_other d2 (by omega), set_other d3 (by omega), set_other d4 (by omega)⟩
  · exact (h.thr t h1 h2).keep hk (fun k e => by simp at e; subst e; exact h.kbF) (More.refl _ _) (fun k e g => by simp at g; subst g; exact (h.tat t h1 h2).kb_rows e)
end Go.Proofs.YtgpldlbmjakjhaaGreat

namespace Go.Proofs.YtgpldlbmjakjhaaGreat
open Go.RowKit Go.Proofs.Parclose

theorem KerAt.reserve {w : World} {kb : Nat} {F : List Nat} {V : List ThrV} {K : Ker} (h : KerAt w kb F V K) (ob : Obj) : KerAt (w.alloc ob) kb (F ++ [w.heap.size]) V K := by
  have hb := below_box w ob
  have hm := more_new w F
  obtain ⟨C, hC, hc⟩ := h.box
  refine ⟨h.len, h.lenK, ⟨C, heap_keep hC hb, hc⟩, fun t g1 g2 => (h.thr t g1 g2).keep (R := []) (kept_below _ hb) (fun _ h => by cases h) hm (fun _ _ h => by cases h), fun t g1 k hk => hm.1 k (h.rows t g1 k hk), h.apart, hm.1 kb h.kbF, fun k hk => ?_⟩
  rw [World.size_alloc]
  rcases List.mem_append.1 hk with g | g
  · have := h.fin k g; omega
  · simp at g; omega
theorem KerAt.boxed {w w' : World} {kb : Nat} {F : List Nat} {V : List ThrV} {K : Ker} {B : Nat} {C : Array Value} {t : TypeId} (h : KerAt w kb F V K) (hg : w.grownBy w' (some B)) (hB : B ∈ F) (hC : w.heap[B]? = some (.cells C t (0, 0))) (t1 : (131 : Nat) ≠ t) (t2 : (3 : Nat) ≠ t) (t3 : (76 : Nat) ≠ t) (t4 : (46 : Nat) ≠ t) : KerAt w' kb F V K := by
  have hx : ∀ s (g1 : s < V.length) (g2 : s < K.ths.length), TAt w' kb (2 + s * 5) F V[s] K.ths[s] := fun s g1 g2 => (h.tat s g1 g2).boxed hg hB hC t1 t2 t3 t4
  obtain ⟨D, hD, hd⟩ := h.box
  have hne : kb ≠ B := fun e => by
    subst e
    rw [hC] at hD
    injection hD with hD
    injection hD with _ e2 _
    exact t1 e2.symm
  exact ⟨h.len, h.lenK, ⟨D, by rw [hg.block kb (heap_lt hD) (fun e => hne (Option.some.inj e)), hD], hd⟩, fun s g1 g2 => (hx s g1 g2).thr, h.rows, h.apart, h.kbF, fun k hk => Nat.lt_of_lt_of_le (h.fin k hk) hg.size⟩

/-- the blocks that hold a kernel's rows -/
def rowsAll (V : List ThrV) : List Nat := V.flatMap rowsOf
theorem mem_all {V : List ThrV} {k : Nat} : k ∈ rowsAll V ↔ ∃ t, ∃ h : t < V.length, k ∈ rowsOf V[t] := by
  unfold rowsAll
  rw [List.mem_flatMap]
  constructor
  · rintro ⟨v, hv, hk⟩
    obtain ⟨t, ht, rfl⟩ := List.mem_iff_getElem.1 hv
    exact ⟨t, ht, hk⟩
  · rintro ⟨t, ht, hk⟩
    exact ⟨V[t], List.getElem_mem ht, hk⟩

/-- what a kernel's own doing turns -/
structure KStep (kb : Nat) (w : World) (F : List Nat) (V : List ThrV) (w' : World) (G : List Nat) (V' : List ThrV) : Prop where
  kept : KeptF (kb :: rowsAll V) w w'
  rows : ∀ k ∈ rowsAll V', k ∈ rowsAll V ∨ w.heap.size ≤ k
  more : More w F G
theorem KStep.refl (kb : Nat) (w : World) (F : List Nat) (V : List ThrV) : KStep kb w F V w F V := ⟨KeptF.refl _ _, fun _ h => .inl h, More.refl _ _⟩
theorem KStep.trans {kb : Nat} {a b c : World} {F G H : List Nat} {V V1 V2 : List ThrV} (h : KStep kb a F V b G V1) (k : KStep kb b G V1 c H V2) : KStep kb a F V c H V2 :=
  ⟨⟨k.kept.os.trans h.kept.os, k.kept.tape.trans h.kept.tape, k.kept.output.trans h.kept.output, Nat.le_trans h.kept.size k.kept.size, fun i hi hn => by
    rw [k.kept.block i (by have := h.kept.size; omega) (fun e => ?_), h.kept.block i hi hn]
    rcases List.mem_cons.1 e with rfl | e
    · exact hn (by simp)
    · rcases h.rows i e with g | g
      · exact hn (List.mem_cons_of_mem _ g)
      · omega⟩, fun i hi => by
    rcases k.rows i hi with g | g
    · exact h.rows i g
    · exact .inr (by have := h.kept.size; omega), h.more.trans k.more h.kept.size⟩
theorem KStep.below {kb : Nat} {w w' : World} {F : List Nat} {V : List ThrV} (h : Below w.heap.size w w') : KStep kb w F V w' F V := ⟨kept_below _ h, fun _ h => .inl h, More.refl _ _⟩
theorem KStep.reserve (kb : Nat) (w : World) (F : List Nat) (V : List ThrV) (ob : Obj) : KStep kb w F V (w.alloc ob) (F ++ [w.heap.size]) V := ⟨kept_below _ (below_box _ _), fun _ h => .inl h, more_new w F⟩
theorem KStep.boxed {kb : Nat} {w0 w w' : World} {F G : List Nat} {V V' : List ThrV} {B : Nat} (h : KStep kb w0 F V w G V') (hg : w.grownBy w' (some B)) (hB : w0.heap.size ≤ B) : KStep kb w0 F V w' G V' :=
  ⟨⟨hg.os.trans h.kept.os, hg.tape.trans h.kept.tape, hg.output.trans h.kept.output, Nat.le_trans h.kept.size hg.size, fun k hk hn => by
    rw [hg.block k (by have := h.kept.size; omega) (fun e => by have := Option.some.inj e; omega), h.kept.block k hk hn]⟩, h.rows, h.more⟩
theorem KStep.of {w w' : World} {kb o t : Nat} {F G : List Nat} {V : List ThrV} {v' : ThrV} (ht : t < V.length) (h : TStep kb o w F V[t] w' G v') : KStep kb w F V w' G (V.set t v') := by
  refine ⟨h.kept.sub fun k e => .inl ?_, fun k hk => ?_, h.more⟩
  · rcases List.mem_cons.1 e with rfl | e
    · simp
    · exact List.mem_cons_of_mem _ (mem_all.2 ⟨t, ht, e⟩)
  · obtain ⟨s, hs, hk⟩ := mem_all.1 hk
    rw [List.length_set] at hs
    by_cases e : t = s
    · subst e
      rw [List.getElem_set_self] at hk
      rcases h.rows k hk with g | g
      · exact .inl (mem_all.2 ⟨t, ht, g⟩)
      · exact .inr g
    · rw [List.getElem_set_ne e] at hk
      exact .inl (mem_all.2 ⟨s, hs, hk⟩)
theorem KStep.set {w : World} {kb : Nat} {F : List Nat} {V : List ThrV} (j : Nat) (u : Value) : KStep kb w F V (w.setCell ⟨kb, j, none⟩ u) F V := ⟨kept_set w kb j u (by simp), fun _ h => .inl h, More.refl _ _⟩
/-- blocks that the kernel may not write stay -/
theorem KStep.keptF {kb : Nat} {w w' : World} {F G : List Nat} {V V' : List ThrV} {K : Ker} (h : KStep kb w F V w' G V') (hk : KerAt w kb F V K) : KeptF F w w' := h.kept.sub fun k e => .inl (by
  rcases List.mem_cons.1 e with rfl | e
  · exact hk.kbF
  · obtain ⟨t, ht, hk2⟩ := mem_all.1 e
    exact hk.rows t ht k hk2)

/-- a box that nobody but the call writes is kept by a kernel's step -/
theorem box_kstep {w w' : World} {kb : Nat} {F G : List Nat} {V V' : List ThrV} {K : Ker} {B : Nat} {C : Array Value} {t : TypeId} (h : KStep kb w F V w' G V') (hk : KerAt w kb F V K) (hC : w.heap[B]? = some (.cells C t (0, 0))) (t1 : (131 : Nat) ≠ t) (t2 : (3 : Nat) ≠ t) (t3 : (76 : Nat) ≠ t) (t4 : (46 : Nat) ≠ t) : w'.heap[B]? = some (.cells C t (0, 0)) := by
  obtain ⟨D, hD, _⟩ := hk.box
  refine h.kept.heap hC fun e => ?_
  rcases List.mem_cons.1 e with rfl | e
  · rw [hC] at hD
    injection hD with hD
    injection hD with _ e2 _
    exact t1 e2.symm
  · obtain ⟨s, hs, e⟩ := mem_all.1 e
    obtain ⟨_, o1, ⟨_, _, o2, _⟩, ⟨_, _, o3, _⟩⟩ := hk.thr s hs (by rw [hk.lenK, ← hk.len]; exact hs)
    rcases mem_rows.1 e with e | e | e
    · exact own_box o1 hC t2 e
    · exact own_box o2 hC t3 e
    · exact own_box o3 hC t4 e

/-- the end of a call of a kernel whose reply lies in a box -/
theorem kreply_end {kb : Nat} {w w1 : World} {F G : List Nat} {V V1 : List ThrV} {K1 : Ker} {y0 y1 y2 : Value} (x0 x1 : Int) (x2 : List UInt8) (hb : w1.heap[w.heap.size]? = some (.cells #[y0, y1, y2] 35 (0, 0))) (hF : w.heap.size ∈ G) (h1 : KerAt w1 kb G V1 K1) (hs : KStep kb w F V w1 G V1) :
    (st3 w1 w.heap.size (.int .i64 x0) (.int .i64 x1) (.string ⟨x2.toArray⟩)).heap[w.heap.size]? = some (.cells #[.int .i64 x0, .int .i64 x1, .string ⟨x2.toArray⟩] 35 (0, 0)) ∧ KerAt (st3 w1 w.heap.size (.int .i64 x0) (.int .i64 x1) (.string ⟨x2.toArray⟩)) kb G V1 K1 ∧ KStep kb w F V (st3 w1 w.heap.size (.int .i64 x0) (.int .i64 x1) (.string ⟨x2.toArray⟩)) G V1 :=
  ⟨st3_heap _ _ _ hb, h1.boxed (st3_grown _ _ _ _ _) hF hb (by decide) (by decide) (by decide) (by decide), hs.boxed (st3_grown _ _ _ _ _) (Nat.le_refl _)⟩

/-- a box that nobody but the call writes is kept by a kernel's step that does not name it -/
theorem box_tstep {w w' : World} {kb o : Nat} {F G : List Nat} {v v' : ThrV} {B : Nat} {C : Array Value} {t : TypeId} {th : Thr} (h : TStep kb o w F v w' G v') (ht : TAt w kb o F v th) (hC : w.heap[B]? = some (.cells C t (0, 0))) (t1 : (131 : Nat) ≠ t) (t2 : (3 : Nat) ≠ t) (t3 : (76 : Nat) ≠ t) (t4 : (46 : Nat) ≠ t) : w'.heap[B]? = some (.cells C t (0, 0)) := by
  obtain ⟨D, hD, _⟩ := ht.box
  obtain ⟨_, o1, ⟨_, _, o2, _⟩, ⟨_, _, o3, _⟩⟩ := ht.thr
  refine h.kept.heap hC fun e => ?_
  rcases List.mem_cons.1 e with rfl | e
  · rw [hC] at hD
    injection hD with hD
    injection hD with _ e2 _
    exact t1 e2.symm
  · rcases mem_rows.1 e with e | e | e
    · exact own_box o1 hC t2 e
    · exact own_box o2 hC t3 e
    · exact own_box o3 hC t4 e

set_option maxRecDepth 100000 in
set_option maxHeartbeats 3200000 in
theorem makeCat_any (kb t : Nat) (F : List Nat) (V : List ThrV) (K : Ker) (w : World) (h : KerAt w kb F V K) (h1 : t < V.length) (h2 : t < K.ths.length) (hs : K.ths[t].own.Pairwise (· < ·)) (hl : K.ths[t].own.length ≤ 8) (hh : 0 ≤ K.host ∧ K.host < 4) (hm : 0 ≤ K.made ∧ K.made ≤ 20) :
    Calls Tryz.prog 88 #[.pointer (some ⟨kb, 0, none⟩), .pointer (some ⟨kb, 2 + t * 5, none⟩)] w fun e w' => e = .returned (repV (categoryL K t K.ths[t]).2) ∧ ∃ G V', KerAt w' kb G V' (categoryL K t K.ths[t]).1 ∧ KStep kb w F V w' G V' := by
  have HC : Hid (categoryL K t K.ths[t] = if 20 ≤ K.made then (K, code 5)
    else if (ownL K.ths[t].own (K.host * 20 + K.made)).1 = 0 then ({ setT K t { K.ths[t] with own := (ownL K.ths[t].own (K.host * 20 + K.made)).2 } with made := K.made + 1 }, ⟨0, K.host * 20 + K.made, []⟩)
    else (K, code (ownL K.ths[t].own (K.host * 20 + K.made)).1)) := hid rfl
  have hkb := h.fin kb h.kbF
  have HR := hid (h.reserve (.cells #[.int .i64 0, .int .i64 0, .string ⟨#[]⟩] 35))
  have HS := hid (KStep.reserve kb w F V (.cells #[.int .i64 0, .int .i64 0, .string ⟨#[]⟩] 35))
  have HBX := hid (zero_box w)
  have HMEM : Hid (w.heap.size ∈ F ++ [w.heap.size]) := hid (by simp)
  obtain ⟨k0, k1, _⟩ := h.head
  by_cases h20 : 20 ≤ K.made
  · have HC2 : Hid (categoryL K t K.ths[t] = (K, code 5)) := hid (by rw [HC.out, if_pos h20])
    clear HC
    go_enter Tryz.func88, Tryz.ntmps88
    go_wp2_with (go_at_call 87; refine (answer_lit _ _).mono ?_; rintro e w2 ⟨rfl, hw2⟩; have HB2 := hid hw2; have hb2 := heap_keep HBX.out HB2.out; obtain ⟨c0, c1, c2, f0, f1, f2⟩ := cells3 hb2; have HX2 := hid hb2; clear hb2 hw2)
    obtain ⟨e1, e2, e3⟩ := kreply_end 5 0 [] HX2.out HMEM.out (HR.out.below HB2.out) (HS.out.trans (KStep.below HB2.out))
    refine bodyPost_ret (results_cell_row rfl _ _ w.heap.size 35 _ (0, 0) _ rfl e1 Tryz.underlying35 rfl (by kernel_rfl)) rfl ⟨?_, ?_⟩
    · rw [HC2.out]; rfl
    · rw [HC2.out]; exact ⟨_, _, e2, e3⟩
  · have HC2 : Hid (categoryL K t K.ths[t] = if (ownL K.ths[t].own (K.host * 20 + K.made)).1 = 0 then ({ setT K t { K.ths[t] with own := (ownL K.ths[t].own (K.host * 20 + K.made)).2 } with made := K.made + 1 }, ⟨0, K.host * 20 + K.made, []⟩)
      else (K, code (ownL K.ths[t].own (K.host * 20 + K.made)).1)) := hid (by rw [HC.out, if_neg h20])
    clear HC
    have hw1 : wrap64 (K.host * 20) = K.host * 20 := by unfold wrap64; omega
    have hw2 : wrap64 (K.host * 20 + K.made) = K.host * 20 + K.made := by unfold wrap64; omega
    have hw3 : wrap64 (K.made + 1) = K.made + 1 := by unfold wrap64; omega
    have hlt := h20
    have hT := fun wx (hb : Below (w.alloc (.cells #[.int .i64 0, .int .i64 0, .string ⟨#[]⟩] 35)).heap.size (w.alloc (.cells #[.int .i64 0, .int .i64 0, .string ⟨#[]⟩] 35)) wx) => own_any kb (2 + t * 5) (F ++ [w.heap.size]) V[t] K.ths[t] (K.host * 20 + K.made) wx ((HR.out.tat t h1 h2).below hb) hs hl
    have HT := hid hT
    clear hT
    have HL0 : Hid ((ownL K.ths[t].own (K.host * 20 + K.made)).1 ≠ 0 → (ownL K.ths[t].own (K.host * 20 + K.made)).2 = K.ths[t].own) := hid (by
      unfold ownL
      split
      · exact fun h => absurd rfl h
      · split
        · exact fun _ => rfl
        · exact fun h => absurd rfl h)
    clear h
    by_cases hz : (ownL K.ths[t].own (K.host * 20 + K.made)).1 = 0
    · have hne : ((ownL K.ths[t].own (K.host * 20 + K.made)).1 != 0) = false := by simpa using hz
      have HC3 : Hid (categoryL K t K.ths[t] = ({ setT K t { K.ths[t] with own := (ownL K.ths[t].own (K.host * 20 + K.made)).2 } with made := K.made + 1 }, ⟨0, K.host * 20 + K.made, []⟩)) := hid (by rw [HC2.out, if_pos hz])
      clear HC2 HL0
      generalize ownL K.ths[t].own (K.host * 20 + K.made) = ow at *
      go_enter Tryz.func88, Tryz.ntmps88
      go_wp2_with fail
      go_quiet (fail)
      go_wp2_with fail
      refine (HT.out _ (below_drewN _ _)).mono ?_
      rintro e w2 ⟨rfl, G, v', hT2, hS2⟩
      have hK1 := HR.out.below (below_drewN (w.alloc (.cells #[.int .i64 0, .int .i64 0, .string ⟨#[]⟩] 35)) nq)
      have hK2 := hK1.step h1 h2 hT2 hS2
      have hx2 := box_tstep hS2 (hK1.tat t h1 h2) (heap_keep HBX.out (below_drewN _ nq)) (by decide) (by decide) (by decide) (by decide)
      have hst2 := (HS.out.trans (KStep.below (below_drewN _ nq))).trans (KStep.of h1 hS2)
      obtain ⟨m0, m1, mf⟩ := hK2.head
      have hK3 := hK2.madeMore (K.made + 1)
      have hne2 : w.heap.size ≠ kb := by omega
      have hx3 := heap_store hx2 hne2 1 (.int .i64 (K.made + 1))
      have hst3 := hst2.trans (KStep.set 1 (.int .i64 (K.made + 1)))
      obtain ⟨e1, e2, e3⟩ := kreply_end 0 (K.host * 20 + K.made) [] hx3 (hS2.more.1 _ HMEM.out) hK3 hst3
      obtain ⟨c0, c1, c2, f0, f1, f2⟩ := cells3 hx3
      have E1 := hid e1
      have E2 := hid e2
      have E3 := hid e3
      clear e1 e2 e3 hK1 hK2 hK3 hx2 hx3 hst2 hst3 hT2 hS2 HT HR HS
      go_wp2
      refine bodyPost_ret (results_cell_row rfl _ _ w.heap.size 35 _ (0, 0) _ rfl E1.out Tryz.underlying35 rfl (by kernel_rfl)) rfl ⟨?_, ?_⟩
      · rw [HC3.out]; rfl
      · rw [HC3.out]; exact ⟨_, _, E2.out, E3.out⟩
    · have hne : ((ownL K.ths[t].own (K.host * 20 + K.made)).1 != 0) = true := by simpa using hz
      have HC3 : Hid (categoryL K t K.ths[t] = (K, code (ownL K.ths[t].own (K.host * 20 + K.made)).1)) := hid (by rw [HC2.out, if_neg hz])
      have HL1 := hid (HL0.out hz)
      clear HC2 HL0
      generalize ownL K.ths[t].own (K.host * 20 + K.made) = ow at *
      go_enter Tryz.func88, Tryz.ntmps88
      go_wp2_with fail
      go_quiet (fail)
      go_wp2_with fail
      refine (HT.out _ (below_drewN _ _)).mono ?_
      rintro e w2 ⟨rfl, G, v', hT2, hS2⟩
      have hK1 := HR.out.below (below_drewN (w.alloc (.cells #[.int .i64 0, .int .i64 0, .string ⟨#[]⟩] 35)) nq)
      have hK2 := hK1.step h1 h2 hT2 hS2
      have hx2 := box_tstep hS2 (hK1.tat t h1 h2) (heap_keep HBX.out (below_drewN _ nq)) (by decide) (by decide) (by decide) (by decide)
      have HST := hid ((HS.out.trans (KStep.below (below_drewN _ nq))).trans (KStep.of h1 hS2))
      have HX := hid hx2
      have HG : Hid (w.heap.size ∈ G) := hid (hS2.more.1 _ HMEM.out)
      have HK2 : Hid (KerAt w2 kb G (V.set t v') K) := hid (by
        have e : ({ K with ths := K.ths.set t { K.ths[t] with own := ow.2 } } : Ker) = K := by
          rw [HL1.out]
          show ({ K with ths := K.ths.set t K.ths[t] } : Ker) = K
          rw [List.set_getElem_self]
        rw [e] at hK2
        exact hK2)
      clear hK1 hK2 hx2 hT2 hS2 HT HR HS
      go_wp2_with (go_at_call 87; refine (answer_lit _ _).mono ?_; rintro e w3 ⟨rfl, hw3⟩; have HB3 := hid hw3; have hb3 := heap_keep HX.out hw3; obtain ⟨c0, c1, c2, f0, f1, f2⟩ := cells3 hb3; have HX3 := hid hb3; clear hb3 hw3)
      obtain ⟨e1, e2, e3⟩ := kreply_end ow.1 0 [] HX3.out HG.out (HK2.out.below HB3.out) (HST.out.trans (KStep.below HB3.out))
      refine bodyPost_ret (results_cell_row rfl _ _ w.heap.size 35 _ (0, 0) _ rfl e1 Tryz.underlying35 rfl (by kernel_rfl)) rfl ⟨?_, ?_⟩
      · rw [HC3.out]; rfl
      · rw [HC3.out]; exact ⟨_, _, e2, e3⟩
end Go.Proofs.YtgpldlbmjakjhaaGreat

namespace Go.Proofs.YtgpldlbmjakjhaaGreat
open Go.RowKit Go.Proofs.Parclose

abbrev st5 (w : World) (b : Nat) (x0 x1 x2 x3 x4 : Value) : World := ((((w.setCell ⟨b, 0, none⟩ x0).setCell ⟨b, 1, none⟩ x1).setCell ⟨b, 2, none⟩ x2).setCell ⟨b, 3, none⟩ x3).setCell ⟨b, 4, none⟩ x4
theorem st5_heap {w : World} {b : Nat} {t : TypeId} {y0 y1 y2 y3 y4 : Value} (x0 x1 x2 x3 x4 : Value) (h : w.heap[b]? = some (.cells #[y0, y1, y2, y3, y4] t (0, 0))) : (st5 w b x0 x1 x2 x3 x4).heap[b]? = some (.cells #[x0, x1, x2, x3, x4] t (0, 0)) := by
  have h0 : (w.setCell ⟨b, 0, none⟩ x0).heap[b]? = some (.cells #[x0, y1, y2, y3, y4] t (0, 0)) := by rw [heap_setCell h x0]; rfl
  have h1 : ((w.setCell ⟨b, 0, none⟩ x0).setCell ⟨b, 1, none⟩ x1).heap[b]? = some (.cells #[x0, x1, y2, y3, y4] t (0, 0)) := by rw [heap_setCell h0 x1]; rfl
  have h2 : (((w.setCell ⟨b, 0, none⟩ x0).setCell ⟨b, 1, none⟩ x1).setCell ⟨b, 2, none⟩ x2).heap[b]? = some (.cells #[x0, x1, x2, y3, y4] t (0, 0)) := by rw [heap_setCell h1 x2]; rfl
  have h3 : ((((w.setCell ⟨b, 0, none⟩ x0).setCell ⟨b, 1, none⟩ x1).setCell ⟨b, 2, none⟩ x2).setCell ⟨b, 3, none⟩ x3).heap[b]? = some (.cells #[x0, x1, x2, x3, y4] t (0, 0)) := by rw [heap_setCell h2 x3]; rfl
  rw [heap_setCell h3 x4]; rfl
theorem st5_grown (w : World) (b : Nat) (x0 x1 x2 x3 x4 : Value) : w.grownBy (st5 w b x0 x1 x2 x3 x4) (some b) := grown_trans (grown_trans (grown_trans (grown_trans (grown_setCell w b 0 x0) (grown_setCell _ b 1 x1)) (grown_setCell _ b 2 x2)) (grown_setCell _ b 3 x3)) (grown_setCell _ b 4 x4)
theorem cells5 {w : World} {b : Nat} {t : TypeId} {y0 y1 y2 y3 y4 : Value} (h : w.heap[b]? = some (.cells #[y0, y1, y2, y3, y4] t (0, 0))) : (w.cell? ⟨b, 0, none⟩ = some y0 ∧ w.cell? ⟨b, 1, none⟩ = some y1 ∧ w.cell? ⟨b, 2, none⟩ = some y2 ∧ w.cell? ⟨b, 3, none⟩ = some y3 ∧ w.cell? ⟨b, 4, none⟩ = some y4) ∧ w.frozen? ⟨b, 0, none⟩ = false ∧ w.frozen? ⟨b, 1, none⟩ = false ∧ w.frozen? ⟨b, 2, none⟩ = false ∧ w.frozen? ⟨b, 3, none⟩ = false ∧ w.frozen? ⟨b, 4, none⟩ = false :=
  ⟨⟨heap_cell h 0, heap_cell h 1, heap_cell h 2, heap_cell h 3, heap_cell h 4⟩, heap_frozen h 0, heap_frozen h 1, heap_frozen h 2, heap_frozen h 3, heap_frozen h 4⟩

end Go.Proofs.YtgpldlbmjakjhaaGreat

namespace Go.Proofs.YtgpldlbmjakjhaaGreat
open Go.RowKit Go.Proofs.Parclose

def calV (c : Cal) (vl vg : Value) : Value := .agg #[.int .i64 c.kind, .int .i64 c.h, .int .i64 c.t, .int .i64 c.n, .int .i64 c.c, vl, vg, .string ⟨c.text.toArray⟩]
def CalAt (w : World) (v : Value) (c : Cal) : Prop := ∃ vl vg, v = calV c vl vg ∧ LabAt w vl c.label ∧ IntsAt w vg c.grants
theorem CalAt.below {w wr : World} {v : Value} {c : Cal} (h : CalAt w v c) (hb : Below w.heap.size w wr) : CalAt wr v c := by
  obtain ⟨vl, vg, e, h1, h2⟩ := h
  exact ⟨vl, vg, e, h1.below hb, h2.below hb⟩

theorem results_mail {fn : Func} {p u : Tmp} (h : fn.results = #[.cell p 46, .tmp u]) (tmps : Array Value) (w : World) (g : Nat) (cs : Array Value) (hc : cs.size = 5)
    (hp : tmps.getD p undef = .pointer (some ⟨g, 0, none⟩)) (hg : w.heap[g]? = some (.cells cs 46 (0, 0))) :
    (results fn tmps).run Tryz.prog w = .ok (.tuple #[.agg cs, tmps.getD u undef]) w := by
  have hl := run_loadVar_row (P := Tryz.prog) w g 46 46 cs (0, 0) _ hg Tryz.underlying46 rfl (by rw [hc]; kernel_rfl)
  rw [results_cell_tmp h, hp]
  simp [asAddr, hl]

end Go.Proofs.YtgpldlbmjakjhaaGreat

namespace Go.Proofs.YtgpldlbmjakjhaaGreat
open Go.RowKit Go.Proofs.Parclose

theorem flatO_get (vs : List Value) (os : List Obt) (h : vs.length = os.length) (i : Nat) (h1 : i < vs.length) (h2 : i < os.length) : (flatO vs os)[i * 2]? = some vs[i] ∧ (flatO vs os)[i * 2 + 1]? = some (.string ⟨os[i].text.toArray⟩) := by
  induction vs generalizing os i with
  | nil => simp at h1
  | cons x r ih =>
    cases os with
    | nil => simp at h2
    | cons y t =>
      have e : flatO (x :: r) (y :: t) = x :: .string ⟨y.text.toArray⟩ :: flatO r t := rfl
      cases i with
      | zero => rw [e]; exact ⟨rfl, rfl⟩
      | succ i =>
        obtain ⟨g1, g2⟩ := ih t (by simpa using h) i (by simpa using h1) (by simpa using h2)
        rw [e, show (i + 1) * 2 = i * 2 + 1 + 1 by omega]
        simp only [List.getElem?_cons_succ, List.getElem_cons_succ]
        exact ⟨g1, g2⟩
/-- an object of a thread, in memory -/
theorem ObjsAt.cell {w : World} {F : List Nat} {v : Value} {os : List Obt} (h : ObjsAt w F v os) (i : Nat) (hi : i < os.length) : ∃ g cap u, v = .slice (some ⟨g, 0, none⟩) os.length cap ∧ w.cell? ⟨g, i * 2, none⟩ = some u ∧ w.cell? ⟨g, i * 2 + 1, none⟩ = some (.string ⟨os[i].text.toArray⟩) ∧ w.frozen? ⟨g, i * 2 + 1, none⟩ = false ∧ RoLab w F u os[i].label := by
  obtain ⟨vs, h1, h2, h3⟩ := h
  rcases h2.2 with ⟨_, hn⟩ | ⟨g, cap, cur, rfl, _, hg, _⟩
  · omega
  · obtain ⟨g1, g2⟩ := flatO_get vs os h1 i (by omega) hi
    have c1 := World.ownsRow.cells h2 (g := g) rfl _ _ g1
    have c2 := World.ownsRow.cells h2 (g := g) rfl _ _ g2
    rw [WideShapes.add_plain, Nat.zero_add] at c1 c2
    exact ⟨g, cap, vs[i], rfl, c1, c2, heap_frozen hg _, h3 i (by omega) hi⟩

theorem object_none (kb : Nat) (F : List Nat) (V : List ThrV) (K : Ker) (t n : Int) (w : World) (h : KerAt w kb F V K) (hno : objAt K t n = none) :
    Calls Tryz.prog 108 #[.pointer (some ⟨kb, 0, none⟩), .int .i64 t, .int .i64 n] w fun e w' => e = .returned (.pointer none) ∧ w' = w := by
  by_cases ht : 0 ≤ t ∧ t < 4
  rotate_left
  · go_enter Tryz.func108, Tryz.ntmps108
    go_wp2_with (go_at_call 58; refine (thread_out kb t _ ht).mono ?_; rintro e w1 ⟨rfl, rfl⟩)
    go_ret
    exact ⟨rfl, rfl⟩
  · obtain ⟨u, hu⟩ : ∃ u : Nat, t = u := ⟨t.toNat, by omega⟩
    subst hu
    have h4 : u < 4 := by omega
    have h1 : u < V.length := by rw [h.len]; exact h4
    have h2 : u < K.ths.length := by rw [h.lenK]; exact h4
    have hT := h.tat u h1 h2
    obtain ⟨_, _, _, t3, _⟩ := hT.cells
    obtain ⟨_, _, j2, _⟩ := hT.thr.2.2.1
    obtain ⟨pj, cj, hj⟩ := own_slice j2
    rw [hj] at t3
    have hbad : n < 0 ∨ (K.ths[u].objs.length : Int) ≤ n := by
      unfold objAt getT at hno
      rw [if_pos (by omega)] at hno
      simp only [Int.toNat_natCast, List.getElem?_eq_getElem h2] at hno
      split at hno
      · right
        have := List.getElem?_eq_none_iff.1 hno
        omega
      · left; omega
    generalize K.ths[u].objs.length = m at t3 hbad
    clear hT hno j2 hj
    by_cases hn : n < 0
    · go_enter Tryz.func108, Tryz.ntmps108
      go_wp2_with (go_at_call 58; refine (thread_in kb u _ h4).mono ?_; rintro e w1 ⟨rfl, rfl⟩)
      go_ret
      exact ⟨rfl, rfl⟩
    · have hm : (m : Int) ≤ n := by omega
      go_enter Tryz.func108, Tryz.ntmps108
      go_wp2_with (go_at_call 58; refine (thread_in kb u _ h4).mono ?_; rintro e w1 ⟨rfl, rfl⟩)
      go_ret
      exact ⟨rfl, rfl⟩

theorem object_some (kb u i g cap m : Nat) (F : List Nat) (v : ThrV) (th : Thr) (w : World) (h : TAt w kb (2 + u * 5) F v th) (h4 : u < 4) (hi : i < m) (hv : v.vj = .slice (some ⟨g, 0, none⟩) m cap) :
    Calls Tryz.prog 108 #[.pointer (some ⟨kb, 0, none⟩), .int .i64 u, .int .i64 i] w fun e w' => e = .returned (.pointer (some ⟨g, i * 2, none⟩)) ∧ w' = w := by
  obtain ⟨_, _, _, t3, _⟩ := h.cells
  rw [hv] at t3
  clear h
  have h0 : ¬ ((i : Int) < 0) := by omega
  have h1 : ¬ ((m : Int) ≤ i) := by omega
  have h2 : (i : Int) < m := by omega
  go_enter Tryz.func108, Tryz.ntmps108
  go_wp2_with (go_at_call 58; refine (thread_in kb u _ h4).mono ?_; rintro e w1 ⟨rfl, rfl⟩)
  go_ret
  exact ⟨rfl, rfl⟩

theorem own_set {w : World} {e : TypeId} {sz n g cap j : Nat} {xs : List Value} (h : w.ownsRow 0 e sz (.slice (some ⟨g, 0, none⟩) n cap) n xs) (hj : j < n * sz) (u : Value) : (w.setCell ⟨g, j, none⟩ u).ownsRow 0 e sz (.slice (some ⟨g, 0, none⟩) n cap) n (xs.set j u) := by
  have hx := h.1
  obtain ⟨cur, hg, h1, h2, h3, h4⟩ := own_get h
  refine own_of_cells (heap_setCell hg u) h1 h2 (by simpa using h3) (by simpa using hx) fun k hk => ?_
  by_cases e : j = k
  · subst e
    have hc : j < cur.size := by rw [h3]; exact Nat.lt_of_lt_of_le hj (Nat.mul_le_mul_right _ h1)
    rw [Array.getElem?_setIfInBounds_self, if_pos hc, List.getElem?_set_self (by omega)]
  · rw [Array.getElem?_setIfInBounds_ne e, List.getElem?_set_ne e, h4 k hk]

theorem flatO_set (vs : List Value) (os : List Obt) (h : vs.length = os.length) (i : Nat) (hi : i < os.length) (x : List UInt8) : (flatO vs os).set (i * 2 + 1) (.string ⟨x.toArray⟩) = flatO vs (os.modify i fun o => { o with text := x }) := by
  induction vs generalizing os i with
  | nil => simp at h; omega
  | cons y r ih =>
    cases os with
    | nil => simp at hi
    | cons z t =>
      have e : flatO (y :: r) (z :: t) = y :: .string ⟨z.text.toArray⟩ :: flatO r t := rfl
      cases i with
      | zero => rw [e]; rfl
      | succ i =>
        rw [e, show (i + 1) * 2 + 1 = i * 2 + 1 + 1 + 1 by omega, List.set_cons_succ, List.set_cons_succ, ih t (by simpa using h) i (by simpa using hi)]
        rfl

/-- the text of an object is written -/
theorem TAt.put {w : World} {kb o : Nat} {F : List Nat} {v : ThrV} {th : Thr} (h : TAt w kb o F v th) {g cap i : Nat} (hv : v.vj = .slice (some ⟨g, 0, none⟩) th.objs.length cap) (hi : i < th.objs.length) (x : List UInt8) :
    TAt (w.setCell ⟨g, i * 2 + 1, none⟩ (.string ⟨x.toArray⟩)) kb o F v (putO th i x) ∧ TStep kb o w F v (w.setCell ⟨g, i * 2 + 1, none⟩ (.string ⟨x.toArray⟩)) F v := by
  have hkr := h.kb_rows
  obtain ⟨⟨C, hC, hc⟩, ⟨t1, t2, t3, t4⟩, h3, h4, h5⟩ := h
  have hgv : v.vj.ownBlock = some g := by rw [hv]; rfl
  have hgF : g ∈ F := h3 g (mem_rows.2 (.inr (.inl hgv)))
  have hne : kb ≠ g := fun e => hkr (mem_rows.2 (.inr (.inl (by rw [hgv, e]))))
  have hk : KeptF [g] w (w.setCell ⟨g, i * 2 + 1, none⟩ (.string ⟨x.toArray⟩)) := kept_set w g _ _ (by simp)
  have hR : ∀ k ∈ [g], k ∈ F := fun k e => by simp at e; subst e; exact hgF
  obtain ⟨vs, j1, j2, j3⟩ := t3
  have m2 := t4
  obtain ⟨_, _, m2, _⟩ := m2
  refine ⟨⟨⟨C, hk.heap hC (by simpa using hne), hc⟩, ⟨t1.keep (hk.sub fun k e => .inl (hR k e)) (More.refl _ _), own_keep t2 hk (fun k e g2 => ?_), ⟨vs, ?_, ?_, fun j g1 g2 => ?_⟩, t4.keep hk hR (More.refl _ _) (fun k e g2 => ?_)⟩, h3, h4, fun k e => by simpa using h5 k e⟩, ⟨hk.sub fun k e => .inl ?_, fun D hD => ⟨D, hk.heap hD (by simpa using hne), rfl, fun _ _ => rfl⟩, fun _ h => .inl h, More.refl _ _⟩⟩
  · simp at g2; subst g2; exact own_ne t2 j2 (by decide) e hgv
  · show vs.length = (th.objs.modify _ _).length
    rw [List.length_modify]; exact j1
  · show (w.setCell _ _).ownsRow 0 76 2 v.vj (th.objs.modify _ _).length (flatO vs (th.objs.modify _ _))
    rw [List.length_modify, Int.toNat_natCast, ← flatO_set vs th.objs j1 i hi x]
    rw [hv] at j2 ⊢
    exact own_set j2 (by omega) _
  · have e : ((putO th i x).objs[j]'g2).label = (th.objs[j]'(by have := g2; simp [putO] at this; exact this)).label := by
      simp only [putO, List.getElem_modify]
      split <;> rfl
    rw [e]
    exact (j3 j g1 _).keep (hk.sub fun k e => .inl (hR k e)) (More.refl _ _)
  · simp at g2; subst g2; exact own_ne m2 j2 (by decide) e hgv
  · simp at e; subst e; exact List.mem_cons_of_mem _ (mem_rows.2 (.inr (.inl hgv)))
end Go.Proofs.YtgpldlbmjakjhaaGreat
