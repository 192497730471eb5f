/- How a kernel lies in memory; where its threads lie. -/
import Derived.Test.YtichphepfmafjacQKObj
namespace Go.Proofs.Ytichphepfmafjac
open Go.RowKit Go.Proofs.Parclose

structure KerAt (w : World) (kb : Nat) (F : List Nat) (V : List ThrV) (K : Ker) : Prop where
  len : V.length = 4
  lenK : K.ths.length = 4
  box : ∃ C, w.heap[kb]? = some (.cells C 90 (0, 0)) ∧ C[0]? = some (.int .i64 K.host) ∧ C[1]? = some (.int .i64 K.made) ∧
    ∀ t (h1 : t < V.length) (h2 : t < K.ths.length), C[2 + t * 5]? = some V[t].vl ∧ C[2 + t * 5 + 1]? = some V[t].vo ∧ C[2 + t * 5 + 2]? = some (.string ⟨K.ths[t].text.toArray⟩) ∧ C[2 + t * 5 + 3]? = some V[t].vj ∧ C[2 + t * 5 + 4]? = some V[t].vm
  thr : ∀ t (h1 : t < V.length) (h2 : t < K.ths.length), ThrAt w F V[t] K.ths[t]
  rows : ∀ t (h1 : t < V.length), ∀ k ∈ rowsOf V[t], k ∈ F
  apart : ∀ s t (hs : s < V.length) (ht : t < V.length), s ≠ t → ∀ k ∈ rowsOf V[s], k ∉ rowsOf V[t]
  kbF : kb ∈ F
  fin : ∀ k ∈ F, k < w.heap.size

theorem KerAt.tat {w : World} {kb : Nat} {F : List Nat} {V : List ThrV} {K : Ker} (h : KerAt w kb F V K) (t : Nat) (h1 : t < V.length) (h2 : t < K.ths.length) : TAt w kb (2 + t * 5) F V[t] K.ths[t] := by
  obtain ⟨C, hC, _, _, hc⟩ := h.box
  exact ⟨⟨C, hC, hc t h1 h2⟩, h.thr t h1 h2, h.rows t h1, h.kbF, h.fin⟩

theorem KerAt.step {w w' : World} {kb : Nat} {F G : List Nat} {V : List ThrV} {K : Ker} {t : Nat} {v' : ThrV} {th' : Thr} (h : KerAt w kb F V K) (h1 : t < V.length) (h2 : t < K.ths.length) (ht : TAt w' kb (2 + t * 5) G v' th') (hs : TStep kb (2 + t * 5) w F V[t] w' G v') : KerAt w' kb G (V.set t v') { K with ths := K.ths.set t th' } := by
  have hkr := (h.tat t h1 h2).kb_rows
  obtain ⟨C, hC, c0, c1, hc⟩ := h.box
  obtain ⟨C', hC', hsz, hout⟩ := hs.box C hC
  obtain ⟨C2, hC2, hc2⟩ := ht.box
  rw [hC'] at hC2
  cases hC2
  refine ⟨by simp [h.len], by simp [h.lenK], ⟨C', hC', by rw [hout 0 (by omega), c0], by rw [hout 1 (by omega), c1], fun s g1 g2 => ?_⟩, fun s g1 g2 => ?_, fun s g1 k hk => ?_, fun s u g1 g2 hne k hk => ?_, hs.more.1 kb h.kbF, ht.fin⟩
  · rw [List.length_set] at g1 g2
    by_cases e : t = s
    · subst e
      simp only [List.getElem_set_self]
      exact hc2
    · rw [List.getElem_set_ne e, List.getElem_set_ne e]
      obtain ⟨d0, d1, d2, d3, d4⟩ := hc s g1 g2
      refine ⟨?_, ?_, ?_, ?_, ?_⟩
      · rw [hout _ (by omega), d0]
      · rw [hout _ (by omega), d1]
      · rw [hout _ (by omega), d2]
      · rw [hout _ (by omega), d3]
      · rw [hout _ (by omega), d4]
  · rw [List.length_set] at g1 g2
    by_cases e : t = s
    · subst e
      simp only [List.getElem_set_self]
      exact ht.thr
    · rw [List.getElem_set_ne e, List.getElem_set_ne e]
      refine (h.thr s g1 g2).keep hs.kept (fun k e => ?_) hs.more fun k hk e2 => ?_
      · rcases List.mem_cons.1 e with rfl | e
        · exact h.kbF
        · exact h.rows t h1 k e
      · rcases List.mem_cons.1 e2 with rfl | e2
        · exact (h.tat s g1 g2).kb_rows hk
        · exact h.apart t s h1 g1 e k e2 hk
  · rw [List.length_set] at g1
    by_cases e : t = s
    · subst e
      rw [List.getElem_set_self] at hk
      exact ht.rows k hk
    · rw [List.getElem_set_ne e] at hk
      exact hs.more.1 k (h.rows s g1 k hk)
  · rw [List.length_set] at g1 g2
    have key : ∀ a (ga : a < V.length), t ≠ a → ∀ k ∈ rowsOf v', k ∉ rowsOf V[a] := fun a ga hna k hk hm => by
      rcases hs.rows k hk with g | g
      · exact h.apart t a h1 ga hna k g hm
      · have := h.fin k (h.rows a ga k hm); omega
    by_cases e : t = s
    · subst e
      rw [List.getElem_set_self] at hk
      rw [List.getElem_set_ne hne]
      exact key u g2 hne k hk
    · rw [List.getElem_set_ne e] at hk
      by_cases e2 : t = u
      · subst e2
        rw [List.getElem_set_self]
        exact fun hm => key s g1 e k hm hk
      · rw [List.getElem_set_ne e2]
        exact h.apart s u g1 g2 hne k hk

theorem KerAt.below {w w' : World} {kb : Nat} {F : List Nat} {V : List ThrV} {K : Ker} (h : KerAt w kb F V K) (hb : Below w.heap.size w w') : KerAt w' kb F V K := by
  obtain ⟨C, hC, hc⟩ := h.box
  exact ⟨h.len, h.lenK, ⟨C, heap_keep hC hb, hc⟩, fun t g1 g2 => (h.thr t g1 g2).keep (R := []) (kept_below _ hb) (fun _ h => by cases h) (More.refl _ _) (fun _ _ h => by cases h), h.rows, h.apart, h.kbF, fun k hk => Nat.lt_of_lt_of_le (h.fin k hk) hb.size⟩

theorem thread_none (t : Int) (w : World) : Calls Try.prog 39 #[.pointer none, .int .i64 t] w fun e w' => e = .returned (.pointer none) ∧ w' = w := by
  go_enter Try.func39, Try.ntmps39
  go_wp2
  go_ret
  exact ⟨rfl, rfl⟩

theorem thread_out (kb : Nat) (t : Int) (w : World) (ht : ¬ (0 ≤ t ∧ t < 4)) : Calls Try.prog 39 #[.pointer (some ⟨kb, 0, none⟩), .int .i64 t] w fun e w' => e = .returned (.pointer none) ∧ w' = w := by
  by_cases h0 : t < 0
  · go_enter Try.func39, Try.ntmps39
    go_wp2
    go_ret
    exact ⟨rfl, rfl⟩
  · have h4 : 4 ≤ t := by omega
    go_enter Try.func39, Try.ntmps39
    go_wp2
    go_ret
    exact ⟨rfl, rfl⟩

theorem thread_in (kb t : Nat) (w : World) (ht : t < 4) : Calls Try.prog 39 #[.pointer (some ⟨kb, 0, none⟩), .int .i64 t] w fun e w' => e = .returned (.pointer (some ⟨kb, 2 + t * 5, none⟩)) ∧ w' = w := by
  have h0 : ¬ ((t : Int) < 0) := by omega
  have h4 : ¬ ((4 : Int) ≤ t) := by omega
  have h5 : (t : Int) < 4 := by omega
  go_enter Try.func39, Try.ntmps39
  go_wp2
  go_ret
  exact ⟨rfl, rfl⟩
end Go.Proofs.Ytichphepfmafjac
