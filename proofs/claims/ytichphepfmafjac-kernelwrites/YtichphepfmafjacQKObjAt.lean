/- kernel.object answers where an object lies; what a store into its text turns. -/
import Derived.Test.YtichphepfmafjacQKNil
namespace Go.Proofs.Ytichphepfmafjac
open Go.RowKit Go.Proofs.Parclose

theorem flatO_get (vs : List Value) (os : List Obt) (h : vs.length = os.length) (i : Nat) (h1 : i < vs.length) (h2 : i < os.length) : (flatO vs os)[i * 2]? = some vs[i] ∧ (flatO vs os)[i * 2 + 1]? = some (.string ⟨os[i].text.toArray⟩) := by
  induction vs generalizing os i with
  | nil => simp at h1
  | cons x r ih =>
    cases os with
    | nil => simp at h2
    | cons y t =>
      have e : flatO (x :: r) (y :: t) = x :: .string ⟨y.text.toArray⟩ :: flatO r t := rfl
      cases i with
      | zero => rw [e]; exact ⟨rfl, rfl⟩
      | succ i =>
        obtain ⟨g1, g2⟩ := ih t (by simpa using h) i (by simpa using h1) (by simpa using h2)
        rw [e, show (i + 1) * 2 = i * 2 + 1 + 1 by omega]
        simp only [List.getElem?_cons_succ, List.getElem_cons_succ]
        exact ⟨g1, g2⟩
theorem flatO_len (vs : List Value) (os : List Obt) (h : vs.length = os.length) : (flatO vs os).length = os.length * 2 := by
  induction vs generalizing os with
  | nil =>
    have : os = [] := List.length_eq_zero_iff.1 (by simpa using h.symm)
    subst this
    rfl
  | cons x r ih =>
    cases os with
    | nil => simp at h
    | cons y t =>
      show (x :: .string ⟨y.text.toArray⟩ :: flatO r t).length = _
      rw [List.length_cons, List.length_cons, ih t (by simpa using h), List.length_cons]
      omega

/-- an object of a thread, in memory -/
theorem ObjsAt.cell {w : World} {F : List Nat} {v : Value} {os : List Obt} (h : ObjsAt w F v os) (i : Nat) (hi : i < os.length) : ∃ g cap u, v = .slice (some ⟨g, 0, none⟩) os.length cap ∧ w.cell? ⟨g, i * 2, none⟩ = some u ∧ w.cell? ⟨g, i * 2 + 1, none⟩ = some (.string ⟨os[i].text.toArray⟩) ∧ w.frozen? ⟨g, i * 2 + 1, none⟩ = false ∧ RoLab w F u os[i].label := by
  obtain ⟨vs, h1, h2, h3⟩ := h
  rcases h2.2 with ⟨_, hn⟩ | ⟨g, cap, cur, rfl, _, hg, _⟩
  · omega
  · obtain ⟨g1, g2⟩ := flatO_get vs os h1 i (by omega) hi
    have c1 := World.ownsRow.cells h2 (g := g) rfl _ _ g1
    have c2 := World.ownsRow.cells h2 (g := g) rfl _ _ g2
    rw [WideShapes.add_plain, Nat.zero_add] at c1 c2
    exact ⟨g, cap, vs[i], rfl, c1, c2, heap_frozen hg _, h3 i (by omega) hi⟩

theorem object_none (kb : Nat) (F : List Nat) (V : List ThrV) (K : Ker) (t n : Int) (w : World) (h : KerAt w kb F V K) (hno : objAt K t n = none) :
    Calls Try.prog 88 #[.pointer (some ⟨kb, 0, none⟩), .int .i64 t, .int .i64 n] w fun e w' => e = .returned (.pointer none) ∧ w' = w := by
  by_cases ht : 0 ≤ t ∧ t < 4
  rotate_left
  · go_enter Try.func88, Try.ntmps88
    go_wp2_with (go_at_call 39; refine (thread_out kb t _ ht).mono ?_; rintro e w1 ⟨rfl, rfl⟩)
    go_ret
    exact ⟨rfl, rfl⟩
  · obtain ⟨u, hu⟩ : ∃ u : Nat, t = u := ⟨t.toNat, by omega⟩
    subst hu
    have h4 : u < 4 := by omega
    have h1 : u < V.length := by rw [h.len]; exact h4
    have h2 : u < K.ths.length := by rw [h.lenK]; exact h4
    have hT := h.tat u h1 h2
    obtain ⟨_, _, _, t3, _⟩ := hT.cells
    obtain ⟨_, _, j2, _⟩ := hT.thr.2.2.1
    obtain ⟨pj, cj, hj⟩ := own_slice j2
    rw [hj] at t3
    have hbad : n < 0 ∨ (K.ths[u].objs.length : Int) ≤ n := by
      unfold objAt getT at hno
      rw [if_pos (by omega)] at hno
      simp only [Int.toNat_natCast, List.getElem?_eq_getElem h2] at hno
      split at hno
      · right
        have := List.getElem?_eq_none_iff.1 hno
        omega
      · left; omega
    generalize K.ths[u].objs.length = m at t3 hbad
    clear hT hno j2 hj
    by_cases hn : n < 0
    · go_enter Try.func88, Try.ntmps88
      go_wp2_with (go_at_call 39; refine (thread_in kb u _ h4).mono ?_; rintro e w1 ⟨rfl, rfl⟩)
      go_ret
      exact ⟨rfl, rfl⟩
    · have hm : (m : Int) ≤ n := by omega
      go_enter Try.func88, Try.ntmps88
      go_wp2_with (go_at_call 39; refine (thread_in kb u _ h4).mono ?_; rintro e w1 ⟨rfl, rfl⟩)
      go_ret
      exact ⟨rfl, rfl⟩

theorem object_some (kb u i g cap m : Nat) (F : List Nat) (v : ThrV) (th : Thr) (w : World) (h : TAt w kb (2 + u * 5) F v th) (h4 : u < 4) (hi : i < m) (hv : v.vj = .slice (some ⟨g, 0, none⟩) m cap) :
    Calls Try.prog 88 #[.pointer (some ⟨kb, 0, none⟩), .int .i64 u, .int .i64 i] w fun e w' => e = .returned (.pointer (some ⟨g, i * 2, none⟩)) ∧ w' = w := by
  obtain ⟨_, _, _, t3, _⟩ := h.cells
  rw [hv] at t3
  clear h
  have h0 : ¬ ((i : Int) < 0) := by omega
  have h1 : ¬ ((m : Int) ≤ i) := by omega
  have h2 : (i : Int) < m := by omega
  go_enter Try.func88, Try.ntmps88
  go_wp2_with (go_at_call 39; refine (thread_in kb u _ h4).mono ?_; rintro e w1 ⟨rfl, rfl⟩)
  go_ret
  exact ⟨rfl, rfl⟩

theorem own_set {w : World} {e : TypeId} {sz n g cap j : Nat} {xs : List Value} (h : w.ownsRow 0 e sz (.slice (some ⟨g, 0, none⟩) n cap) n xs) (hj : j < n * sz) (u : Value) : (w.setCell ⟨g, j, none⟩ u).ownsRow 0 e sz (.slice (some ⟨g, 0, none⟩) n cap) n (xs.set j u) := by
  have hx := h.1
  obtain ⟨cur, hg, h1, h2, h3, h4⟩ := own_get h
  refine own_of_cells (heap_setCell hg u) h1 h2 (by simpa using h3) (by simpa using hx) fun k hk => ?_
  by_cases e : j = k
  · subst e
    have hc : j < cur.size := by rw [h3]; exact Nat.lt_of_lt_of_le hj (Nat.mul_le_mul_right _ h1)
    rw [Array.getElem?_setIfInBounds_self, if_pos hc, List.getElem?_set_self (by omega)]
  · rw [Array.getElem?_setIfInBounds_ne e, List.getElem?_set_ne e, h4 k hk]

theorem flatO_set (vs : List Value) (os : List Obt) (h : vs.length = os.length) (i : Nat) (hi : i < os.length) (x : List UInt8) : (flatO vs os).set (i * 2 + 1) (.string ⟨x.toArray⟩) = flatO vs (os.modify i fun o => { o with text := x }) := by
  induction vs generalizing os i with
  | nil => simp at h; omega
  | cons y r ih =>
    cases os with
    | nil => simp at hi
    | cons z t =>
      have e : flatO (y :: r) (z :: t) = y :: .string ⟨z.text.toArray⟩ :: flatO r t := rfl
      cases i with
      | zero => rw [e]; rfl
      | succ i =>
        rw [e, show (i + 1) * 2 + 1 = i * 2 + 1 + 1 + 1 by omega, List.set_cons_succ, List.set_cons_succ, ih t (by simpa using h) i (by simpa using hi)]
        rfl

/-- the text of an object is written -/
theorem TAt.put {w : World} {kb o : Nat} {F : List Nat} {v : ThrV} {th : Thr} (h : TAt w kb o F v th) {g cap i : Nat} (hv : v.vj = .slice (some ⟨g, 0, none⟩) th.objs.length cap) (hi : i < th.objs.length) (x : List UInt8) :
    TAt (w.setCell ⟨g, i * 2 + 1, none⟩ (.string ⟨x.toArray⟩)) kb o F v (putO th i x) ∧ TStep kb o w F v (w.setCell ⟨g, i * 2 + 1, none⟩ (.string ⟨x.toArray⟩)) F v := by
  have hkr := h.kb_rows
  obtain ⟨⟨C, hC, hc⟩, ⟨t1, t2, t3, t4⟩, h3, h4, h5⟩ := h
  have hgv : v.vj.ownBlock = some g := by rw [hv]; rfl
  have hgF : g ∈ F := h3 g (mem_rows.2 (.inr (.inl hgv)))
  have hne : kb ≠ g := fun e => hkr (mem_rows.2 (.inr (.inl (by rw [hgv, e]))))
  have hk : KeptF [g] w (w.setCell ⟨g, i * 2 + 1, none⟩ (.string ⟨x.toArray⟩)) := kept_set w g _ _ (by simp)
  have hR : ∀ k ∈ [g], k ∈ F := fun k e => by simp at e; subst e; exact hgF
  obtain ⟨vs, j1, j2, j3⟩ := t3
  have m2 := t4
  obtain ⟨_, _, m2, _⟩ := m2
  refine ⟨⟨⟨C, hk.heap hC (by simpa using hne), hc⟩, ⟨t1.keep (hk.sub fun k e => .inl (hR k e)) (More.refl _ _), own_keep t2 hk (fun k e g2 => ?_), ⟨vs, ?_, ?_, fun j g1 g2 => ?_⟩, t4.keep hk hR (More.refl _ _) (fun k e g2 => ?_)⟩, h3, h4, fun k e => by simpa using h5 k e⟩, ⟨hk.sub fun k e => .inl ?_, fun D hD => ⟨D, hk.heap hD (by simpa using hne), rfl, fun _ _ => rfl⟩, fun _ h => .inl h, More.refl _ _⟩⟩
  · simp at g2; subst g2; exact own_ne t2 j2 (by decide) e hgv
  · show vs.length = (th.objs.modify _ _).length
    rw [List.length_modify]; exact j1
  · show (w.setCell _ _).ownsRow 0 55 2 v.vj (th.objs.modify _ _).length (flatO vs (th.objs.modify _ _))
    rw [List.length_modify, Int.toNat_natCast, ← flatO_set vs th.objs j1 i hi x]
    rw [hv] at j2 ⊢
    exact own_set j2 (by omega) _
  · have e : ((putO th i x).objs[j]'g2).label = (th.objs[j]'(by have := g2; simp [putO] at this; exact this)).label := by
      simp only [putO, List.getElem_modify]
      split <;> rfl
    rw [e]
    exact (j3 j g1 _).keep (hk.sub fun k e => .inl (hR k e)) (More.refl _ _)
  · simp at g2; subst g2; exact own_ne m2 j2 (by decide) e hgv
  · simp at e; subst e; exact List.mem_cons_of_mem _ (mem_rows.2 (.inr (.inl hgv)))
end Go.Proofs.Ytichphepfmafjac
