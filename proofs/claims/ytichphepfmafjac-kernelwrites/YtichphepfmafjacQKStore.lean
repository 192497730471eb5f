/- What a store into a thread, and a row of its that grew or shrank, turn. -/
import Derived.Test.YtichphepfmafjacQKMem
namespace Go.Proofs.Ytichphepfmafjac
open Go.RowKit Go.Proofs.Parclose

theorem kheap_set {w : World} {b j : Nat} {C : Array Value} {t : TypeId} {fr : Nat × Nat} (h : w.heap[b]? = some (.cells C t fr)) (u : Value) : (w.setCell ⟨b, j, none⟩ u).heap[b]? = some (.cells (C.setIfInBounds j u) t fr) := by
  simp [World.setCell, Array.getElem?_modify, h]
theorem set_other {C : Array Value} {i j : Nat} {u x : Value} (h : C[j]? = some x) (hne : i ≠ j) : (C.setIfInBounds i u)[j]? = some x := by
  rw [Array.getElem?_setIfInBounds_ne hne, h]
theorem set_same {C : Array Value} {i : Nat} {u x : Value} (h : C[i]? = some x) : (C.setIfInBounds i u)[i]? = some u := by
  rw [Array.getElem?_setIfInBounds_self, if_pos]
  exact (Array.getElem?_eq_some_iff.1 h).1
theorem set_out {C : Array Value} {i o : Nat} {u : Value} (h1 : o ≤ i) (h2 : i < o + 5) (j : Nat) (hj : j < o ∨ o + 5 ≤ j) : (C.setIfInBounds i u)[j]? = C[j]? := Array.getElem?_setIfInBounds_ne (by omega)

/-- a store into one of the five cells of a thread -/
theorem step_cell {kb o i : Nat} {w : World} {F : List Nat} {v : ThrV} (u : Value) (h1 : o ≤ i) (h2 : i < o + 5) (v' : ThrV) (hr : ∀ k ∈ rowsOf v', k ∈ rowsOf v) : TStep kb o w F v (w.setCell ⟨kb, i, none⟩ u) F v' :=
  ⟨kept_set w kb i u (by simp), fun C hC => ⟨_, kheap_set hC u, by simp, fun j hj => set_out h1 h2 j hj⟩, fun k hk => .inl (hr k hk), More.refl _ _⟩

theorem TAt.text {w : World} {kb o : Nat} {F : List Nat} {v : ThrV} {th : Thr} (h : TAt w kb o F v th) (x : List UInt8) :
    TAt (w.setCell ⟨kb, o + 2, none⟩ (.string ⟨x.toArray⟩)) kb o F v { th with text := x } ∧ TStep kb o w F v (w.setCell ⟨kb, o + 2, none⟩ (.string ⟨x.toArray⟩)) F v := by
  have hkr := h.kb_rows
  obtain ⟨⟨C, hC, c0, c1, c2, c3, c4⟩, h2, h3, h4, hfin⟩ := h
  refine ⟨⟨⟨_, kheap_set hC _, set_other c0 (by omega), set_other c1 (by omega), set_same c2, set_other c3 (by omega), set_other c4 (by omega)⟩, ?_, h3, h4, fun k hk => by simpa using hfin k hk⟩, step_cell _ (by omega) (by omega) v (fun _ h => h)⟩
  exact h2.keep (R := [kb]) (kept_set w kb _ _ (by simp)) (fun k hk => by simp at hk; subst hk; exact h4) (More.refl _ _) (fun k hk e => by simp at e; subst e; exact hkr hk)

theorem TAt.lab {w : World} {kb o : Nat} {F : List Nat} {v : ThrV} {th : Thr} (h : TAt w kb o F v th) {vl : Value} {l : List (Int × Int)} (hl : RoLab w F vl l) :
    TAt (w.setCell ⟨kb, o, none⟩ vl) kb o F { v with vl := vl } { th with label := l } ∧ TStep kb o w F v (w.setCell ⟨kb, o, none⟩ vl) F { v with vl := vl } := by
  have hkr := h.kb_rows
  obtain ⟨⟨C, hC, c0, c1, c2, c3, c4⟩, h2, h3, h4, hfin⟩ := h
  have hk : KeptF [kb] w (w.setCell ⟨kb, o, none⟩ vl) := kept_set w kb _ _ (by simp)
  have hF : ∀ k ∈ [kb], k ∈ F := fun k hk => by simp at hk; subst hk; exact h4
  refine ⟨⟨⟨_, kheap_set hC _, set_same c0, set_other c1 (by omega), set_other c2 (by omega), set_other c3 (by omega), set_other c4 (by omega)⟩, ?_, h3, h4, fun k hk => by simpa using hfin k hk⟩, step_cell _ (by omega) (by omega) _ (fun _ h => h)⟩
  have h5 := h2.keep hk hF (More.refl _ _) (fun k hm e => by simp at e; subst e; exact hkr hm)
  exact ⟨hl.keep (hk.sub fun k hk => .inl (hF k hk)) (More.refl _ _), h5.2⟩

theorem more_row (w : World) (F : List Nat) {v v' : Value} (hF : ∀ k, v.ownBlock = some k → k ∈ F) (h : ∀ k, v'.ownBlock = some k → v.ownBlock = some k ∨ w.heap.size ≤ k) : More w F (F ++ v'.ownBlock.toList) :=
  ⟨fun k hk => List.mem_append_left _ hk, fun k hk => by
    rcases List.mem_append.1 hk with g | g
    · exact .inl g
    · rcases h k (by simpa using g) with e | e
      · exact .inl (hF k e)
      · exact .inr e⟩
theorem list_row {v : Value} {k : Nat} (h : k ∈ v.ownBlock.toList) : v.ownBlock = some k := by simpa using h

/-- a row of what is owned that grew, and its header stored -/
theorem TAt.own {w w1 : World} {kb o : Nat} {F : List Nat} {v : ThrV} {th : Thr} (h : TAt w kb o F v th) {vo : Value} {l : List Int} (hg : w.grownBy w1 v.vo.ownBlock) (ho : OwnAt w1 vo l) (hw : ∀ k, vo.ownBlock = some k → v.vo.ownBlock = some k ∨ w.heap.size ≤ k) :
    TAt (w1.setCell ⟨kb, o + 1, none⟩ vo) kb o (F ++ vo.ownBlock.toList) { v with vo := vo } { th with own := l } ∧ TStep kb o w F v (w1.setCell ⟨kb, o + 1, none⟩ vo) (F ++ vo.ownBlock.toList) { v with vo := vo } := by
  have hkr := h.kb_rows
  obtain ⟨⟨C, hC, c0, c1, c2, c3, c4⟩, ⟨t1, t2, t3, t4⟩, h3, h4, hfin⟩ := h
  have hoF : ∀ k, v.vo.ownBlock = some k → k ∈ F := fun k e => h3 k (mem_rows.2 (.inl e))
  have hm := more_row w F hoF hw
  have hk1 : KeptF v.vo.ownBlock.toList w w1 := kept_grown hg fun k e => .inl (by rw [e]; simp)
  have hkbne : v.vo.ownBlock ≠ some kb := fun e => hkr (mem_rows.2 (.inl e))
  have hC1 : w1.heap[kb]? = some (.cells C 90 (0, 0)) := hk1.heap hC (fun e => hkbne (list_row e))
  have hk2 : KeptF [kb] w1 (w1.setCell ⟨kb, o + 1, none⟩ vo) := kept_set w1 kb _ _ (by simp)
  have hk : KeptF (kb :: v.vo.ownBlock.toList) w (w1.setCell ⟨kb, o + 1, none⟩ vo) := (hk1.sub fun k e => .inl (List.mem_cons_of_mem _ e)).trans (hk2.sub fun k e => .inl (by simp at e; simp [e]))
  have hR : ∀ k ∈ kb :: v.vo.ownBlock.toList, k ∈ F := fun k e => by
    rcases List.mem_cons.1 e with rfl | e
    · exact h4
    · exact hoF k (list_row e)
  have t3' := t3
  have t4' := t4
  obtain ⟨_, _, j2, _⟩ := t3'
  obtain ⟨_, _, m2, _⟩ := t4'
  refine ⟨⟨⟨_, kheap_set hC1 _, set_other c0 (by omega), set_same c1, set_other c2 (by omega), set_other c3 (by omega), set_other c4 (by omega)⟩, ⟨?_, ?_, ?_, ?_⟩, ?_, hm.1 kb h4, ?_⟩, ⟨hk.sub ?_, fun C' hC' => ?_, ?_, hm⟩⟩
  · exact t1.keep (hk.sub fun k e => .inl (hR k e)) hm
  · exact own_keep ho hk2 (fun k e g => by simp at g; subst g; exact own_box ho hC1 (by decide) e)
  · refine t3.keep hk hR hm fun k e g => ?_
    rcases List.mem_cons.1 g with rfl | g
    · exact own_box j2 hC (by decide) e
    · exact own_ne j2 t2 (by decide) e (list_row g)
  · refine t4.keep hk hR hm fun k e g => ?_
    rcases List.mem_cons.1 g with rfl | g
    · exact own_box m2 hC (by decide) e
    · exact own_ne m2 t2 (by decide) e (list_row g)
  · intro k hk
    rcases mem_rows.1 hk with e | e | e
    · exact List.mem_append_right _ (by simpa using e)
    · exact List.mem_append_left _ (h3 k (mem_rows.2 (.inr (.inl e))))
    · exact List.mem_append_left _ (h3 k (mem_rows.2 (.inr (.inr e))))
  · intro k hk
    rw [World.size_setCell]
    rcases List.mem_append.1 hk with e | e
    · exact Nat.lt_of_lt_of_le (hfin k e) hg.size
    · exact (ho.lt k (list_row e)).2
  · intro k e
    rcases List.mem_cons.1 e with rfl | e
    · exact .inl (by simp)
    · exact .inl (List.mem_cons_of_mem _ (mem_rows.2 (.inl (list_row e))))
  · rw [hC] at hC'
    cases hC'
    exact ⟨_, kheap_set hC1 _, by simp, fun j hj => set_out (by omega) (by omega) j hj⟩
  · intro k hk
    rcases mem_rows.1 hk with e | e | e
    · rcases hw k e with g | g
      · exact .inl (mem_rows.2 (.inl g))
      · exact .inr g
    · exact .inl (mem_rows.2 (.inr (.inl e)))
    · exact .inl (mem_rows.2 (.inr (.inr e)))

/-- a row of objects that grew or was written, and its header stored -/
theorem TAt.objs {w w1 : World} {kb o : Nat} {F : List Nat} {v : ThrV} {th : Thr} (h : TAt w kb o F v th) {u : Value} {l : List Obt} (hg : w.grownBy w1 v.vj.ownBlock) (ho : ObjsAt w1 (F ++ u.ownBlock.toList) u l) (hw : ∀ k, u.ownBlock = some k → v.vj.ownBlock = some k ∨ w.heap.size ≤ k) :
    TAt (w1.setCell ⟨kb, o + 3, none⟩ u) kb o (F ++ u.ownBlock.toList) { v with vj := u } { th with objs := l } ∧ TStep kb o w F v (w1.setCell ⟨kb, o + 3, none⟩ u) (F ++ u.ownBlock.toList) { v with vj := u } := by
  have hkr := h.kb_rows
  obtain ⟨⟨C, hC, c0, c1, c2, c3, c4⟩, ⟨t1, t2, t3, t4⟩, h3, h4, hfin⟩ := h
  have hoF : ∀ k, v.vj.ownBlock = some k → k ∈ F := fun k e => h3 k (mem_rows.2 (.inr (.inl e)))
  have hm := more_row w F hoF hw
  have hk1 : KeptF v.vj.ownBlock.toList w w1 := kept_grown hg fun k e => .inl (by rw [e]; simp)
  have hkbne : v.vj.ownBlock ≠ some kb := fun e => hkr (mem_rows.2 (.inr (.inl e)))
  have hC1 : w1.heap[kb]? = some (.cells C 90 (0, 0)) := hk1.heap hC (fun e => hkbne (list_row e))
  have hk2 : KeptF [kb] w1 (w1.setCell ⟨kb, o + 3, none⟩ u) := kept_set w1 kb _ _ (by simp)
  have hk : KeptF (kb :: v.vj.ownBlock.toList) w (w1.setCell ⟨kb, o + 3, none⟩ u) := (hk1.sub fun k e => .inl (List.mem_cons_of_mem _ e)).trans (hk2.sub fun k e => .inl (by simp at e; simp [e]))
  have hR : ∀ k ∈ kb :: v.vj.ownBlock.toList, k ∈ F := fun k e => by
    rcases List.mem_cons.1 e with rfl | e
    · exact h4
    · exact hoF k (list_row e)
  have t3' := t3
  have t4' := t4
  have ho' := ho
  obtain ⟨_, _, j2, _⟩ := t3'
  obtain ⟨_, _, m2, _⟩ := t4'
  obtain ⟨_, _, u2, _⟩ := ho'
  refine ⟨⟨⟨_, kheap_set hC1 _, set_other c0 (by omega), set_other c1 (by omega), set_other c2 (by omega), set_same c3, set_other c4 (by omega)⟩, ⟨?_, ?_, ?_, ?_⟩, ?_, hm.1 kb h4, ?_⟩, ⟨hk.sub ?_, fun C' hC' => ?_, ?_, hm⟩⟩
  · exact t1.keep (hk.sub fun k e => .inl (hR k e)) hm
  · refine own_keep t2 hk fun k e g => ?_
    rcases List.mem_cons.1 g with rfl | g
    · exact own_box t2 hC (by decide) e
    · exact own_ne t2 j2 (by decide) e (list_row g)
  · exact ho.keep hk2 (fun k e => by simp at e; subst e; exact hm.1 _ h4) (More.refl _ _) (fun k e g => by simp at g; subst g; exact own_box u2 hC1 (by decide) e)
  · refine t4.keep hk hR hm fun k e g => ?_
    rcases List.mem_cons.1 g with rfl | g
    · exact own_box m2 hC (by decide) e
    · exact own_ne m2 j2 (by decide) e (list_row g)
  · intro k hk
    rcases mem_rows.1 hk with e | e | e
    · exact List.mem_append_left _ (h3 k (mem_rows.2 (.inl e)))
    · exact List.mem_append_right _ (by simpa using e)
    · exact List.mem_append_left _ (h3 k (mem_rows.2 (.inr (.inr e))))
  · intro k hk
    rw [World.size_setCell]
    rcases List.mem_append.1 hk with e | e
    · exact Nat.lt_of_lt_of_le (hfin k e) hg.size
    · exact (u2.lt k (list_row e)).2
  · intro k e
    rcases List.mem_cons.1 e with rfl | e
    · exact .inl (by simp)
    · exact .inl (List.mem_cons_of_mem _ (mem_rows.2 (.inr (.inl (list_row e)))))
  · rw [hC] at hC'
    cases hC'
    exact ⟨_, kheap_set hC1 _, by simp, fun j hj => set_out (by omega) (by omega) j hj⟩
  · intro k hk
    rcases mem_rows.1 hk with e | e | e
    · exact .inl (mem_rows.2 (.inl e))
    · rcases hw k e with g | g
      · exact .inl (mem_rows.2 (.inr (.inl g)))
      · exact .inr g
    · exact .inl (mem_rows.2 (.inr (.inr e)))

/-- a row of mails that grew or was written, and its header stored -/
theorem TAt.mails {w w1 : World} {kb o : Nat} {F : List Nat} {v : ThrV} {th : Thr} (h : TAt w kb o F v th) {u : Value} {l : List Mal} (hg : w.grownBy w1 v.vm.ownBlock) (ho : MailsAt w1 (F ++ u.ownBlock.toList) u l) (hw : ∀ k, u.ownBlock = some k → v.vm.ownBlock = some k ∨ w.heap.size ≤ k) :
    TAt (w1.setCell ⟨kb, o + 4, none⟩ u) kb o (F ++ u.ownBlock.toList) { v with vm := u } { th with mails := l } ∧ TStep kb o w F v (w1.setCell ⟨kb, o + 4, none⟩ u) (F ++ u.ownBlock.toList) { v with vm := u } := by
  have hkr := h.kb_rows
  obtain ⟨⟨C, hC, c0, c1, c2, c3, c4⟩, ⟨t1, t2, t3, t4⟩, h3, h4, hfin⟩ := h
  have hoF : ∀ k, v.vm.ownBlock = some k → k ∈ F := fun k e => h3 k (mem_rows.2 (.inr (.inr e)))
  have hm := more_row w F hoF hw
  have hk1 : KeptF v.vm.ownBlock.toList w w1 := kept_grown hg fun k e => .inl (by rw [e]; simp)
  have hkbne : v.vm.ownBlock ≠ some kb := fun e => hkr (mem_rows.2 (.inr (.inr e)))
  have hC1 : w1.heap[kb]? = some (.cells C 90 (0, 0)) := hk1.heap hC (fun e => hkbne (list_row e))
  have hk2 : KeptF [kb] w1 (w1.setCell ⟨kb, o + 4, none⟩ u) := kept_set w1 kb _ _ (by simp)
  have hk : KeptF (kb :: v.vm.ownBlock.toList) w (w1.setCell ⟨kb, o + 4, none⟩ u) := (hk1.sub fun k e => .inl (List.mem_cons_of_mem _ e)).trans (hk2.sub fun k e => .inl (by simp at e; simp [e]))
  have hR : ∀ k ∈ kb :: v.vm.ownBlock.toList, k ∈ F := fun k e => by
    rcases List.mem_cons.1 e with rfl | e
    · exact h4
    · exact hoF k (list_row e)
  have t3' := t3
  have t4' := t4
  have ho' := ho
  obtain ⟨_, _, j2, _⟩ := t3'
  obtain ⟨_, _, m2, _⟩ := t4'
  obtain ⟨_, _, u2, _⟩ := ho'
  refine ⟨⟨⟨_, kheap_set hC1 _, set_other c0 (by omega), set_other c1 (by omega), set_other c2 (by omega), set_other c3 (by omega), set_same c4⟩, ⟨?_, ?_, ?_, ?_⟩, ?_, hm.1 kb h4, ?_⟩, ⟨hk.sub ?_, fun C' hC' => ?_, ?_, hm⟩⟩
  · exact t1.keep (hk.sub fun k e => .inl (hR k e)) hm
  · refine own_keep t2 hk fun k e g => ?_
    rcases List.mem_cons.1 g with rfl | g
    · exact own_box t2 hC (by decide) e
    · exact own_ne t2 m2 (by decide) e (list_row g)
  · refine t3.keep hk hR hm fun k e g => ?_
    rcases List.mem_cons.1 g with rfl | g
    · exact own_box j2 hC (by decide) e
    · exact own_ne j2 m2 (by decide) e (list_row g)
  · exact ho.keep hk2 (fun k e => by simp at e; subst e; exact hm.1 _ h4) (More.refl _ _) (fun k e g => by simp at g; subst g; exact own_box u2 hC1 (by decide) e)
  · intro k hk
    rcases mem_rows.1 hk with e | e | e
    · exact List.mem_append_left _ (h3 k (mem_rows.2 (.inl e)))
    · exact List.mem_append_left _ (h3 k (mem_rows.2 (.inr (.inl e))))
    · exact List.mem_append_right _ (by simpa using e)
  · intro k hk
    rw [World.size_setCell]
    rcases List.mem_append.1 hk with e | e
    · exact Nat.lt_of_lt_of_le (hfin k e) hg.size
    · exact (u2.lt k (list_row e)).2
  · intro k e
    rcases List.mem_cons.1 e with rfl | e
    · exact .inl (by simp)
    · exact .inl (List.mem_cons_of_mem _ (mem_rows.2 (.inr (.inr (list_row e)))))
  · rw [hC] at hC'
    cases hC'
    exact ⟨_, kheap_set hC1 _, by simp, fun j hj => set_out (by omega) (by omega) j hj⟩
  · intro k hk
    rcases mem_rows.1 hk with e | e | e
    · exact .inl (mem_rows.2 (.inl e))
    · exact .inl (mem_rows.2 (.inr (.inl e)))
    · rcases hw k e with g | g
      · exact .inl (mem_rows.2 (.inr (.inr g)))
      · exact .inr g
end Go.Proofs.Ytichphepfmafjac
