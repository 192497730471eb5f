/- A box of the call's own beside a thread: kept apart from all that the thread has. -/
import Derived.Test.YtichphepfmafjacQKAns
namespace Go.Proofs.Ytichphepfmafjac
open Go.RowKit Go.Proofs.Parclose

theorem more_new (w : World) (F : List Nat) : More w F (F ++ [w.heap.size]) :=
  ⟨fun _ h => List.mem_append_left _ h, fun k h => by
    rcases List.mem_append.1 h with g | g
    · exact .inl g
    · simp at g; exact .inr (by omega)⟩
theorem TAt.reserve {w : World} {kb o : Nat} {F : List Nat} {v : ThrV} {th : Thr} (h : TAt w kb o F v th) (ob : Obj) : TAt (w.alloc ob) kb o (F ++ [w.heap.size]) v th ∧ TStep kb o w F v (w.alloc ob) (F ++ [w.heap.size]) v := by
  have hb := below_box w ob
  have hm := more_new w F
  obtain ⟨⟨C, hC, hc⟩, h2, h3, h4, h5⟩ := h
  refine ⟨⟨⟨C, heap_keep hC hb, hc⟩, h2.keep (R := []) (kept_below _ hb) (fun _ h => by cases h) hm (fun _ _ h => by cases h), fun k hk => hm.1 k (h3 k hk), hm.1 kb h4, fun k hk => ?_⟩, ⟨kept_below _ hb, fun C hC => ⟨C, heap_keep hC hb, rfl, fun _ _ => rfl⟩, fun _ h => .inl h, hm⟩⟩
  rw [World.size_alloc]
  rcases List.mem_append.1 hk with g | g
  · have := h5 k g; omega
  · simp at g; omega
theorem TAt.boxed {w w' : World} {kb o : Nat} {F : List Nat} {v : ThrV} {th : Thr} {B : Nat} {C : Array Value} {t : TypeId} (h : TAt w kb o F v th) (hg : w.grownBy w' (some B)) (hB : B ∈ F) (hC : w.heap[B]? = some (.cells C t (0, 0))) (t1 : (90 : Nat) ≠ t) (t2 : (3 : Nat) ≠ t) (t3 : (55 : Nat) ≠ t) (t4 : (35 : Nat) ≠ t) : TAt w' kb o F v th := by
  obtain ⟨⟨D, hD, hd⟩, h2, h3, h4, h5⟩ := h
  have hk : KeptF [B] w w' := kept_grown hg fun k e => .inl (by cases e; simp)
  have hne : kb ≠ B := fun e => by
    subst e
    rw [hC] at hD
    injection hD with hD
    injection hD with _ e2 _
    exact t1 e2.symm
  obtain ⟨_, o1, ⟨_, _, o2, _⟩, ⟨_, _, o3, _⟩⟩ := id h2
  refine ⟨⟨D, hk.heap hD (by simpa using hne), hd⟩, h2.keep hk (fun k e => by simp at e; subst e; exact hB) (More.refl _ _) (fun k e g => ?_), h3, h4, fun k e => Nat.lt_of_lt_of_le (h5 k e) hg.size⟩
  simp at g
  subst g
  rcases mem_rows.1 e with e | e | e
  · exact own_box o1 hC t2 e
  · exact own_box o2 hC t3 e
  · exact own_box o3 hC t4 e
theorem TStep.boxed {kb o : Nat} {w0 w w' : World} {F G : List Nat} {v0 v : ThrV} {B : Nat} (h : TStep kb o w0 F v0 w G v) (hg : w.grownBy w' (some B)) (hB : w0.heap.size ≤ B) (hne : kb ≠ B) : TStep kb o w0 F v0 w' G v := by
  refine ⟨⟨hg.os.trans h.kept.os, hg.tape.trans h.kept.tape, hg.output.trans h.kept.output, Nat.le_trans h.kept.size hg.size, fun k hk hn => ?_⟩, fun C hC => ?_, h.rows, h.more⟩
  · rw [hg.block k (by have := h.kept.size; omega) (fun e => by have := Option.some.inj e; omega), h.kept.block k hk hn]
  · obtain ⟨C', e1, e2, e3⟩ := h.box C hC
    exact ⟨C', by rw [hg.block kb (heap_lt e1) (fun e => hne (Option.some.inj e)), e1], e2, e3⟩

theorem answer_lit (e : Int) (w : World) : Calls Try.prog 49 #[.int .i64 e] w fun e' w' => e' = .returned (.agg #[.int .i64 e, .int .i64 0, .string ⟨#[]⟩]) ∧ Below w.heap.size w w' := answer_any e w

theorem zero_box (w : World) : (w.alloc (.cells #[.int .i64 0, .int .i64 0, .string ⟨#[]⟩] 40)).heap[w.heap.size]? = some (.cells #[.int .i64 0, .int .i64 0, .string ⟨#[]⟩] 40 (0, 0)) := heap_alloc_new w _
abbrev st3 (w : World) (b : Nat) (x0 x1 x2 : Value) : World := ((w.setCell ⟨b, 0, none⟩ x0).setCell ⟨b, 1, none⟩ x1).setCell ⟨b, 2, none⟩ x2
theorem st3_heap {w : World} {b : Nat} {t : TypeId} {y0 y1 y2 : Value} (x0 x1 x2 : Value) (h : w.heap[b]? = some (.cells #[y0, y1, y2] t (0, 0))) : (st3 w b x0 x1 x2).heap[b]? = some (.cells #[x0, x1, x2] t (0, 0)) := by
  have h0 : (w.setCell ⟨b, 0, none⟩ x0).heap[b]? = some (.cells #[x0, y1, y2] t (0, 0)) := by rw [heap_setCell h x0]; rfl
  have h1 : ((w.setCell ⟨b, 0, none⟩ x0).setCell ⟨b, 1, none⟩ x1).heap[b]? = some (.cells #[x0, x1, y2] t (0, 0)) := by rw [heap_setCell h0 x1]; rfl
  rw [heap_setCell h1 x2]; rfl
theorem st3_grown (w : World) (b : Nat) (x0 x1 x2 : Value) : w.grownBy (st3 w b x0 x1 x2) (some b) := grown_trans (grown_trans (grown_setCell w b 0 x0) (grown_setCell _ b 1 x1)) (grown_setCell _ b 2 x2)
theorem cells3 {w : World} {b : Nat} {t : TypeId} {y0 y1 y2 : Value} (h : w.heap[b]? = some (.cells #[y0, y1, y2] t (0, 0))) : w.cell? ⟨b, 0, none⟩ = some y0 ∧ w.cell? ⟨b, 1, none⟩ = some y1 ∧ w.cell? ⟨b, 2, none⟩ = some y2 ∧ w.frozen? ⟨b, 0, none⟩ = false ∧ w.frozen? ⟨b, 1, none⟩ = false ∧ w.frozen? ⟨b, 2, none⟩ = false :=
  ⟨heap_cell h 0, heap_cell h 1, heap_cell h 2, heap_frozen h 0, heap_frozen h 1, heap_frozen h 2⟩

/-- the end of a call of a thread whose reply lies in a box -/
theorem reply_end {kb o : Nat} {w w1 : World} {F G : List Nat} {v v1 : ThrV} {th1 : Thr} {y0 y1 y2 : Value} (x0 x1 : Int) (x2 : List UInt8) (hb : w1.heap[w.heap.size]? = some (.cells #[y0, y1, y2] 40 (0, 0))) (hF : w.heap.size ∈ G) (h1 : TAt w1 kb o G v1 th1) (hs : TStep kb o w F v w1 G v1) (hk : kb < w.heap.size) :
    (st3 w1 w.heap.size (.int .i64 x0) (.int .i64 x1) (.string ⟨x2.toArray⟩)).heap[w.heap.size]? = some (.cells #[.int .i64 x0, .int .i64 x1, .string ⟨x2.toArray⟩] 40 (0, 0)) ∧ TAt (st3 w1 w.heap.size (.int .i64 x0) (.int .i64 x1) (.string ⟨x2.toArray⟩)) kb o G v1 th1 ∧ TStep kb o w F v (st3 w1 w.heap.size (.int .i64 x0) (.int .i64 x1) (.string ⟨x2.toArray⟩)) G v1 :=
  ⟨st3_heap _ _ _ hb, h1.boxed (st3_grown _ _ _ _ _) hF hb (by decide) (by decide) (by decide) (by decide), hs.boxed (st3_grown _ _ _ _ _) (Nat.le_refl _) (by omega)⟩
end Go.Proofs.Ytichphepfmafjac
