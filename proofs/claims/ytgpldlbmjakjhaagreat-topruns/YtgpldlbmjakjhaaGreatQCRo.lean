/- Kernels beside one another in memory: what one turns leaves the others. -/
import Derived.Test.YtgpldlbmjakjhaaGreatQKKer
import Derived.Test.YtgpldlbmjakjhaaGreatQKMem
import Derived.Test.YtgpldlbmjakjhaaGreatQPlainLine
import Derived.Test.YtgpldlbmjakjhaaGreatQPlainWire
import Derived.Test.YtgpldlbmjakjhaaGreatQLTake
import Derived.Test.YtgpldlbmjakjhaaGreatQPlainInv
import Derived.Test.YtgpldlbmjakjhaaGreatQKMail
namespace Go.Proofs.YtgpldlbmjakjhaaGreat
open Go.RowKit Go.Proofs.Parclose

/-- a kernel is as it was where nothing of its own was turned, and what may be written has grown by new blocks alone -/
theorem KerAt.keep {w w' : World} {kb : Nat} {R F G : List Nat} {V : List ThrV} {K : Ker} (h : KerAt w kb F V K) (hk : KeptF R w w') (hR : ∀ k ∈ R, k ∈ F) (hm : More w F G) (hkb : kb ∉ R) (hv : ∀ t (_ : t < V.length), ∀ k ∈ rowsOf V[t], k ∉ R) (hG : ∀ k ∈ G, k < w'.heap.size) : KerAt w' kb G V K := by
  obtain ⟨C, hC, hc⟩ := h.box
  exact ⟨h.len, h.lenK, ⟨C, hk.heap hC hkb, hc⟩, fun t g1 g2 => (h.thr t g1 g2).keep hk hR hm (hv t g1), fun t g1 k hk' => hm.1 k (h.rows t g1 k hk'), h.apart, hm.1 _ h.kbF, hG⟩
/-- what another kernel does leaves a kernel as it was -/
theorem KerAt.other {w w' : World} {kb kb' : Nat} {F G : List Nat} {V V' V2 : List ThrV} {K K2 K2' : Ker} (h : KerAt w kb F V K) (h2 : KerAt w kb' F V2 K2) (hs : KStep kb' w F V2 w' G V') (h2' : KerAt w' kb' G V' K2') (hne : kb ≠ kb') (h3 : kb ∉ rowsAll V2) (h4 : kb' ∉ rowsAll V) (h5 : ∀ k ∈ rowsAll V, k ∉ rowsAll V2) : KerAt w' kb G V K := by
  refine h.keep hs.kept (fun k hk => ?_) hs.more (fun e => ?_) (fun t ht k hk e => ?_) h2'.fin
  · rcases List.mem_cons.1 hk with rfl | e
    · exact h2.kbF
    · obtain ⟨t, ht, hkt⟩ := mem_all.1 e
      exact h2.rows t ht k hkt
  · rcases List.mem_cons.1 e with e | e
    · exact hne e
    · exact h3 e
  · have hka : k ∈ rowsAll V := mem_all.2 ⟨t, ht, hk⟩
    rcases List.mem_cons.1 e with e | e
    · exact h4 (e ▸ hka)
    · exact h5 k hka e
end Go.Proofs.YtgpldlbmjakjhaaGreat

namespace Go.Proofs.YtgpldlbmjakjhaaGreat
open Go.RowKit Go.Proofs.Parclose

def RoCrts (w : World) (F : List Nat) (v : Value) (l : List Crt) : Prop := CrtsAt w v l ∧ (0 < l.length → ∀ k, v.ownBlock = some k → k ∉ F)
theorem RoCrts.keep {w w' : World} {F G : List Nat} {v : Value} {l : List Crt} (h : RoCrts w F v l) (hk : KeptF F w w') (hm : More w F G) : RoCrts w' G v l := by
  obtain ⟨⟨p, cap, rfl, h1, h2, h3⟩, h4⟩ := h
  have hc : 0 < l.length → ∃ b o, p = some ⟨b, o, none⟩ ∧ Cells4 w b o l ∧ b ∉ F ∧ b < w.heap.size := fun h0 => by
    obtain ⟨b, o, rfl, hc⟩ := h3 h0
    exact ⟨b, o, rfl, hc, h4 h0 b rfl, cell_block (hc 0 h0).1⟩
  refine ⟨⟨p, cap, rfl, h1, h2, fun h0 => ?_⟩, fun h0 k hk2 hG => ?_⟩
  · obtain ⟨b, o, rfl, hcs, hb, _⟩ := hc h0
    exact ⟨b, o, rfl, fun j hj => ⟨hk.cell (hcs j hj).1 hb, hk.cell (hcs j hj).2.1 hb, hk.cell (hcs j hj).2.2.1 hb, hk.cell (hcs j hj).2.2.2 hb⟩⟩
  · obtain ⟨b, o, rfl, hcs, hb, hlt⟩ := hc h0
    cases hk2
    rcases hm.2 b hG with g | g
    · exact hb g
    · omega
structure SntV.Ro (w : World) (F : List Nat) (x : SntV) : Prop where
  lab : RoLab w F x.vl x.s.f.mail.label
  nums : RoInts w F x.vg x.s.f.mail.grants
  crts : RoCrts w F x.vc x.s.f.certs
theorem SntV.Ro.ok {w : World} {F : List Nat} {x : SntV} (h : x.Ro w F) : x.Ok w := ⟨h.lab.1, h.nums.1, h.crts.1⟩
theorem SntV.Ro.keep {w w' : World} {F G : List Nat} {x : SntV} (h : x.Ro w F) (hk : KeptF F w w') (hm : More w F G) : x.Ro w' G := ⟨h.lab.keep hk hm, h.nums.keep hk hm, h.crts.keep hk hm⟩
def RoSnts (w : World) (F : List Nat) (v : Value) (l : List Snt) : Prop := ∃ q : List SntV, q.map (·.s) = l ∧ (∀ x ∈ q, x.Ro w F) ∧ RowAt w v q ∧ (0 < q.length → ∀ k, v.ownBlock = some k → k ∉ F)
theorem RoSnts.at {w : World} {F : List Nat} {v : Value} {l : List Snt} (h : RoSnts w F v l) : SntsAt w v l := by
  obtain ⟨q, h1, h2, h3, _⟩ := h
  exact ⟨q, h1, fun x hx => (h2 x hx).ok, h3⟩
theorem RoSnts.keep {w w' : World} {F G : List Nat} {v : Value} {l : List Snt} (h : RoSnts w F v l) (hk : KeptF F w w') (hm : More w F G) : RoSnts w' G v l := by
  obtain ⟨q, h1, h2, ⟨p, cap, rfl, h3, h4, h5⟩, h6⟩ := h
  have hc : 0 < q.length → ∃ b o, p = some ⟨b, o, none⟩ ∧ (∀ j u, (flatS q)[j]? = some u → w.cell? ⟨b, o + j, none⟩ = some u) ∧ b ∉ F ∧ b < w.heap.size := fun h0 => by
    obtain ⟨b, o, rfl, hc⟩ := h5 h0
    have h00 : 0 < (flatS q).length := by rw [flatS_len]; omega
    exact ⟨b, o, rfl, hc, h6 h0 b rfl, cell_block (hc 0 _ (List.getElem?_eq_getElem h00))⟩
  refine ⟨q, h1, fun x hx => (h2 x hx).keep hk hm, ⟨p, cap, rfl, h3, h4, fun h0 => ?_⟩, fun h0 k hk2 hG => ?_⟩
  · obtain ⟨b, o, rfl, hcs, hb, _⟩ := hc h0
    exact ⟨b, o, rfl, fun j u hu => hk.cell (hcs j u hu) hb⟩
  · obtain ⟨b, o, rfl, hcs, hb, hlt⟩ := hc h0
    cases hk2
    rcases hm.2 b hG with g | g
    · exact hb g
    · omega
end Go.Proofs.YtgpldlbmjakjhaaGreat

namespace Go.Proofs.YtgpldlbmjakjhaaGreat
open Go.RowKit Go.Proofs.Parclose

def strs (l : List (List UInt8)) : List Value := l.map strV
theorem strs_len (l : List (List UInt8)) : (strs l).length = l.length * 1 := by simp [strs]
theorem strs_one (l : List (List UInt8)) : ∀ u ∈ strs l, u.oneCell' = true := by
  intro u hu
  obtain ⟨x, _, rfl⟩ := List.mem_map.1 hu
  rfl

/-- the values that a cluster has in memory -/
structure CluV where
  kp : Nat → Nat
  V : Nat → List ThrV
  vc : Nat → Value
  vs : Nat → Nat → Value
  vn : Value
def lneC (l : Lne) (vs : Value) : List Value := [.int .i64 l.next, vs, .int .i64 l.high, .bool (l.seen.getD 0 false), .bool (l.seen.getD 1 false), .bool (l.seen.getD 2 false), .bool (l.seen.getD 3 false), .bool (l.seen.getD 4 false), .bool (l.seen.getD 5 false), .bool (l.seen.getD 6 false), .bool (l.seen.getD 7 false)]
/-- the cells of a cluster -/
structure CBox (A : Array Value) (Z : CluV) (C : Clu) : Prop where
  size : A.size = 187
  now : A[0]? = some (.int .i64 C.now)
  acts : A[1]? = some (.int .i64 C.acts)
  ker : ∀ h, h < 4 → A[2 + h]? = some (.pointer (some ⟨Z.kp h, 0, none⟩))
  crt : ∀ h, h < 4 → A[6 + h]? = some (Z.vc h)
  lin : ∀ a b, a < 4 → b < 4 → ∀ j, j < 11 → A[10 + a * 44 + b * 11 + j]? = (lneC (C.lines a b) (Z.vs a b))[j]?
  net : A[186]? = some Z.vn

/-- the blocks that are a cluster's own -/
def cownL (cb : Nat) (Z : CluV) : List Nat := cb :: ((List.range 4).flatMap fun h => Z.kp h :: rowsAll (Z.V h)) ++ Z.vn.ownBlock.toList
theorem mem_own {cb : Nat} {Z : CluV} {k : Nat} : k ∈ cownL cb Z ↔ k = cb ∨ (∃ h, h < 4 ∧ (k = Z.kp h ∨ k ∈ rowsAll (Z.V h))) ∨ Z.vn.ownBlock = some k := by
  unfold cownL
  simp only [List.cons_append, List.mem_cons, List.mem_append, List.mem_flatMap, List.mem_range, Option.mem_toList]

structure CluAt (w : World) (cb : Nat) (F : List Nat) (Z : CluV) (C : Clu) : Prop where
  box : ∃ A, w.heap[cb]? = some (.cells A 93 (0, 0)) ∧ CBox A Z C
  ker : ∀ h, h < 4 → KerAt w (Z.kp h) F (Z.V h) (C.ks h)
  crt : ∀ h, h < 4 → RoCrts w F (Z.vc h) (C.certs h)
  snt : ∀ a b, a < 4 → b < 4 → RoSnts w F (Z.vs a b) (C.lines a b).sent
  seen : ∀ a b, a < 4 → b < 4 → (C.lines a b).seen.length = 8
  net : w.ownsRow 0 9 1 Z.vn C.net.length (strs C.net)
  kps : ∀ g h, g < 4 → h < 4 → g ≠ h → Z.kp g ≠ Z.kp h
  rows : ∀ g h, g < 4 → h < 4 → g ≠ h → ∀ k ∈ rowsAll (Z.V g), k ∉ rowsAll (Z.V h)
  cbF : cb ∈ F
  netF : ∀ k, Z.vn.ownBlock = some k → k ∈ F
  fin : ∀ k ∈ F, k < w.heap.size

/-- what a cluster's own doing turns -/
structure CStep (cb : Nat) (w : World) (F : List Nat) (Z : CluV) (w' : World) (G : List Nat) (Z' : CluV) : Prop where
  kept : KeptF (cownL cb Z) w w'
  own : ∀ k ∈ cownL cb Z', k ∈ cownL cb Z ∨ w.heap.size ≤ k
  more : More w F G
theorem CStep.refl (cb : Nat) (w : World) (F : List Nat) (Z : CluV) : CStep cb w F Z w F Z := ⟨KeptF.refl _ _, fun _ h => .inl h, More.refl _ _⟩
theorem CStep.trans {cb : Nat} {a b c : World} {F G H : List Nat} {Z Z1 Z2 : CluV} (h : CStep cb a F Z b G Z1) (k : CStep cb b G Z1 c H Z2) : CStep cb a F Z c H Z2 :=
  ⟨⟨k.kept.os.trans h.kept.os, k.kept.tape.trans h.kept.tape, k.kept.output.trans h.kept.output, Nat.le_trans h.kept.size k.kept.size, fun i hi hn => by
    rw [k.kept.block i (by have := h.kept.size; omega) (fun e => ?_), h.kept.block i hi hn]
    rcases h.own i e with g | g
    · exact hn g
    · omega⟩, fun i hi => by
    rcases k.own i hi with g | g
    · exact h.own i g
    · exact .inr (by have := h.kept.size; omega), h.more.trans k.more h.kept.size⟩
theorem CStep.below {cb : Nat} {w w' : World} {F : List Nat} {Z : CluV} (h : Below w.heap.size w w') : CStep cb w F Z w' F Z := ⟨kept_below _ h, fun _ h => .inl h, More.refl _ _⟩
theorem CStep.reserve (cb : Nat) (w : World) (F : List Nat) (Z : CluV) (ob : Obj) : CStep cb w F Z (w.alloc ob) (F ++ [w.heap.size]) Z := ⟨kept_below _ (below_box _ _), fun _ h => .inl h, more_new w F⟩
theorem CStep.boxed {cb : Nat} {w0 w w' : World} {F G : List Nat} {Z Z' : CluV} {B : Nat} (h : CStep cb w0 F Z w G Z') (hg : w.grownBy w' (some B)) (hB : w0.heap.size ≤ B) : CStep cb w0 F Z w' G Z' :=
  ⟨⟨hg.os.trans h.kept.os, hg.tape.trans h.kept.tape, hg.output.trans h.kept.output, Nat.le_trans h.kept.size hg.size, fun k hk hn => by
    rw [hg.block k (by have := h.kept.size; omega) (fun e => by have := Option.some.inj e; omega), h.kept.block k hk hn]⟩, h.own, h.more⟩

/-- two blocks of different types are two -/
theorem heap_ne {w : World} {a b : Nat} {C D : Array Value} {s t : TypeId} {f g : Nat × Nat} (h : w.heap[a]? = some (.cells C s f)) (k : w.heap[b]? = some (.cells D t g)) (hst : s ≠ t) : a ≠ b := fun e => by
  subst e
  rw [h] at k
  injection k with k
  injection k with _ e2 _
  exact hst e2
theorem KerAt.row_box {w : World} {kb b : Nat} {F : List Nat} {V : List ThrV} {K : Ker} {A : Array Value} {t : TypeId} (h : KerAt w kb F V K) (hb : w.heap[b]? = some (.cells A t (0, 0))) (t2 : (3 : Nat) ≠ t) (t3 : (76 : Nat) ≠ t) (t4 : (46 : Nat) ≠ t) : b ∉ rowsAll V := fun hm => by
  obtain ⟨t, ht, hk⟩ := mem_all.1 hm
  obtain ⟨_, h2, ⟨_, _, h3, _⟩, ⟨_, _, h4, _⟩⟩ := h.thr t ht (by have := h.len; have := h.lenK; omega)
  rcases mem_rows.1 hk with e | e | e
  · exact own_box h2 hb t2 e
  · exact own_box h3 hb t3 e
  · exact own_box h4 hb t4 e
theorem KerAt.row_row {w : World} {kb k : Nat} {F : List Nat} {V : List ThrV} {K : Ker} {b : Nat} {e : TypeId} {s : Nat} {v : Value} {n : Nat} {xs : List Value} (h : KerAt w kb F V K) (hv : w.ownsRow b e s v n xs) (hk : v.ownBlock = some k) (t2 : (3 : Nat) ≠ e) (t3 : (76 : Nat) ≠ e) (t4 : (46 : Nat) ≠ e) : k ∉ rowsAll V := fun hm => by
  obtain ⟨t, ht, hkr⟩ := mem_all.1 hm
  obtain ⟨_, h2, ⟨_, _, h3, _⟩, ⟨_, _, h4, _⟩⟩ := h.thr t ht (by have := h.len; have := h.lenK; omega)
  rcases mem_rows.1 hkr with g | g | g
  · exact own_ne h2 hv t2 g hk
  · exact own_ne h3 hv t3 g hk
  · exact own_ne h4 hv t4 g hk

theorem CluAt.ownF {w : World} {cb : Nat} {F : List Nat} {Z : CluV} {C : Clu} (h : CluAt w cb F Z C) : ∀ k ∈ cownL cb Z, k ∈ F := fun k hk => by
  rcases mem_own.1 hk with rfl | ⟨g, hg, rfl | hr⟩ | hn
  · exact h.cbF
  · exact (h.ker g hg).kbF
  · obtain ⟨t, ht, hk⟩ := mem_all.1 hr
    exact (h.ker g hg).rows t ht k hk
  · exact h.netF k hn
theorem CStep.keptF {cb : Nat} {w w' : World} {F G : List Nat} {Z Z' : CluV} {C : Clu} (h : CStep cb w F Z w' G Z') (hc : CluAt w cb F Z C) : KeptF F w w' := h.kept.sub fun k e => .inl (hc.ownF k e)

/-- a cluster is as it was where nothing of its own was turned, and what may be written has grown by new blocks alone -/
theorem CluAt.keep {w w' : World} {cb : Nat} {R F G : List Nat} {Z : CluV} {C : Clu} (h : CluAt w cb F Z C) (hk : KeptF R w w') (hR : ∀ k ∈ R, k ∈ F) (hm : More w F G) (ho : ∀ k ∈ cownL cb Z, k ∉ R) (hG : ∀ k ∈ G, k < w'.heap.size) : CluAt w' cb G Z C := by
  obtain ⟨A, hA, hB⟩ := h.box
  have hkF : KeptF F w w' := hk.sub fun k e => .inl (hR k e)
  exact ⟨⟨A, hk.heap hA (ho cb (mem_own.2 (.inl rfl))), hB⟩,
    fun g hg => (h.ker g hg).keep hk hR hm (ho _ (mem_own.2 (.inr (.inl ⟨g, hg, .inl rfl⟩)))) (fun t ht k hk => ho _ (mem_own.2 (.inr (.inl ⟨g, hg, .inr (mem_all.2 ⟨t, ht, hk⟩)⟩)))) hG,
    fun g hg => (h.crt g hg).keep hkF hm, fun a b ha hb => (h.snt a b ha hb).keep hkF hm, h.seen, own_keep h.net hk (fun k hk => ho k (mem_own.2 (.inr (.inr hk)))), h.kps, h.rows, hm.1 _ h.cbF, fun k hk => hm.1 k (h.netF k hk), hG⟩
theorem CluAt.below {w w' : World} {cb : Nat} {F : List Nat} {Z : CluV} {C : Clu} (h : CluAt w cb F Z C) (hb : Below w.heap.size w w') : CluAt w' cb F Z C :=
  h.keep (R := []) (kept_below _ hb) (fun _ h => by cases h) (More.refl _ _) (fun _ _ h => by cases h) (fun k hk => Nat.lt_of_lt_of_le (h.fin k hk) hb.size)
theorem CluAt.reserve {w : World} {cb : Nat} {F : List Nat} {Z : CluV} {C : Clu} (h : CluAt w cb F Z C) (ob : Obj) : CluAt (w.alloc ob) cb (F ++ [w.heap.size]) Z C :=
  h.keep (R := []) (kept_below _ (below_box w ob)) (fun _ h => by cases h) (more_new w F) (fun _ _ h => by cases h) (fun k hk => by
    rw [World.size_alloc]
    rcases List.mem_append.1 hk with g | g
    · have := h.fin k g; omega
    · simp at g; omega)
theorem CluAt.notown {w : World} {cb B : Nat} {F : List Nat} {Z : CluV} {C : Clu} {A : Array Value} {t : TypeId} (h : CluAt w cb F Z C) (hA : w.heap[B]? = some (.cells A t (0, 0))) (t1 : (131 : Nat) ≠ t) (t2 : (3 : Nat) ≠ t) (t3 : (76 : Nat) ≠ t) (t4 : (46 : Nat) ≠ t) (t5 : (93 : Nat) ≠ t) (t6 : (9 : Nat) ≠ t) : B ∉ cownL cb Z := fun hm => by
  obtain ⟨D, hD, _⟩ := h.box
  rcases mem_own.1 hm with rfl | ⟨g, hg, rfl | hr⟩ | hn
  · exact heap_ne hD hA t5 rfl
  · obtain ⟨E, hE, _⟩ := (h.ker g hg).box
    exact heap_ne hE hA t1 rfl
  · exact (h.ker g hg).row_box hA t2 t3 t4 hr
  · exact own_box h.net hA t6 hn
/-- a store to a box leaves it -/
theorem CluAt.boxed {w w' : World} {cb B : Nat} {F : List Nat} {Z : CluV} {C : Clu} {A : Array Value} {t : TypeId} (h : CluAt w cb F Z C) (hg : w.grownBy w' (some B)) (hB : B ∈ F) (hA : w.heap[B]? = some (.cells A t (0, 0))) (t1 : (131 : Nat) ≠ t) (t2 : (3 : Nat) ≠ t) (t3 : (76 : Nat) ≠ t) (t4 : (46 : Nat) ≠ t) (t5 : (93 : Nat) ≠ t) (t6 : (9 : Nat) ≠ t) : CluAt w' cb F Z C :=
  h.keep (R := [B]) (kept_grown hg fun k e => .inl (by cases e; simp)) (fun k hk => by simp at hk; rw [hk]; exact hB) (More.refl _ _) (fun k hk e => by
    simp at e
    subst e
    exact h.notown hA t1 t2 t3 t4 t5 t6 hk) (fun k hk => Nat.lt_of_lt_of_le (h.fin k hk) hg.size)

/-- a store to the cluster's own block -/
theorem CluAt.store {w w' : World} {cb : Nat} {F : List Nat} {Z Z' : CluV} {C C' : Clu} {A : Array Value} (h : CluAt w cb F Z C) (hg : w.grownBy w' (some cb)) (hA : w'.heap[cb]? = some (.cells A 93 (0, 0))) (hB : CBox A Z' C') (e1 : Z'.kp = Z.kp) (e2 : Z'.V = Z.V) (e3 : Z'.vn = Z.vn) (e4 : C'.ks = C.ks) (e5 : C'.net = C.net)
    (hc : ∀ g, g < 4 → RoCrts w F (Z'.vc g) (C'.certs g)) (hs : ∀ a b, a < 4 → b < 4 → RoSnts w F (Z'.vs a b) (C'.lines a b).sent ∧ (C'.lines a b).seen.length = 8) : CluAt w' cb F Z' C' ∧ CStep cb w F Z w' F Z' := by
  obtain ⟨D, hD, _⟩ := h.box
  have hk : KeptF [cb] w w' := kept_grown hg fun k e => .inl (by cases e; simp)
  have hkF : KeptF F w w' := hk.sub fun k e => .inl (by simp at e; rw [e]; exact h.cbF)
  have hm := More.refl w F
  have hfin : ∀ k ∈ F, k < w'.heap.size := fun k hk => Nat.lt_of_lt_of_le (h.fin k hk) hg.size
  have hne : ∀ b, b ≠ cb → b ∉ [cb] := fun b hb e => hb (by simpa using e)
  refine ⟨⟨⟨A, hA, hB⟩, fun g hg4 => ?_, fun g hg4 => (hc g hg4).keep hkF hm, fun a b ha hb => (hs a b ha hb).1.keep hkF hm, fun a b ha hb => (hs a b ha hb).2, ?_, ?_, ?_, h.cbF, ?_, hfin⟩, ⟨hk.sub fun k e => .inl (by simp at e; rw [e]; exact mem_own.2 (.inl rfl)), fun k hk => .inl ?_, More.refl _ _⟩⟩
  · rw [e1, e2, e4]
    obtain ⟨E, hE, _⟩ := (h.ker g hg4).box
    refine (h.ker g hg4).keep hk (fun k e => by simp at e; rw [e]; exact h.cbF) hm (hne _ (heap_ne hE hD (by decide))) (fun t ht k hk2 => hne _ fun e => ?_) hfin
    subst e
    exact (h.ker g hg4).row_box hD (by decide) (by decide) (by decide) (mem_all.2 ⟨t, ht, hk2⟩)
  · rw [e3, e5]
    exact own_keep h.net hk (fun k hk2 => hne _ fun e => by subst e; exact own_box h.net hD (by decide) hk2)
  · rw [e1]; exact h.kps
  · rw [e2]; exact h.rows
  · rw [e3]; exact h.netF
  · rw [mem_own, e1, e2, e3, ← mem_own] at hk; exact hk

/-- one of the cluster's kernels did something -/
theorem CluAt.kernel {w w' : World} {cb : Nat} {F G : List Nat} {Z : CluV} {C : Clu} {h : Nat} {V' : List ThrV} {K' : Ker} (hc : CluAt w cb F Z C) (h4 : h < 4) (hK : KerAt w' (Z.kp h) G V' K') (hs : KStep (Z.kp h) w F (Z.V h) w' G V') : CluAt w' cb G { Z with V := fun g => if g = h then V' else Z.V g } (setK C h K') ∧ CStep cb w F Z w' G { Z with V := fun g => if g = h then V' else Z.V g } := by
  obtain ⟨A, hA, hB⟩ := hc.box
  obtain ⟨E, hE, _⟩ := (hc.ker h h4).box
  have hkF := hs.keptF (hc.ker h h4)
  have hnR : ∀ b, b ≠ Z.kp h → b ∉ rowsAll (Z.V h) → b ∉ Z.kp h :: rowsAll (Z.V h) := fun b h1 h2 e => by
    rcases List.mem_cons.1 e with g | g
    · exact h1 g
    · exact h2 g
  have hcb : cb ∉ Z.kp h :: rowsAll (Z.V h) := hnR cb (heap_ne hA hE (by decide)) ((hc.ker h h4).row_box hA (by decide) (by decide) (by decide))
  refine ⟨⟨⟨A, hs.kept.heap hA hcb, ⟨hB.size, hB.now, hB.acts, hB.ker, hB.crt, hB.lin, hB.net⟩⟩, fun g hg => ?_, fun g hg => (hc.crt g hg).keep hkF hs.more, fun a b ha hb => (hc.snt a b ha hb).keep hkF hs.more, hc.seen, ?_, hc.kps, fun a b ha hb hab k hk => ?_, hs.more.1 _ hc.cbF, fun k hk => hs.more.1 k (hc.netF k hk), hK.fin⟩, ⟨hs.kept.sub fun k e => .inl (mem_own.2 (.inr (.inl ⟨h, h4, by simpa using e⟩))), fun k hk => ?_, hs.more⟩⟩
  · show KerAt w' (Z.kp g) G (if g = h then V' else Z.V g) (if g = (h : Int).toNat then K' else C.ks g)
    rw [show (h : Int).toNat = h by omega]
    by_cases e : g = h
    · rw [if_pos e, if_pos e, e]; exact hK
    · rw [if_neg e, if_neg e]
      obtain ⟨E2, hE2, _⟩ := (hc.ker g hg).box
      exact (hc.ker g hg).other (hc.ker h h4) hs hK (hc.kps g h hg h4 e) ((hc.ker h h4).row_box hE2 (by decide) (by decide) (by decide)) ((hc.ker g hg).row_box hE (by decide) (by decide) (by decide)) (hc.rows g h hg h4 e)
  · exact own_keep hc.net hs.kept (fun k hk => hnR k (fun e => own_box hc.net hE (by decide) (e ▸ hk)) ((hc.ker h h4).row_row hc.net hk (by decide) (by decide) (by decide)))
  · replace hk : k ∈ rowsAll (if a = h then V' else Z.V a) := hk
    show k ∉ rowsAll (if b = h then V' else Z.V b)
    have hold : ∀ g, g < 4 → ∀ k ∈ rowsAll (Z.V g), k < w.heap.size := fun g hg k hk => by
      obtain ⟨t, ht, hk⟩ := mem_all.1 hk
      exact hc.fin k ((hc.ker g hg).rows t ht k hk)
    by_cases ea : a = h
    · rw [if_pos ea] at hk
      rw [if_neg (fun eb => hab (ea.trans eb.symm))]
      intro hkb
      rcases hs.rows k hk with g | g
      · exact hc.rows h b h4 hb (fun e => hab (ea.trans e)) k g hkb
      · have := hold b hb k hkb; omega
    · rw [if_neg ea] at hk
      by_cases eb : b = h
      · rw [if_pos eb]
        intro hkb
        rcases hs.rows k hkb with g | g
        · exact hc.rows a h ha h4 ea k hk g
        · have := hold a ha k hk; omega
      · rw [if_neg eb]; exact hc.rows a b ha hb hab k hk
  · rcases mem_own.1 hk with rfl | ⟨g, hg, rfl | hr⟩ | hn
    · exact .inl (mem_own.2 (.inl rfl))
    · exact .inl (mem_own.2 (.inr (.inl ⟨g, hg, .inl rfl⟩)))
    · replace hr : k ∈ rowsAll (if g = h then V' else Z.V g) := hr
      by_cases e : g = h
      · rw [if_pos e] at hr
        rcases hs.rows k hr with q | q
        · exact .inl (mem_own.2 (.inr (.inl ⟨h, h4, .inr q⟩)))
        · exact .inr q
      · rw [if_neg e] at hr
        exact .inl (mem_own.2 (.inr (.inl ⟨g, hg, .inr hr⟩)))
    · exact .inl (mem_own.2 (.inr (.inr hn)))
end Go.Proofs.YtgpldlbmjakjhaaGreat

namespace Go.Proofs.YtgpldlbmjakjhaaGreat
open Go.RowKit Go.Proofs.Parclose

theorem set_get (A : Array Value) (j i : Nat) (u : Value) (hj : j < A.size) : (A.setIfInBounds j u)[i]? = if i = j then some u else A[i]? := by
  rw [Array.getElem?_setIfInBounds]
  by_cases e : j = i
  · subst e
    rw [if_pos rfl, if_pos hj, if_pos rfl]
  · rw [if_neg e, if_neg (fun h => e h.symm)]

theorem CluAt.setNow {w : World} {cb : Nat} {F : List Nat} {Z : CluV} {C : Clu} (h : CluAt w cb F Z C) (n : Int) : CluAt (w.setCell ⟨cb, 0, none⟩ (.int .i64 n)) cb F Z { C with now := n } ∧ CStep cb w F Z (w.setCell ⟨cb, 0, none⟩ (.int .i64 n)) F Z := by
  obtain ⟨A, hA, hB⟩ := h.box
  have hsz := hB.size
  have hg := fun i => set_get A 0 i (.int .i64 n) (by omega)
  refine h.store (grown_setCell w cb 0 _) (heap_setCell hA _) ⟨by simpa using hB.size, by rw [hg, if_pos rfl], by rw [hg, if_neg (by omega)]; exact hB.acts, fun g h4 => by rw [hg, if_neg (by omega)]; exact hB.ker g h4, fun g h4 => by rw [hg, if_neg (by omega)]; exact hB.crt g h4, fun a b ha hb j hj => by rw [hg, if_neg (by omega)]; exact hB.lin a b ha hb j hj, by rw [hg, if_neg (by omega)]; exact hB.net⟩ rfl rfl rfl rfl rfl h.crt (fun a b ha hb => ⟨h.snt a b ha hb, h.seen a b ha hb⟩)
theorem CluAt.setActs {w : World} {cb : Nat} {F : List Nat} {Z : CluV} {C : Clu} (h : CluAt w cb F Z C) (n : Nat) : CluAt (w.setCell ⟨cb, 1, none⟩ (.int .i64 n)) cb F Z { C with acts := n } ∧ CStep cb w F Z (w.setCell ⟨cb, 1, none⟩ (.int .i64 n)) F Z := by
  obtain ⟨A, hA, hB⟩ := h.box
  have hsz := hB.size
  have hg := fun i => set_get A 1 i (.int .i64 n) (by omega)
  refine h.store (grown_setCell w cb 1 _) (heap_setCell hA _) ⟨by simpa using hB.size, by rw [hg, if_neg (by omega)]; exact hB.now, by rw [hg, if_pos rfl], fun g h4 => by rw [hg, if_neg (by omega)]; exact hB.ker g h4, fun g h4 => by rw [hg, if_neg (by omega)]; exact hB.crt g h4, fun a b ha hb j hj => by rw [hg, if_neg (by omega)]; exact hB.lin a b ha hb j hj, by rw [hg, if_neg (by omega)]; exact hB.net⟩ rfl rfl rfl rfl rfl h.crt (fun a b ha hb => ⟨h.snt a b ha hb, h.seen a b ha hb⟩)
theorem CluAt.setCrt {w : World} {cb : Nat} {F : List Nat} {Z : CluV} {C : Clu} {x : Nat} {v : Value} {l : List Crt} (h : CluAt w cb F Z C) (h4 : x < 4) (hv : RoCrts w F v l) : CluAt (w.setCell ⟨cb, 6 + x, none⟩ v) cb F { Z with vc := fun g => if g = x then v else Z.vc g } (setC C x l) ∧ CStep cb w F Z (w.setCell ⟨cb, 6 + x, none⟩ v) F { Z with vc := fun g => if g = x then v else Z.vc g } := by
  obtain ⟨A, hA, hB⟩ := h.box
  have hsz := hB.size
  have hg := fun i => set_get A (6 + x) i v (by omega)
  have hx : (x : Int).toNat = x := by omega
  refine h.store (grown_setCell w cb (6 + x) _) (heap_setCell hA _) ⟨by simpa using hB.size, by rw [hg, if_neg (by omega)]; exact hB.now, by rw [hg, if_neg (by omega)]; exact hB.acts, fun g h4 => by rw [hg, if_neg (by omega)]; exact hB.ker g h4, fun g h4 => ?_, fun a b ha hb j hj => by rw [hg, if_neg (by omega)]; exact hB.lin a b ha hb j hj, by rw [hg, if_neg (by omega)]; exact hB.net⟩ rfl rfl rfl rfl rfl (fun g h4 => ?_) (fun a b ha hb => ⟨h.snt a b ha hb, h.seen a b ha hb⟩)
  · rw [hg]
    show _ = some (if g = x then v else Z.vc g)
    by_cases e : g = x
    · rw [if_pos (by omega), if_pos e]
    · rw [if_neg (by omega), if_neg e]; exact hB.crt g h4
  · show RoCrts w F (if g = x then v else Z.vc g) (if g = (x : Int).toNat then l else C.certs g)
    rw [hx]
    by_cases e : g = x
    · rw [if_pos e, if_pos e]; exact hv
    · rw [if_neg e, if_neg e]; exact h.crt g h4

/-- where a line lies -/
theorem CluAt.setLine {w : World} {cb : Nat} {F : List Nat} {Z : CluV} {C : Clu} {x y : Nat} {v : Value} {l : Lne} (h : CluAt w cb F Z C) (hx4 : x < 4) (hy4 : y < 4) (hv : RoSnts w F v l.sent) (h8 : l.seen.length = 8) : CluAt (w.setCells cb (10 + x * 44 + y * 11) (lneC l v)) cb F { Z with vs := fun a b => if a = x ∧ b = y then v else Z.vs a b } (setLi C x y l) ∧ CStep cb w F Z (w.setCells cb (10 + x * 44 + y * 11) (lneC l v)) F { Z with vs := fun a b => if a = x ∧ b = y then v else Z.vs a b } := by
  obtain ⟨A, hA, hB⟩ := h.box
  have hsz := hB.size
  obtain ⟨A', h1, h2, h3⟩ := heap_cells (lneC l v) (10 + x * 44 + y * 11) w A hA
  have hl : (lneC l v).length = 11 := rfl
  rw [hl] at h3
  have hx : (x : Int).toNat = x := by omega
  have hy : (y : Int).toNat = y := by omega
  refine h.store (grown_cells _ _ w) h1 ⟨by omega, by rw [h3, if_neg (by omega)]; exact hB.now, by rw [h3, if_neg (by omega)]; exact hB.acts, fun g h4 => by rw [h3, if_neg (by omega)]; exact hB.ker g h4, fun g h4 => by rw [h3, if_neg (by omega)]; exact hB.crt g h4, fun a b ha hb j hj => ?_, by rw [h3, if_neg (by omega)]; exact hB.net⟩ rfl rfl rfl rfl rfl h.crt (fun a b ha hb => ?_)
  · show _ = (lneC (if a = (x : Int).toNat ∧ b = (y : Int).toNat then l else C.lines a b) (if a = x ∧ b = y then v else Z.vs a b))[j]?
    rw [hx, hy, h3]
    by_cases e : a = x ∧ b = y
    · rw [if_pos (by omega), if_pos e, if_pos e, show 10 + a * 44 + b * 11 + j - (10 + x * 44 + y * 11) = j by omega]
    · rw [if_neg (by omega), if_neg e, if_neg e]; exact hB.lin a b ha hb j hj
  · show RoSnts w F (if a = x ∧ b = y then v else Z.vs a b) (if a = (x : Int).toNat ∧ b = (y : Int).toNat then l else C.lines a b).sent ∧ (if a = (x : Int).toNat ∧ b = (y : Int).toNat then l else C.lines a b).seen.length = 8
    rw [hx, hy]
    by_cases e : a = x ∧ b = y
    · rw [if_pos e, if_pos e]; exact ⟨hv, h8⟩
    · rw [if_neg e, if_neg e]; exact ⟨h.snt a b ha hb, h.seen a b ha hb⟩

/-- a row of texts that was made anew or grew is the net from now on -/
theorem CluAt.setNet {w w1 : World} {cb : Nat} {F : List Nat} {Z : CluV} {C : Clu} {v : Value} {l : List (List UInt8)} (h : CluAt w cb F Z C) (hg : w.grownBy w1 Z.vn.ownBlock) (hv : w1.ownsRow 0 9 1 v l.length (strs l)) (hw : ∀ k, v.ownBlock = some k → Z.vn.ownBlock = some k ∨ w.heap.size ≤ k) :
    CluAt (w1.setCell ⟨cb, 186, none⟩ v) cb (F ++ v.ownBlock.toList) { Z with vn := v } { C with net := l } ∧ CStep cb w F Z (w1.setCell ⟨cb, 186, none⟩ v) (F ++ v.ownBlock.toList) { Z with vn := v } := by
  obtain ⟨A, hA, hB⟩ := h.box
  have hsz := hB.size
  have hcn : Z.vn.ownBlock ≠ some cb := own_box h.net hA (by decide)
  have hA1 : w1.heap[cb]? = some (.cells A 93 (0, 0)) := by rw [hg.block cb (heap_lt hA) (fun e => hcn e.symm), hA]
  have hcv : v.ownBlock ≠ some cb := own_box hv hA1 (by decide)
  have hgt := fun i => set_get A 186 i v (by omega)
  have hm : More w F (F ++ v.ownBlock.toList) := ⟨fun k hk => List.mem_append.2 (.inl hk), fun k hk => by
    rcases List.mem_append.1 hk with e | e
    · exact .inl e
    · rcases hw k (Option.mem_toList.1 e) with g | g
      · exact .inl (h.netF k g)
      · exact .inr g⟩
  have hk : KeptF (cb :: Z.vn.ownBlock.toList) w (w1.setCell ⟨cb, 186, none⟩ v) := by
    refine ⟨hg.os, hg.tape, hg.output, by simpa using hg.size, fun k hk hn => ?_⟩
    rw [Below.heap_setCell w1 _ _ k (fun e => hn (by rw [show k = cb from e]; simp)), hg.block k hk (fun e => hn (by simp [← e]))]
  have hR : ∀ k ∈ cb :: Z.vn.ownBlock.toList, k ∈ F := fun k hk => by
    rcases List.mem_cons.1 hk with rfl | e
    · exact h.cbF
    · exact h.netF k (Option.mem_toList.1 e)
  have hkF : KeptF F w (w1.setCell ⟨cb, 186, none⟩ v) := hk.sub fun k e => .inl (hR k e)
  have hlt : ∀ k, v.ownBlock = some k → k < w1.heap.size := fun k hk => by
    rcases hv.2 with ⟨rfl, _⟩ | ⟨g, cap, cur, rfl, _, hh, _⟩
    · cases hk
    · cases hk; exact heap_lt hh
  have hfin : ∀ k ∈ F ++ v.ownBlock.toList, k < (w1.setCell ⟨cb, 186, none⟩ v).heap.size := fun k hk => by
    rw [World.size_setCell]
    rcases List.mem_append.1 hk with e | e
    · exact Nat.lt_of_lt_of_le (h.fin k e) hg.size
    · exact hlt k (Option.mem_toList.1 e)
  have hnR : ∀ b, b ≠ cb → Z.vn.ownBlock ≠ some b → b ∉ cb :: Z.vn.ownBlock.toList := fun b h1 h2 e => by
    rcases List.mem_cons.1 e with g | g
    · exact h1 g
    · exact h2 (Option.mem_toList.1 g)
  refine ⟨⟨⟨_, heap_setCell hA1 _, ⟨by simpa using hB.size, by rw [hgt, if_neg (by omega)]; exact hB.now, by rw [hgt, if_neg (by omega)]; exact hB.acts, fun g h4 => by rw [hgt, if_neg (by omega)]; exact hB.ker g h4, fun g h4 => by rw [hgt, if_neg (by omega)]; exact hB.crt g h4, fun a b ha hb j hj => by rw [hgt, if_neg (by omega)]; exact hB.lin a b ha hb j hj, by rw [hgt, if_pos rfl]⟩⟩, fun g h4 => ?_, fun g h4 => (h.crt g h4).keep hkF hm, fun a b ha hb => (h.snt a b ha hb).keep hkF hm, h.seen, ?_, h.kps, h.rows, hm.1 _ h.cbF, fun k hk => List.mem_append.2 (.inr (Option.mem_toList.2 hk)), hfin⟩, ⟨hk.sub fun k e => .inl ?_, fun k hk => ?_, hm⟩⟩
  · obtain ⟨E, hE, _⟩ := (h.ker g h4).box
    refine (h.ker g h4).keep hk hR hm (hnR _ (heap_ne hE hA (by decide)) (own_box h.net hE (by decide))) (fun t ht k hk2 => hnR _ (fun e => ?_) (fun e => ?_)) hfin
    · subst e
      exact (h.ker g h4).row_box hA (by decide) (by decide) (by decide) (mem_all.2 ⟨t, ht, hk2⟩)
    · exact (h.ker g h4).row_row h.net e (by decide) (by decide) (by decide) (mem_all.2 ⟨t, ht, hk2⟩)
  · exact hv.kept (grown_setCell w1 cb 186 v) (Or.inr fun e => hcv e)
  · rcases List.mem_cons.1 e with rfl | e
    · exact mem_own.2 (.inl rfl)
    · exact mem_own.2 (.inr (.inr (Option.mem_toList.1 e)))
  · rcases mem_own.1 hk with rfl | ⟨g, h4, hr⟩ | hn
    · exact .inl (mem_own.2 (.inl rfl))
    · exact .inl (mem_own.2 (.inr (.inl ⟨g, h4, hr⟩)))
    · rcases hw k hn with q | q
      · exact .inl (mem_own.2 (.inr (.inr q)))
      · exact .inr q

theorem gone_cell {w : World} {k o : Nat} {u : Value} (h : (w.setRow k #[]).cell? ⟨k, o, none⟩ = some u) : False := by
  simp only [World.cell?, World.setRow, Array.getElem?_modify] at h
  rw [if_pos trivial] at h
  cases e : w.heap[k]? with
  | none => simp [e] at h
  | some ob => cases ob <;> simp [e] at h
/-- what stays whatever is written below lies above -/
theorem gone_off {w : World} {B k : Nat} {r : Option Nat} (hk : k < B) : Off B r w (w.setRow k #[]) := fun j hB hj _ => (grown_setRow w k #[]).block j hj (fun e => by have := Option.some.inj e; omega)
theorem lab_base {w : World} {B : Nat} {r : Option Nat} {v : Value} {l : List (Int × Int)} (h : ∀ w', Off B r w w' → LabAt w' v l) (h0 : 0 < l.length) {k : Nat} (hk : v.ownBlock = some k) : B ≤ k := by
  refine Nat.le_of_not_lt fun hlt => ?_
  obtain ⟨p, cap, rfl, _, _, hc⟩ := h (w.setRow k #[]) (gone_off hlt)
  obtain ⟨b, o, rfl, hcs⟩ := hc h0
  cases hk
  exact gone_cell (hcs 0 h0).1
theorem ints_base {w : World} {B : Nat} {r : Option Nat} {v : Value} {l : List Int} (h : ∀ w', Off B r w w' → IntsAt w' v l) (h0 : 0 < l.length) {k : Nat} (hk : v.ownBlock = some k) : B ≤ k := by
  refine Nat.le_of_not_lt fun hlt => ?_
  obtain ⟨p, cap, rfl, _, _, hc⟩ := h (w.setRow k #[]) (gone_off hlt)
  obtain ⟨b, o, rfl, hcs⟩ := hc h0
  cases hk
  exact gone_cell (hcs 0 h0)
theorem crts_base {w : World} {B : Nat} {r : Option Nat} {v : Value} {l : List Crt} (h : ∀ w', Off B r w w' → CrtsAt w' v l) (h0 : 0 < l.length) {k : Nat} (hk : v.ownBlock = some k) : B ≤ k := by
  refine Nat.le_of_not_lt fun hlt => ?_
  obtain ⟨p, cap, rfl, _, _, hc⟩ := h (w.setRow k #[]) (gone_off hlt)
  obtain ⟨b, o, rfl, hcs⟩ := hc h0
  cases hk
  exact gone_cell (hcs 0 h0).1
/-- a line that a call has made anew is read alone from now on -/
theorem ro_row {w : World} {B : Nat} {F : List Nat} {v : Value} {q : List SntV} (h : OwnRow B w v q) (hl : q.length ≤ 879609302220) (hF : ∀ k ∈ F, k < B) : RoSnts w F v (q.map (·.s)) := by
  have hn : ∀ k, B ≤ k → k ∉ F := fun k hk e => by have := hF k e; omega
  obtain ⟨_, _, _, hr⟩ := h.snts hl
  refine ⟨q, rfl, fun x hx => ⟨⟨(h.ok x hx w (Off.refl _ _ _)).lab, fun h0 k hk => hn k (lab_base (fun w' ho => (h.ok x hx w' ho).lab) h0 hk)⟩, ⟨(h.ok x hx w (Off.refl _ _ _)).nums, fun h0 k hk => hn k (ints_base (fun w' ho => (h.ok x hx w' ho).nums) h0 hk)⟩, ⟨(h.ok x hx w (Off.refl _ _ _)).crts, fun h0 k hk => hn k (crts_base (fun w' ho => (h.ok x hx w' ho).crts) h0 hk)⟩⟩, ?_, fun _ k hk => hn k (own_base h.own hk)⟩
  have hx := h.own.1
  rcases h.own.2 with ⟨hn, h0⟩ | ⟨g, cap, cur, rfl, hbg, hgg, h1, h2, h3, h4⟩
  · rw [hn]
    exact ⟨none, 0, by rw [h0], ⟨by omega, fun _ => rfl⟩, hl, fun h => by omega⟩
  · refine ⟨some ⟨g, 0, none⟩, cap, rfl, ⟨h1, fun e => by cases e⟩, hl, fun _ => ⟨g, 0, rfl, fun j u hu => ?_⟩⟩
    have := World.ownsRow.cells h.own (g := g) rfl _ _ hu
    rwa [WideShapes.add_plain] at this
/-- a line that a call has made anew is stored -/
theorem LneNew.ro {B : Nat} {w : World} {F : List Nat} {v : Value} {l : Lne} (h : LneNew B w v l) (hF : ∀ k ∈ F, k < B) : ∃ vs, v = .agg (lneC l vs).toArray ∧ l.seen.length = 8 ∧ RoSnts w F vs l.sent := by
  obtain ⟨vs, q, rfl, h8, hm, hl, ho⟩ := h
  exact ⟨vs, rfl, h8, hm ▸ ro_row ho hl hF⟩
/-- a line of the cluster, as it is read -/
theorem CluAt.line {w : World} {cb : Nat} {F : List Nat} {Z : CluV} {C : Clu} (h : CluAt w cb F Z C) {a b : Nat} (ha : a < 4) (hb : b < 4) : LneAt w (.agg (lneC (C.lines a b) (Z.vs a b)).toArray) (C.lines a b) := ⟨Z.vs a b, rfl, h.seen a b ha hb, (h.snt a b ha hb).at⟩
end Go.Proofs.YtgpldlbmjakjhaaGreat

namespace Go.Proofs.YtgpldlbmjakjhaaGreat
open Go.RowKit Go.Proofs.Parclose

theorem info_text : (Tryz.prog.info? 9).map (fun i => (i.zero, i.size, i.bytes)) = some (some (.string ⟨#[]⟩), 1, 16) := by kernel_rfl
theorem text_run {w : World} {ty : TypeId} {v : Value} {l : List (List UInt8)} {x : List UInt8} {g c : Nat} (h : w.ownsRow 0 9 1 v l.length (strs l)) (hc : w.cell? ⟨g, 0, none⟩ = some (strV x)) (hn : l.length ≤ 1000) :
    ∃ v' w', (Builtin.append_ #[48, 48] ty #[v, .slice (some ⟨g, 0, none⟩) 1 c]).run Tryz.prog w = .ok v' w' ∧ w'.ownsRow 0 9 1 v' (l ++ [x]).length (strs (l ++ [x])) ∧ w.grownBy w' v.ownBlock ∧ ∀ k, v'.ownBlock = some k → v.ownBlock = some k ∨ w.heap.size ≤ k := by
  obtain ⟨i0, hi, hz0, hz1, hz2⟩ := info_parts info_text
  obtain ⟨v', w', hr, k1, k2, k3⟩ := append_where (ty := ty) (c := c) Tryz.underlying48 hi hz0 hz1 hz2 rfl (by decide) h (m := 1) (news := [strV x]) (a := ⟨g, 0, none⟩) rfl (fun j u hu => by
    rw [WideShapes.add_plain, Nat.zero_add]
    have hj : j = 0 := by have := (List.getElem?_eq_some_iff.1 hu).1; simpa using this
    subst hj
    rw [hc]; exact hu) (fun u hu => by rw [List.mem_singleton] at hu; rw [hu]; rfl) (by unfold maxLen; omega) (by omega)
  exact ⟨v', w', hr, by rw [List.length_append]; simpa [strs] using k1, k2, k3⟩
theorem wpList_text {w : World} {ops : Array Oper} {rest : List Oper} {o : Oper} {a : Act} {Q : Exit → Act → World → Prop} (hgd : o.guard = none) (s x : Operand)
    (ho : o.op = .call { callee := .builtin .append, args := #[s, x], argTypes := #[48, 48] }) (v : Value) (l : List (List UInt8)) (y : List UInt8) (hs : a.eval s = v) (hown : w.ownsRow 0 9 1 v l.length (strs l))
    (g c : Nat) (hx : a.eval x = .slice (some ⟨g, 0, none⟩) 1 c) (hc : w.cell? ⟨g, 0, none⟩ = some (strV y)) (hn : l.length ≤ 1000)
    (h : ∀ v' w', w'.ownsRow 0 9 1 v' (l ++ [y]).length (strs (l ++ [y])) → w.grownBy w' v.ownBlock → (∀ k, v'.ownBlock = some k → v.ownBlock = some k ∨ w.heap.size ≤ k) → wpList Tryz.prog ops Q rest (a.put o.dst v') w') : wpList Tryz.prog ops Q (o :: rest) a w := by
  refine wpList_plain hgd fun K hK => ?_
  obtain ⟨v', w', hr, k1, k2, k3⟩ := text_run (ty := o.type) (c := c) hown hc hn
  unfold Oper.wp execOp
  simp only [ho, resolve, invoke, builtin, Sem.run_bind, Sem.run_pure, Result.andThen_ok, List.map_toArray, List.map_cons, List.map_nil, hs, hx, hr]
  exact hK _ _ (h v' w' k1 k2 k3)
end Go.Proofs.YtgpldlbmjakjhaaGreat

namespace Go.Proofs.YtgpldlbmjakjhaaGreat
open Go.RowKit Go.Proofs.Parclose

/-- the cells of a line, read -/
theorem CluAt.lcells {w : World} {cb : Nat} {F : List Nat} {Z : CluV} {C : Clu} (h : CluAt w cb F Z C) {a b : Nat} (ha : a < 4) (hb : b < 4) {L : Lne} {vs : Value} (hL : C.lines a b = L) (hv : Z.vs a b = vs) {o : Nat} (ho : o = 10 + a * 44 + b * 11) :
    (w.cell? ⟨cb, o, none⟩ = some (.int .i64 L.next) ∧ w.cell? ⟨cb, o + 1, none⟩ = some vs ∧ w.cell? ⟨cb, o + 2, none⟩ = some (.int .i64 L.high) ∧ w.cell? ⟨cb, o + 3, none⟩ = some (.bool (L.seen.getD 0 false)) ∧ w.cell? ⟨cb, o + 4, none⟩ = some (.bool (L.seen.getD 1 false)) ∧ w.cell? ⟨cb, o + 5, none⟩ = some (.bool (L.seen.getD 2 false)) ∧ w.cell? ⟨cb, o + 6, none⟩ = some (.bool (L.seen.getD 3 false)) ∧ w.cell? ⟨cb, o + 7, none⟩ = some (.bool (L.seen.getD 4 false)) ∧ w.cell? ⟨cb, o + 8, none⟩ = some (.bool (L.seen.getD 5 false)) ∧ w.cell? ⟨cb, o + 9, none⟩ = some (.bool (L.seen.getD 6 false)) ∧ w.cell? ⟨cb, o + 10, none⟩ = some (.bool (L.seen.getD 7 false))) ∧ ∀ j, w.frozen? ⟨cb, j, none⟩ = false := by
  obtain ⟨A, hA, hB⟩ := h.box
  subst ho hL hv
  have g : ∀ j, j < 11 → w.cell? ⟨cb, 10 + a * 44 + b * 11 + j, none⟩ = (lneC (C.lines a b) (Z.vs a b))[j]? := fun j hj => (heap_cell hA _).trans (hB.lin a b ha hb j hj)
  exact ⟨⟨g 0 (by omega), g 1 (by omega), g 2 (by omega), g 3 (by omega), g 4 (by omega), g 5 (by omega), g 6 (by omega), g 7 (by omega), g 8 (by omega), g 9 (by omega), g 10 (by omega)⟩, fun j => heap_frozen hA j⟩
theorem CluAt.cnow {w : World} {cb : Nat} {F : List Nat} {Z : CluV} {C : Clu} (h : CluAt w cb F Z C) : w.cell? ⟨cb, 0, none⟩ = some (.int .i64 C.now) := by
  obtain ⟨A, hA, hB⟩ := h.box
  exact (heap_cell hA 0).trans hB.now
theorem CluAt.cker {w : World} {cb : Nat} {F : List Nat} {Z : CluV} {C : Clu} (h : CluAt w cb F Z C) {a : Nat} (ha : a < 4) : w.cell? ⟨cb, 2 + a, none⟩ = some (.pointer (some ⟨Z.kp a, 0, none⟩)) := by
  obtain ⟨A, hA, hB⟩ := h.box
  exact (heap_cell hA (2 + a)).trans (hB.ker a ha)
theorem CluAt.ccrt {w : World} {cb : Nat} {F : List Nat} {Z : CluV} {C : Clu} (h : CluAt w cb F Z C) {a : Nat} (ha : a < 4) : w.cell? ⟨cb, 6 + a, none⟩ = some (Z.vc a) := by
  obtain ⟨A, hA, hB⟩ := h.box
  exact (heap_cell hA (6 + a)).trans (hB.crt a ha)
theorem CluAt.cnet {w : World} {cb : Nat} {F : List Nat} {Z : CluV} {C : Clu} (h : CluAt w cb F Z C) : w.cell? ⟨cb, 186, none⟩ = some Z.vn ∧ w.frozen? ⟨cb, 186, none⟩ = false := by
  obtain ⟨A, hA, hB⟩ := h.box
  exact ⟨(heap_cell hA 186).trans hB.net, heap_frozen hA _⟩
theorem CluAt.lt {w : World} {cb : Nat} {F : List Nat} {Z : CluV} {C : Clu} (h : CluAt w cb F Z C) : cb < w.heap.size := h.fin cb h.cbF
/-- a line that a call has made anew, spelled -/
theorem LneNew.spelled {B : Nat} {w : World} {F : List Nat} {v : Value} {l : Lne} (h : LneNew B w v l) (hF : ∀ k ∈ F, k < B) : ∃ nx st hi b0 b1 b2 b3 b4 b5 b6 b7 p c, l = ⟨nx, st, hi, [b0, b1, b2, b3, b4, b5, b6, b7]⟩ ∧ v = .agg #[.int .i64 nx, .slice p st.length c, .int .i64 hi, .bool b0, .bool b1, .bool b2, .bool b3, .bool b4, .bool b5, .bool b6, .bool b7] ∧ RoSnts w F (.slice p st.length c) st := by
  obtain ⟨vs, rfl, h8, hr⟩ := h.ro hF
  obtain ⟨nx, st, hi, sn⟩ := l
  obtain ⟨b0, b1, b2, b3, b4, b5, b6, b7, e⟩ := list8 h8
  replace e : sn = [b0, b1, b2, b3, b4, b5, b6, b7] := e
  subst e
  obtain ⟨p, c, rfl⟩ := hr.at.slice
  exact ⟨nx, st, hi, b0, b1, b2, b3, b4, b5, b6, b7, p, c, rfl, rfl, hr⟩
/-- what was made before the step, from B on, stays -/
theorem CStep.since {cb B : Nat} {w w' : World} {F G : List Nat} {Z Z' : CluV} {C : Clu} (h : CStep cb w F Z w' G Z') (hc : CluAt w cb F Z C) (hB : ∀ k ∈ F, k < B) : Since B w w' := fun k hk hs => (h.keptF hc).block k hs (fun e => by have := hB k e; omega)
end Go.Proofs.YtgpldlbmjakjhaaGreat

namespace Go.Proofs.YtgpldlbmjakjhaaGreat
open Go.RowKit Go.Proofs.Parclose

/-- a box that nobody but the call writes is kept by a cluster's step -/
theorem box_cstep {w w' : World} {cb B : Nat} {F G : List Nat} {Z Z' : CluV} {C : Clu} {A : Array Value} {t : TypeId} (h : CStep cb w F Z w' G Z') (hc : CluAt w cb F Z C) (hA : w.heap[B]? = some (.cells A t (0, 0))) (t1 : (131 : Nat) ≠ t) (t2 : (3 : Nat) ≠ t) (t3 : (76 : Nat) ≠ t) (t4 : (46 : Nat) ≠ t) (t5 : (93 : Nat) ≠ t) (t6 : (9 : Nat) ≠ t) : w'.heap[B]? = some (.cells A t (0, 0)) :=
  h.kept.heap hA (hc.notown hA t1 t2 t3 t4 t5 t6)
/-- the end of a call of a cluster whose reply lies in a box -/
theorem creply_end {cb B : Nat} {w w1 : World} {F G : List Nat} {Z Z1 : CluV} {C1 : Clu} {y0 y1 y2 : Value} (x0 x1 : Int) (x2 : List UInt8) (hb : w1.heap[B]? = some (.cells #[y0, y1, y2] 35 (0, 0))) (hF : B ∈ G) (hB : w.heap.size ≤ B) (h1 : CluAt w1 cb G Z1 C1) (hs : CStep cb w F Z w1 G Z1) :
    (st3 w1 B (.int .i64 x0) (.int .i64 x1) (.string ⟨x2.toArray⟩)).heap[B]? = some (.cells #[.int .i64 x0, .int .i64 x1, .string ⟨x2.toArray⟩] 35 (0, 0)) ∧ CluAt (st3 w1 B (.int .i64 x0) (.int .i64 x1) (.string ⟨x2.toArray⟩)) cb G Z1 C1 ∧ CStep cb w F Z (st3 w1 B (.int .i64 x0) (.int .i64 x1) (.string ⟨x2.toArray⟩)) G Z1 :=
  ⟨st3_heap _ _ _ hb, h1.boxed (st3_grown _ _ _ _ _) hF hb (by decide) (by decide) (by decide) (by decide) (by decide) (by decide), hs.boxed (st3_grown _ _ _ _ _) hB⟩
end Go.Proofs.YtgpldlbmjakjhaaGreat
