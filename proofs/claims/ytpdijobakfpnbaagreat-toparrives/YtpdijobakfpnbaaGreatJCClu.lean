/- How a cluster lies in memory, and what keeps it there. -/
import Derived.Test.YtpdijobakfpnbaaGreatJWMem
import Derived.Test.YtpdijobakfpnbaaGreatJKAns
import Derived.Test.YtpdijobakfpnbaaGreatJLMem
import Derived.Test.YtpdijobakfpnbaaGreatJLTake
import Derived.Test.YtpdijobakfpnbaaGreatJKRow
import Derived.Test.YtpdijobakfpnbaaGreatJPlain
import Derived.Test.YtpdijobakfpnbaaGreatJTConcat
import Derived.Deep.RegionHeld3
import Derived.Test.YtpdijobakfpnbaaGreatJKPut
import Derived.Test.YtpdijobakfpnbaaGreatJKTake
namespace Go.Proofs.YtpdijobakfpnbaaGreat
open Go.RowKit Go.Proofs.Parclose
def strs (l : List (List UInt8)) : List Value := l.map strV
theorem Qk5 (l : List (List UInt8)) : (strs l).length = l.length * 1 := by simp [strs]
theorem QdO (l : List (List UInt8)) : ∀ u ∈ strs l, u.oneCell' = true := by
 intro u hu
 obtain ⟨x, _, rfl⟩ := List.mem_map.1 hu
 rfl
structure CluV where
 kp : Nat → Nat
 V : Nat → List ThrV
 vc : Nat → Value
 vs : Nat → Nat → Value
 vn : Value
def lneC (l : Lne) (vs : Value) : List Value := [.int .i64 l.next, vs, .int .i64 l.high, .bool (l.seen.getD 0 false), .bool (l.seen.getD 1 false), .bool (l.seen.getD 2 false), .bool (l.seen.getD 3 false), .bool (l.seen.getD 4 false), .bool (l.seen.getD 5 false), .bool (l.seen.getD 6 false), .bool (l.seen.getD 7 false)]
structure CBox (A : Array Value) (Z : CluV) (C : Clu) : Prop where
 size : A.size = 187
 now : A[0]? = some (.int .i64 C.now)
 acts : A[1]? = some (.int .i64 C.acts)
 ker : ∀ h, h < 4 → A[2 + h]? = some (.pointer (some ⟨Z.kp h, 0, none⟩))
 crt : ∀ h, h < 4 → A[6 + h]? = some (Z.vc h)
 lin : ∀ a b, a < 4 → b < 4 → ∀ j, j < 11 → A[10 + a * 44 + b * 11 + j]? = (lneC (C.lines a b) (Z.vs a b))[j]?
 net : A[186]? = some Z.vn
def cownL (cb : Nat) (Z : CluV) : List Nat := cb :: ((List.range 4).flatMap fun h => Z.kp h :: rowsAll (Z.V h)) ++ Z.vn.ownBlock.toList
theorem mem_own {cb : Nat} {Z : CluV} {k : Nat} : k ∈ cownL cb Z ↔ k = cb ∨ (∃ h, h < 4 ∧ (k = Z.kp h ∨ k ∈ rowsAll (Z.V h))) ∨ Z.vn.ownBlock = some k := by
 unfold cownL
 simp only [List.cons_append, List.mem_cons, List.mem_append, List.mem_flatMap, List.mem_range, Option.mem_toList]
structure CluAt (w : World) (cb : Nat) (F : List Nat) (Z : CluV) (C : Clu) : Prop where
 box : ∃ A, w.heap[cb]? = some (.cells A 88 (0, 0)) ∧ CBox A Z C
 ker : ∀ h, h < 4 → KerAt w (Z.kp h) F (Z.V h) (C.ks h)
 crt : ∀ h, h < 4 → RoCrts w F (Z.vc h) (C.certs h)
 snt : ∀ a b, a < 4 → b < 4 → RoSnts w F (Z.vs a b) (C.lines a b).sent
 seen : ∀ a b, a < 4 → b < 4 → (C.lines a b).seen.length = 8
 net : w.ownsRow 0 9 1 Z.vn C.net.length (strs C.net)
 kps : ∀ g h, g < 4 → h < 4 → g ≠ h → Z.kp g ≠ Z.kp h
 rows : ∀ g h, g < 4 → h < 4 → g ≠ h → ∀ k ∈ rowsAll (Z.V g), k ∉ rowsAll (Z.V h)
 cbF : cb ∈ F
 netF : ∀ k, Z.vn.ownBlock = some k → k ∈ F
 fin : ∀ k ∈ F, k < w.heap.size
structure CStep (cb : Nat) (w : World) (F : List Nat) (Z : CluV) (w' : World) (G : List Nat) (Z' : CluV) : Prop where
 kept : KeptF (cownL cb Z) w w'
 own : ∀ k ∈ cownL cb Z', k ∈ cownL cb Z ∨ w.heap.size ≤ k
 more : More w F G
theorem CStep.refl (cb : Nat) (w : World) (F : List Nat) (Z : CluV) : CStep cb w F Z w F Z := ⟨KeptF.refl _ _, fun _ h => .inl h, More.refl _ _⟩
theorem CStep.trans {cb : Nat} {a b c : World} {F G H : List Nat} {Z Z1 Z2 : CluV} (h : CStep cb a F Z b G Z1) (k : CStep cb b G Z1 c H Z2) : CStep cb a F Z c H Z2 :=
 ⟨⟨k.kept.os.trans h.kept.os, k.kept.tape.trans h.kept.tape, k.kept.output.trans h.kept.output, Nat.le_trans h.kept.size k.kept.size, fun i hi hn => by
  rw [k.kept.block i (by have := h.kept.size; omega) (fun e => ?_), h.kept.block i hi hn]
  rcases h.own i e with g | g
  · exact hn g
  · omega⟩, fun i hi => by
  rcases k.own i hi with g | g
  · exact h.own i g
  · exact .inr (by have := h.kept.size; omega), h.more.trans k.more h.kept.size⟩
theorem CStep.below {cb : Nat} {w w' : World} {F : List Nat} {Z : CluV} (h : Below w.heap.size w w') : CStep cb w F Z w' F Z := ⟨Qx _ h, fun _ h => .inl h, More.refl _ _⟩
theorem CStep.reserve (cb : Nat) (w : World) (F : List Nat) (Z : CluV) (ob : Obj) : CStep cb w F Z (w.alloc ob) (F ++ [w.heap.size]) Z := ⟨Qx _ (Qd _ _), fun _ h => .inl h, Qbi w F⟩
theorem CStep.boxed {cb : Nat} {w0 w w' : World} {F G : List Nat} {Z Z' : CluV} {B : Nat} (h : CStep cb w0 F Z w G Z') (hg : w.grownBy w' (some B)) (hB : w0.heap.size ≤ B) : CStep cb w0 F Z w' G Z' :=
 ⟨⟨hg.os.trans h.kept.os, hg.tape.trans h.kept.tape, hg.output.trans h.kept.output, Nat.le_trans h.kept.size hg.size, fun k hk hn => by
  rw [hg.block k (by have := h.kept.size; omega) (fun e => by have := Option.some.inj e; omega), h.kept.block k hk hn]⟩, h.own, h.more⟩
theorem Qb3 {w : World} {a b : Nat} {C D : Array Value} {s t : TypeId} {f g : Nat × Nat} (h : w.heap[a]? = some (.cells C s f)) (k : w.heap[b]? = some (.cells D t g)) (hst : s ≠ t) : a ≠ b := fun e => by
 subst e
 rw [h] at k
 injection k with k
 injection k with _ e2 _
 exact hst e2
theorem KerAt.row_box {w : World} {kb b : Nat} {F : List Nat} {V : List ThrV} {K : Ker} {A : Array Value} {t : TypeId} (h : KerAt w kb F V K) (hb : w.heap[b]? = some (.cells A t (0, 0))) (t2 : (3 : Nat) ≠ t) (t3 : (56 : Nat) ≠ t) (t4 : (50 : Nat) ≠ t) : b ∉ rowsAll V := fun hm => by
 obtain ⟨t, ht, hk⟩ := Q8.1 hm
 obtain ⟨_, h2, ⟨_, _, h3, _⟩, ⟨_, _, h4, _⟩⟩ := h.thr t ht (by have := h.len; have := h.lenK; omega)
 rcases mem_rows.1 hk with e | e | e
 · exact Qy h2 hb t2 e
 · exact Qy h3 hb t3 e
 · exact Qy h4 hb t4 e
theorem KerAt.row_row {w : World} {kb k : Nat} {F : List Nat} {V : List ThrV} {K : Ker} {b : Nat} {e : TypeId} {s : Nat} {v : Value} {n : Nat} {xs : List Value} (h : KerAt w kb F V K) (hv : w.ownsRow b e s v n xs) (hk : v.ownBlock = some k) (t2 : (3 : Nat) ≠ e) (t3 : (56 : Nat) ≠ e) (t4 : (50 : Nat) ≠ e) : k ∉ rowsAll V := fun hm => by
 obtain ⟨t, ht, hkr⟩ := Q8.1 hm
 obtain ⟨_, h2, ⟨_, _, h3, _⟩, ⟨_, _, h4, _⟩⟩ := h.thr t ht (by have := h.len; have := h.lenK; omega)
 rcases mem_rows.1 hkr with g | g | g
 · exact Qac h2 hv t2 g hk
 · exact Qac h3 hv t3 g hk
 · exact Qac h4 hv t4 g hk
theorem CluAt.ownF {w : World} {cb : Nat} {F : List Nat} {Z : CluV} {C : Clu} (h : CluAt w cb F Z C) : ∀ k ∈ cownL cb Z, k ∈ F := fun k hk => by
 rcases mem_own.1 hk with rfl | ⟨g, hg, rfl | hr⟩ | hn
 · exact h.cbF
 · exact (h.ker g hg).kbF
 · obtain ⟨t, ht, hk⟩ := Q8.1 hr
   exact (h.ker g hg).rows t ht k hk
 · exact h.netF k hn
theorem CStep.keptF {cb : Nat} {w w' : World} {F G : List Nat} {Z Z' : CluV} {C : Clu} (h : CStep cb w F Z w' G Z') (hc : CluAt w cb F Z C) : KeptF F w w' := h.kept.sub fun k e => .inl (hc.ownF k e)
theorem CluAt.keep {w w' : World} {cb : Nat} {R F G : List Nat} {Z : CluV} {C : Clu} (h : CluAt w cb F Z C) (hk : KeptF R w w') (hR : ∀ k ∈ R, k ∈ F) (hm : More w F G) (ho : ∀ k ∈ cownL cb Z, k ∉ R) (hG : ∀ k ∈ G, k < w'.heap.size) : CluAt w' cb G Z C := by
 obtain ⟨A, hA, hB⟩ := h.box
 have hkF : KeptF F w w' := hk.sub fun k e => .inl (hR k e)
 exact ⟨⟨A, hk.heap hA (ho cb (mem_own.2 (.inl rfl))), hB⟩,
  fun g hg => (h.ker g hg).keep hk hR hm (ho _ (mem_own.2 (.inr (.inl ⟨g, hg, .inl rfl⟩)))) (fun t ht k hk => ho _ (mem_own.2 (.inr (.inl ⟨g, hg, .inr (Q8.2 ⟨t, ht, hk⟩)⟩)))) hG,
  fun g hg => (h.crt g hg).keep hkF hm, fun a b ha hb => (h.snt a b ha hb).keep hkF hm, h.seen, QP h.net hk (fun k hk => ho k (mem_own.2 (.inr (.inr hk)))), h.kps, h.rows, hm.1 _ h.cbF, fun k hk => hm.1 k (h.netF k hk), hG⟩
theorem CluAt.below {w w' : World} {cb : Nat} {F : List Nat} {Z : CluV} {C : Clu} (h : CluAt w cb F Z C) (hb : Below w.heap.size w w') : CluAt w' cb F Z C :=
 h.keep (R := []) (Qx _ hb) (fun _ h => by cases h) (More.refl _ _) (fun _ _ h => by cases h) (fun k hk => Nat.lt_of_lt_of_le (h.fin k hk) hb.size)
theorem CluAt.reserve {w : World} {cb : Nat} {F : List Nat} {Z : CluV} {C : Clu} (h : CluAt w cb F Z C) (ob : Obj) : CluAt (w.alloc ob) cb (F ++ [w.heap.size]) Z C :=
 h.keep (R := []) (Qx _ (Qd w ob)) (fun _ h => by cases h) (Qbi w F) (fun _ _ h => by cases h) (fun k hk => by
  rw [World.size_alloc]
  rcases List.mem_append.1 hk with g | g
  · have := h.fin k g; omega
  · simp at g; omega)
theorem CluAt.notown {w : World} {cb B : Nat} {F : List Nat} {Z : CluV} {C : Clu} {A : Array Value} {t : TypeId} (h : CluAt w cb F Z C) (hA : w.heap[B]? = some (.cells A t (0, 0))) (t1 : (123 : Nat) ≠ t) (t2 : (3 : Nat) ≠ t) (t3 : (56 : Nat) ≠ t) (t4 : (50 : Nat) ≠ t) (t5 : (88 : Nat) ≠ t) (t6 : (9 : Nat) ≠ t) : B ∉ cownL cb Z := fun hm => by
 obtain ⟨D, hD, _⟩ := h.box
 rcases mem_own.1 hm with rfl | ⟨g, hg, rfl | hr⟩ | hn
 · exact Qb3 hD hA t5 rfl
 · obtain ⟨E, hE, _⟩ := (h.ker g hg).box
   exact Qb3 hE hA t1 rfl
 · exact (h.ker g hg).row_box hA t2 t3 t4 hr
 · exact Qy h.net hA t6 hn
theorem CluAt.boxed {w w' : World} {cb B : Nat} {F : List Nat} {Z : CluV} {C : Clu} {A : Array Value} {t : TypeId} (h : CluAt w cb F Z C) (hg : w.grownBy w' (some B)) (hB : B ∈ F) (hA : w.heap[B]? = some (.cells A t (0, 0))) (t1 : (123 : Nat) ≠ t) (t2 : (3 : Nat) ≠ t) (t3 : (56 : Nat) ≠ t) (t4 : (50 : Nat) ≠ t) (t5 : (88 : Nat) ≠ t) (t6 : (9 : Nat) ≠ t) : CluAt w' cb F Z C :=
 h.keep (R := [B]) (QN hg fun k e => .inl (by cases e; simp)) (fun k hk => by simp at hk; rw [hk]; exact hB) (More.refl _ _) (fun k hk e => by
  simp at e
  subst e
  exact h.notown hA t1 t2 t3 t4 t5 t6 hk) (fun k hk => Nat.lt_of_lt_of_le (h.fin k hk) hg.size)
theorem CluAt.store {w w' : World} {cb : Nat} {F : List Nat} {Z Z' : CluV} {C C' : Clu} {A : Array Value} (h : CluAt w cb F Z C) (hg : w.grownBy w' (some cb)) (hA : w'.heap[cb]? = some (.cells A 88 (0, 0))) (hB : CBox A Z' C') (e1 : Z'.kp = Z.kp) (e2 : Z'.V = Z.V) (e3 : Z'.vn = Z.vn) (e4 : C'.ks = C.ks) (e5 : C'.net = C.net)
 (hc : ∀ g, g < 4 → RoCrts w F (Z'.vc g) (C'.certs g)) (hs : ∀ a b, a < 4 → b < 4 → RoSnts w F (Z'.vs a b) (C'.lines a b).sent ∧ (C'.lines a b).seen.length = 8) : CluAt w' cb F Z' C' ∧ CStep cb w F Z w' F Z' := by
 obtain ⟨D, hD, _⟩ := h.box
 have hk : KeptF [cb] w w' := QN hg fun k e => .inl (by cases e; simp)
 have hkF : KeptF F w w' := hk.sub fun k e => .inl (by simp at e; rw [e]; exact h.cbF)
 have hm := More.refl w F
 have hfin : ∀ k ∈ F, k < w'.heap.size := fun k hk => Nat.lt_of_lt_of_le (h.fin k hk) hg.size
 have hne : ∀ b, b ≠ cb → b ∉ [cb] := fun b hb e => hb (by simpa using e)
 refine ⟨⟨⟨A, hA, hB⟩, fun g hg4 => ?_, fun g hg4 => (hc g hg4).keep hkF hm, fun a b ha hb => (hs a b ha hb).1.keep hkF hm, fun a b ha hb => (hs a b ha hb).2, ?_, ?_, ?_, h.cbF, ?_, hfin⟩, ⟨hk.sub fun k e => .inl (by simp at e; rw [e]; exact mem_own.2 (.inl rfl)), fun k hk => .inl ?_, More.refl _ _⟩⟩
 · rw [e1, e2, e4]
   obtain ⟨E, hE, _⟩ := (h.ker g hg4).box
   refine (h.ker g hg4).keep hk (fun k e => by simp at e; rw [e]; exact h.cbF) hm (hne _ (Qb3 hE hD (by decide))) (fun t ht k hk2 => hne _ fun e => ?_) hfin
   subst e
   exact (h.ker g hg4).row_box hD (by decide) (by decide) (by decide) (Q8.2 ⟨t, ht, hk2⟩)
 · rw [e3, e5]
   exact QP h.net hk (fun k hk2 => hne _ fun e => by subst e; exact Qy h.net hD (by decide) hk2)
 · rw [e1]; exact h.kps
 · rw [e2]; exact h.rows
 · rw [e3]; exact h.netF
 · rw [mem_own, e1, e2, e3, ← mem_own] at hk; exact hk
theorem CluAt.kernel {w w' : World} {cb : Nat} {F G : List Nat} {Z : CluV} {C : Clu} {h : Nat} {V' : List ThrV} {K' : Ker} (hc : CluAt w cb F Z C) (h4 : h < 4) (hK : KerAt w' (Z.kp h) G V' K') (hs : KStep (Z.kp h) w F (Z.V h) w' G V') : CluAt w' cb G { Z with V := fun g => if g = h then V' else Z.V g } (setK C h K') ∧ CStep cb w F Z w' G { Z with V := fun g => if g = h then V' else Z.V g } := by
 obtain ⟨A, hA, hB⟩ := hc.box
 obtain ⟨E, hE, _⟩ := (hc.ker h h4).box
 have hkF := hs.keptF (hc.ker h h4)
 have hnR : ∀ b, b ≠ Z.kp h → b ∉ rowsAll (Z.V h) → b ∉ Z.kp h :: rowsAll (Z.V h) := fun b h1 h2 e => by
  rcases List.mem_cons.1 e with g | g
  · exact h1 g
  · exact h2 g
 have hcb : cb ∉ Z.kp h :: rowsAll (Z.V h) := hnR cb (Qb3 hA hE (by decide)) ((hc.ker h h4).row_box hA (by decide) (by decide) (by decide))
 refine ⟨⟨⟨A, hs.kept.heap hA hcb, ⟨hB.size, hB.now, hB.acts, hB.ker, hB.crt, hB.lin, hB.net⟩⟩, fun g hg => ?_, fun g hg => (hc.crt g hg).keep hkF hs.more, fun a b ha hb => (hc.snt a b ha hb).keep hkF hs.more, hc.seen, ?_, hc.kps, fun a b ha hb hab k hk => ?_, hs.more.1 _ hc.cbF, fun k hk => hs.more.1 k (hc.netF k hk), hK.fin⟩, ⟨hs.kept.sub fun k e => .inl (mem_own.2 (.inr (.inl ⟨h, h4, by simpa using e⟩))), fun k hk => ?_, hs.more⟩⟩
 · show KerAt w' (Z.kp g) G (if g = h then V' else Z.V g) (if g = (h : Int).toNat then K' else C.ks g)
   rw [show (h : Int).toNat = h by omega]
   by_cases e : g = h
   · rw [if_pos e, if_pos e, e]; exact hK
   · rw [if_neg e, if_neg e]
     obtain ⟨E2, hE2, _⟩ := (hc.ker g hg).box
     exact (hc.ker g hg).other (hc.ker h h4) hs hK (hc.kps g h hg h4 e) ((hc.ker h h4).row_box hE2 (by decide) (by decide) (by decide)) ((hc.ker g hg).row_box hE (by decide) (by decide) (by decide)) (hc.rows g h hg h4 e)
 · exact QP hc.net hs.kept (fun k hk => hnR k (fun e => Qy hc.net hE (by decide) (e ▸ hk)) ((hc.ker h h4).row_row hc.net hk (by decide) (by decide) (by decide)))
 · replace hk : k ∈ rowsAll (if a = h then V' else Z.V a) := hk
   show k ∉ rowsAll (if b = h then V' else Z.V b)
   have hold : ∀ g, g < 4 → ∀ k ∈ rowsAll (Z.V g), k < w.heap.size := fun g hg k hk => by
    obtain ⟨t, ht, hk⟩ := Q8.1 hk
    exact hc.fin k ((hc.ker g hg).rows t ht k hk)
   by_cases ea : a = h
   · rw [if_pos ea] at hk
     rw [if_neg (fun eb => hab (ea.trans eb.symm))]
     intro hkb
     rcases hs.rows k hk with g | g
     · exact hc.rows h b h4 hb (fun e => hab (ea.trans e)) k g hkb
     · have := hold b hb k hkb; omega
   · rw [if_neg ea] at hk
     by_cases eb : b = h
     · rw [if_pos eb]
       intro hkb
       rcases hs.rows k hkb with g | g
       · exact hc.rows a h ha h4 ea k hk g
       · have := hold a ha k hk; omega
     · rw [if_neg eb]; exact hc.rows a b ha hb hab k hk
 · rcases mem_own.1 hk with rfl | ⟨g, hg, rfl | hr⟩ | hn
   · exact .inl (mem_own.2 (.inl rfl))
   · exact .inl (mem_own.2 (.inr (.inl ⟨g, hg, .inl rfl⟩)))
   · replace hr : k ∈ rowsAll (if g = h then V' else Z.V g) := hr
     by_cases e : g = h
     · rw [if_pos e] at hr
       rcases hs.rows k hr with q | q
       · exact .inl (mem_own.2 (.inr (.inl ⟨h, h4, .inr q⟩)))
       · exact .inr q
     · rw [if_neg e] at hr
       exact .inl (mem_own.2 (.inr (.inl ⟨g, hg, .inr hr⟩)))
   · exact .inl (mem_own.2 (.inr (.inr hn)))
theorem QcA (A : Array Value) (j i : Nat) (u : Value) (hj : j < A.size) : (A.setIfInBounds j u)[i]? = if i = j then some u else A[i]? := by
 rw [Array.getElem?_setIfInBounds]
 by_cases e : j = i
 · subst e
   rw [if_pos rfl, if_pos hj, if_pos rfl]
 · rw [if_neg e, if_neg (fun h => e h.symm)]
theorem CluAt.setNow {w : World} {cb : Nat} {F : List Nat} {Z : CluV} {C : Clu} (h : CluAt w cb F Z C) (n : Int) : CluAt (w.setCell ⟨cb, 0, none⟩ (.int .i64 n)) cb F Z { C with now := n } ∧ CStep cb w F Z (w.setCell ⟨cb, 0, none⟩ (.int .i64 n)) F Z := by
 obtain ⟨A, hA, hB⟩ := h.box
 have hsz := hB.size
 have hg := fun i => QcA A 0 i (.int .i64 n) (by omega)
 refine h.store (Qg w cb 0 _) (heap_setCell hA _) ⟨by simpa using hB.size, by rw [hg, if_pos rfl], by rw [hg, if_neg (by omega)]; exact hB.acts, fun g h4 => by rw [hg, if_neg (by omega)]; exact hB.ker g h4, fun g h4 => by rw [hg, if_neg (by omega)]; exact hB.crt g h4, fun a b ha hb j hj => by rw [hg, if_neg (by omega)]; exact hB.lin a b ha hb j hj, by rw [hg, if_neg (by omega)]; exact hB.net⟩ rfl rfl rfl rfl rfl h.crt (fun a b ha hb => ⟨h.snt a b ha hb, h.seen a b ha hb⟩)
theorem CluAt.setActs {w : World} {cb : Nat} {F : List Nat} {Z : CluV} {C : Clu} (h : CluAt w cb F Z C) (n : Nat) : CluAt (w.setCell ⟨cb, 1, none⟩ (.int .i64 n)) cb F Z { C with acts := n } ∧ CStep cb w F Z (w.setCell ⟨cb, 1, none⟩ (.int .i64 n)) F Z := by
 obtain ⟨A, hA, hB⟩ := h.box
 have hsz := hB.size
 have hg := fun i => QcA A 1 i (.int .i64 n) (by omega)
 refine h.store (Qg w cb 1 _) (heap_setCell hA _) ⟨by simpa using hB.size, by rw [hg, if_neg (by omega)]; exact hB.now, by rw [hg, if_pos rfl], fun g h4 => by rw [hg, if_neg (by omega)]; exact hB.ker g h4, fun g h4 => by rw [hg, if_neg (by omega)]; exact hB.crt g h4, fun a b ha hb j hj => by rw [hg, if_neg (by omega)]; exact hB.lin a b ha hb j hj, by rw [hg, if_neg (by omega)]; exact hB.net⟩ rfl rfl rfl rfl rfl h.crt (fun a b ha hb => ⟨h.snt a b ha hb, h.seen a b ha hb⟩)
theorem CluAt.setCrt {w : World} {cb : Nat} {F : List Nat} {Z : CluV} {C : Clu} {x : Nat} {v : Value} {l : List Crt} (h : CluAt w cb F Z C) (h4 : x < 4) (hv : RoCrts w F v l) : CluAt (w.setCell ⟨cb, 6 + x, none⟩ v) cb F { Z with vc := fun g => if g = x then v else Z.vc g } (setC C x l) ∧ CStep cb w F Z (w.setCell ⟨cb, 6 + x, none⟩ v) F { Z with vc := fun g => if g = x then v else Z.vc g } := by
 obtain ⟨A, hA, hB⟩ := h.box
 have hsz := hB.size
 have hg := fun i => QcA A (6 + x) i v (by omega)
 have hx : (x : Int).toNat = x := by omega
 refine h.store (Qg w cb (6 + x) _) (heap_setCell hA _) ⟨by simpa using hB.size, by rw [hg, if_neg (by omega)]; exact hB.now, by rw [hg, if_neg (by omega)]; exact hB.acts, fun g h4 => by rw [hg, if_neg (by omega)]; exact hB.ker g h4, fun g h4 => ?_, fun a b ha hb j hj => by rw [hg, if_neg (by omega)]; exact hB.lin a b ha hb j hj, by rw [hg, if_neg (by omega)]; exact hB.net⟩ rfl rfl rfl rfl rfl (fun g h4 => ?_) (fun a b ha hb => ⟨h.snt a b ha hb, h.seen a b ha hb⟩)
 · rw [hg]
   show _ = some (if g = x then v else Z.vc g)
   by_cases e : g = x
   · rw [if_pos (by omega), if_pos e]
   · rw [if_neg (by omega), if_neg e]; exact hB.crt g h4
 · show RoCrts w F (if g = x then v else Z.vc g) (if g = (x : Int).toNat then l else C.certs g)
   rw [hx]
   by_cases e : g = x
   · rw [if_pos e, if_pos e]; exact hv
   · rw [if_neg e, if_neg e]; exact h.crt g h4
theorem CluAt.setLine {w : World} {cb : Nat} {F : List Nat} {Z : CluV} {C : Clu} {x y : Nat} {v : Value} {l : Lne} (h : CluAt w cb F Z C) (hx4 : x < 4) (hy4 : y < 4) (hv : RoSnts w F v l.sent) (h8 : l.seen.length = 8) : CluAt (w.setCells cb (10 + x * 44 + y * 11) (lneC l v)) cb F { Z with vs := fun a b => if a = x ∧ b = y then v else Z.vs a b } (setLi C x y l) ∧ CStep cb w F Z (w.setCells cb (10 + x * 44 + y * 11) (lneC l v)) F { Z with vs := fun a b => if a = x ∧ b = y then v else Z.vs a b } := by
 obtain ⟨A, hA, hB⟩ := h.box
 have hsz := hB.size
 obtain ⟨A', h1, h2, h3⟩ := QS (lneC l v) (10 + x * 44 + y * 11) w A hA
 have hl : (lneC l v).length = 11 := rfl
 rw [hl] at h3
 have hx : (x : Int).toNat = x := by omega
 have hy : (y : Int).toNat = y := by omega
 refine h.store (QW _ _ w) h1 ⟨by omega, by rw [h3, if_neg (by omega)]; exact hB.now, by rw [h3, if_neg (by omega)]; exact hB.acts, fun g h4 => by rw [h3, if_neg (by omega)]; exact hB.ker g h4, fun g h4 => by rw [h3, if_neg (by omega)]; exact hB.crt g h4, fun a b ha hb j hj => ?_, by rw [h3, if_neg (by omega)]; exact hB.net⟩ rfl rfl rfl rfl rfl h.crt (fun a b ha hb => ?_)
 · show _ = (lneC (if a = (x : Int).toNat ∧ b = (y : Int).toNat then l else C.lines a b) (if a = x ∧ b = y then v else Z.vs a b))[j]?
   rw [hx, hy, h3]
   by_cases e : a = x ∧ b = y
   · rw [if_pos (by omega), if_pos e, if_pos e, show 10 + a * 44 + b * 11 + j - (10 + x * 44 + y * 11) = j by omega]
   · rw [if_neg (by omega), if_neg e, if_neg e]; exact hB.lin a b ha hb j hj
 · show RoSnts w F (if a = x ∧ b = y then v else Z.vs a b) (if a = (x : Int).toNat ∧ b = (y : Int).toNat then l else C.lines a b).sent ∧ (if a = (x : Int).toNat ∧ b = (y : Int).toNat then l else C.lines a b).seen.length = 8
   rw [hx, hy]
   by_cases e : a = x ∧ b = y
   · rw [if_pos e, if_pos e]; exact ⟨hv, h8⟩
   · rw [if_neg e, if_neg e]; exact ⟨h.snt a b ha hb, h.seen a b ha hb⟩
theorem CluAt.setNet {w w1 : World} {cb : Nat} {F : List Nat} {Z : CluV} {C : Clu} {v : Value} {l : List (List UInt8)} (h : CluAt w cb F Z C) (hg : w.grownBy w1 Z.vn.ownBlock) (hv : w1.ownsRow 0 9 1 v l.length (strs l)) (hw : ∀ k, v.ownBlock = some k → Z.vn.ownBlock = some k ∨ w.heap.size ≤ k) :
 CluAt (w1.setCell ⟨cb, 186, none⟩ v) cb (F ++ v.ownBlock.toList) { Z with vn := v } { C with net := l } ∧ CStep cb w F Z (w1.setCell ⟨cb, 186, none⟩ v) (F ++ v.ownBlock.toList) { Z with vn := v } := by
 obtain ⟨A, hA, hB⟩ := h.box
 have hsz := hB.size
 have hcn : Z.vn.ownBlock ≠ some cb := Qy h.net hA (by decide)
 have hA1 : w1.heap[cb]? = some (.cells A 88 (0, 0)) := by rw [hg.block cb (Qw hA) (fun e => hcn e.symm), hA]
 have hcv : v.ownBlock ≠ some cb := Qy hv hA1 (by decide)
 have hgt := fun i => QcA A 186 i v (by omega)
 have hm : More w F (F ++ v.ownBlock.toList) := ⟨fun k hk => List.mem_append.2 (.inl hk), fun k hk => by
  rcases List.mem_append.1 hk with e | e
  · exact .inl e
  · rcases hw k (Option.mem_toList.1 e) with g | g
    · exact .inl (h.netF k g)
    · exact .inr g⟩
 have hk : KeptF (cb :: Z.vn.ownBlock.toList) w (w1.setCell ⟨cb, 186, none⟩ v) := by
  refine ⟨hg.os, hg.tape, hg.output, by simpa using hg.size, fun k hk hn => ?_⟩
  rw [Below.heap_setCell w1 _ _ k (fun e => hn (by rw [show k = cb from e]; simp)), hg.block k hk (fun e => hn (by simp [← e]))]
 have hR : ∀ k ∈ cb :: Z.vn.ownBlock.toList, k ∈ F := fun k hk => by
  rcases List.mem_cons.1 hk with rfl | e
  · exact h.cbF
  · exact h.netF k (Option.mem_toList.1 e)
 have hkF : KeptF F w (w1.setCell ⟨cb, 186, none⟩ v) := hk.sub fun k e => .inl (hR k e)
 have hlt : ∀ k, v.ownBlock = some k → k < w1.heap.size := fun k hk => by
  rcases hv.2 with ⟨rfl, _⟩ | ⟨g, cap, cur, rfl, _, hh, _⟩
  · cases hk
  · cases hk; exact Qw hh
 have hfin : ∀ k ∈ F ++ v.ownBlock.toList, k < (w1.setCell ⟨cb, 186, none⟩ v).heap.size := fun k hk => by
  rw [World.size_setCell]
  rcases List.mem_append.1 hk with e | e
  · exact Nat.lt_of_lt_of_le (h.fin k e) hg.size
  · exact hlt k (Option.mem_toList.1 e)
 have hnR : ∀ b, b ≠ cb → Z.vn.ownBlock ≠ some b → b ∉ cb :: Z.vn.ownBlock.toList := fun b h1 h2 e => by
  rcases List.mem_cons.1 e with g | g
  · exact h1 g
  · exact h2 (Option.mem_toList.1 g)
 refine ⟨⟨⟨_, heap_setCell hA1 _, ⟨by simpa using hB.size, by rw [hgt, if_neg (by omega)]; exact hB.now, by rw [hgt, if_neg (by omega)]; exact hB.acts, fun g h4 => by rw [hgt, if_neg (by omega)]; exact hB.ker g h4, fun g h4 => by rw [hgt, if_neg (by omega)]; exact hB.crt g h4, fun a b ha hb j hj => by rw [hgt, if_neg (by omega)]; exact hB.lin a b ha hb j hj, by rw [hgt, if_pos rfl]⟩⟩, fun g h4 => ?_, fun g h4 => (h.crt g h4).keep hkF hm, fun a b ha hb => (h.snt a b ha hb).keep hkF hm, h.seen, ?_, h.kps, h.rows, hm.1 _ h.cbF, fun k hk => List.mem_append.2 (.inr (Option.mem_toList.2 hk)), hfin⟩, ⟨hk.sub fun k e => .inl ?_, fun k hk => ?_, hm⟩⟩
 · obtain ⟨E, hE, _⟩ := (h.ker g h4).box
   refine (h.ker g h4).keep hk hR hm (hnR _ (Qb3 hE hA (by decide)) (Qy h.net hE (by decide))) (fun t ht k hk2 => hnR _ (fun e => ?_) (fun e => ?_)) hfin
   · subst e
     exact (h.ker g h4).row_box hA (by decide) (by decide) (by decide) (Q8.2 ⟨t, ht, hk2⟩)
   · exact (h.ker g h4).row_row h.net e (by decide) (by decide) (by decide) (Q8.2 ⟨t, ht, hk2⟩)
 · exact hv.kept (Qg w1 cb 186 v) (Or.inr fun e => hcv e)
 · rcases List.mem_cons.1 e with rfl | e
   · exact mem_own.2 (.inl rfl)
   · exact mem_own.2 (.inr (.inr (Option.mem_toList.1 e)))
 · rcases mem_own.1 hk with rfl | ⟨g, h4, hr⟩ | hn
   · exact .inl (mem_own.2 (.inl rfl))
   · exact .inl (mem_own.2 (.inr (.inl ⟨g, h4, hr⟩)))
   · rcases hw k hn with q | q
     · exact .inl (mem_own.2 (.inr (.inr q)))
     · exact .inr q
theorem Qdc {w : World} {k o : Nat} {u : Value} (h : (w.setRow k #[]).cell? ⟨k, o, none⟩ = some u) : False := by
 simp only [World.cell?, World.setRow, Array.getElem?_modify] at h
 rw [if_pos trivial] at h
 cases e : w.heap[k]? with
 | none => simp [e] at h
 | some ob => cases ob <;> simp [e] at h
theorem QdT {w : World} {B k : Nat} {r : Option Nat} (hk : k < B) : Off B r w (w.setRow k #[]) := fun j hB hj _ => (QfI w k #[]).block j hj (fun e => by have := Option.some.inj e; omega)
theorem QlB {w : World} {B : Nat} {r : Option Nat} {v : Value} {l : List (Int × Int)} (h : ∀ w', Off B r w w' → LabAt w' v l) (h0 : 0 < l.length) {k : Nat} (hk : v.ownBlock = some k) : B ≤ k := by
 refine Nat.le_of_not_lt fun hlt => ?_
 obtain ⟨p, cap, rfl, _, _, hc⟩ := h (w.setRow k #[]) (QdT hlt)
 obtain ⟨b, o, rfl, hcs⟩ := hc h0
 cases hk
 exact Qdc (hcs 0 h0).1
theorem QjX {w : World} {B : Nat} {r : Option Nat} {v : Value} {l : List Int} (h : ∀ w', Off B r w w' → IntsAt w' v l) (h0 : 0 < l.length) {k : Nat} (hk : v.ownBlock = some k) : B ≤ k := by
 refine Nat.le_of_not_lt fun hlt => ?_
 obtain ⟨p, cap, rfl, _, _, hc⟩ := h (w.setRow k #[]) (QdT hlt)
 obtain ⟨b, o, rfl, hcs⟩ := hc h0
 cases hk
 exact Qdc (hcs 0 h0)
theorem Qkp {w : World} {B : Nat} {r : Option Nat} {v : Value} {l : List Crt} (h : ∀ w', Off B r w w' → CrtsAt w' v l) (h0 : 0 < l.length) {k : Nat} (hk : v.ownBlock = some k) : B ≤ k := by
 refine Nat.le_of_not_lt fun hlt => ?_
 obtain ⟨p, cap, rfl, _, _, hc⟩ := h (w.setRow k #[]) (QdT hlt)
 obtain ⟨b, o, rfl, hcs⟩ := hc h0
 cases hk
 exact Qdc (hcs 0 h0).1
theorem QmC {w : World} {B : Nat} {F : List Nat} {v : Value} {q : List SntV} (h : OwnRow B w v q) (hl : q.length ≤ 879609302220) (hF : ∀ k ∈ F, k < B) : RoSnts w F v (q.map (·.s)) := by
 have hn : ∀ k, B ≤ k → k ∉ F := fun k hk e => by have := hF k e; omega
 obtain ⟨_, _, _, hr⟩ := h.snts hl
 refine ⟨q, rfl, fun x hx => ⟨⟨(h.ok x hx w (Off.refl _ _ _)).lab, fun h0 k hk => hn k (QlB (fun w' ho => (h.ok x hx w' ho).lab) h0 hk)⟩, ⟨(h.ok x hx w (Off.refl _ _ _)).nums, fun h0 k hk => hn k (QjX (fun w' ho => (h.ok x hx w' ho).nums) h0 hk)⟩, ⟨(h.ok x hx w (Off.refl _ _ _)).crts, fun h0 k hk => hn k (Qkp (fun w' ho => (h.ok x hx w' ho).crts) h0 hk)⟩⟩, ?_, fun _ k hk => hn k (Qs h.own hk)⟩
 have hx := h.own.1
 rcases h.own.2 with ⟨hn, h0⟩ | ⟨g, cap, cur, rfl, hbg, hgg, h1, h2, h3, h4⟩
 · rw [hn]
   exact ⟨none, 0, by rw [h0], ⟨by omega, fun _ => rfl⟩, hl, fun h => by omega⟩
 · refine ⟨some ⟨g, 0, none⟩, cap, rfl, ⟨h1, fun e => by cases e⟩, hl, fun _ => ⟨g, 0, rfl, fun j u hu => ?_⟩⟩
   have := World.ownsRow.cells h.own (g := g) rfl _ _ hu
   rwa [WideShapes.add_plain] at this
theorem LneNew.ro {B : Nat} {w : World} {F : List Nat} {v : Value} {l : Lne} (h : LneNew B w v l) (hF : ∀ k ∈ F, k < B) : ∃ vs, v = .agg (lneC l vs).toArray ∧ l.seen.length = 8 ∧ RoSnts w F vs l.sent := by
 obtain ⟨vs, q, rfl, h8, hm, hl, ho⟩ := h
 exact ⟨vs, rfl, h8, hm ▸ QmC ho hl hF⟩
theorem CluAt.line {w : World} {cb : Nat} {F : List Nat} {Z : CluV} {C : Clu} (h : CluAt w cb F Z C) {a b : Nat} (ha : a < 4) (hb : b < 4) : LneAt w (.agg (lneC (C.lines a b) (Z.vs a b)).toArray) (C.lines a b) := ⟨Z.vs a b, rfl, h.seen a b ha hb, (h.snt a b ha hb).at⟩
theorem Qc8 : (Tryz.prog.info? 9).map (fun i => (i.zero, i.size, i.bytes)) = some (some (.string ⟨#[]⟩), 1, 16) := by kernel_rfl
theorem Qk2 {w : World} {ty : TypeId} {v : Value} {l : List (List UInt8)} {x : List UInt8} {g c : Nat} (h : w.ownsRow 0 9 1 v l.length (strs l)) (hc : w.cell? ⟨g, 0, none⟩ = some (strV x)) (hn : l.length ≤ 1000) :
 ∃ v' w', (Builtin.append_ #[40, 40] ty #[v, .slice (some ⟨g, 0, none⟩) 1 c]).run Tryz.prog w = .ok v' w' ∧ w'.ownsRow 0 9 1 v' (l ++ [x]).length (strs (l ++ [x])) ∧ w.grownBy w' v.ownBlock ∧ ∀ k, v'.ownBlock = some k → v.ownBlock = some k ∨ w.heap.size ≤ k := by
 obtain ⟨i0, hi, hz0, hz1, hz2⟩ := info_parts Qc8
 obtain ⟨v', w', hr, k1, k2, k3⟩ := Qaq (ty := ty) (c := c) Tryz.underlying40 hi hz0 hz1 hz2 rfl (by decide) h (m := 1) (news := [strV x]) (a := ⟨g, 0, none⟩) rfl (fun j u hu => by
  rw [WideShapes.add_plain, Nat.zero_add]
  have hj : j = 0 := by have := (List.getElem?_eq_some_iff.1 hu).1; simpa using this
  subst hj
  rw [hc]; exact hu) (fun u hu => by rw [List.mem_singleton] at hu; rw [hu]; rfl) (by unfold maxLen; omega) (by omega)
 exact ⟨v', w', hr, by rw [List.length_append]; simpa [strs] using k1, k2, k3⟩
theorem Qgg {w : World} {ops : Array Oper} {rest : List Oper} {o : Oper} {a : Act} {Q : Exit → Act → World → Prop} (hgd : o.guard = none) (s x : Operand)
 (ho : o.op = .call { callee := .builtin .append, args := #[s, x], argTypes := #[40, 40] }) (v : Value) (l : List (List UInt8)) (y : List UInt8) (hs : a.eval s = v) (hown : w.ownsRow 0 9 1 v l.length (strs l))
 (g c : Nat) (hx : a.eval x = .slice (some ⟨g, 0, none⟩) 1 c) (hc : w.cell? ⟨g, 0, none⟩ = some (strV y)) (hn : l.length ≤ 1000)
 (h : ∀ v' w', w'.ownsRow 0 9 1 v' (l ++ [y]).length (strs (l ++ [y])) → w.grownBy w' v.ownBlock → (∀ k, v'.ownBlock = some k → v.ownBlock = some k ∨ w.heap.size ≤ k) → wpList Tryz.prog ops Q rest (a.put o.dst v') w') : wpList Tryz.prog ops Q (o :: rest) a w := by
 refine wpList_plain hgd fun K hK => ?_
 obtain ⟨v', w', hr, k1, k2, k3⟩ := Qk2 (ty := o.type) (c := c) hown hc hn
 unfold Oper.wp execOp
 simp only [ho, resolve, invoke, builtin, Sem.run_bind, Sem.run_pure, Result.andThen_ok, List.map_toArray, List.map_cons, List.map_nil, hs, hx, hr]
 exact hK _ _ (h v' w' k1 k2 k3)
theorem CluAt.lcells {w : World} {cb : Nat} {F : List Nat} {Z : CluV} {C : Clu} (h : CluAt w cb F Z C) {a b : Nat} (ha : a < 4) (hb : b < 4) {L : Lne} {vs : Value} (hL : C.lines a b = L) (hv : Z.vs a b = vs) {o : Nat} (ho : o = 10 + a * 44 + b * 11) :
 (w.cell? ⟨cb, o, none⟩ = some (.int .i64 L.next) ∧ w.cell? ⟨cb, o + 1, none⟩ = some vs ∧ w.cell? ⟨cb, o + 2, none⟩ = some (.int .i64 L.high) ∧ w.cell? ⟨cb, o + 3, none⟩ = some (.bool (L.seen.getD 0 false)) ∧ w.cell? ⟨cb, o + 4, none⟩ = some (.bool (L.seen.getD 1 false)) ∧ w.cell? ⟨cb, o + 5, none⟩ = some (.bool (L.seen.getD 2 false)) ∧ w.cell? ⟨cb, o + 6, none⟩ = some (.bool (L.seen.getD 3 false)) ∧ w.cell? ⟨cb, o + 7, none⟩ = some (.bool (L.seen.getD 4 false)) ∧ w.cell? ⟨cb, o + 8, none⟩ = some (.bool (L.seen.getD 5 false)) ∧ w.cell? ⟨cb, o + 9, none⟩ = some (.bool (L.seen.getD 6 false)) ∧ w.cell? ⟨cb, o + 10, none⟩ = some (.bool (L.seen.getD 7 false))) ∧ ∀ j, w.frozen? ⟨cb, j, none⟩ = false := by
 obtain ⟨A, hA, hB⟩ := h.box
 subst ho hL hv
 have g : ∀ j, j < 11 → w.cell? ⟨cb, 10 + a * 44 + b * 11 + j, none⟩ = (lneC (C.lines a b) (Z.vs a b))[j]? := fun j hj => (Qa hA _).trans (hB.lin a b ha hb j hj)
 exact ⟨⟨g 0 (by omega), g 1 (by omega), g 2 (by omega), g 3 (by omega), g 4 (by omega), g 5 (by omega), g 6 (by omega), g 7 (by omega), g 8 (by omega), g 9 (by omega), g 10 (by omega)⟩, fun j => Qb hA j⟩
theorem CluAt.cnow {w : World} {cb : Nat} {F : List Nat} {Z : CluV} {C : Clu} (h : CluAt w cb F Z C) : w.cell? ⟨cb, 0, none⟩ = some (.int .i64 C.now) := by
 obtain ⟨A, hA, hB⟩ := h.box
 exact (Qa hA 0).trans hB.now
theorem CluAt.cker {w : World} {cb : Nat} {F : List Nat} {Z : CluV} {C : Clu} (h : CluAt w cb F Z C) {a : Nat} (ha : a < 4) : w.cell? ⟨cb, 2 + a, none⟩ = some (.pointer (some ⟨Z.kp a, 0, none⟩)) := by
 obtain ⟨A, hA, hB⟩ := h.box
 exact (Qa hA (2 + a)).trans (hB.ker a ha)
theorem CluAt.ccrt {w : World} {cb : Nat} {F : List Nat} {Z : CluV} {C : Clu} (h : CluAt w cb F Z C) {a : Nat} (ha : a < 4) : w.cell? ⟨cb, 6 + a, none⟩ = some (Z.vc a) := by
 obtain ⟨A, hA, hB⟩ := h.box
 exact (Qa hA (6 + a)).trans (hB.crt a ha)
theorem CluAt.cnet {w : World} {cb : Nat} {F : List Nat} {Z : CluV} {C : Clu} (h : CluAt w cb F Z C) : w.cell? ⟨cb, 186, none⟩ = some Z.vn ∧ w.frozen? ⟨cb, 186, none⟩ = false := by
 obtain ⟨A, hA, hB⟩ := h.box
 exact ⟨(Qa hA 186).trans hB.net, Qb hA _⟩
theorem CluAt.lt {w : World} {cb : Nat} {F : List Nat} {Z : CluV} {C : Clu} (h : CluAt w cb F Z C) : cb < w.heap.size := h.fin cb h.cbF
theorem LneNew.spelled {B : Nat} {w : World} {F : List Nat} {v : Value} {l : Lne} (h : LneNew B w v l) (hF : ∀ k ∈ F, k < B) : ∃ nx st hi b0 b1 b2 b3 b4 b5 b6 b7 p c, l = ⟨nx, st, hi, [b0, b1, b2, b3, b4, b5, b6, b7]⟩ ∧ v = .agg #[.int .i64 nx, .slice p st.length c, .int .i64 hi, .bool b0, .bool b1, .bool b2, .bool b3, .bool b4, .bool b5, .bool b6, .bool b7] ∧ RoSnts w F (.slice p st.length c) st := by
 obtain ⟨vs, rfl, h8, hr⟩ := h.ro hF
 obtain ⟨nx, st, hi, sn⟩ := l
 obtain ⟨b0, b1, b2, b3, b4, b5, b6, b7, e⟩ := list8 h8
 replace e : sn = [b0, b1, b2, b3, b4, b5, b6, b7] := e
 subst e
 obtain ⟨p, c, rfl⟩ := hr.at.slice
 exact ⟨nx, st, hi, b0, b1, b2, b3, b4, b5, b6, b7, p, c, rfl, rfl, hr⟩
theorem CStep.since {cb B : Nat} {w w' : World} {F G : List Nat} {Z Z' : CluV} {C : Clu} (h : CStep cb w F Z w' G Z') (hc : CluAt w cb F Z C) (hB : ∀ k ∈ F, k < B) : Since B w w' := fun k hk hs => (h.keptF hc).block k hs (fun e => by have := hB k e; omega)
theorem QI {w w' : World} {cb B : Nat} {F G : List Nat} {Z Z' : CluV} {C : Clu} {A : Array Value} {t : TypeId} (h : CStep cb w F Z w' G Z') (hc : CluAt w cb F Z C) (hA : w.heap[B]? = some (.cells A t (0, 0))) (t1 : (123 : Nat) ≠ t) (t2 : (3 : Nat) ≠ t) (t3 : (56 : Nat) ≠ t) (t4 : (50 : Nat) ≠ t) (t5 : (88 : Nat) ≠ t) (t6 : (9 : Nat) ≠ t) : w'.heap[B]? = some (.cells A t (0, 0)) :=
 h.kept.heap hA (hc.notown hA t1 t2 t3 t4 t5 t6)
theorem QF {cb B : Nat} {w w1 : World} {F G : List Nat} {Z Z1 : CluV} {C1 : Clu} {y0 y1 y2 : Value} (x0 x1 : Int) (x2 : List UInt8) (hb : w1.heap[B]? = some (.cells #[y0, y1, y2] 31 (0, 0))) (hF : B ∈ G) (hB : w.heap.size ≤ B) (h1 : CluAt w1 cb G Z1 C1) (hs : CStep cb w F Z w1 G Z1) :
 (st3 w1 B (.int .i64 x0) (.int .i64 x1) (.string ⟨x2.toArray⟩)).heap[B]? = some (.cells #[.int .i64 x0, .int .i64 x1, .string ⟨x2.toArray⟩] 31 (0, 0)) ∧ CluAt (st3 w1 B (.int .i64 x0) (.int .i64 x1) (.string ⟨x2.toArray⟩)) cb G Z1 C1 ∧ CStep cb w F Z (st3 w1 B (.int .i64 x0) (.int .i64 x1) (.string ⟨x2.toArray⟩)) G Z1 :=
 ⟨QO _ _ _ hb, h1.boxed (QD _ _ _ _ _) hF hb (by decide) (by decide) (by decide) (by decide) (by decide) (by decide), hs.boxed (QD _ _ _ _ _) hB⟩
theorem box4c {w w1 : World} {a b c d : Value} {t : TypeId} (h : Below (w.alloc (.cells #[a, b, c, d] t)).heap.size (w.alloc (.cells #[a, b, c, d] t)) w1) : w1.cell? ⟨w.heap.size, 0, none⟩ = some a ∧ w1.cell? ⟨w.heap.size, 1, none⟩ = some b ∧ w1.cell? ⟨w.heap.size, 2, none⟩ = some c ∧ w1.cell? ⟨w.heap.size, 3, none⟩ = some d :=
 ⟨Qi h (by simp) 0, Qi h (by simp) 1, Qi h (by simp) 2, Qi h (by simp) 3⟩
set_option maxRecDepth 100000 in
set_option maxHeartbeats 1600000 in
theorem Qge (cb h : Nat) (F : List Nat) (Z : CluV) (C : Clu) (x : Crt) (w : World) (hc : CluAt w cb F Z C) (h4 : h < 4) :
 Calls Tryz.prog 89 #[.pointer (some ⟨cb, 0, none⟩), .int .i64 h, crtV x] w fun e w' => e = .returned (.int .i64 (addC C h x).2) ∧ ∃ G Z', CluAt w' cb G Z' (addC C h x).1 ∧ CStep cb w F Z w' G Z' := by
 have hadd := fun wx (hb : Below w.heap.size w wx) => Qmz (Z.vc h) (C.certs h) x wx ((hc.crt h h4).1.below hb)
 obtain ⟨p, cap, hvc, _⟩ := id (hc.crt h h4).1
 obtain ⟨A, hA, hB⟩ := hc.box
 have c6 := (Qa hA (6 + h)).trans (hB.crt h h4)
 have hlt := Qw hA
 clear hA hB A
 rw [hvc] at hadd c6
 clear hvc
 have hC : addC C h x = if (addL (C.certs h) x).2 = 0 then (setC C h (addL (C.certs h) x).1, 0) else (C, (addL (C.certs h) x).2) := rfl
 have HC := hid hc
 clear hc
 generalize C.certs h = l at *
 generalize addL l x = r at *
 obtain ⟨l', e'⟩ := r
 simp only at hC hadd
 unfold crtV at hadd ⊢
 have i0 : ¬ ((h : Int) < 0) := by omega
 have i1 : ¬ ((4 : Int) ≤ h) := by omega
 have i2 : (h : Int) < 4 := by omega
 have i3 : (0 : Int) ≤ h := by omega
 go_enter Tryz.func89, Tryz.ntmps89
 go_wp2
 have HW0 := hid (Below.refl (w.alloc (.cells #[.int .i64 x.c, .int .i64 x.b, .int .i64 x.h, .int .i64 x.u] 60)).heap.size (w.alloc (.cells #[.int .i64 x.c, .int .i64 x.b, .int .i64 x.h, .int .i64 x.u] 60)))
 have HB0 := hid (Qd w (.cells #[.int .i64 x.c, .int .i64 x.b, .int .i64 x.h, .int .i64 x.u] 60))
 have HC6 := hid c6
 go_region_held3 (fun w' => (w'.cell? ⟨w.heap.size, 0, none⟩ = some (.int .i64 x.c) ∧ w'.cell? ⟨w.heap.size, 1, none⟩ = some (.int .i64 x.b) ∧ w'.cell? ⟨w.heap.size, 2, none⟩ = some (.int .i64 x.h) ∧ w'.cell? ⟨w.heap.size, 3, none⟩ = some (.int .i64 x.u)) ∧ w'.cell? ⟨cb, 6 + h, none⟩ = some (.slice p l.length cap)) (go_keep)
  (first
   | (go_at_call 131; refine (hadd _ HB0.out.drew).mono ?_; rintro e w2 ⟨v2, rfl, hv2, hwd⟩; have hw := kundrew hwd; have HB2 := hid (Qc HB0.out hw); have HW2 := hid (Qc HW0.out hw); obtain ⟨z0, z1, z2, z3⟩ := box4c HW2.out; have u6 := HB2.out.cell (Qf HC6.out); rw [HC6.out] at u6; clear hw hwd)
   | fail)
 all_goals
  obtain ⟨p2, c2, e2, _⟩ := id hv2.1
  subst e2
  have HC2 := hid (HC.out.below HB2.out)
  have HRO : Hid (RoCrts w2 F (.slice p2 l'.length c2) l') := hid ⟨hv2.1, fun _ k hk hF => by
   have h1 := hv2.2 k hk
   have h2 := HC.out.fin k hF
   simp at h1
   omega⟩
  clear hv2
  by_cases h0 : e' = 0
  · have he : (e' == 0) = true := by simpa using h0
    have HP : Hid (addC C h x = (setC C h l', 0)) := hid (by rw [hC, if_pos h0])
    have H0 := hid h0
    clear hC h0
    have q6 : w2.frozen? ⟨cb, 6 + h, none⟩ = false := by obtain ⟨A, hA, _⟩ := HC2.out.box; exact Qb hA _
    go_wp2
    have hS := HC2.out.setCrt h4 HRO.out
    go_ret
    rw [HP.out]
    exact ⟨by rw [H0.out]; rfl, _, _, hS.1, (CStep.below HB2.out).trans hS.2⟩
  · have he : (e' == 0) = false := by simpa using h0
    have HP : Hid (addC C h x = (C, e')) := hid (by rw [hC, if_neg h0])
    clear hC h0
    go_wp2
    go_ret
    rw [HP.out]
    exact ⟨rfl, _, _, HC2.out, CStep.below HB2.out⟩
theorem Qey (w : World) (ty : TypeId) (g o c : Nat) (hc : (w.cell? ⟨g, o, none⟩).isSome = true) (hf : w.frozen? ⟨g, o, none⟩ = false) :
 (Builtin.clear_ #[40] ty #[.slice (some ⟨g, o, none⟩) 1 c]).run Tryz.prog w = .ok (.tuple #[]) (w.setCells g o [.string ⟨#[]⟩]) := by
 have hst := run_storeCells_cells (P := Tryz.prog) g o [.string ⟨#[]⟩] 0 w (fun j hj => by
  have h0 : j = 0 := by simpa using hj
  subst h0
  simpa using hc) (fun j hj => by
  have h0 : j = 0 := by simpa using hj
  subst h0
  simpa using hf) (by intro v hv; simp at hv; rw [hv]; rfl)
 simp only [Nat.add_zero] at hst
 have hz : (Builtin.zeroCells (Value.string ⟨#[]⟩).cells 1).toList = [.string ⟨#[]⟩] := by kernel_rfl
 simp [Builtin.clear_, run_underlying Tryz.underlying40, hz, hst]
theorem Qkj {w : World} {g n cap i : Nat} {xs : List Value} (h : w.ownsRow 0 9 1 (.slice (some ⟨g, 0, none⟩) (n + 1) cap) (n + 1) xs) (hi : i ≤ n) :
 ((w.setCells g i (xs.drop (i + 1))).setCells g n [.string ⟨#[]⟩]).ownsRow 0 9 1 (.slice (some ⟨g, 0, none⟩) n cap) n (xs.take i ++ xs.drop (i + 1)) ∧ w.grownBy ((w.setCells g i (xs.drop (i + 1))).setCells g n [.string ⟨#[]⟩]) (some g) := by
 have hx := h.1
 obtain ⟨cur, hg, h1, h2, h3, h4⟩ := QaI h
 obtain ⟨c1, k1, k2, k3⟩ := QS (xs.drop (i + 1)) i w cur hg
 obtain ⟨c2, l1, l2, l3⟩ := QS [.string ⟨#[]⟩] n _ c1 k1
 refine ⟨Qaf l1 (by omega) h2 (by omega) (by rw [List.length_append, List.length_take, List.length_drop, hx]; omega) fun j hj => ?_, ?_⟩
 · rw [l3 j, if_neg (by simp; omega), k3 j]
   have hlx : xs.length = n + 1 := by omega
   by_cases e : i ≤ j
   · rw [if_pos (by rw [List.length_drop]; omega), List.getElem?_append_right (by rw [List.length_take]; omega), List.length_take, show min i xs.length = i by omega]
   · rw [if_neg (by omega), List.getElem?_append_left (by rw [List.length_take]; omega), List.getElem?_take, if_pos (by omega), h4 j (by omega)]
 · have a1 := QW (b := g) (xs.drop (i + 1)) i w
   have a2 := QW (b := g) [.string ⟨#[]⟩] n (w.setCells g i (xs.drop (i + 1)))
   exact Qh a1 a2
set_option maxRecDepth 100000 in
set_option maxHeartbeats 1600000 in
theorem Qdv (g n cap i : Nat) (xs : List Value) (w : World) (h : w.ownsRow 0 9 1 (.slice (some ⟨g, 0, none⟩) (n + 1) cap) (n + 1) xs) (hn : n ≤ 1000) (hin : i ≤ n) (h1 : ∀ u ∈ xs, u.oneCell' = true) :
 Calls Tryz.prog 56 #[.slice (some ⟨g, 0, none⟩) (n + 1) cap, .int .i64 i, .int .i64 ((i : Int) + 1)] w fun e w' => e = .returned (.slice (some ⟨g, 0, none⟩) n cap) ∧ w'.ownsRow 0 9 1 (.slice (some ⟨g, 0, none⟩) n cap) n (xs.take i ++ xs.drop (i + 1)) ∧ w.grownBy w' (some g) := by
 obtain ⟨i0, hi, hz0, hz1, hz2⟩ := info_parts Qc8
 have hx := h.1
 have HD := hid (Qkj (w := w.drew) h hin)
 obtain ⟨cur, hg, hc1, hc2, hc3, hc4⟩ := QaI h
 have hcell : ∀ j, w.cell? ⟨g, j, none⟩ = cur[j]? := fun j => Qa hg j
 have hfz : ∀ j, w.frozen? ⟨g, j, none⟩ = false := fun j => Qb hg j
 have HN : Hid (∀ j u, (xs.drop (i + 1))[j]? = some u → w.cell? ((⟨g, i + 1, none⟩ : Addr).add j) = some u) := hid (fun j u hu => by
  rw [WideShapes.add_plain, hcell]
  rw [List.getElem?_drop] at hu
  have hj := (List.getElem?_eq_some_iff.1 hu).1
  rw [hc4 (i + 1 + j) (by omega), hu])
 have HSP : Hid (∀ j, j < (xs.drop (i + 1)).length → (w.cell? ⟨g, 0 + i * 1 + j, none⟩).isSome = true ∧ w.frozen? ⟨g, 0 + i * 1 + j, none⟩ = false) := hid (fun j hj => by
  rw [List.length_drop] at hj
  exact ⟨by rw [show 0 + i * 1 + j = i + j by omega, hcell, Array.getElem?_eq_getElem (by omega)]; rfl, hfz _⟩)
 have HCL : Hid (∀ ty c, (Builtin.clear_ #[40] ty #[.slice (some ⟨g, n, none⟩) 1 c]).run Tryz.prog (w.drew.setCells g i (xs.drop (i + 1))) = .ok (.tuple #[]) ((w.drew.setCells g i (xs.drop (i + 1))).setCells g n [.string ⟨#[]⟩])) := hid (fun ty c => by
  obtain ⟨c1, k1, k2, k3⟩ := QS (xs.drop (i + 1)) i w.drew cur hg
  refine Qey _ ty g n c ?_ (Qb k1 _)
  rw [Qa k1, Array.getElem?_eq_getElem (by omega)]
  rfl)
 have hone : ∀ u ∈ xs.drop (i + 1), u.oneCell' = true := fun u hu => h1 u (List.mem_of_mem_drop hu)
 have hdl : (xs.drop (i + 1)).length = (n - i) * 1 := by rw [List.length_drop, hx]; omega
 clear h h1 hcell hfz hc4 hg hc3
 generalize xs.take i ++ xs.drop (i + 1) = zs at *
 generalize xs.drop (i + 1) = ys at *
 have hb : (i : Int) + 1 ≤ (n : Int) + 1 := by omega
 have hlt : n < cap := by omega
 have hni : i + (n - i) = n := by omega
 have j0 : (0 : Int) ≤ i := by omega
 have j1 : (i : Int) ≤ (i : Int) + 1 := by omega
 have j2 : (i : Int) ≤ cap := by omega
 have j3 : (i : Int) + 1 ≤ cap := by omega
 have j4 : (0 : Int) ≤ (i : Int) + 1 := by omega
 by_cases hcp : i + 1 = cap
 · have hn0 : n = i := by omega
   subst hn0
   subst hcp
   have hy0 : ys = [] := List.length_eq_zero_iff.1 (by omega)
   subst hy0
   go_enter Tryz.func56, Tryz.ntmps56
   go_wp2
   go_region_law ((refine step_append_room (by rfl) (.tmp 22) (.tmp 25) 40 (by rfl) 9 i0 1 Tryz.underlying40 hi hz1 g 0 n (n + 1) (by rfl) ⟨g, 0, none⟩ 0 0 [] (by rfl) rfl (fun j u hu => by simp at hu) (fun u hu => by simp at hu) (by omega) (fun j hj => by simp at hj) ?_))
   all_goals
    have hcl := HCL.out
    show Exit.then _ _ Exit.normal (Act.put _ (some 0) _) _
    go_frame
    go_wp2
    go_ret
    exact ⟨rfl, (by simpa using HD.out.1), QaF (by simpa using HD.out.2)⟩
 · have hcp2 : ¬ cap = i + 1 := fun e => hcp e.symm
   clear hcp
   go_enter Tryz.func56, Tryz.ntmps56
   go_wp2
   go_region_law ((refine step_append_room (by rfl) (.tmp 22) (.tmp 25) 40 (by rfl) 9 i0 1 Tryz.underlying40 hi hz1 g 0 i cap (by rfl) ⟨g, i + 1, none⟩ (n - i) (cap - (i + 1)) ys (by rfl) hdl HN.out hone (by omega) HSP.out ?_))
   all_goals
    have hcl := HCL.out
    show Exit.then _ _ Exit.normal (Act.put _ (some 0) _) _
    go_frame
    go_wp2
    go_ret
    exact ⟨rfl, HD.out.1, QaF HD.out.2⟩
theorem KerAt.anyF {w : World} {kb : Nat} {F G : List Nat} {h : Int} (k : KerAt w kb F [nilV, nilV, nilV, nilV] (freshKer h)) (h1 : kb ∈ G) (h2 : ∀ k ∈ G, k < w.heap.size) : KerAt w kb G [nilV, nilV, nilV, nilV] (freshKer h) := by
 have hn : ∀ t (h1 : t < [nilV, nilV, nilV, nilV].length), [nilV, nilV, nilV, nilV][t] = nilV := fun t ht => by
  match t, ht with
  | 0, _ => rfl
  | 1, _ => rfl
  | 2, _ => rfl
  | 3, _ => rfl
 have hz : ∀ t (h1 : t < (freshKer h).ths.length), (freshKer h).ths[t] = zeroThr := fun t ht => by
  match t, ht with
  | 0, _ => rfl
  | 1, _ => rfl
  | 2, _ => rfl
  | 3, _ => rfl
 exact ⟨k.len, k.lenK, k.box, fun t g1 g2 => by rw [hn t g1, hz t g2]; exact QcB w G, fun t g1 x hx => (by rw [hn t g1] at hx; cases hx), k.apart, h1, h2⟩
theorem QjD {A : Array Value} {k : Nat} (hsz : A.size = 187) (hk : k < 4) : A[2 + k]? = some (A[2 + k]'(by omega)) := Array.getElem?_eq_getElem _
theorem QjC {w wr w5 : World} {cb k : Nat} {A : Array Value} {kp : Nat → Nat} (hk4 : k < 4) (hA : wr.heap[cb]? = some (.cells A 88 (0, 0))) (hsz : A.size = 187) (hAj : ∀ j, A[j]? = if 2 ≤ j ∧ j < 2 + k then some (.pointer (some ⟨kp (j - 2), 0, none⟩)) else (Tryz.zeroCells88)[j]?) (hks : ∀ h, h < k → KerAt wr (kp h) [kp h] [nilV, nilV, nilV, nilV] (freshKer h)) (hkp : ∀ g h, g < k → h < k → g ≠ h → kp g ≠ kp h) (hge : ∀ h, h < k → w.heap.size ≤ kp h) (hbw : Below cb w wr) (hcb : cb = w.heap.size)
 (hK : KerAt w5 wr.heap.size [wr.heap.size] [nilV, nilV, nilV, nilV] (freshKer k)) (hw : Below wr.heap.size wr w5) :
 ∃ (A' : Array Value) (kp' : Nat → Nat), (w5.setCell ⟨cb, 2 + k, none⟩ (.pointer (some ⟨wr.heap.size, 0, none⟩))).heap[cb]? = some (.cells A' 88 (0, 0)) ∧ A'.size = 187 ∧ (∀ j, A'[j]? = if 2 ≤ j ∧ j < 2 + (k + 1) then some (.pointer (some ⟨kp' (j - 2), 0, none⟩)) else (Tryz.zeroCells88)[j]?) ∧ (∀ h, h < k + 1 → KerAt (w5.setCell ⟨cb, 2 + k, none⟩ (.pointer (some ⟨wr.heap.size, 0, none⟩))) (kp' h) [kp' h] [nilV, nilV, nilV, nilV] (freshKer h)) ∧ (∀ g h, g < k + 1 → h < k + 1 → g ≠ h → kp' g ≠ kp' h) ∧ (∀ h, h < k + 1 → w.heap.size ≤ kp' h) ∧ Below cb w (w5.setCell ⟨cb, 2 + k, none⟩ (.pointer (some ⟨wr.heap.size, 0, none⟩))) := by
 have hA5 := Qe hA hw
 have hlc := Qw hA
 have hst : ∀ (b : Nat) (x : Int), KerAt w5 b [b] [nilV, nilV, nilV, nilV] (freshKer x) → KerAt (w5.setCell ⟨cb, 2 + k, none⟩ (.pointer (some ⟨wr.heap.size, 0, none⟩))) b [b] [nilV, nilV, nilV, nilV] (freshKer x) := fun b x hb => by
  have hfin : ∀ y ∈ [b, cb], y < w5.heap.size := fun y hy => by
   rcases List.mem_cons.1 hy with e | e
   · rw [e]; exact hb.fin b (by simp)
   · rw [List.mem_singleton.1 e]; exact Qw hA5
  have h2 := (hb.anyF (G := [b, cb]) (by simp) hfin).boxed (Qg w5 cb (2 + k) (.pointer (some ⟨wr.heap.size, 0, none⟩))) (by simp) hA5 (by decide) (by decide) (by decide) (by decide)
  exact h2.anyF (by simp) (fun y hy => by rw [List.mem_singleton.1 hy, World.size_setCell]; exact hb.fin b (by simp))
 refine ⟨_, fun h => if h = k then wr.heap.size else kp h, heap_setCell hA5 _, by simpa using hsz, fun j => ?_, fun h hh => ?_, fun g h hg hh hne => ?_, fun h hh => ?_, ?_⟩
 · rw [QcA A (2 + k) j _ (by omega)]
   by_cases e : j = 2 + k
   · rw [if_pos e, if_pos (by omega)]
     simp only
     rw [if_pos (by omega)]
   · rw [if_neg e, hAj j]
     by_cases e2 : 2 ≤ j ∧ j < 2 + k
     · rw [if_pos e2, if_pos (by omega)]
       simp only
       rw [if_neg (by omega)]
     · rw [if_neg e2, if_neg (by omega)]
 · simp only
   by_cases e : h = k
   · rw [if_pos e, e]; exact hst _ _ hK
   · rw [if_neg e]; exact hst _ _ ((hks h (by omega)).below hw)
 · simp only
   have hold : ∀ x, x < k → kp x < wr.heap.size := fun x hx => (hks x hx).fin _ (by simp)
   by_cases e1 : g = k
   · rw [if_pos e1, if_neg (by omega)]
     have := hold h (by omega)
     omega
   · rw [if_neg e1]
     by_cases e2 : h = k
     · rw [if_pos e2]
       have := hold g (by omega)
       omega
     · rw [if_neg e2]; exact hkp g h (by omega) (by omega) hne
 · simp only
   by_cases e : h = k
   · rw [if_pos e]; exact hbw.size
   · rw [if_neg e]; exact hge h (by omega)
 · subst hcb
   exact (Qc hbw hw).setCell (p := ⟨w.heap.size, 2 + k, none⟩) (Nat.le_refl _) _
def zeroZ (kp : Nat → Nat) : CluV := ⟨kp, fun _ => [nilV, nilV, nilV, nilV], fun _ => .slice none 0 0, fun _ _ => .slice none 0 0, .slice none 0 0⟩
set_option maxRecDepth 100000 in
theorem QkX : ∀ a, a < 4 → ∀ b, b < 4 → ∀ j, j < 11 → (Tryz.zeroCells88)[10 + a * 44 + b * 11 + j]? = (lneC zeroLne (.slice none 0 0))[j]? := by
 intro a ha b hb j hj
 have h1 : a = 0 ∨ a = 1 ∨ a = 2 ∨ a = 3 := by omega
 have h2 : b = 0 ∨ b = 1 ∨ b = 2 ∨ b = 3 := by omega
 have h3 : j = 0 ∨ j = 1 ∨ j = 2 ∨ j = 3 ∨ j = 4 ∨ j = 5 ∨ j = 6 ∨ j = 7 ∨ j = 8 ∨ j = 9 ∨ j = 10 := by omega
 rcases h1 with rfl | rfl | rfl | rfl <;> rcases h2 with rfl | rfl | rfl | rfl <;> rcases h3 with rfl | rfl | rfl | rfl | rfl | rfl | rfl | rfl | rfl | rfl | rfl <;> rfl
set_option maxRecDepth 100000 in
theorem QkY : ∀ h, h < 4 → (Tryz.zeroCells88)[6 + h]? = some (.slice none 0 0) := by
 intro h hh
 have h1 : h = 0 ∨ h = 1 ∨ h = 2 ∨ h = 3 := by omega
 rcases h1 with rfl | rfl | rfl | rfl <;> rfl
theorem Qlg {w : World} {cb : Nat} {A : Array Value} {kp : Nat → Nat} (hA : w.heap[cb]? = some (.cells A 88 (0, 0))) (hsz : A.size = 187) (hAj : ∀ j, A[j]? = if 2 ≤ j ∧ j < 2 + 4 then some (.pointer (some ⟨kp (j - 2), 0, none⟩)) else (Tryz.zeroCells88)[j]?) (hks : ∀ h, h < 4 → KerAt w (kp h) [kp h] [nilV, nilV, nilV, nilV] (freshKer h)) (hkp : ∀ g h, g < 4 → h < 4 → g ≠ h → kp g ≠ kp h) : CluAt w cb [cb, kp 0, kp 1, kp 2, kp 3] (zeroZ kp) freshClu := by
 have hfin : ∀ k ∈ [cb, kp 0, kp 1, kp 2, kp 3], k < w.heap.size := fun k hk => by
  simp only [List.mem_cons, List.not_mem_nil, or_false] at hk
  rcases hk with e | e | e | e | e
  · rw [e]; exact Qw hA
  · rw [e]; exact (hks 0 (by omega)).fin _ (by simp)
  · rw [e]; exact (hks 1 (by omega)).fin _ (by simp)
  · rw [e]; exact (hks 2 (by omega)).fin _ (by simp)
  · rw [e]; exact (hks 3 (by omega)).fin _ (by simp)
 have hra : rowsAll [nilV, nilV, nilV, nilV] = [] := rfl
 refine ⟨⟨A, hA, hsz, ?_, ?_, fun h hh => ?_, fun h hh => ?_, fun a b ha hb j hj => ?_, ?_⟩, fun h hh => (hks h hh).anyF ?_ hfin, fun h hh => ⟨CrtsAt.nil _ _ _ (fun _ => rfl), fun h0 => (by cases h0)⟩, fun a b ha hb => ⟨[], rfl, fun x hx => (by cases hx), ⟨none, 0, rfl, ⟨Nat.le_refl _, fun _ => rfl⟩, Nat.zero_le _, fun h => (by cases h)⟩, fun h => (by cases h)⟩, fun a b _ _ => rfl, World.ownsRow_nil _ _ _ _, hkp, fun g h _ _ _ k hk => (by rw [show (zeroZ kp).V g = [nilV, nilV, nilV, nilV] from rfl, hra] at hk; cases hk), by simp, fun k hk => (by cases hk), hfin⟩
 · rw [hAj, if_neg (by omega)]; kernel_rfl
 · rw [hAj, if_neg (by omega)]; kernel_rfl
 · rw [hAj, if_pos (by omega), show 2 + h - 2 = h by omega]; rfl
 · rw [hAj, if_neg (by omega)]; exact QkY h hh
 · rw [hAj, if_neg (by omega)]; exact QkX a ha b hb j hj
 · rw [hAj, if_neg (by omega)]; kernel_rfl
 · have h1 : h = 0 ∨ h = 1 ∨ h = 2 ∨ h = 3 := by omega
   rcases h1 with rfl | rfl | rfl | rfl <;> simp
set_option linter.unusedSimpArgs false in
set_option maxRecDepth 100000 in
set_option maxHeartbeats 6400000 in
theorem Qgd (w : World) : Calls Tryz.prog 16 #[] w fun e w' => e = .returned (.pointer (some ⟨w.heap.size, 0, none⟩)) ∧ (∃ kp F, CluAt w' w.heap.size F (zeroZ kp) freshClu ∧ ∀ k ∈ F, w.heap.size ≤ k) ∧ Below w.heap.size w w' := by
 have HI0 : Hid ((w.alloc (.cells Tryz.zeroCells88 88)).heap[w.heap.size]? = some (.cells Tryz.zeroCells88 88 (0, 0))) := hid (heap_alloc_new w _)
 have HZS : Hid ((Tryz.zeroCells88).size = 187) := hid (by kernel_rfl)
 go_enter Tryz.func16, Tryz.ntmps16
 go_wp2_with fail
 go_loopw [5] (fun i wr => ∃ (k : Nat) (A : Array Value) (kp : Nat → Nat), k ≤ 4 ∧ i = .int .i64 k ∧ wr.heap[w.heap.size]? = some (.cells A 88 (0, 0)) ∧ A.size = 187 ∧ (∀ j, A[j]? = if 2 ≤ j ∧ j < 2 + k then some (.pointer (some ⟨kp (j - 2), 0, none⟩)) else (Tryz.zeroCells88)[j]?) ∧ (∀ h, h < k → KerAt wr (kp h) [kp h] [nilV, nilV, nilV, nilV] (freshKer h)) ∧ (∀ g h, g < k → h < k → g ≠ h → kp g ≠ kp h) ∧ (∀ h, h < k → w.heap.size ≤ kp h) ∧ Below w.heap.size w wr) (fun i _ => 4 - (intOf i).toNat)
 case atStart => exact ⟨0, _, fun _ => 0, by omega, rfl, HI0.out, HZS.out, fun j => by rw [if_neg (by omega)], fun h hh => by omega, fun g h hg => by omega, fun h hh => by omega, Qd w _⟩
 case round =>
  clear HI0
  obtain ⟨k, A, kp, hk, rfl, hA, hsz, hAj, hks, hkp, hge, hbw⟩ := hrel
  by_cases hk4 : k < 4
  · have hI : (k : Int) < 4 := by omega
    have i0 : ¬ ((k : Int) < 0) := by omega
    have i1 : ¬ ((4 : Int) ≤ k) := by omega
    have i3 : (0 : Int) ≤ k := by omega
    go_upto_region 5 with fail
    refine wp_region_held_drew (S := (fun w' => True)) (by as_aux_lemma => kernel_rfl) trivial (fun _hHeld => ?_)
    refine takeF 0 9 ?v1 rfl (Or.inl ⟨by rfl, ?hy1⟩) ?rest1
    case hy1 => intro wz hSw; (try dsimp only at hSw); go_simp; try with_reducible rfl
    simp only [Act.put, List.setIfInBounds_toArray, List.set_cons_zero, List.set_cons_succ]
    refine takeF 1 10 ?v2 rfl (Or.inl ⟨by rfl, ?hy2⟩) ?rest2
    case hy2 => intro wz hSw; (try dsimp only at hSw); go_simp; try with_reducible rfl
    simp only [Act.put, List.setIfInBounds_toArray, List.set_cons_zero, List.set_cons_succ]
    refine takeF 2 11 ?v3 rfl (Or.inl ⟨by rfl, ?hy3⟩) ?rest3
    case hy3 => intro wz hSw; (try dsimp only at hSw); go_simp; try with_reducible rfl
    simp only [Act.put, List.setIfInBounds_toArray, List.set_cons_zero, List.set_cons_succ]
    refine takeF 7 15 ?v4 rfl (Or.inl ⟨by rfl, ?hy4⟩) ?rest4
    case hy4 => intro wz hSw; (try dsimp only at hSw); go_simp; try with_reducible rfl
    simp only [Act.put, List.setIfInBounds_toArray, List.set_cons_zero, List.set_cons_succ]
    refine takeF 8 16 ?v5 rfl (Or.inl ⟨by rfl, ?hy5⟩) ?rest5
    case hy5 => intro wz hSw; (try dsimp only at hSw); go_simp; try with_reducible rfl
    simp only [Act.put, List.setIfInBounds_toArray, List.set_cons_zero, List.set_cons_succ]
    refine wpAnyH_ready (rs := [3]) (by as_aux_lemma => kernel_rfl) (by simp) ?_
    refine (AllReadyH.cons rfl (fun K' hK => ?_) AllReadyH.nil)
    go_simp
    go_wp2_with (go_at_call 39; refine (QmD k _ (by omega)).mono ?_; rintro e w5 ⟨rfl, hK5, hw5d⟩)
    have hw5 : Below wr.heap.size wr w5 := ⟨hw5d.os, hw5d.tape, hw5d.output, hw5d.size, hw5d.block⟩
    have HP5 := hid (QjC hk4 hA hsz hAj hks hkp hge hbw rfl hK5 hw5)
    have hA5 := Qe hA hw5
    have x2 := (Qa hA5 (2 + k)).trans (QjD hsz hk4)
    have f2 := Qb hA5 (2 + k)
    have hl5 := Qw hA5
    clear hK5 hw5d
    refine hK.out _ _ trivial (fun _ => ?_)
    clear hK K'
    refine takeF 4 8 ?v6 rfl (Or.inl ⟨by rfl, ?hy6⟩) ?rest6
    case hy6 => intro wz hSw; (try dsimp only at hSw); go_simp; try with_reducible rfl
    simp only [Act.put, List.setIfInBounds_toArray, List.set_cons_zero, List.set_cons_succ]
    refine takeF 5 13 ?v7 rfl (Or.inl ⟨by rfl, ?hy7⟩) ?rest7
    case hy7 => intro wz hSw; (try dsimp only at hSw); go_simp; try with_reducible rfl
    simp only [Act.put, List.setIfInBounds_toArray, List.set_cons_zero, List.set_cons_succ]
    refine takeF 6 14 ?v8 rfl (Or.inl ⟨by rfl, ?hy8⟩) ?rest8
    case hy8 => intro wz hSw; (try dsimp only at hSw); go_simp; try with_reducible rfl
    simp only [Act.put, List.setIfInBounds_toArray, List.set_cons_zero, List.set_cons_succ]
    refine takeF 9 17 ?v9 rfl (Or.inl ⟨by rfl, ?hy9⟩) ?rest9
    case hy9 => intro wz hSw; (try dsimp only at hSw); go_simp; try with_reducible rfl
    simp only [Act.put, List.setIfInBounds_toArray, List.set_cons_zero, List.set_cons_succ]
    refine wpAnyH_ready (rs := [10]) (by as_aux_lemma => kernel_rfl) (by simp) ?_
    refine (AllReadyH.cons rfl (fun K' hK => ?_) AllReadyH.nil)
    go_simp
    refine hK.out _ _ trivial (fun _ => ?_)
    clear hK K'
    refine wpAnyH_done (by as_aux_lemma => kernel_rfl) ?_ _
    clear hA hAj hks hkp hge hbw x2 f2 hA5
    obtain ⟨A', kp', h1, h2, h3, h4, h5, h6, h7⟩ := HP5.out
    go_wp2
    go_roundw
    case rel => exact ⟨k + 1, A', kp', hk4, by go_num, h1, h2, h3, h4, h5, h6, h7⟩
    case measure => simp [intOf]; omega
  · have hk5 : k = 4 := by omega
    subst hk5
    have HE := hid (Qlg hA hsz hAj hks hkp)
    have HFB : Hid (∀ x ∈ [w.heap.size, kp 0, kp 1, kp 2, kp 3], w.heap.size ≤ x) := hid (fun x hx => by
     simp only [List.mem_cons, List.not_mem_nil, or_false] at hx
     rcases hx with e | e | e | e | e
     · rw [e]; exact Nat.le_refl _
     · rw [e]; exact hge 0 (by omega)
     · rw [e]; exact hge 1 (by omega)
     · rw [e]; exact hge 2 (by omega)
     · rw [e]; exact hge 3 (by omega))
    clear hA hAj hks hkp
    go_wp2
    go_ret
    exact ⟨rfl, ⟨kp, _, HE.out, HFB.out⟩, hbw⟩
end Go.Proofs.YtpdijobakfpnbaaGreat
