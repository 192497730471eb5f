/- Rows of levels and numbers that a call has made, as lists in memory. -/
import Derived.Test.YtlbdaklmlknmbaaGreatYWMem
import Derived.Laws.AppendOwn
import Derived.Laws.AppendOwnNone
import Derived.OwnWalk
import Derived.Test.YtlbdaklmlknmbaaGreatYPlain
namespace Go.Proofs.YtlbdaklmlknmbaaGreat
open Go.RowKit Go.Proofs.Parclose
theorem Qbs : (Tryz.prog.info? 92).map (fun i => (i.zero, i.size, i.bytes)) = some (some (.agg #[.int .i64 0, .int .i64 0]), 2, 16) := by kernel_rfl
theorem Qbz : (Tryz.prog.info? 3).map (fun i => (i.zero, i.size, i.bytes)) = some (some (.int .i64 0), 1, 8) := by kernel_rfl
theorem Qad {w : World} {base : Nat} {e : TypeId} {s : Nat} {v : Value} {n : Nat} {xs : List Value} (h : w.ownsRow base e s v n xs) :
 ∃ p cap, v = .slice p n cap ∧ (n ≤ cap ∧ (p = none → cap = 0)) ∧ (0 < n → ∃ g, p = some ⟨g, 0, none⟩ ∧ ∀ j u, xs[j]? = some u → w.cell? ⟨g, j, none⟩ = some u) := by
 have h0 := h
 rcases h.2 with ⟨rfl, rfl⟩ | ⟨g, cap, cur, rfl, hb, hh, h1, h2, h3, h4⟩
 · exact ⟨none, 0, rfl, ⟨Nat.le_refl _, fun _ => rfl⟩, fun h => absurd h (by omega)⟩
 · refine ⟨_, cap, rfl, ⟨h1, fun h => by cases h⟩, fun _ => ⟨g, rfl, fun j u hu => ?_⟩⟩
   have := World.ownsRow.cells h0 (g := g) rfl j u hu
   rwa [WideShapes.add_plain, Nat.zero_add] at this
def flat2 (l : List (Int × Int)) : List Value := l.flatMap fun x => [.int .i64 x.1, .int .i64 x.2]
def flat1 (l : List Int) : List Value := l.map (Value.int .i64)
theorem QeM (l : List (Int × Int)) (i : Nat) (hi : i < l.length) : (flat2 l)[i * 2]? = some (.int .i64 l[i].1) ∧ (flat2 l)[i * 2 + 1]? = some (.int .i64 l[i].2) := by
 induction l generalizing i with
 | nil => simp at hi
 | cons x r ih =>
  have e : flat2 (x :: r) = .int .i64 x.1 :: .int .i64 x.2 :: flat2 r := rfl
  cases i with
  | zero => rw [e]; exact ⟨rfl, rfl⟩
  | succ i =>
   obtain ⟨h1, h2⟩ := ih i (by simpa using hi)
   rw [e, show (i + 1) * 2 = i * 2 + 1 + 1 by omega]
   simp only [List.getElem?_cons_succ, List.getElem_cons_succ]
   exact ⟨h1, h2⟩
theorem QS {w : World} {base : Nat} {v : Value} {l : List (Int × Int)} (h : w.ownsRow base 92 2 v l.length (flat2 l)) (hl : l.length ≤ 8796093022208) : LabAt w v l := by
 obtain ⟨p, cap, rfl, h1, h2⟩ := Qad h
 refine ⟨p, cap, rfl, h1, hl, fun h0 => ?_⟩
 obtain ⟨g, rfl, hc⟩ := h2 h0
 exact ⟨g, 0, rfl, fun j hj => by
  obtain ⟨g1, g2⟩ := QeM l j hj
  rw [Nat.zero_add]
  exact ⟨hc _ _ g1, hc _ _ g2⟩⟩
theorem Q9 {w : World} {base : Nat} {v : Value} {l : List Int} (h : w.ownsRow base 3 1 v l.length (flat1 l)) (hl : l.length ≤ 17592186044416) : IntsAt w v l := by
 obtain ⟨p, cap, rfl, h1, h2⟩ := Qad h
 refine ⟨p, cap, rfl, h1, hl, fun h0 => ?_⟩
 obtain ⟨g, rfl, hc⟩ := h2 h0
 exact ⟨g, 0, rfl, fun j hj => by
  rw [Nat.zero_add]
  exact hc j _ (by simp [flat1, hj])⟩
theorem QeL (l : List (Int × Int)) : ∀ u ∈ flat2 l, u.oneCell' = true := by
 intro u hu
 obtain ⟨x, _, hx⟩ := List.mem_flatMap.1 hu
 simp at hx
 rcases hx with rfl | rfl <;> rfl
theorem QaS (l : List Int) : ∀ u ∈ flat1 l, u.oneCell' = true := by
 intro u hu
 obtain ⟨x, _, rfl⟩ := List.mem_map.1 hu
 rfl
theorem laid2 (w : World) (a b : Value) (t : TypeId) : ∀ j u, [a, b][j]? = some u → (w.alloc (.cells #[a, b] t)).cell? ((⟨w.heap.size, 0, none⟩ : Addr).add j) = some u := by
 intro j u hu
 rw [WideShapes.add_plain, Nat.zero_add, World.cell?_alloc_mark]
 simpa using hu
theorem laid1 (w : World) (a : Value) (t : TypeId) : ∀ j u, [a][j]? = some u → (w.alloc (.cells #[a] t)).cell? ((⟨w.heap.size, 0, none⟩ : Addr).add j) = some u := by
 intro j u hu
 rw [WideShapes.add_plain, Nat.zero_add, World.cell?_alloc_mark]
 simpa using hu
theorem Qu {w : World} {base : Nat} {e : TypeId} {size : Nat} {v : Value} {n : Nat} {xs : List Value} (h : w.ownsRow base e size v n xs) {k : Nat} (hk : v.ownBlock = some k) : base ≤ k := by
 rcases h.2 with ⟨rfl, _⟩ | ⟨g, cap, cur, rfl, hb, _⟩
 · cases hk
 · cases hk; exact hb
theorem QaR : (Tryz.prog.info? 58).map (fun i => (i.zero, i.size, i.bytes)) = some (some (.agg #[.int .i64 0, .int .i64 0, .int .i64 0, .int .i64 0]), 4, 32) := by kernel_rfl
def flat4 (l : List Crt) : List Value := l.flatMap fun x => [.int .i64 x.c, .int .i64 x.b, .int .i64 x.h, .int .i64 x.u]
theorem QcT (l : List Crt) (i : Nat) (hi : i < l.length) : (flat4 l)[i * 4]? = some (.int .i64 l[i].c) ∧ (flat4 l)[i * 4 + 1]? = some (.int .i64 l[i].b) ∧ (flat4 l)[i * 4 + 2]? = some (.int .i64 l[i].h) ∧ (flat4 l)[i * 4 + 3]? = some (.int .i64 l[i].u) := by
 induction l generalizing i with
 | nil => simp at hi
 | cons x r ih =>
  have e : flat4 (x :: r) = .int .i64 x.c :: .int .i64 x.b :: .int .i64 x.h :: .int .i64 x.u :: flat4 r := rfl
  cases i with
  | zero => rw [e]; exact ⟨rfl, rfl, rfl, rfl⟩
  | succ i =>
   obtain ⟨h1, h2, h3, h4⟩ := ih i (by simpa using hi)
   rw [e, show (i + 1) * 4 = i * 4 + 1 + 1 + 1 + 1 by omega, show i * 4 + 1 + 1 + 1 + 1 + 1 = i * 4 + 1 + 1 + 1 + 1 + 1 from rfl]
   refine ⟨?_, ?_, ?_, ?_⟩
   · simp only [List.getElem?_cons_succ, List.getElem_cons_succ]; exact h1
   · rw [show i * 4 + 1 + 1 + 1 + 1 + 1 = (i * 4 + 1) + 1 + 1 + 1 + 1 by omega]; simp only [List.getElem?_cons_succ, List.getElem_cons_succ]; exact h2
   · rw [show i * 4 + 1 + 1 + 1 + 1 + 2 = (i * 4 + 2) + 1 + 1 + 1 + 1 by omega]; simp only [List.getElem?_cons_succ, List.getElem_cons_succ]; exact h3
   · rw [show i * 4 + 1 + 1 + 1 + 1 + 3 = (i * 4 + 3) + 1 + 1 + 1 + 1 by omega]; simp only [List.getElem?_cons_succ, List.getElem_cons_succ]; exact h4
theorem QaK {w : World} {base : Nat} {v : Value} {l : List Crt} (h : w.ownsRow base 58 4 v l.length (flat4 l)) (hl : l.length ≤ 4398046511104) : CrtsAt w v l := by
 obtain ⟨p, cap, rfl, h1, h2⟩ := Qad h
 refine ⟨p, cap, rfl, h1, hl, fun h0 => ?_⟩
 obtain ⟨g, rfl, hc⟩ := h2 h0
 exact ⟨g, 0, rfl, fun j hj => by
  obtain ⟨g1, g2, g3, g4⟩ := QcT l j hj
  rw [Nat.zero_add]
  exact ⟨hc _ _ g1, hc _ _ g2, hc _ _ g3, hc _ _ g4⟩⟩
theorem QbX (l : List Crt) : ∀ u ∈ flat4 l, u.oneCell' = true := by
 intro u hu
 obtain ⟨x, _, hx⟩ := List.mem_flatMap.1 hu
 simp at hx
 rcases hx with rfl | rfl | rfl | rfl <;> rfl
theorem laid4 (w : World) (a b c d : Value) (t : TypeId) : ∀ j u, [a, b, c, d][j]? = some u → (w.alloc (.cells #[a, b, c, d] t)).cell? ((⟨w.heap.size, 0, none⟩ : Addr).add j) = some u := by
 intro j u hu
 rw [WideShapes.add_plain, Nat.zero_add, World.cell?_alloc_mark]
 simpa using hu
structure KeptF (F : List Nat) (w w' : World) : Prop where
 os : w'.os = w.os
 tape : w'.tape = w.tape
 output : w'.output = w.output
 size : w.heap.size ≤ w'.heap.size
 block : ∀ k, k < w.heap.size → k ∉ F → w'.heap[k]? = w.heap[k]?
theorem KeptF.refl (F : List Nat) (w : World) : KeptF F w w := ⟨rfl, rfl, rfl, Nat.le_refl _, fun _ _ _ => rfl⟩
theorem KeptF.trans {F : List Nat} {a b c : World} (h : KeptF F a b) (k : KeptF F b c) : KeptF F a c :=
 ⟨k.os.trans h.os, k.tape.trans h.tape, k.output.trans h.output, Nat.le_trans h.size k.size, fun i hi hn => by rw [k.block i (by have := h.size; omega) hn, h.block i hi hn]⟩
theorem KeptF.sub {F G : List Nat} {a b : World} (h : KeptF F a b) (hs : ∀ k ∈ F, k ∈ G ∨ a.heap.size ≤ k) : KeptF G a b :=
 ⟨h.os, h.tape, h.output, h.size, fun k hk hn => h.block k hk fun e => by
  rcases hs k e with g | g
  · exact hn g
  · omega⟩
theorem Qz {w w' : World} (F : List Nat) (h : Below w.heap.size w w') : KeptF F w w' := ⟨h.os, h.tape, h.output, h.size, fun k hk _ => h.block k hk⟩
theorem QN {w w' : World} {F : List Nat} {r : Option Nat} (h : w.grownBy w' r) (hr : ∀ k, r = some k → k ∈ F ∨ w.heap.size ≤ k) : KeptF F w w' :=
 ⟨h.os, h.tape, h.output, h.size, fun k hk hn => h.block k hk fun e => by
  rcases hr k e.symm with g | g
  · exact hn g
  · omega⟩
theorem Qai {F : List Nat} (w : World) (b j : Nat) (u : Value) (hb : b ∈ F) : KeptF F w (w.setCell ⟨b, j, none⟩ u) :=
 ⟨rfl, rfl, rfl, by simp, fun k _ hn => Below.heap_setCell w _ _ k (fun e => hn (by rw [show k = b from e]; exact hb))⟩
theorem KeptF.cell {F : List Nat} {w w' : World} (h : KeptF F w w') {b o : Nat} {u : Value} (hc : w.cell? ⟨b, o, none⟩ = some u) (hb : b ∉ F) : w'.cell? ⟨b, o, none⟩ = some u := by
 rw [World.cell?_of_block (w := w) (h.block b (Qf hc) hb), hc]
theorem KeptF.heap {F : List Nat} {w w' : World} (h : KeptF F w w') {b : Nat} {o : Obj} (hc : w.heap[b]? = some o) (hb : b ∉ F) : w'.heap[b]? = some o := by
 rw [h.block b (Array.getElem?_eq_some_iff.1 hc).1 hb, hc]
def More (w : World) (F G : List Nat) : Prop := (∀ k ∈ F, k ∈ G) ∧ ∀ k ∈ G, k ∈ F ∨ w.heap.size ≤ k
theorem More.refl (w : World) (F : List Nat) : More w F F := ⟨fun _ h => h, fun _ h => .inl h⟩
theorem More.trans {w w' : World} {F G H : List Nat} (h : More w F G) (k : More w' G H) (hs : w.heap.size ≤ w'.heap.size) : More w F H :=
 ⟨fun i hi => k.1 i (h.1 i hi), fun i hi => by
  rcases k.2 i hi with g | g
  · exact h.2 i g
  · exact .inr (by omega)⟩
def RoLab (w : World) (F : List Nat) (v : Value) (l : List (Int × Int)) : Prop := LabAt w v l ∧ (0 < l.length → ∀ k, v.ownBlock = some k → k ∉ F)
def RoInts (w : World) (F : List Nat) (v : Value) (l : List Int) : Prop := IntsAt w v l ∧ (0 < l.length → ∀ k, v.ownBlock = some k → k ∉ F)
theorem RoLab.keep {w w' : World} {F G : List Nat} {v : Value} {l : List (Int × Int)} (h : RoLab w F v l) (hk : KeptF F w w') (hm : More w F G) : RoLab w' G v l := by
 obtain ⟨⟨p, cap, rfl, h1, h2, h3⟩, h4⟩ := h
 have hc : 0 < l.length → ∃ b o, p = some ⟨b, o, none⟩ ∧ Cells2 w b o l ∧ b ∉ F ∧ b < w.heap.size := fun h0 => by
  obtain ⟨b, o, rfl, hc⟩ := h3 h0
  exact ⟨b, o, rfl, hc, h4 h0 b rfl, Qf (hc 0 h0).1⟩
 refine ⟨⟨p, cap, rfl, h1, h2, fun h0 => ?_⟩, fun h0 k hk2 hG => ?_⟩
 · obtain ⟨b, o, rfl, hcs, hb, _⟩ := hc h0
   exact ⟨b, o, rfl, fun j hj => ⟨hk.cell (hcs j hj).1 hb, hk.cell (hcs j hj).2 hb⟩⟩
 · obtain ⟨b, o, rfl, hcs, hb, hlt⟩ := hc h0
   cases hk2
   rcases hm.2 b hG with g | g
   · exact hb g
   · omega
theorem RoInts.keep {w w' : World} {F G : List Nat} {v : Value} {l : List Int} (h : RoInts w F v l) (hk : KeptF F w w') (hm : More w F G) : RoInts w' G v l := by
 obtain ⟨⟨p, cap, rfl, h1, h2, h3⟩, h4⟩ := h
 have hc : 0 < l.length → ∃ b o, p = some ⟨b, o, none⟩ ∧ Cells1 w b o l ∧ b ∉ F ∧ b < w.heap.size := fun h0 => by
  obtain ⟨b, o, rfl, hc⟩ := h3 h0
  exact ⟨b, o, rfl, hc, h4 h0 b rfl, Qf (hc 0 h0)⟩
 refine ⟨⟨p, cap, rfl, h1, h2, fun h0 => ?_⟩, fun h0 k hk2 hG => ?_⟩
 · obtain ⟨b, o, rfl, hcs, hb, _⟩ := hc h0
   exact ⟨b, o, rfl, fun j hj => hk.cell (hcs j hj) hb⟩
 · obtain ⟨b, o, rfl, hcs, hb, hlt⟩ := hc h0
   cases hk2
   rcases hm.2 b hG with g | g
   · exact hb g
   · omega
def flatO : List Value → List Obt → List Value
 | u :: us, o :: os => u :: .string ⟨o.text.toArray⟩ :: flatO us os
 | _, _ => []
def flatM : List (Value × Value) → List Mal → List Value
 | u :: us, m :: ms => .int .i64 m.host :: .int .i64 m.thread :: u.1 :: u.2 :: .string ⟨m.text.toArray⟩ :: flatM us ms
 | _, _ => []
def OwnAt (w : World) (v : Value) (l : List Int) : Prop := w.ownsRow 0 3 1 v l.length (flat1 l)
def ObjsAt (w : World) (F : List Nat) (v : Value) (os : List Obt) : Prop :=
 ∃ vs, vs.length = os.length ∧ w.ownsRow 0 48 2 v os.length (flatO vs os) ∧ ∀ j (h1 : j < vs.length) (h2 : j < os.length), RoLab w F vs[j] os[j].label
def MailsAt (w : World) (F : List Nat) (v : Value) (ms : List Mal) : Prop :=
 ∃ vs, vs.length = ms.length ∧ w.ownsRow 0 51 5 v ms.length (flatM vs ms) ∧ ∀ j (h1 : j < vs.length) (h2 : j < ms.length), RoLab w F vs[j].1 ms[j].label ∧ RoInts w F vs[j].2 ms[j].grants
theorem QQ {w w' : World} {F : List Nat} {base : Nat} {e : TypeId} {size : Nat} {v : Value} {n : Nat} {xs : List Value} (h : w.ownsRow base e size v n xs) (hk : KeptF F w w') (hv : ∀ k, v.ownBlock = some k → k ∉ F) : w'.ownsRow base e size v n xs := by
 refine ⟨h.1, ?_⟩
 rcases h.2 with hn | ⟨g, cap, cur, rfl, hb, hgg, rest⟩
 · exact .inl hn
 · exact .inr ⟨g, cap, cur, rfl, hb, hk.heap hgg (hv g rfl), rest⟩
theorem ObjsAt.keep {w w' : World} {R F G : List Nat} {v : Value} {os : List Obt} (h : ObjsAt w F v os) (hk : KeptF R w w') (hR : ∀ k ∈ R, k ∈ F) (hm : More w F G) (hv : ∀ k, v.ownBlock = some k → k ∉ R) : ObjsAt w' G v os := by
 obtain ⟨vs, h1, h2, h3⟩ := h
 exact ⟨vs, h1, QQ h2 hk hv, fun j g1 g2 => (h3 j g1 g2).keep (hk.sub fun k hk => .inl (hR k hk)) hm⟩
theorem MailsAt.keep {w w' : World} {R F G : List Nat} {v : Value} {ms : List Mal} (h : MailsAt w F v ms) (hk : KeptF R w w') (hR : ∀ k ∈ R, k ∈ F) (hm : More w F G) (hv : ∀ k, v.ownBlock = some k → k ∉ R) : MailsAt w' G v ms := by
 obtain ⟨vs, h1, h2, h3⟩ := h
 exact ⟨vs, h1, QQ h2 hk hv, fun j g1 g2 => ⟨(h3 j g1 g2).1.keep (hk.sub fun k hk => .inl (hR k hk)) hm, (h3 j g1 g2).2.keep (hk.sub fun k hk => .inl (hR k hk)) hm⟩⟩
structure ThrV where
 vl : Value
 vo : Value
 vj : Value
 vm : Value
def rowsOf (v : ThrV) : List Nat := v.vo.ownBlock.toList ++ v.vj.ownBlock.toList ++ v.vm.ownBlock.toList
theorem mem_rows {v : ThrV} {k : Nat} : k ∈ rowsOf v ↔ v.vo.ownBlock = some k ∨ v.vj.ownBlock = some k ∨ v.vm.ownBlock = some k := by
 unfold rowsOf
 simp only [List.mem_append, Option.mem_toList, or_assoc]
def ThrAt (w : World) (F : List Nat) (v : ThrV) (th : Thr) : Prop :=
 RoLab w F v.vl th.label ∧ OwnAt w v.vo th.own ∧ ObjsAt w F v.vj th.objs ∧ MailsAt w F v.vm th.mails
theorem ThrAt.keep {w w' : World} {R F G : List Nat} {v : ThrV} {th : Thr} (h : ThrAt w F v th) (hk : KeptF R w w') (hR : ∀ k ∈ R, k ∈ F) (hm : More w F G) (hv : ∀ k ∈ rowsOf v, k ∉ R) : ThrAt w' G v th :=
 ⟨h.1.keep (hk.sub fun k hk => .inl (hR k hk)) hm, QQ h.2.1 hk (fun k e => hv k (mem_rows.2 (.inl e))), h.2.2.1.keep hk hR hm (fun k e => hv k (mem_rows.2 (.inr (.inl e)))), h.2.2.2.keep hk hR hm (fun k e => hv k (mem_rows.2 (.inr (.inr e))))⟩
theorem Qac {w : World} {b b' : Nat} {e e' : TypeId} {s s' : Nat} {v v' : Value} {n n' : Nat} {xs xs' : List Value} (h : w.ownsRow b e s v n xs) (h' : w.ownsRow b' e' s' v' n' xs') (hne : e ≠ e') {k : Nat} (hk : v.ownBlock = some k) : v'.ownBlock ≠ some k := by
 intro hk'
 rcases h.2 with ⟨rfl, _⟩ | ⟨g, cap, cur, rfl, _, hh, _⟩
 · cases hk
 · rcases h'.2 with ⟨rfl, _⟩ | ⟨g', cap', cur', rfl, _, hh', _⟩
   · cases hk'
   · cases hk
     cases hk'
     rw [hh] at hh'
     injection hh' with hh'
     injection hh' with _ h2 _
     exact hne h2
theorem QA {w : World} {b : Nat} {e t : TypeId} {s : Nat} {v : Value} {n : Nat} {xs : List Value} {C : Array Value} {kb : Nat} (h : w.ownsRow b e s v n xs) (hb : w.heap[kb]? = some (.cells C t (0, 0))) (hne : e ≠ t) : v.ownBlock ≠ some kb := by
 intro hk
 rcases h.2 with ⟨rfl, _⟩ | ⟨g, cap, cur, rfl, _, hh, _⟩
 · cases hk
 · cases hk
   rw [hh] at hb
   injection hb with hb
   injection hb with _ h2 _
   exact hne h2
structure TAt (w : World) (kb o : Nat) (F : List Nat) (v : ThrV) (th : Thr) : Prop where
 box : ∃ C, w.heap[kb]? = some (.cells C 100 (0, 0)) ∧ C[o]? = some v.vl ∧ C[o + 1]? = some v.vo ∧ C[o + 2]? = some (.string ⟨th.text.toArray⟩) ∧ C[o + 3]? = some v.vj ∧ C[o + 4]? = some v.vm
 thr : ThrAt w F v th
 rows : ∀ k ∈ rowsOf v, k ∈ F
 kbF : kb ∈ F
 fin : ∀ k ∈ F, k < w.heap.size
theorem TAt.kb_rows {w : World} {kb o : Nat} {F : List Nat} {v : ThrV} {th : Thr} (h : TAt w kb o F v th) : kb ∉ rowsOf v := by
 obtain ⟨C, hC, _⟩ := h.box
 obtain ⟨_, h2, ⟨_, _, h3, _⟩, ⟨_, _, h4, _⟩⟩ := h.thr
 intro hm
 rcases mem_rows.1 hm with e | e | e
 · exact QA h2 hC (by decide) e
 · exact QA h3 hC (by decide) e
 · exact QA h4 hC (by decide) e
structure TStep (kb o : Nat) (w : World) (F : List Nat) (v : ThrV) (w' : World) (G : List Nat) (v' : ThrV) : Prop where
 kept : KeptF (kb :: rowsOf v) w w'
 box : ∀ C, w.heap[kb]? = some (.cells C 100 (0, 0)) → ∃ C', w'.heap[kb]? = some (.cells C' 100 (0, 0)) ∧ C'.size = C.size ∧ ∀ j, j < o ∨ o + 5 ≤ j → C'[j]? = C[j]?
 rows : ∀ k ∈ rowsOf v', k ∈ rowsOf v ∨ w.heap.size ≤ k
 more : More w F G
theorem TStep.refl {kb o : Nat} (w : World) (F : List Nat) (v : ThrV) : TStep kb o w F v w F v := ⟨KeptF.refl _ _, fun C h => ⟨C, h, rfl, fun _ _ => rfl⟩, fun _ h => .inl h, More.refl _ _⟩
theorem TStep.trans {kb o : Nat} {w w1 w2 : World} {F G H : List Nat} {v v1 v2 : ThrV} (h : TStep kb o w F v w1 G v1) (k : TStep kb o w1 G v1 w2 H v2) : TStep kb o w F v w2 H v2 := by
 refine ⟨?_, fun C hC => ?_, fun i hi => ?_, h.more.trans k.more h.kept.size⟩
 · refine ⟨k.kept.os.trans h.kept.os, k.kept.tape.trans h.kept.tape, k.kept.output.trans h.kept.output, Nat.le_trans h.kept.size k.kept.size, fun i hi hn => ?_⟩
   rw [k.kept.block i (by have := h.kept.size; omega) (fun e => ?_), h.kept.block i hi hn]
   rcases List.mem_cons.1 e with rfl | e
   · exact hn (by simp)
   · rcases h.rows i e with g | g
     · exact hn (List.mem_cons_of_mem _ g)
     · omega
 · obtain ⟨C1, e1, s1, a1⟩ := h.box C hC
   obtain ⟨C2, e2, s2, a2⟩ := k.box C1 e1
   exact ⟨C2, e2, s2.trans s1, fun j hj => (a2 j hj).trans (a1 j hj)⟩
 · rcases k.rows i hi with g | g
   · exact h.rows i g
   · exact .inr (by have := h.kept.size; omega)
theorem TStep.below {kb o : Nat} {w w' : World} {F : List Nat} {v : ThrV} (h : Below w.heap.size w w') : TStep kb o w F v w' F v :=
 ⟨Qz _ h, fun C hC => ⟨C, by rw [h.block kb (Array.getElem?_eq_some_iff.1 hC).1, hC], rfl, fun _ _ => rfl⟩, fun _ h => .inl h, More.refl _ _⟩
theorem TAt.below {w w' : World} {kb o : Nat} {F : List Nat} {v : ThrV} {th : Thr} (h : TAt w kb o F v th) (hb : Below w.heap.size w w') : TAt w' kb o F v th := by
 obtain ⟨⟨C, hC, hc⟩, h2, h3, h4, h5⟩ := h
 exact ⟨⟨C, by rw [hb.block kb (Array.getElem?_eq_some_iff.1 hC).1, hC], hc⟩, h2.keep (R := []) (Qz _ hb) (fun _ h => by cases h) (More.refl _ _) (fun _ _ h => by cases h), h3, h4, fun k hk => Nat.lt_of_lt_of_le (h5 k hk) hb.size⟩
theorem Qah {w : World} {b j : Nat} {C : Array Value} {t : TypeId} {fr : Nat × Nat} (h : w.heap[b]? = some (.cells C t fr)) (u : Value) : (w.setCell ⟨b, j, none⟩ u).heap[b]? = some (.cells (C.setIfInBounds j u) t fr) := by
 simp [World.setCell, Array.getElem?_modify, h]
theorem QD {C : Array Value} {i j : Nat} {u x : Value} (h : C[j]? = some x) (hne : i ≠ j) : (C.setIfInBounds i u)[j]? = some x := by
 rw [Array.getElem?_setIfInBounds_ne hne, h]
theorem Qbd {C : Array Value} {i : Nat} {u x : Value} (h : C[i]? = some x) : (C.setIfInBounds i u)[i]? = some u := by
 rw [Array.getElem?_setIfInBounds_self, if_pos]
 exact (Array.getElem?_eq_some_iff.1 h).1
theorem Qdl {C : Array Value} {i o : Nat} {u : Value} (h1 : o ≤ i) (h2 : i < o + 5) (j : Nat) (hj : j < o ∨ o + 5 ≤ j) : (C.setIfInBounds i u)[j]? = C[j]? := Array.getElem?_setIfInBounds_ne (by omega)
theorem Qet {kb o i : Nat} {w : World} {F : List Nat} {v : ThrV} (u : Value) (h1 : o ≤ i) (h2 : i < o + 5) (v' : ThrV) (hr : ∀ k ∈ rowsOf v', k ∈ rowsOf v) : TStep kb o w F v (w.setCell ⟨kb, i, none⟩ u) F v' :=
 ⟨Qai w kb i u (by simp), fun C hC => ⟨_, Qah hC u, by simp, fun j hj => Qdl h1 h2 j hj⟩, fun k hk => .inl (hr k hk), More.refl _ _⟩
theorem TAt.text {w : World} {kb o : Nat} {F : List Nat} {v : ThrV} {th : Thr} (h : TAt w kb o F v th) (x : List UInt8) :
 TAt (w.setCell ⟨kb, o + 2, none⟩ (.string ⟨x.toArray⟩)) kb o F v { th with text := x } ∧ TStep kb o w F v (w.setCell ⟨kb, o + 2, none⟩ (.string ⟨x.toArray⟩)) F v := by
 have hkr := h.kb_rows
 obtain ⟨⟨C, hC, c0, c1, c2, c3, c4⟩, h2, h3, h4, hfin⟩ := h
 refine ⟨⟨⟨_, Qah hC _, QD c0 (by omega), QD c1 (by omega), Qbd c2, QD c3 (by omega), QD c4 (by omega)⟩, ?_, h3, h4, fun k hk => by simpa using hfin k hk⟩, Qet _ (by omega) (by omega) v (fun _ h => h)⟩
 exact h2.keep (R := [kb]) (Qai w kb _ _ (by simp)) (fun k hk => by simp at hk; subst hk; exact h4) (More.refl _ _) (fun k hk e => by simp at e; subst e; exact hkr hk)
theorem TAt.lab {w : World} {kb o : Nat} {F : List Nat} {v : ThrV} {th : Thr} (h : TAt w kb o F v th) {vl : Value} {l : List (Int × Int)} (hl : RoLab w F vl l) :
 TAt (w.setCell ⟨kb, o, none⟩ vl) kb o F { v with vl := vl } { th with label := l } ∧ TStep kb o w F v (w.setCell ⟨kb, o, none⟩ vl) F { v with vl := vl } := by
 have hkr := h.kb_rows
 obtain ⟨⟨C, hC, c0, c1, c2, c3, c4⟩, h2, h3, h4, hfin⟩ := h
 have hk : KeptF [kb] w (w.setCell ⟨kb, o, none⟩ vl) := Qai w kb _ _ (by simp)
 have hF : ∀ k ∈ [kb], k ∈ F := fun k hk => by simp at hk; subst hk; exact h4
 refine ⟨⟨⟨_, Qah hC _, Qbd c0, QD c1 (by omega), QD c2 (by omega), QD c3 (by omega), QD c4 (by omega)⟩, ?_, h3, h4, fun k hk => by simpa using hfin k hk⟩, Qet _ (by omega) (by omega) _ (fun _ h => h)⟩
 have h5 := h2.keep hk hF (More.refl _ _) (fun k hm e => by simp at e; subst e; exact hkr hm)
 exact ⟨hl.keep (hk.sub fun k hk => .inl (hF k hk)) (More.refl _ _), h5.2⟩
theorem Qbx (w : World) (F : List Nat) {v v' : Value} (hF : ∀ k, v.ownBlock = some k → k ∈ F) (h : ∀ k, v'.ownBlock = some k → v.ownBlock = some k ∨ w.heap.size ≤ k) : More w F (F ++ v'.ownBlock.toList) :=
 ⟨fun k hk => List.mem_append_left _ hk, fun k hk => by
  rcases List.mem_append.1 hk with g | g
  · exact .inl g
  · rcases h k (by simpa using g) with e | e
    · exact .inl (hF k e)
    · exact .inr e⟩
theorem QJ {v : Value} {k : Nat} (h : k ∈ v.ownBlock.toList) : v.ownBlock = some k := by simpa using h
theorem TAt.own {w w1 : World} {kb o : Nat} {F : List Nat} {v : ThrV} {th : Thr} (h : TAt w kb o F v th) {vo : Value} {l : List Int} (hg : w.grownBy w1 v.vo.ownBlock) (ho : OwnAt w1 vo l) (hw : ∀ k, vo.ownBlock = some k → v.vo.ownBlock = some k ∨ w.heap.size ≤ k) :
 TAt (w1.setCell ⟨kb, o + 1, none⟩ vo) kb o (F ++ vo.ownBlock.toList) { v with vo := vo } { th with own := l } ∧ TStep kb o w F v (w1.setCell ⟨kb, o + 1, none⟩ vo) (F ++ vo.ownBlock.toList) { v with vo := vo } := by
 have hkr := h.kb_rows
 obtain ⟨⟨C, hC, c0, c1, c2, c3, c4⟩, ⟨t1, t2, t3, t4⟩, h3, h4, hfin⟩ := h
 have hoF : ∀ k, v.vo.ownBlock = some k → k ∈ F := fun k e => h3 k (mem_rows.2 (.inl e))
 have hm := Qbx w F hoF hw
 have hk1 : KeptF v.vo.ownBlock.toList w w1 := QN hg fun k e => .inl (by rw [e]; simp)
 have hkbne : v.vo.ownBlock ≠ some kb := fun e => hkr (mem_rows.2 (.inl e))
 have hC1 : w1.heap[kb]? = some (.cells C 100 (0, 0)) := hk1.heap hC (fun e => hkbne (QJ e))
 have hk2 : KeptF [kb] w1 (w1.setCell ⟨kb, o + 1, none⟩ vo) := Qai w1 kb _ _ (by simp)
 have hk : KeptF (kb :: v.vo.ownBlock.toList) w (w1.setCell ⟨kb, o + 1, none⟩ vo) := (hk1.sub fun k e => .inl (List.mem_cons_of_mem _ e)).trans (hk2.sub fun k e => .inl (by simp at e; simp [e]))
 have hR : ∀ k ∈ kb :: v.vo.ownBlock.toList, k ∈ F := fun k e => by
  rcases List.mem_cons.1 e with rfl | e
  · exact h4
  · exact hoF k (QJ e)
 have t3' := t3
 have t4' := t4
 obtain ⟨_, _, j2, _⟩ := t3'
 obtain ⟨_, _, m2, _⟩ := t4'
 refine ⟨⟨⟨_, Qah hC1 _, QD c0 (by omega), Qbd c1, QD c2 (by omega), QD c3 (by omega), QD c4 (by omega)⟩, ⟨?_, ?_, ?_, ?_⟩, ?_, hm.1 kb h4, ?_⟩, ⟨hk.sub ?_, fun C' hC' => ?_, ?_, hm⟩⟩
 · exact t1.keep (hk.sub fun k e => .inl (hR k e)) hm
 · exact QQ ho hk2 (fun k e g => by simp at g; subst g; exact QA ho hC1 (by decide) e)
 · refine t3.keep hk hR hm fun k e g => ?_
   rcases List.mem_cons.1 g with rfl | g
   · exact QA j2 hC (by decide) e
   · exact Qac j2 t2 (by decide) e (QJ g)
 · refine t4.keep hk hR hm fun k e g => ?_
   rcases List.mem_cons.1 g with rfl | g
   · exact QA m2 hC (by decide) e
   · exact Qac m2 t2 (by decide) e (QJ g)
 · intro k hk
   rcases mem_rows.1 hk with e | e | e
   · exact List.mem_append_right _ (by simpa using e)
   · exact List.mem_append_left _ (h3 k (mem_rows.2 (.inr (.inl e))))
   · exact List.mem_append_left _ (h3 k (mem_rows.2 (.inr (.inr e))))
 · intro k hk
   rw [World.size_setCell]
   rcases List.mem_append.1 hk with e | e
   · exact Nat.lt_of_lt_of_le (hfin k e) hg.size
   · exact (ho.lt k (QJ e)).2
 · intro k e
   rcases List.mem_cons.1 e with rfl | e
   · exact .inl (by simp)
   · exact .inl (List.mem_cons_of_mem _ (mem_rows.2 (.inl (QJ e))))
 · rw [hC] at hC'
   cases hC'
   exact ⟨_, Qah hC1 _, by simp, fun j hj => Qdl (by omega) (by omega) j hj⟩
 · intro k hk
   rcases mem_rows.1 hk with e | e | e
   · rcases hw k e with g | g
     · exact .inl (mem_rows.2 (.inl g))
     · exact .inr g
   · exact .inl (mem_rows.2 (.inr (.inl e)))
   · exact .inl (mem_rows.2 (.inr (.inr e)))
theorem TAt.objs {w w1 : World} {kb o : Nat} {F : List Nat} {v : ThrV} {th : Thr} (h : TAt w kb o F v th) {u : Value} {l : List Obt} (hg : w.grownBy w1 v.vj.ownBlock) (ho : ObjsAt w1 (F ++ u.ownBlock.toList) u l) (hw : ∀ k, u.ownBlock = some k → v.vj.ownBlock = some k ∨ w.heap.size ≤ k) :
 TAt (w1.setCell ⟨kb, o + 3, none⟩ u) kb o (F ++ u.ownBlock.toList) { v with vj := u } { th with objs := l } ∧ TStep kb o w F v (w1.setCell ⟨kb, o + 3, none⟩ u) (F ++ u.ownBlock.toList) { v with vj := u } := by
 have hkr := h.kb_rows
 obtain ⟨⟨C, hC, c0, c1, c2, c3, c4⟩, ⟨t1, t2, t3, t4⟩, h3, h4, hfin⟩ := h
 have hoF : ∀ k, v.vj.ownBlock = some k → k ∈ F := fun k e => h3 k (mem_rows.2 (.inr (.inl e)))
 have hm := Qbx w F hoF hw
 have hk1 : KeptF v.vj.ownBlock.toList w w1 := QN hg fun k e => .inl (by rw [e]; simp)
 have hkbne : v.vj.ownBlock ≠ some kb := fun e => hkr (mem_rows.2 (.inr (.inl e)))
 have hC1 : w1.heap[kb]? = some (.cells C 100 (0, 0)) := hk1.heap hC (fun e => hkbne (QJ e))
 have hk2 : KeptF [kb] w1 (w1.setCell ⟨kb, o + 3, none⟩ u) := Qai w1 kb _ _ (by simp)
 have hk : KeptF (kb :: v.vj.ownBlock.toList) w (w1.setCell ⟨kb, o + 3, none⟩ u) := (hk1.sub fun k e => .inl (List.mem_cons_of_mem _ e)).trans (hk2.sub fun k e => .inl (by simp at e; simp [e]))
 have hR : ∀ k ∈ kb :: v.vj.ownBlock.toList, k ∈ F := fun k e => by
  rcases List.mem_cons.1 e with rfl | e
  · exact h4
  · exact hoF k (QJ e)
 have t3' := t3
 have t4' := t4
 have ho' := ho
 obtain ⟨_, _, j2, _⟩ := t3'
 obtain ⟨_, _, m2, _⟩ := t4'
 obtain ⟨_, _, u2, _⟩ := ho'
 refine ⟨⟨⟨_, Qah hC1 _, QD c0 (by omega), QD c1 (by omega), QD c2 (by omega), Qbd c3, QD c4 (by omega)⟩, ⟨?_, ?_, ?_, ?_⟩, ?_, hm.1 kb h4, ?_⟩, ⟨hk.sub ?_, fun C' hC' => ?_, ?_, hm⟩⟩
 · exact t1.keep (hk.sub fun k e => .inl (hR k e)) hm
 · refine QQ t2 hk fun k e g => ?_
   rcases List.mem_cons.1 g with rfl | g
   · exact QA t2 hC (by decide) e
   · exact Qac t2 j2 (by decide) e (QJ g)
 · exact ho.keep hk2 (fun k e => by simp at e; subst e; exact hm.1 _ h4) (More.refl _ _) (fun k e g => by simp at g; subst g; exact QA u2 hC1 (by decide) e)
 · refine t4.keep hk hR hm fun k e g => ?_
   rcases List.mem_cons.1 g with rfl | g
   · exact QA m2 hC (by decide) e
   · exact Qac m2 j2 (by decide) e (QJ g)
 · intro k hk
   rcases mem_rows.1 hk with e | e | e
   · exact List.mem_append_left _ (h3 k (mem_rows.2 (.inl e)))
   · exact List.mem_append_right _ (by simpa using e)
   · exact List.mem_append_left _ (h3 k (mem_rows.2 (.inr (.inr e))))
 · intro k hk
   rw [World.size_setCell]
   rcases List.mem_append.1 hk with e | e
   · exact Nat.lt_of_lt_of_le (hfin k e) hg.size
   · exact (u2.lt k (QJ e)).2
 · intro k e
   rcases List.mem_cons.1 e with rfl | e
   · exact .inl (by simp)
   · exact .inl (List.mem_cons_of_mem _ (mem_rows.2 (.inr (.inl (QJ e)))))
 · rw [hC] at hC'
   cases hC'
   exact ⟨_, Qah hC1 _, by simp, fun j hj => Qdl (by omega) (by omega) j hj⟩
 · intro k hk
   rcases mem_rows.1 hk with e | e | e
   · exact .inl (mem_rows.2 (.inl e))
   · rcases hw k e with g | g
     · exact .inl (mem_rows.2 (.inr (.inl g)))
     · exact .inr g
   · exact .inl (mem_rows.2 (.inr (.inr e)))
theorem TAt.mails {w w1 : World} {kb o : Nat} {F : List Nat} {v : ThrV} {th : Thr} (h : TAt w kb o F v th) {u : Value} {l : List Mal} (hg : w.grownBy w1 v.vm.ownBlock) (ho : MailsAt w1 (F ++ u.ownBlock.toList) u l) (hw : ∀ k, u.ownBlock = some k → v.vm.ownBlock = some k ∨ w.heap.size ≤ k) :
 TAt (w1.setCell ⟨kb, o + 4, none⟩ u) kb o (F ++ u.ownBlock.toList) { v with vm := u } { th with mails := l } ∧ TStep kb o w F v (w1.setCell ⟨kb, o + 4, none⟩ u) (F ++ u.ownBlock.toList) { v with vm := u } := by
 have hkr := h.kb_rows
 obtain ⟨⟨C, hC, c0, c1, c2, c3, c4⟩, ⟨t1, t2, t3, t4⟩, h3, h4, hfin⟩ := h
 have hoF : ∀ k, v.vm.ownBlock = some k → k ∈ F := fun k e => h3 k (mem_rows.2 (.inr (.inr e)))
 have hm := Qbx w F hoF hw
 have hk1 : KeptF v.vm.ownBlock.toList w w1 := QN hg fun k e => .inl (by rw [e]; simp)
 have hkbne : v.vm.ownBlock ≠ some kb := fun e => hkr (mem_rows.2 (.inr (.inr e)))
 have hC1 : w1.heap[kb]? = some (.cells C 100 (0, 0)) := hk1.heap hC (fun e => hkbne (QJ e))
 have hk2 : KeptF [kb] w1 (w1.setCell ⟨kb, o + 4, none⟩ u) := Qai w1 kb _ _ (by simp)
 have hk : KeptF (kb :: v.vm.ownBlock.toList) w (w1.setCell ⟨kb, o + 4, none⟩ u) := (hk1.sub fun k e => .inl (List.mem_cons_of_mem _ e)).trans (hk2.sub fun k e => .inl (by simp at e; simp [e]))
 have hR : ∀ k ∈ kb :: v.vm.ownBlock.toList, k ∈ F := fun k e => by
  rcases List.mem_cons.1 e with rfl | e
  · exact h4
  · exact hoF k (QJ e)
 have t3' := t3
 have t4' := t4
 have ho' := ho
 obtain ⟨_, _, j2, _⟩ := t3'
 obtain ⟨_, _, m2, _⟩ := t4'
 obtain ⟨_, _, u2, _⟩ := ho'
 refine ⟨⟨⟨_, Qah hC1 _, QD c0 (by omega), QD c1 (by omega), QD c2 (by omega), QD c3 (by omega), Qbd c4⟩, ⟨?_, ?_, ?_, ?_⟩, ?_, hm.1 kb h4, ?_⟩, ⟨hk.sub ?_, fun C' hC' => ?_, ?_, hm⟩⟩
 · exact t1.keep (hk.sub fun k e => .inl (hR k e)) hm
 · refine QQ t2 hk fun k e g => ?_
   rcases List.mem_cons.1 g with rfl | g
   · exact QA t2 hC (by decide) e
   · exact Qac t2 m2 (by decide) e (QJ g)
 · refine t3.keep hk hR hm fun k e g => ?_
   rcases List.mem_cons.1 g with rfl | g
   · exact QA j2 hC (by decide) e
   · exact Qac j2 m2 (by decide) e (QJ g)
 · exact ho.keep hk2 (fun k e => by simp at e; subst e; exact hm.1 _ h4) (More.refl _ _) (fun k e g => by simp at g; subst g; exact QA u2 hC1 (by decide) e)
 · intro k hk
   rcases mem_rows.1 hk with e | e | e
   · exact List.mem_append_left _ (h3 k (mem_rows.2 (.inl e)))
   · exact List.mem_append_left _ (h3 k (mem_rows.2 (.inr (.inl e))))
   · exact List.mem_append_right _ (by simpa using e)
 · intro k hk
   rw [World.size_setCell]
   rcases List.mem_append.1 hk with e | e
   · exact Nat.lt_of_lt_of_le (hfin k e) hg.size
   · exact (u2.lt k (QJ e)).2
 · intro k e
   rcases List.mem_cons.1 e with rfl | e
   · exact .inl (by simp)
   · exact .inl (List.mem_cons_of_mem _ (mem_rows.2 (.inr (.inr (QJ e)))))
 · rw [hC] at hC'
   cases hC'
   exact ⟨_, Qah hC1 _, by simp, fun j hj => Qdl (by omega) (by omega) j hj⟩
 · intro k hk
   rcases mem_rows.1 hk with e | e | e
   · exact .inl (mem_rows.2 (.inl e))
   · exact .inl (mem_rows.2 (.inr (.inl e)))
   · rcases hw k e with g | g
     · exact .inl (mem_rows.2 (.inr (.inr g)))
     · exact .inr g
end Go.Proofs.YtlbdaklmlknmbaaGreat
