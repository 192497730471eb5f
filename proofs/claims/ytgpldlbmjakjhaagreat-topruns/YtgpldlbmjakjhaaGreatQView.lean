/- Rows of acts, and of replies. -/
import Derived.Test.YtgpldlbmjakjhaaGreatQCMove
import Derived.Test.YtgpldlbmjakjhaaGreatQCNew
import Derived.Test.YtgpldlbmjakjhaaGreatQTTrusted
import Derived.Test.YtgpldlbmjakjhaaGreatQPlain
import Derived.ProofKit
import Derived.SizedLaws
import Derived.Deep.SlicePairs
import Derived.Test.YtgpldlbmjakjhaaGreatQPlainWire
import Derived.Lib.SmallJoins
import Derived.Deep.Slices
namespace Go.Proofs.YtgpldlbmjakjhaaGreat
open Go.RowKit Go.Proofs.Parclose

/-- an act, and the values of its lists -/
structure AcV where
  a : Ac
  vl : Value
  vg : Value
def AcV.cells (x : AcV) : List Value := [.int .i64 x.a.kind, .int .i64 x.a.h, .int .i64 x.a.t, .int .i64 x.a.n, .int .i64 x.a.call.kind, .int .i64 x.a.call.h, .int .i64 x.a.call.t, .int .i64 x.a.call.n, .int .i64 x.a.call.c, x.vl, x.vg, .string ⟨x.a.call.text.toArray⟩]
structure AcV.Ok (w : World) (x : AcV) : Prop where
  lab : LabAt w x.vl x.a.call.label
  nums : IntsAt w x.vg x.a.call.grants
theorem AcV.Ok.below {w wr : World} {x : AcV} (h : x.Ok w) (hb : Below w.heap.size w wr) : x.Ok wr := ⟨h.lab.below hb, h.nums.below hb⟩
def flatA (q : List AcV) : List Value := q.flatMap AcV.cells
theorem flatA_cons (x : AcV) (q : List AcV) : flatA (x :: q) = x.cells ++ flatA q := rfl
theorem flatA_len (q : List AcV) : (flatA q).length = q.length * 12 := by
  induction q with
  | nil => rfl
  | cons x r ih =>
    rw [flatA_cons, List.length_append, ih, List.length_cons]
    show 12 + r.length * 12 = _
    omega
theorem flatA_get : ∀ (q : List AcV) (j : Nat) (hj : j < q.length) (i : Nat) (_ : i < 12), (flatA q)[j * 12 + i]? = (q[j]).cells[i]?
  | x :: r, 0, _, i, hi => by
    rw [flatA_cons, List.getElem?_append_left (by show _ < 12; omega)]
    simp
  | x :: r, j + 1, hj, i, hi => by
    rw [flatA_cons, List.getElem?_append_right (by show 12 ≤ _; omega), show (j + 1) * 12 + i - x.cells.length = j * 12 + i by show (j + 1) * 12 + i - 12 = _; omega, flatA_get r j (by simpa using hj) i hi]
    simp
theorem flatA_one {w : World} {q : List AcV} (h : ∀ x ∈ q, x.Ok w) : ∀ u ∈ flatA q, u.oneCell' = true := by
  intro u hu
  obtain ⟨x, hx, hu⟩ := List.mem_flatMap.1 hu
  obtain ⟨⟨pl, cl, el, _⟩, ⟨pg, cg, eg, _⟩⟩ := h x hx
  unfold AcV.cells at hu
  rw [el, eg] at hu
  simp only [List.mem_cons, List.not_mem_nil, or_false] at hu
  rcases hu with h | h | h | h | h | h | h | h | h | h | h | h <;> rw [h] <;> rfl
theorem flatA_take (q : List AcV) (k : Nat) : flatA (q.take k) = (flatA q).take (k * 12) := by
  induction q generalizing k with
  | nil => simp [flatA]
  | cons x r ih =>
    cases k with
    | zero => simp [flatA]
    | succ k =>
      rw [List.take_succ_cons, flatA_cons, flatA_cons, ih, show (k + 1) * 12 = x.cells.length + k * 12 by show _ = 12 + k * 12; omega, List.take_length_add_append]
/-- v is a slice whose elements are the acts l -/
def AcsAt (w : World) (v : Value) (l : List Ac) : Prop := ∃ q : List AcV, q.map (·.a) = l ∧ (∀ x ∈ q, x.Ok w) ∧ ∃ p cap, v = .slice p q.length cap ∧ (q.length ≤ cap ∧ (p = none → cap = 0)) ∧ (0 < q.length → ∃ b o, p = some ⟨b, o, none⟩ ∧ ∀ j u, (flatA q)[j]? = some u → w.cell? ⟨b, o + j, none⟩ = some u)
theorem AcsAt.below {w wr : World} {v : Value} {l : List Ac} (h : AcsAt w v l) (hb : Below w.heap.size w wr) : AcsAt wr v l := by
  obtain ⟨q, h1, h2, p, cap, h3, h4, h5⟩ := h
  refine ⟨q, h1, fun x hx => (h2 x hx).below hb, p, cap, h3, h4, fun h0 => ?_⟩
  obtain ⟨b, o, h6, h7⟩ := h5 h0
  exact ⟨b, o, h6, fun j u hu => by rw [hb.cell (cell_block (h7 j u hu)), h7 j u hu]⟩
theorem AcsAt.slice {w : World} {v : Value} {l : List Ac} (h : AcsAt w v l) : ∃ p cap, v = .slice p l.length cap ∧ l.length ≤ cap ∧ (p = none → cap = 0) := by
  obtain ⟨q, rfl, _, p, cap, rfl, h4, _⟩ := h
  exact ⟨p, cap, by simp, by simpa using h4.1, h4.2⟩
theorem AcsAt.take {w : World} {p : Option Addr} {n cap : Nat} {l : List Ac} (h : AcsAt w (.slice p n cap) l) (k : Nat) (hk : k ≤ l.length) : AcsAt w (.slice p k cap) (l.take k) := by
  obtain ⟨q, rfl, h2, p', cap', e, h4, h5⟩ := h
  injection e with e1 e2 e3
  subst e1 e3
  have hkq : k ≤ q.length := by simpa using hk
  refine ⟨q.take k, by rw [List.map_take], fun x hx => h2 x (List.mem_of_mem_take hx), p, cap, by rw [List.length_take, Nat.min_eq_left hkq], ⟨by rw [List.length_take]; omega, h4.2⟩, fun h0 => ?_⟩
  rw [List.length_take] at h0
  obtain ⟨b, o, h6, h7⟩ := h5 (by omega)
  refine ⟨b, o, h6, fun j u hu => h7 j u ?_⟩
  rw [flatA_take, List.getElem?_take] at hu
  split at hu
  · exact hu
  · cases hu
/-- one act of a row -/
theorem AcsAt.get {w : World} {p : Option Addr} {n cap : Nat} {l : List Ac} (h : AcsAt w (.slice p n cap) l) (j : Nat) (hj : j < l.length) :
    ∃ b o pl cl pg cg, p = some ⟨b, o, none⟩ ∧ LabAt w (.slice pl (l[j]).call.label.length cl) (l[j]).call.label ∧ IntsAt w (.slice pg (l[j]).call.grants.length cg) (l[j]).call.grants ∧
      w.cell? ⟨b, o + j * 12, none⟩ = some (.int .i64 (l[j]).kind) ∧ w.cell? ⟨b, o + j * 12 + 1, none⟩ = some (.int .i64 (l[j]).h) ∧ w.cell? ⟨b, o + j * 12 + 2, none⟩ = some (.int .i64 (l[j]).t) ∧ w.cell? ⟨b, o + j * 12 + 3, none⟩ = some (.int .i64 (l[j]).n) ∧ w.cell? ⟨b, o + j * 12 + 4, none⟩ = some (.int .i64 (l[j]).call.kind) ∧ w.cell? ⟨b, o + j * 12 + 5, none⟩ = some (.int .i64 (l[j]).call.h) ∧ w.cell? ⟨b, o + j * 12 + 6, none⟩ = some (.int .i64 (l[j]).call.t) ∧ w.cell? ⟨b, o + j * 12 + 7, none⟩ = some (.int .i64 (l[j]).call.n) ∧ w.cell? ⟨b, o + j * 12 + 8, none⟩ = some (.int .i64 (l[j]).call.c) ∧ w.cell? ⟨b, o + j * 12 + 9, none⟩ = some (.slice pl (l[j]).call.label.length cl) ∧ w.cell? ⟨b, o + j * 12 + 10, none⟩ = some (.slice pg (l[j]).call.grants.length cg) ∧ w.cell? ⟨b, o + j * 12 + 11, none⟩ = some (.string ⟨(l[j]).call.text.toArray⟩) := by
  obtain ⟨q, rfl, hok, p', cap', e, _, h4⟩ := h
  cases e
  have hjq : j < q.length := by simpa using hj
  obtain ⟨b, o, rfl, hc⟩ := h4 (by omega)
  have ho := hok _ (List.getElem_mem hjq)
  have g : ∀ i, i < 12 → ∀ u, (q[j]).cells[i]? = some u → w.cell? ⟨b, o + j * 12 + i, none⟩ = some u := fun i hi u hu => by
    rw [Nat.add_assoc]
    exact hc _ _ (by rw [flatA_get q j hjq i hi, hu])
  have e : (q.map (·.a))[j] = (q[j]).a := by simp
  rw [e]
  generalize q[j] = x at *
  obtain ⟨f, vl, vg⟩ := x
  obtain ⟨h1, h2⟩ := ho
  simp only at h1 h2 ⊢
  obtain ⟨pl, cl, rfl, _⟩ := id h1
  obtain ⟨pg, cg, rfl, _⟩ := id h2
  exact ⟨b, o, pl, cl, pg, cg, rfl, h1, h2, g 0 (by omega) _ rfl, g 1 (by omega) _ rfl, g 2 (by omega) _ rfl, g 3 (by omega) _ rfl, g 4 (by omega) _ rfl, g 5 (by omega) _ rfl, g 6 (by omega) _ rfl, g 7 (by omega) _ rfl, g 8 (by omega) _ rfl, g 9 (by omega) _ rfl, g 10 (by omega) _ rfl, g 11 (by omega) _ rfl⟩
theorem acts_of_own {w : World} {B : Nat} {v : Value} {q : List AcV} (h : w.ownsRow B 32 12 v q.length (flatA q)) (hok : ∀ x ∈ q, x.Ok w) : AcsAt w v (q.map (·.a)) := by
  refine ⟨q, rfl, hok, ?_⟩
  rcases h.2 with ⟨hn, h0⟩ | ⟨g, cap, cur, rfl, hbg, hgg, h1, h2, h3, h4⟩
  · rw [hn]
    exact ⟨none, 0, by rw [h0], ⟨by omega, fun _ => rfl⟩, fun h => by omega⟩
  · refine ⟨some ⟨g, 0, none⟩, cap, rfl, ⟨h1, fun e => by cases e⟩, fun _ => ⟨g, 0, rfl, fun j u hu => ?_⟩⟩
    have := World.ownsRow.cells h (g := g) rfl _ _ hu
    rwa [WideShapes.add_plain] at this

def repC (r : Rep) : List Value := [.int .i64 r.code, .int .i64 r.n, .string ⟨r.text.toArray⟩]
def flatR (q : List Rep) : List Value := q.flatMap repC
theorem flatR_get : ∀ (q : List Rep) (j : Nat) (hj : j < q.length) (i : Nat) (_ : i < 3), (flatR q)[j * 3 + i]? = (repC q[j])[i]?
  | x :: r, 0, _, i, hi => by
    show (repC x ++ flatR r)[0 * 3 + i]? = _
    rw [List.getElem?_append_left (by show _ < 3; omega)]
    simp
  | x :: r, j + 1, hj, i, hi => by
    show (repC x ++ flatR r)[(j + 1) * 3 + i]? = _
    rw [List.getElem?_append_right (by show 3 ≤ _; omega), show (j + 1) * 3 + i - (repC x).length = j * 3 + i by show (j + 1) * 3 + i - 3 = _; omega, flatR_get r j (by simpa using hj) i hi]
    simp
theorem flatR_snoc (q : List Rep) (r : Rep) : flatR (q ++ [r]) = flatR q ++ repC r := by simp [flatR]
theorem info_reply : (Tryz.prog.info? 35).map (fun i => (i.zero, i.size, i.bytes)) = some (some (.agg #[.int .i64 0, .int .i64 0, .string ⟨#[]⟩]), 3, 32) := by kernel_rfl
/-- append of one reply -/
theorem wpList_reply {w : World} {ops : Array Oper} {rest : List Oper} {o : Oper} {a : Act} {Q : Exit → Act → World → Prop} (hgd : o.guard = none) (s x : Operand)
    (ho : o.op = .call { callee := .builtin .append, args := #[s, x], argTypes := #[68, 68] }) (v : Value) (l : List Rep) (r : Rep) (hs : a.eval s = v) (hown : w.ownsRow 0 35 3 v l.length (flatR l))
    (g c : Nat) (hx : a.eval x = .slice (some ⟨g, 0, none⟩) 1 c) (hc : w.cell? ⟨g, 0, none⟩ = some (.int .i64 r.code) ∧ w.cell? ⟨g, 1, none⟩ = some (.int .i64 r.n) ∧ w.cell? ⟨g, 2, none⟩ = some (.string ⟨r.text.toArray⟩)) (hn : l.length ≤ 1000)
    (h : ∀ v' w', w'.ownsRow 0 35 3 v' (l ++ [r]).length (flatR (l ++ [r])) → w.grownBy w' v.ownBlock → (∀ k, v'.ownBlock = some k → v.ownBlock = some k ∨ w.heap.size ≤ k) → wpList Tryz.prog ops Q rest (a.put o.dst v') w') : wpList Tryz.prog ops Q (o :: rest) a w := by
  refine wpList_plain hgd fun K hK => ?_
  obtain ⟨i0, hi, hz0, hz1, hz2⟩ := info_parts info_reply
  obtain ⟨v', w', hr, k1, k2, k3⟩ := append_where (ty := o.type) (c := c) Tryz.underlying68 hi hz0 hz1 hz2 rfl (by decide) hown (m := 1) (news := repC r) (a := ⟨g, 0, none⟩) rfl (fun j u hu => by
    rw [WideShapes.add_plain, Nat.zero_add]
    have hj : j < 3 := (List.getElem?_eq_some_iff.1 hu).1
    have h3 : j = 0 ∨ j = 1 ∨ j = 2 := by omega
    rcases h3 with rfl | rfl | rfl
    · rw [hc.1]; exact hu
    · rw [hc.2.1]; exact hu
    · rw [hc.2.2]; exact hu) (fun u hu => by simp only [repC, List.mem_cons, List.not_mem_nil, or_false] at hu; rcases hu with h | h | h <;> rw [h] <;> rfl) (by unfold maxLen; omega) (by omega)
  unfold Oper.wp execOp
  simp only [ho, resolve, invoke, builtin, Sem.run_bind, Sem.run_pure, Result.andThen_ok, List.map_toArray, List.map_cons, List.map_nil, hs, hx, hr]
  exact hK _ _ (h v' w' (by rw [List.length_append, flatR_snoc]; exact k1) k2 k3)
/-- a row of replies that grows beside a cluster -/
theorem CluAt.row {w w' : World} {cb : Nat} {G : List Nat} {Z : CluV} {C : Clu} {v v' : Value} {n n' : Nat} {xs xs' : List Value} (h : CluAt w cb G Z C) (hv : w.ownsRow 0 35 3 v n xs) (hin : ∀ k, v.ownBlock = some k → k ∈ G) (hg : w.grownBy w' v.ownBlock) (hv' : w'.ownsRow 0 35 3 v' n' xs') (hw : ∀ k, v'.ownBlock = some k → v.ownBlock = some k ∨ w.heap.size ≤ k) : CluAt w' cb (G ++ v'.ownBlock.toList) Z C := by
  refine h.keep (R := v.ownBlock.toList) (kept_grown hg fun k e => .inl (Option.mem_toList.2 e)) (fun k hk => hin k (Option.mem_toList.1 hk)) ⟨fun k hk => List.mem_append.2 (.inl hk), fun k hk => ?_⟩ (fun k hk e => ?_) (fun k hk => ?_)
  · rcases List.mem_append.1 hk with e | e
    · exact .inl e
    · rcases hw k (Option.mem_toList.1 e) with q | q
      · exact .inl (hin k q)
      · exact .inr q
  · have hvk := Option.mem_toList.1 e
    rcases hv.2 with ⟨rfl, _⟩ | ⟨g, cap, cur, rfl, _, hh, _⟩
    · cases hvk
    · cases hvk
      exact h.notown hh (by decide) (by decide) (by decide) (by decide) (by decide) (by decide) hk
  · rcases List.mem_append.1 hk with e | e
    · exact Nat.lt_of_lt_of_le (h.fin k e) hg.size
    · have hvk := Option.mem_toList.1 e
      rcases hv'.2 with ⟨rfl, _⟩ | ⟨g, cap, cur, rfl, _, hh, _⟩
      · cases hvk
      · cases hvk; exact heap_lt hh
end Go.Proofs.YtgpldlbmjakjhaaGreat

namespace Go.Proofs.YtgpldlbmjakjhaaGreat
open Go.RowKit Go.Proofs.Parclose

theorem roLab_old {w w' : World} {G : List Nat} {v : Value} {l : List (Int × Int)} (h : LabAt w v l) (hG : ∀ k ∈ G, w.heap.size ≤ k) (h' : LabAt w' v l) : RoLab w' G v l := ⟨h', fun h0 k hk hn => by
  obtain ⟨p, cap, rfl, _, _, hc⟩ := h
  obtain ⟨b, o, rfl, hcs⟩ := hc h0
  cases hk
  have h1 : b < w.heap.size := cell_block (hcs 0 h0).1
  have h2 : w.heap.size ≤ b := hG _ hn
  omega⟩
theorem roInts_old {w w' : World} {G : List Nat} {v : Value} {l : List Int} (h : IntsAt w v l) (hG : ∀ k ∈ G, w.heap.size ≤ k) (h' : IntsAt w' v l) : RoInts w' G v l := ⟨h', fun h0 k hk hn => by
  obtain ⟨p, cap, rfl, _, _, hc⟩ := h
  obtain ⟨b, o, rfl, hcs⟩ := hc h0
  cases hk
  have h1 : b < w.heap.size := cell_block (hcs 0 h0)
  have h2 : w.heap.size ≤ b := hG _ hn
  omega⟩
theorem own_raise {w : World} {B : Nat} {e : TypeId} {s : Nat} {v : Value} {n : Nat} {xs : List Value} (h : w.ownsRow 0 e s v n xs) (hb : ∀ k, v.ownBlock = some k → B ≤ k) : w.ownsRow B e s v n xs := by
  refine ⟨h.1, ?_⟩
  rcases h.2 with h2 | ⟨g, cap, cur, rfl, _, h3⟩
  · exact .inl h2
  · exact .inr ⟨g, cap, cur, rfl, hb g rfl, h3⟩
theorem playC_snoc : ∀ (l : List Ac) (C : Clu) (a : Ac), playC C (l ++ [a]) = (doC (playC C l) a).1
  | [], _, _ => rfl
  | b :: r, C, a => playC_snoc r (doC C b).1 a
theorem runC_snoc : ∀ (l : List Ac) (C : Clu) (a : Ac), runC C (l ++ [a]) = runC C l ++ [(doC (playC C l) a).2]
  | [], _, _ => rfl
  | b :: r, C, a => by
    show (doC C b).2 :: runC (doC C b).1 (r ++ [a]) = (doC C b).2 :: (runC (doC C b).1 r ++ [(doC (playC (doC C b).1 r) a).2])
    rw [runC_snoc r]
theorem playC_good : ∀ (l : List Ac) {C : Clu} (_ : GoodC C), GoodC (playC C l)
  | [], _, h => h
  | a :: r, _, h => playC_good r (doC_good h a)
theorem row_keep {w w' : World} {cb : Nat} {F G : List Nat} {Z Z' : CluV} {C : Clu} {v : Value} {n : Nat} {xs : List Value} (hs : CStep cb w F Z w' G Z') (hc : CluAt w cb F Z C) (hv : w.ownsRow 0 35 3 v n xs) : w'.ownsRow 0 35 3 v n xs := by
  refine own_keep hv hs.kept fun k hk e => ?_
  rcases hv.2 with ⟨rfl, _⟩ | ⟨g, cap, cur, rfl, _, hh, _⟩
  · cases hk
  · cases hk
    exact hc.notown hh (by decide) (by decide) (by decide) (by decide) (by decide) (by decide) e

set_option maxRecDepth 100000 in
set_option maxHeartbeats 3200000 in
theorem crun_any (v : Value) (l : List Ac) (w : World) (hv : AcsAt w v l) (hl : l.length ≤ 300) :
    Calls Tryz.prog 27 #[v] w fun e w' => ∃ p c, e = .returned (.tuple #[.slice p l.length c, .int .i64 0]) ∧ w'.ownsRow w.heap.size 35 3 (.slice p l.length c) l.length (flatR (runC freshClu l)) ∧ Below w.heap.size w w' := by
  have HV := hid hv
  obtain ⟨p, cap, rfl, hlc, _⟩ := hv.slice
  clear hv
  obtain ⟨i0, hi, hz0, hz1, hz2⟩ := info_parts info_reply
  have h3 : ¬ ((300 : Int) < (l.length : Int)) := by omega
  go_enter Tryz.func27, Tryz.ntmps27
  go_wp2_with fail
  refine (cnew_any w).mono ?_
  rintro e w1 ⟨rfl, ⟨kp, F, hc1, hF⟩, hw1⟩
  go_wp2_with (at_make; refine wpList_make_own _ rfl _ _ 68 rfl w1.heap.size 35 i0 (.agg #[.int .i64 0, .int .i64 0, .string ⟨#[]⟩]) 3 Tryz.underlying68 hi hz0 hz1 _ _ _ l.length rfl rfl (by omega) ?b2 ?b3 (Nat.le_refl _) ?_)
  case b2 => rw [hz2]; omega
  case b3 => unfold maxLen; omega
  intro w0 hown0 hgrow0
  have HC0 := hid (hc1.row (v := .slice none 0 0) (World.ownsRow_nil _ _ _ _) (fun k hk => by cases hk) hgrow0 (own_base_le hown0 (Nat.zero_le _)) (fun k hk => .inr (own_base hown0 hk)))
  have HW0 : Hid (Below w.heap.size w w0) := hid (hw1.grown hgrow0 hw1.size (fun k h => by cases h))
  have HF0 : Hid (∀ k ∈ F ++ Option.toList (some w1.heap.size), w.heap.size ≤ k) := hid (fun k hk => by
    rcases List.mem_append.1 hk with e | e
    · exact hF k e
    · have e2 := Option.mem_toList.1 e
      injection e2 with e2
      rw [← e2]; exact hw1.size)
  have HO0 := hid (own_base_le (base' := 0) hown0 (Nat.zero_le _))
  clear hc1 hF hgrow0 hw1
  go_wp2
  go_loopw [5, 17] (fun v i wr => ∃ (k : Nat) (G : List Nat) (Z' : CluV) (pr : Option Addr) (cr : Nat), k ≤ l.length ∧ i = .int .i64 k ∧ v = .slice pr k cr ∧ wr.ownsRow 0 35 3 (.slice pr k cr) k (flatR (runC freshClu (l.take k))) ∧ (∀ b, (Value.slice pr k cr).ownBlock = some b → b ∈ G) ∧ CluAt wr w.heap.size G Z' (playC freshClu (l.take k)) ∧ Below w.heap.size w wr ∧ (∀ b ∈ G, w.heap.size ≤ b)) (fun _ i _ => l.length - (intOf i).toNat)
  case atStart => exact ⟨0, _, _, _, _, Nat.zero_le _, rfl, rfl, HO0.out, fun b hb => List.mem_append.2 (.inr (Option.mem_toList.2 hb)), HC0.out, HW0.out, HF0.out⟩
  case round =>
    clear HC0 HW0 HF0 HO0 hown0
    obtain ⟨k, G, Z', pr, cr, hk, rfl, rfl, hrow, hin, hck, hbw, hG⟩ := hrel
    have HROW := hid hrow
    have HCK := hid hck
    have HBW := hid hbw
    have HGG := hid hG
    have HIN := hid hin
    have hsz := hbw.size
    clear hrow hck hbw hG hin
    by_cases hlt : k < l.length
    · have hI : (k : Int) < (l.length : Int) := by omega
      obtain ⟨b, o, pl, cl, pg, cg, rfl, hla, hin2, q0, q1, q2, q3, q4, q5, q6, q7, q8, q9, q10, q11⟩ := HV.out.get k hlt
      have HRS : Hid (runC freshClu (l.take (k + 1)) = runC freshClu (l.take k) ++ [(doC (playC freshClu (l.take k)) l[k]).2]) := hid (by rw [← List.take_append_getElem hlt, runC_snoc])
      have HPS : Hid (playC freshClu (l.take (k + 1)) = (doC (playC freshClu (l.take k)) l[k]).1) := hid (by rw [← List.take_append_getElem hlt, playC_snoc])
      have HGD := hid (playC_good (l.take k) freshC_good)
      have HLR : Hid ((runC freshClu (l.take k)).length = k) := hid (by rw [runC_length, List.length_take]; omega)
      generalize l[k] = a at *
      generalize playC freshClu (l.take k) = Ck at *
      generalize runC freshClu (l.take k) = rk at *
      have r0 := (HBW.out.cell (cell_block q0)).trans q0
      have r1 := (HBW.out.cell (cell_block q1)).trans q1
      have r2 := (HBW.out.cell (cell_block q2)).trans q2
      have r3 := (HBW.out.cell (cell_block q3)).trans q3
      have r4 := (HBW.out.cell (cell_block q4)).trans q4
      have r5 := (HBW.out.cell (cell_block q5)).trans q5
      have r6 := (HBW.out.cell (cell_block q6)).trans q6
      have r7 := (HBW.out.cell (cell_block q7)).trans q7
      have r8 := (HBW.out.cell (cell_block q8)).trans q8
      have r9 := (HBW.out.cell (cell_block q9)).trans q9
      have r10 := (HBW.out.cell (cell_block q10)).trans q10
      have r11 := (HBW.out.cell (cell_block q11)).trans q11
      have hbl := Nat.lt_of_lt_of_le (cell_block q0) hsz
      have hbx := below_box wr (.cells #[.int .i64 a.kind, .int .i64 a.h, .int .i64 a.t, .int .i64 a.n, .int .i64 a.call.kind, .int .i64 a.call.h, .int .i64 a.call.t, .int .i64 a.call.n, .int .i64 a.call.c, .slice pl a.call.label.length cl, .slice pg a.call.grants.length cg, .string ⟨a.call.text.toArray⟩] 32)
      have hdo := cdo_any w.heap.size G Z' Ck _ a (wr.alloc (.cells #[.int .i64 a.kind, .int .i64 a.h, .int .i64 a.t, .int .i64 a.n, .int .i64 a.call.kind, .int .i64 a.call.h, .int .i64 a.call.t, .int .i64 a.call.n, .int .i64 a.call.c, .slice pl a.call.label.length cl, .slice pg a.call.grants.length cg, .string ⟨a.call.text.toArray⟩] 32)) (HCK.out.below hbx) HGD.out ⟨_, _, rfl, roLab_old hla HGG.out ((hla.below HBW.out).below hbx), roInts_old hin2 HGG.out ((hin2.below HBW.out).below hbx)⟩
      unfold acV at hdo
      have HC1 := hid (HCK.out.below hbx)
      have HBX := hid hbx
      have HR1 := hid (own_later HROW.out hbx)
      clear hla hin2 q0 q1 q2 q3 q4 q5 q6 q7 q8 q9 q10 q11 hbx
      generalize doC Ck a = R at *
      obtain ⟨C2, r⟩ := R
      simp only at hdo HRS HPS
      go_wp2_with (first
        | (go_at_call 22; refine hdo.mono ?_; rintro e w5 ⟨rfl, G5, Z5, hc5, hs5⟩; have HR5 := hid (row_keep hs5 HC1.out HR1.out); obtain ⟨hb5, hG5⟩ := hs5.low HC1.out HGG.out (Nat.le_trans hsz HBX.out.size); have HB5 := hid hb5; have HG5 := hid hG5; have HM5 := hid hs5.more; have HC5 := hid hc5; clear hs5 hc5 hb5 hG5 hdo)
        | (at_builtin; refine wpList_reply rfl _ _ rfl _ rk r rfl (by rw [HLR.out]; exact own_later HR5.out (below_box w5 _)) w5.heap.size 1 rfl ⟨World.cell?_alloc_mark w5 _ _ _ 0, World.cell?_alloc_mark w5 _ _ _ 1, World.cell?_alloc_mark w5 _ _ _ 2⟩ (by rw [HLR.out]; omega) ?_; intro v6 w6 hown6 hgrow6 hwh6))
      have hlen6 : (rk ++ [r]).length = k + 1 := by rw [List.length_append, HLR.out]; rfl
      rw [hlen6] at hown6
      obtain ⟨p6, c6, e6⟩ := own_slice hown6
      subst e6
      have hbx5 := below_box w5 (.cells #[.int .i64 r.code, .int .i64 r.n, .string ⟨r.text.toArray⟩] 35)
      have hC6 := (HC5.out.below hbx5).row (own_later HR5.out hbx5) (fun b hb => HM5.out.1 b (HIN.out b hb)) hgrow6 hown6 hwh6
      have hB6 : Below w.heap.size w w6 := by
        have h1 := below_then HBW.out HBX.out
        have h2 := Below.trans' h1 HB5.out
        have h3 := below_then h2 hbx5
        exact h3.grown hgrow6 h3.size (fun b hb => HG5.out b (HM5.out.1 b (HIN.out b hb)))
      have hG6 : ∀ b ∈ G5 ++ (Value.slice p6 (k + 1) c6).ownBlock.toList, w.heap.size ≤ b := fun b hb => by
        rcases List.mem_append.1 hb with e | e
        · exact HG5.out b e
        · rcases hwh6 b (Option.mem_toList.1 e) with q | q
          · exact HG5.out b (HM5.out.1 b (HIN.out b q))
          · have := hB6.size
            have h7 := (Below.trans' (below_then HBW.out HBX.out) HB5.out).size
            have h8 := hbx5.size
            omega
      go_roundw
      case rel => exact ⟨k + 1, _, Z5, p6, c6, hlt, by go_num, rfl, by rw [HRS.out]; exact hown6, fun b hb => List.mem_append.2 (.inr (Option.mem_toList.2 hb)), by rw [HPS.out]; exact hC6, hB6, hG6⟩
      case measure => simp [intOf]; omega
    · have hkl : k = l.length := by omega
      subst hkl
      have HE : Hid (l.take l.length = l) := hid List.take_length
      go_wp2
      go_ret2
      have hR := HROW.out
      rw [HE.out] at hR
      exact ⟨_, _, rfl, own_raise hR (fun b hb => HGG.out b (HIN.out b hb)), HBW.out⟩
end Go.Proofs.YtgpldlbmjakjhaaGreat

namespace Go.Proofs.YtgpldlbmjakjhaaGreat
open Go.RowKit Go.Proofs.Parclose

theorem info_actz : (Tryz.prog.info? 32).map (fun i => (i.zero, i.size, i.bytes)) = some (some (.agg #[.int .i64 0, .int .i64 0, .int .i64 0, .int .i64 0, .int .i64 0, .int .i64 0, .int .i64 0, .int .i64 0, .int .i64 0, .slice none 0 0, .slice none 0 0, .string ⟨#[]⟩]), 12, 136) := by kernel_rfl
/-- append of a row of acts to none -/
theorem wpList_acts {w : World} {ops : Array Oper} {rest : List Oper} {o : Oper} {a : Act} {Q : Exit → Act → World → Prop} (hgd : o.guard = none) (s x : Operand)
    (ho : o.op = .call { callee := .builtin .append, args := #[s, x], argTypes := #[22, 22] }) (v : Value) (l : List Ac) (hs : a.eval s = .slice none 0 0) (hx : a.eval x = v) (hv : AcsAt w v l) (hl : l.length ≤ 1000)
    (h : ∀ v' w', AcsAt w' v' l → Below w.heap.size w w' → wpList Tryz.prog ops Q rest (a.put o.dst v') w') : wpList Tryz.prog ops Q (o :: rest) a w := by
  obtain ⟨i0, hi, hz0, hz1, hz2⟩ := info_parts info_actz
  obtain ⟨q, rfl, hok, p, cap, rfl, hlc, hcells⟩ := hv
  have hlq : q.length ≤ 1000 := by simpa using hl
  cases p with
  | none =>
    have h0 : q.length = 0 := by have := hlc.2 rfl; omega
    have hq : q = [] := List.length_eq_zero_iff.1 h0
    subst hq
    have ec : cap = 0 := hlc.2 rfl
    subst ec
    exact wpList_append_own_none hgd s x 22 ho w.heap.size 32 i0 12 Tryz.underlying22 hi _ 0 [] hs (World.ownsRow_nil _ _ _ _) hx (h _ w ⟨[], rfl, fun x hx => (by cases hx), none, 0, rfl, ⟨Nat.le_refl _, fun _ => rfl⟩, fun h => (by cases h)⟩ (Below.refl _ _))
  | some ad =>
    refine wpList_append_own w hgd s x 22 ho w.heap.size 32 i0 _ 12 136 Tryz.underlying22 hi hz0 hz1 hz2 rfl (by decide) _ 0 [] hs (World.ownsRow_nil _ _ _ _) ad q.length cap (flatA q) hx (flatA_len q) (fun j u hu => ?_) (flatA_one hok) (by unfold maxLen; omega) (by omega) (Nat.le_refl _) ?_
    · have hj := (List.getElem?_eq_some_iff.1 hu).1
      rw [flatA_len] at hj
      obtain ⟨b, o, e, hc⟩ := hcells (by omega)
      cases e
      rw [WideShapes.add_plain]
      exact hc j u hu
    · intro v6 w6 hown6 hgrow6 hnil6
      have hb6 : Below w.heap.size w w6 := (Below.refl _ _).grown hgrow6 (Nat.le_refl _) (fun k hk => by cases hk)
      rw [Nat.zero_add, List.nil_append] at hown6
      exact h v6 w6 (acts_of_own hown6 (fun x hx => (hok x hx).below hb6)) hb6
theorem tpick_any (k n : Int) (w : World) (hn : 0 < n) (hn2 : n ≤ 1099511627776) : Calls Tryz.prog 20 #[.int .i64 k, .int .i64 n] w fun e w' => ∃ p : Nat, e = .returned (.int .i64 p) ∧ (p : Int) < n ∧ w' = w := by
  have hne : n ≠ 0 := by omega
  have h1 := Int.tmod_lt_of_pos k hn
  have h2 : -n < k.tmod n := by have := Int.lt_tmod_of_pos k hn; omega
  by_cases hneg : k.tmod n < 0
  · go_enter Tryz.func20, Tryz.ntmps20
    go_wp2
    go_ret
    refine ⟨(k.tmod n + n).toNat, ret_int ?_, by omega, rfl⟩
    omega
  · go_enter Tryz.func20, Tryz.ntmps20
    go_wp2
    go_ret
    refine ⟨(k.tmod n).toNat, ret_int ?_, by omega, rfl⟩
    omega
theorem row_cells {w : World} {B : Nat} {p : Option Addr} {n c : Nat} {rs : List Rep} (h : w.ownsRow B 35 3 (.slice p n c) n (flatR rs)) (hn : rs.length = n) (j : Nat) (hj : j < rs.length) : ∃ g, p = some ⟨g, 0, none⟩ ∧ w.cell? ⟨g, j * 3, none⟩ = some (.int .i64 (rs[j]).code) ∧ w.cell? ⟨g, j * 3 + 1, none⟩ = some (.int .i64 (rs[j]).n) ∧ w.cell? ⟨g, j * 3 + 2, none⟩ = some (.string ⟨(rs[j]).text.toArray⟩) := by
  rcases h.2 with ⟨_, h0⟩ | ⟨g, cap, cur, e, _⟩
  · omega
  · injection e with e1 _ _
    subst e1
    have g3 : ∀ i, i < 3 → ∀ u, (repC rs[j])[i]? = some u → w.cell? ⟨g, j * 3 + i, none⟩ = some u := fun i hi u hu => by
      have := World.ownsRow.cells h (g := g) rfl (j * 3 + i) u (by rw [flatR_get rs j hj i hi, hu])
      rwa [WideShapes.add_plain, Nat.zero_add] at this
    exact ⟨g, rfl, g3 0 (by omega) _ rfl, g3 1 (by omega) _ rfl, g3 2 (by omega) _ rfl⟩

set_option maxRecDepth 100000 in
set_option maxHeartbeats 6400000 in
theorem topRuns_any (v : Value) (l : List Ac) (k : Int) (w : World) (hv : AcsAt w v l) :
    Calls Tryz.prog 6 #[v, .int .i64 k] w fun e w' => e = .returned (.bool true) ∧ Below w.heap.size w w' := by
  have HV := hid hv
  obtain ⟨p, cap, rfl, hlc, hpn⟩ := hv.slice
  have hal := talive_any
  clear hv
  by_cases h120 : 120 < l.length
  · have h1 : (120 : Int) < (l.length : Int) := by omega
    clear hpn
    go_enter Tryz.func6, Tryz.ntmps6
    go_upto_region 2 with (go_at_call 26; refine (hal _).mono ?_; rintro e w1 ⟨rfl, hw1⟩)
    go_wp2_with (go_at_call 26; refine (hal _).mono ?_; rintro e w2 ⟨rfl, hw2⟩)
    go_ret
    exact ⟨rfl, below_then hw1 hw2⟩
  · have h1 : ¬ ((120 : Int) < (l.length : Int)) := by omega
    have hwr : IntKind.i64.wrap ((l.length : Int) + 1) = (l.length : Int) + 1 := Go.wrap_small _ (by omega) (by omega)
    go_enter Tryz.func6, Tryz.ntmps6
    go_upto_region 3 with (go_at_call 26; refine (hal _).mono ?_; rintro e w1 ⟨rfl, hw1⟩)
    go_upto_region 4 with (go_at_call 20; refine (tpick_any k _ _ (by omega) (by omega)).mono ?_; rintro e w2 ⟨kk, rfl, hkk, hw2⟩; rw [hw2]; clear hw2)
    have hkl : kk ≤ l.length := by omega
    have HV1 := hid (HV.out.below hw1)
    go_upto_region 5 with (first
      | (at_builtin; refine wpList_acts rfl _ _ rfl _ l rfl rfl HV1.out (by omega) ?_; intro v3 w3 hv3 hw3)
      | (go_at_call 27; refine (crun_any v3 l w3 hv3 (by omega)).mono ?_; rintro e w4 ⟨pa, ca, rfl, hra, hw4⟩))
    have HB4 := hid (below_then (below_then hw1 hw3) hw4)
    have HRA := hid hra
    have HV4 := hid ((HV.out.below HB4.out).take kk hkl)
    have K0 : (0 : Int) ≤ kk := by omega
    have K1 : (kk : Int) ≤ cap := by omega
    have K2 : ¬ ((cap : Int) < kk) := by omega
    have HLT : Hid ((l.take kk).length = kk) := hid (by rw [List.length_take]; omega)
    clear hra HV1 hv3 hpn
    go_upto_region 6 with (first
      | (at_builtin; refine wpList_acts rfl _ _ rfl _ (l.take kk) rfl rfl HV4.out (by rw [HLT.out]; omega) ?_; intro v5 w5 hv5 hw5)
      | (go_at_call 27; have hrun := crun_any v5 (l.take kk) w5 hv5 (by rw [HLT.out]; omega); rw [HLT.out] at hrun; refine hrun.mono ?_; clear hrun; rintro e w6 ⟨pb, cbb, rfl, hrb, hw6⟩))
    have HRA6 := hid (own_later (own_later HRA.out hw5) hw6)
    have HRB6 := hid hrb
    have HB6 := hid (below_then (below_then HB4.out hw5) hw6)
    have HRT : Hid (runC freshClu (l.take kk) = (runC freshClu l).take kk) := hid (runC_take l freshClu kk)
    have HRL : Hid ((runC freshClu l).length = l.length) := hid (runC_length l freshClu)
    clear hrb HRA HV4 hv5
    generalize runC freshClu l = ra at *
    generalize runC freshClu (l.take kk) = rb at *
    go_wp2_with fail
    go_loopw [9] (fun i wr => ∃ j : Nat, j ≤ kk ∧ i = .int .i64 j ∧ Below w6.heap.size w6 wr) (fun i _ => kk - (intOf i).toNat)
    case atStart => exact ⟨0, Nat.zero_le _, rfl, Below.refl _ _⟩
    case round =>
      obtain ⟨j, hj, rfl, hbr⟩ := hrel
      by_cases hlt : j < kk
      · have hI : (j : Int) < (kk : Int) := by omega
        have hJ : (j : Int) < (l.length : Int) := by omega
        have J0 : (0 : Int) ≤ j := by omega
        have hja : j < ra.length := by rw [HRL.out]; omega
        have hjb : j < rb.length := by rw [HRT.out, List.length_take, HRL.out]; omega
        obtain ⟨ga, rfl, a0, a1, a2⟩ := row_cells (own_later HRA6.out hbr) HRL.out j hja
        obtain ⟨gb, rfl, b0, b1, b2⟩ := row_cells (own_later HRB6.out hbr) (by rw [HRT.out, List.length_take, HRL.out]; omega) j hjb
        have er : rb[j] = ra[j] := by simp [HRT.out]
        rw [er] at b0 b1 b2
        generalize ra[j] = r at *
        clear er hja hjb
        go_wp2_with fail
        go_quiet (fail)
        go_wp2
        go_roundw
        case rel => exact ⟨j + 1, hlt, by go_num, below_then hbr (below_drewN _ _)⟩
        case measure => simp [intOf]; omega
      · have hjk : j = kk := by omega
        subst hjk
        go_wp2
        go_ret
        exact ⟨rfl, below_then HB6.out hbr⟩
end Go.Proofs.YtgpldlbmjakjhaaGreat

namespace Go.Proofs.YtgpldlbmjakjhaaGreat
open Go.ChangeShapes Go.WideShapes Go.ChangeAt Go.RowKit Go.Deep

theorem own : ownKnob Tryz.prog.godebug = none := by kernel_rfl
theorem laidOut : laidOutB Tryz.prog = true := by kernel_rfl
theorem cellsInt : Tryz.prog.cellsOf 3 = 1 := by kernel_rfl
theorem cellsLevel : Tryz.prog.cellsOf 74 = 2 := by kernel_rfl
theorem bytesInt : Tryz.prog.bytesOf 3 = 8 := by kernel_rfl
theorem bytesLevel : Tryz.prog.bytesOf 74 = 16 := by kernel_rfl

end Go.Proofs.YtgpldlbmjakjhaaGreat

namespace Go.Proofs.YtgpldlbmjakjhaaGreat
open Go.ChangeShapes Go.WideShapes Go.ChangeAt Go.RowKit Go.Deep Go.Joins Go.Proofs.Parclose

theorem cellsLabel : Tryz.prog.cellsOf 27 = 1 := by kernel_rfl
theorem cellsInts : Tryz.prog.cellsOf 28 = 1 := by kernel_rfl
theorem cellsString : Tryz.prog.cellsOf 9 = 1 := by kernel_rfl
theorem sized_agg {H : Type} {ts : List TypeId} {ds : List (DataW H)} (h : (DataW.weightsEach Tryz.prog ts ds).all (· ≤ reachBytes) = true) {j : Nat} {t : TypeId} {fs : Array Field} {parts : List (DataW H)} (ht : ts[j]? = some t) (hd : ds[j]? = some (.agg parts)) (hu : Tryz.prog.underlying t = some (.struct fs)) :
    (DataW.weightsEach Tryz.prog (fs.toList.map (·.type)) parts).all (· ≤ reachBytes) = true := by
  rw [List.all_eq_true] at h ⊢
  intro n hn
  exact h n (DataW.weights_mem_each ht hd n (by simpa [DataW.weights, hu] using hn))

set_option maxRecDepth 100000 in
theorem view_lab_c {H : Type} {enc : TypeId × Value → H} {W : World} {v : Value} {y : DataW H × List MemPlace} {fuel : Nat}
    (hf : DataW.trod enc Tryz.prog W 0 (fun _ => true) true fuel 27 [v] = some y) (hs : ∀ elems spare, y.1 = .slice elems spare → (elems.length + spare.length) * 16 ≤ reachBytes) : ∃ l, LabAt W v l ∧ WfL l := by
  rcases open_slice_pairs Tryz.underlying27 Tryz.underlying74 cellsLevel rfl rfl cellsInt cellsInt hf with ⟨hcs, hx⟩ | ⟨a, len, cap, m, n, V0, V1, D0, D1, P0, P1, hcs, _, hl, hm, hmm, hx, hcell⟩
  · cases hcs
    exact ⟨[], LabAt.nil W none 0 (fun _ => rfl), fun x hx => by cases hx⟩
  · cases hcs
    obtain ⟨y1, y2⟩ := y
    simp only [Prod.mk.injEq] at hx
    obtain ⟨hd, _⟩ := hx
    simp only [if_true] at hmm
    subst hmm
    have hcap := hs _ _ hd
    simp only [List.length_map, List.length_range, reachBytes] at hcap
    have each : ∀ i, i < m → ∃ q : Int × Int, W.cell? (a.add (i * 2)) = some (.int .i64 q.1) ∧ W.cell? (a.add (i * 2 + 1)) = some (.int .i64 q.2) ∧ (Lit.int .i64 q.1).wf = true ∧ (Lit.int .i64 q.2).wf = true := by
      intro i hi
      obtain ⟨h1, h2, h3, h4⟩ := hcell i hi
      obtain ⟨x, e1, _, wx⟩ := DataW.trod_int Tryz.underlying3 h3
      obtain ⟨y, e2, _, wy⟩ := DataW.trod_int Tryz.underlying3 h4
      simp only [List.cons.injEq, and_true] at e1 e2
      exact ⟨(x, y), by rw [h1, e1], by rw [h2, e2], wx, wy⟩
    obtain ⟨q, hq⟩ := choose_lt each
    refine ⟨(List.range len).map q, ⟨some a, m, by simp, ⟨by simpa using hl, fun h => by cases h⟩, by simp; omega, fun h0 => ?_⟩, ?_⟩
    rotate_left
    · intro x hx
      obtain ⟨i, hi, e⟩ := List.mem_map.1 hx
      subst e
      exact ⟨(hq i (by have := List.mem_range.1 hi; omega)).2.2.1, (hq i (by have := List.mem_range.1 hi; omega)).2.2.2⟩
    simp only [List.length_map, List.length_range] at h0
    obtain ⟨b, off, spot⟩ := a
    have hspot : spot = none := by simpa [Addr.add] using World.cell?_spot (hq 0 (by omega)).1
    subst hspot
    refine ⟨b, off, rfl, fun j hj => ?_⟩
    simp only [List.length_map, List.length_range] at hj
    obtain ⟨h1, h2, _⟩ := hq j (by omega)
    rw [add_plain] at h1 h2
    refine ⟨by simpa using h1, by rw [Nat.add_assoc]; simpa using h2⟩

set_option maxRecDepth 100000 in
theorem view_ints_c {H : Type} {enc : TypeId × Value → H} {W : World} {v : Value} {y : DataW H × List MemPlace} {fuel : Nat}
    (hf : DataW.trod enc Tryz.prog W 0 (fun _ => true) true fuel 28 [v] = some y) (hs : ∀ elems spare, y.1 = .slice elems spare → (elems.length + spare.length) * 8 ≤ reachBytes) : ∃ zs, IntsAt W v zs ∧ ∀ z ∈ zs, (Lit.int .i64 z).wf = true := by
  rcases open_ints Tryz.underlying28 Tryz.underlying3 cellsInt hf with ⟨hcs, hx⟩ | ⟨a, len, cap, zs, hcs, _, hl, hm, hz, hx, hcell, hwz⟩
  · cases hcs
    exact ⟨[], IntsAt.nil W none 0 (fun _ => rfl), fun z hz => by cases hz⟩
  · cases hcs
    obtain ⟨y1, y2⟩ := y
    simp only [Prod.mk.injEq] at hx
    obtain ⟨hd, _⟩ := hx
    simp only [if_true] at hz
    have hcap := hs _ _ hd
    simp only [lits, List.length_map, List.length_take, List.length_drop, reachBytes] at hcap
    refine ⟨zs.take len, ⟨some a, cap, by simp; omega, ⟨by simp; omega, fun h => by cases h⟩, by simp; omega, fun h0 => ?_⟩, fun z hz2 => hwz z (List.mem_of_mem_take hz2)⟩
    simp only [List.length_take] at h0
    obtain ⟨b, off, spot⟩ := a
    have hspot : spot = none := by simpa [Addr.add] using World.cell?_spot (hcell 0 (by omega))
    subst hspot
    refine ⟨b, off, rfl, fun j hj => ?_⟩
    simp only [List.length_take] at hj
    have h1 := hcell j (by omega)
    rw [add_plain] at h1
    rw [h1]
    have hj2 : j < zs.length := by omega
    simp [List.getD, hj2]
end Go.Proofs.YtgpldlbmjakjhaaGreat

namespace Go.Proofs.YtgpldlbmjakjhaaGreat
open Go.ChangeShapes Go.WideShapes Go.ChangeAt Go.RowKit Go.Deep Go.Joins Go.Proofs.Parclose

theorem cellsAct : Tryz.prog.cellsOf 32 = 12 := by kernel_rfl
theorem cellsCallA : Tryz.prog.cellsOf 30 = 8 := by kernel_rfl
theorem list5a {α : Type} {l : List α} (h : l.length = 5) : ∃ c0 c1 c2 c3 c4, l = [c0, c1, c2, c3, c4] := by
  match l, h with
  | [c0, c1, c2, c3, c4], _ => exact ⟨c0, c1, c2, c3, c4, rfl⟩
theorem list8a {α : Type} {l : List α} (h : l.length = 8) : ∃ c0 c1 c2 c3 c4 c5 c6 c7, l = [c0, c1, c2, c3, c4, c5, c6, c7] := by
  match l, h with
  | [c0, c1, c2, c3, c4, c5, c6, c7], _ => exact ⟨c0, c1, c2, c3, c4, c5, c6, c7, rfl⟩
theorem list12a {α : Type} {l : List α} (h : l.length = 12) : ∃ c0 c1 c2 c3 c4 c5 c6 c7 c8 c9 c10 c11, l = [c0, c1, c2, c3, c4, c5, c6, c7, c8, c9, c10, c11] := by
  match l, h with
  | [c0, c1, c2, c3, c4, c5, c6, c7, c8, c9, c10, c11], _ => exact ⟨c0, c1, c2, c3, c4, c5, c6, c7, c8, c9, c10, c11, rfl⟩

set_option maxRecDepth 100000 in
set_option maxHeartbeats 1600000 in
theorem view_act_c {H : Type} {enc : TypeId × Value → H} {W : World} {cs : List Value} {y : DataW H × List MemPlace} {fuel : Nat} (hlen : cs.length = 12)
    (hf : DataW.trod enc Tryz.prog W 0 (fun _ => true) true fuel 32 cs = some y) (hw : (DataW.weights Tryz.prog 32 y.1).all (· ≤ reachBytes) = true) :
    ∃ (x : Ac) (vl vg : Value), cs = [.int .i64 x.kind, .int .i64 x.h, .int .i64 x.t, .int .i64 x.n, .int .i64 x.call.kind, .int .i64 x.call.h, .int .i64 x.call.t, .int .i64 x.call.n, .int .i64 x.call.c, vl, vg, .string ⟨x.call.text.toArray⟩] ∧ LabAt W vl x.call.label ∧ IntsAt W vg x.call.grants := by
  obtain ⟨d0, d1, d2, d3, d4, d5, d6, d7, d8, d9, d10, d11, rfl⟩ := list12a hlen
  obtain ⟨xs, n, _, hx, _, hl, hg⟩ := DataW.trod_struct Tryz.underlying32 hf
  obtain ⟨y0, y1, y2, y3, y4, rfl⟩ := list5a hl
  have g0 := hg 0 _ rfl
  have g1 := hg 1 _ rfl
  have g2 := hg 2 _ rfl
  have g3 := hg 3 _ rfl
  have g4 := hg 4 _ rfl
  simp [cellsInt, cellsCallA] at g0 g1 g2 g3 g4
  have hE : (DataW.weightsEach Tryz.prog [32] [y.1]).all (· ≤ reachBytes) = true := by simpa [DataW.weightsEach] using hw
  have hsz := sized_agg (j := 0) hE rfl (by rw [hx]; rfl) Tryz.underlying32
  obtain ⟨n0, e0, _⟩ := DataW.trod_int Tryz.underlying3 g0
  obtain ⟨n1, e1, _⟩ := DataW.trod_int Tryz.underlying3 g1
  obtain ⟨n2, e2, _⟩ := DataW.trod_int Tryz.underlying3 g2
  obtain ⟨n3, e3, _⟩ := DataW.trod_int Tryz.underlying3 g3
  obtain ⟨zs, k, _, hz, _, hzl, hc⟩ := DataW.trod_struct Tryz.underlying30 g4
  obtain ⟨z0, z1, z2, z3, z4, z5, z6, z7, rfl⟩ := list8a hzl
  have m0 := hc 0 _ rfl
  have m1 := hc 1 _ rfl
  have m2 := hc 2 _ rfl
  have m3 := hc 3 _ rfl
  have m4 := hc 4 _ rfl
  have m5 := hc 5 _ rfl
  have m6 := hc 6 _ rfl
  have m7 := hc 7 _ rfl
  simp [cellsInt, cellsLabel, cellsInts, cellsString] at m0 m1 m2 m3 m4 m5 m6 m7
  have hszC := sized_agg (j := 4) hsz rfl (by rw [hz]; rfl) Tryz.underlying30
  obtain ⟨a0, f0, _⟩ := DataW.trod_int Tryz.underlying3 m0
  obtain ⟨a1, f1, _⟩ := DataW.trod_int Tryz.underlying3 m1
  obtain ⟨a2, f2, _⟩ := DataW.trod_int Tryz.underlying3 m2
  obtain ⟨a3, f3, _⟩ := DataW.trod_int Tryz.underlying3 m3
  obtain ⟨a4, f4, _⟩ := DataW.trod_int Tryz.underlying3 m4
  obtain ⟨a7, f7, _⟩ := DataW.trod_string Tryz.underlying9 m7
  simp only [List.cons.injEq, and_true] at e0 e1 e2 e3 f0 f1 f2 f3 f4 f7
  subst e0 e1 e2 e3 f0 f1 f2 f3 f4 f7
  obtain ⟨l5, hl5, _⟩ := view_lab_c m5 fun elems spare e => by
    have := sized_slice hszC (j := 5) (t := 27) (e := 74) rfl (by rw [← e]; rfl) Tryz.underlying27
    rwa [bytesLevel] at this
  obtain ⟨l6, hl6, _⟩ := view_ints_c m6 fun elems spare e => by
    have := sized_slice hszC (j := 6) (t := 28) (e := 3) rfl (by rw [← e]; rfl) Tryz.underlying28
    rwa [bytesInt] at this
  exact ⟨⟨n0, n1, n2, n3, ⟨a0, a1, a2, a3, a4, l5, l6, a7.data.toList⟩⟩, d9, d10, rfl, hl5, hl6⟩

theorem mem_weightsAll {H : Type} {e : TypeId} {n : Nat} : ∀ {l : List (DataW H)} {i : Nat} (hi : i < l.length), n ∈ DataW.weights Tryz.prog e l[i] → n ∈ DataW.weightsAll Tryz.prog e l
  | x :: r, 0, _, h => by
    simp only [DataW.weightsAll, List.mem_append]
    exact Or.inl h
  | x :: r, i + 1, hi, h => by
    simp only [DataW.weightsAll, List.mem_append]
    exact Or.inr (mem_weightsAll (l := r) (i := i) (by simpa using hi) h)

set_option maxRecDepth 100000 in
set_option maxHeartbeats 800000 in
theorem view_acts {H : Type} {enc : TypeId × Value → H} {W : World} {base : Nat} {v : Value} {d : DataW H} {p : List MemPlace} {ts : List TypeId} {ds : List (DataW H)} {j : Nat} (hv : Value.okWide Tryz.prog W .any base 22 v)
    (h : DataW.Trod enc Tryz.prog W 0 (fun _ => true) true 22 v d p) (hsz : (DataW.weightsEach Tryz.prog ts ds).all (· ≤ reachBytes) = true) (ht : ts[j]? = some 22) (hd : ds[j]? = some d) : ∃ l, AcsAt W v l := by
  obtain ⟨a0, len0, cap0, rfl⟩ := okWide_slice Tryz.underlying22 hv
  obtain ⟨fuel, hf⟩ := h
  simp only [Value.cells] at hf
  rcases open_slice Tryz.underlying22 hf with ⟨hcs, hx⟩ | ⟨a, len, cap, m, n, D, Pl, hcs, _, hl, hm, hmm, hx, hcell⟩
  · cases hcs
    exact ⟨[], [], rfl, fun x hx => (by cases hx), none, 0, rfl, ⟨Nat.le_refl _, fun _ => rfl⟩, fun h => (by cases h)⟩
  · cases hcs
    simp only [Prod.mk.injEq] at hx
    obtain ⟨hd1, _⟩ := hx
    simp only [if_true] at hmm
    subst hmm
    have hall := List.all_eq_true.1 hsz
    have each0 : ∀ i, i < len0 → ∃ q : AcV, (∀ t u, q.cells[t]? = some u → W.cell? ((a.add (i * 12)).add t) = some u) ∧ q.Ok W := by
      intro i hi
      obtain ⟨cs', h1, h2⟩ := hcell i (by omega)
      rw [cellsAct] at h1
      obtain ⟨_, hlen, hc⟩ := World.cells?_some h1
      have hw : (DataW.weights Tryz.prog 32 (D i)).all (· ≤ reachBytes) = true := by
        rw [List.all_eq_true]
        intro n' hn'
        refine hall n' (DataW.weights_mem_each ht (by rw [hd, hd1]) n' ?_)
        simp only [DataW.weights, Tryz.underlying22, List.mem_cons, List.mem_append]
        refine Or.inr (Or.inl ?_)
        refine mem_weightsAll (i := i) (by simpa using hi) ?_
        simpa using hn'
      obtain ⟨x, vl, vg, rfl, k1, k2⟩ := view_act_c hlen h2 hw
      refine ⟨⟨x, vl, vg⟩, fun t u hu => ?_, ⟨k1, k2⟩⟩
      have ht12 : t < 12 := (List.getElem?_eq_some_iff.1 hu).1
      have := hc t ht12
      rw [this]
      exact hu
    obtain ⟨b, off, spot⟩ := a
    by_cases h0 : 0 < len0
    · have hspot : spot = none := by
        obtain ⟨x, hk, _⟩ := each0 0 h0
        simpa [Addr.add] using World.cell?_spot (hk 0 _ rfl)
      subst hspot
      haveI : Inhabited AcV := ⟨⟨⟨0, 0, 0, 0, ⟨0, 0, 0, 0, 0, [], [], []⟩⟩, undef, undef⟩⟩
      obtain ⟨q, hq⟩ := choose_lt each0
      refine ⟨((List.range len0).map q).map (·.a), (List.range len0).map q, rfl, fun x hx => ?_, some ⟨b, off, none⟩, m, by simp, ⟨by simpa using hl, fun h => (by cases h)⟩, fun _ => ⟨b, off, rfl, fun j u hu => ?_⟩⟩
      · obtain ⟨i, hi, rfl⟩ := List.mem_map.1 hx
        exact (hq i (List.mem_range.1 hi)).2
      · have hj := (List.getElem?_eq_some_iff.1 hu).1
        rw [flatA_len, List.length_map, List.length_range] at hj
        have h1 : j / 12 < len0 := by omega
        have e1 : j = j / 12 * 12 + j % 12 := by omega
        rw [e1, flatA_get _ (j / 12) (by simpa using h1) (j % 12) (by omega)] at hu
        simp only [List.getElem_map, List.getElem_range] at hu
        have := (hq (j / 12) h1).1 (j % 12) u hu
        rw [add_plain, add_plain] at this
        rw [e1, ← Nat.add_assoc]
        exact this
    · have e0 : len0 = 0 := by omega
      subst e0
      exact ⟨[], [], rfl, fun x hx => (by cases hx), some ⟨b, off, spot⟩, m, rfl, ⟨Nat.zero_le _, fun h => (by cases h)⟩, fun h => (by cases h)⟩
end Go.Proofs.YtgpldlbmjakjhaaGreat
