/- append to a row of what was sent. -/
import Derived.Test.YtpdijobakfpnbaaGreatJLClone
import Derived.Laws.AppendOwnNone
import Derived.Deep.RegionLaw
namespace Go.Proofs.YtpdijobakfpnbaaGreat
open Go.RowKit Go.Proofs.Parclose
theorem Qaq {w : World} {t ty e : TypeId} {i : TypeInfo} {z : Value} {size bytes : Nat} (ht : Tryz.prog.underlying t = some (.slice e)) (hi : Tryz.prog.info? e = some i) (hz : i.zero = some z) (hsize : i.size = size) (hby : i.bytes = bytes) (hzs : z.cells.size = size) (hsz : 0 < size)
 {v : Value} {n : Nat} {xs : List Value} (hown : w.ownsRow 0 e size v n xs) {a : Addr} {m c : Nat} {news : List Value} (hl : news.length = m * size) (hnews : ∀ j u, news[j]? = some u → w.cell? (a.add j) = some u) (h1 : ∀ u ∈ news, u.oneCell' = true)
 (h63 : n + m ≤ maxLen) (hbytes : (n + m) * bytes ≤ 140737488355328) :
 ∃ v' w', (Builtin.append_ #[t, t] ty #[v, .slice (some a) m c]).run Tryz.prog w = .ok v' w' ∧ w'.ownsRow 0 e size v' (n + m) (xs ++ news) ∧ w.grownBy w' v.ownBlock ∧ ∀ k, v'.ownBlock = some k → v.ownBlock = some k ∨ w.heap.size ≤ k := by
 obtain ⟨v', w', hr, h2, h3, _⟩ := run_append_own (P := Tryz.prog) w 0 t ty e i z size bytes ht hi hz hsize hby hzs hsz v n xs hown a m c news hl hnews h1 h63 hbytes (Nat.zero_le _)
 refine ⟨v', w', hr, h2, h3, ?_⟩
 rcases hown.2 with ⟨rfl, rfl⟩ | ⟨g, cap, cur, rfl, hbg, hg, hnc, hcm, hcs, htake⟩
 · have hx : xs = [] := List.eq_nil_of_length_eq_zero (by simpa using hown.1)
   subst hx
   obtain ⟨v2, w2, hr2, k2, _, _⟩ := run_append_own (P := Tryz.prog) w w.heap.size t ty e i z size bytes ht hi hz hsize hby hzs hsz (.slice none 0 0) 0 [] (World.ownsRow_nil _ _ _ _) a m c news hl hnews h1 h63 hbytes (Nat.le_refl _)
   rw [hr] at hr2
   injection hr2 with e1 e2
   subst e1
   exact fun k hk => .inr (Qs k2 hk)
 · subst hsize
   subst hby
   by_cases hroom : n + m ≤ cap
   · have hfit : n * i.size + news.length ≤ cur.size := by rw [hl, hcs, ← Nat.add_mul]; exact Nat.mul_le_mul_right _ hroom
     have hr2 := run_append_room (P := Tryz.prog) w t ty e i ht hi g n cap cur hg a m c news hl hnews h1 hroom hfit
     rw [hr] at hr2
     injection hr2 with e1 e2
     subst e1
     exact fun k hk => .inl hk
   · have holds : ∀ j u, xs[j]? = some u → w.cell? ((⟨g, 0, none⟩ : Addr).add j) = some u := hown.cells (g := g) rfl
     have hr2 := run_append_grow (P := Tryz.prog) w t ty e i z ht hi hz ⟨g, 0, none⟩ n cap xs hown.1 holds a m c news hl hnews (by omega) (by simp only [maxLen] at h63; omega) (growslice_fits (by omega) hbytes)
     rw [hr] at hr2
     injection hr2 with e1 e2
     subst e1
     exact fun k hk => .inr (by cases hk; exact Nat.le_refl _)
theorem OwnRow.snoc {B : Nat} {w w' : World} {v v' : Value} {q : List SntV} {x : SntV} (h : OwnRow B w v q) (hx : ∀ w'', Off B v.ownBlock w w'' → x.Ok w'') (hg : w.grownBy w' v.ownBlock) (hown : w'.ownsRow 0 146 13 v' (q.length + 1) (flatS q ++ x.cells)) (hB : B ≤ w.heap.size)
 (hw : ∀ k, v'.ownBlock = some k → v.ownBlock = some k ∨ w.heap.size ≤ k) : OwnRow B w' v' (q ++ [x]) := by
 have ho : ∀ w'', Off B v'.ownBlock w' w'' → Off B v.ownBlock w w'' := fun w'' ho k hk hks hr => by
  rw [ho k hk (Nat.lt_of_lt_of_le hks hg.size) (fun e => (hw k e).elim (fun h1 => hr h1) (fun h1 => by omega)), hg.block k hks (Ne.symm hr)]
 refine ⟨?_, fun y hy w'' hoff => ?_⟩
 · rw [QaE, List.length_append]
   refine Qak (by simpa [flatS] using hown) fun k hk => ?_
   rcases hw k hk with h1 | h1
   · exact Qs h.own h1
   · omega
 · rcases List.mem_append.1 hy with hy | hy
   · exact h.ok y hy w'' (ho w'' hoff)
   · rw [List.mem_singleton] at hy
     subst hy
     exact hx w'' (ho w'' hoff)
theorem Qk9 {w : World} {ty : TypeId} {B : Nat} {v : Value} {q : List SntV} {x : SntV} {g c : Nat} (h : OwnRow B w v q) (hx : ∀ w'', Off B v.ownBlock w w'' → x.Ok w'') (hc : ∀ j u, x.cells[j]? = some u → w.cell? ⟨g, j, none⟩ = some u) (hB : B ≤ w.heap.size) (hn : q.length < 879609302220) :
 ∃ v' w', (Builtin.append_ #[68, 68] ty #[v, .slice (some ⟨g, 0, none⟩) 1 c]).run Tryz.prog w = .ok v' w' ∧ OwnRow B w' v' (q ++ [x]) ∧ w.grownBy w' v.ownBlock := by
 obtain ⟨i0, hi, hz0, hz1, hz2⟩ := info_parts Qbs
 have h1 : ∀ u ∈ x.cells, u.oneCell' = true := fun u hu => QaD (q := [x]) (fun y hy => by rw [List.mem_singleton] at hy; subst hy; exact hx w (Off.refl _ _ _)) u (by simpa [flatS] using hu)
 obtain ⟨v', w', hr, k1, k2, k3⟩ := Qaq (ty := ty) (c := c) Tryz.underlying68 hi hz0 hz1 hz2 rfl (by decide) (Qp h.own (Nat.zero_le _)) (m := 1) (news := x.cells) (a := ⟨g, 0, none⟩) rfl (fun j u hu => by rw [WideShapes.add_plain, Nat.zero_add]; exact hc j u hu) h1 (by unfold maxLen; omega) (by omega)
 exact ⟨v', w', hr, h.snoc hx k2 k1 hB k3, k2⟩
theorem Qjo {w : World} {ops : Array Oper} {o : Oper} {a0 : Act} {K : Act → World → Prop} {Q : Exit → Act → World → Prop} {E : Prop} (hgd : o.guard = none) (s x : Operand)
 (ho : o.op = .call { callee := .builtin .append, args := #[s, x], argTypes := #[68, 68] }) (B : Nat) (v : Value) (q : List SntV) (y : SntV) (hs : a0.eval s = v) (hown : OwnRow B w v q)
 (g c : Nat) (hx : a0.eval x = .slice (some ⟨g, 0, none⟩) 1 c) (hy : ∀ w'', Off B v.ownBlock w w'' → y.Ok w'') (hc : ∀ j u, y.cells[j]? = some u → w.cell? ⟨g, j, none⟩ = some u) (hB : B ≤ w.heap.size) (hn : q.length < 879609302220)
 (h : ∀ v' w', OwnRow B w' v' (q ++ [y]) → w.grownBy w' v.ownBlock → K (a0.put o.dst v') w') :
 if Region.wanted o (yielded ops a0.tmps) = true then Oper.wp Tryz.prog o a0 w K Q else E := by
 have hw : Region.wanted o (yielded ops a0.tmps) = true := by simp [Region.wanted, hgd]
 rw [if_pos hw]
 obtain ⟨v', w', hr, k1, k2⟩ := Qk9 (ty := o.type) (c := c) hown hy hc hB hn
 unfold Oper.wp execOp
 simp only [ho, resolve, invoke, builtin, Sem.run_bind, Sem.run_pure, Result.andThen_ok, List.map_toArray, List.map_cons, List.map_nil, hs, hx, hr]
 exact h v' w' k1 k2
theorem Qi5 {B : Nat} {w : World} {v : Value} {q : List SntV} (h : w.ownsRow B 146 13 v q.length (flatS q)) (hl : q.length ≤ 879609302220) : RowAt w v q := by
 rcases h.2 with ⟨hn, h0⟩ | ⟨g, cap, cur, rfl, hbg, hgg, h1, h2, h3, h4⟩
 · rw [hn]
   refine ⟨none, 0, by rw [h0], ⟨by omega, fun _ => rfl⟩, hl, fun h => by omega⟩
 · refine ⟨some ⟨g, 0, none⟩, cap, rfl, ⟨h1, fun e => by cases e⟩, hl, fun _ => ⟨g, 0, rfl, fun j u hu => ?_⟩⟩
   have := World.ownsRow.cells h (g := g) rfl _ _ hu
   rwa [WideShapes.add_plain] at this
theorem RowAt.take {w : World} {p : Option Addr} {cap : Nat} {q : List SntV} (h : RowAt w (.slice p q.length cap) q) (k : Nat) (hk : k ≤ q.length) : RowAt w (.slice p k cap) (q.take k) := by
 obtain ⟨p', cap', e, h2, h3, h4⟩ := h
 cases e
 have hl : (q.take k).length = k := by simp; omega
 refine ⟨p, cap, by rw [hl], ⟨by omega, h2.2⟩, by omega, fun h0 => ?_⟩
 obtain ⟨b, o, e, hc⟩ := h4 (by omega)
 refine ⟨b, o, e, fun j u hu => hc j u ?_⟩
 rw [← List.take_append_drop k q, QaE]
 rw [List.getElem?_append_left (List.getElem?_eq_some_iff.1 hu).1]
 exact hu
theorem RowAt.drop {w : World} {b o cap : Nat} {q : List SntV} (h : RowAt w (.slice (some ⟨b, o, none⟩) q.length cap) q) (k : Nat) (hk : k ≤ q.length) : RowAt w (.slice (if cap = k then some ⟨b, o, none⟩ else some ⟨b, o + k * 13, none⟩) (q.length - k) (cap - k)) (q.drop k) := by
 obtain ⟨p', cap', e, h2, h3, h4⟩ := h
 cases e
 have hl : (q.drop k).length = q.length - k := by simp
 by_cases hc0 : cap = k
 · rw [if_pos hc0]
   refine ⟨_, _, by rw [hl], ⟨by omega, fun e => by cases e⟩, by omega, fun h0 => by omega⟩
 · rw [if_neg hc0]
   refine ⟨_, _, by rw [hl], ⟨by omega, fun e => by cases e⟩, by omega, fun h0 => ?_⟩
   obtain ⟨b', o', e, hc⟩ := h4 (by omega)
   cases e
   refine ⟨b, o + k * 13, rfl, fun j u hu => ?_⟩
   have ha : (flatS (q.take k)).length = k * 13 := by rw [Qbt, List.length_take]; omega
   rw [show o + k * 13 + j = o + (k * 13 + j) by omega]
   refine hc _ u ?_
   rw [← List.take_append_drop k q, QaE, List.getElem?_append_right (by omega), ha, Nat.add_sub_cancel_left]
   exact hu
theorem Qla {w : World} {ty : TypeId} {B : Nat} {v : Value} {q : List SntV} {x : SntV} {g c : Nat} (h : w.ownsRow B 146 13 v q.length (flatS q)) (hx : x.Ok w) (hc : ∀ j u, x.cells[j]? = some u → w.cell? ⟨g, j, none⟩ = some u) (hB : B ≤ w.heap.size) (hn : q.length < 879609302220) :
 ∃ v' w', (Builtin.append_ #[68, 68] ty #[v, .slice (some ⟨g, 0, none⟩) 1 c]).run Tryz.prog w = .ok v' w' ∧ w'.ownsRow B 146 13 v' (q ++ [x]).length (flatS (q ++ [x])) ∧ w.grownBy w' v.ownBlock ∧ ∀ k, v'.ownBlock = some k → v.ownBlock = some k ∨ w.heap.size ≤ k := by
 obtain ⟨i0, hi, hz0, hz1, hz2⟩ := info_parts Qbs
 have h1 : ∀ u ∈ x.cells, u.oneCell' = true := fun u hu => QaD (q := [x]) (fun y hy => by rw [List.mem_singleton] at hy; subst hy; exact hx) u (by simpa [flatS] using hu)
 obtain ⟨v', w', hr, k1, k2, k3⟩ := Qaq (ty := ty) (c := c) Tryz.underlying68 hi hz0 hz1 hz2 rfl (by decide) (Qp h (Nat.zero_le _)) (m := 1) (news := x.cells) (a := ⟨g, 0, none⟩) rfl (fun j u hu => by rw [WideShapes.add_plain, Nat.zero_add]; exact hc j u hu) h1 (by unfold maxLen; omega) (by omega)
 refine ⟨v', w', hr, ?_, k2, k3⟩
 rw [QaE, List.length_append]
 refine Qak (by simpa [flatS] using k1) fun k hk => ?_
 rcases k3 k hk with h1 | h1
 · exact Qs h h1
 · omega
theorem QcG {w : World} {ops : Array Oper} {rest : List Oper} {o : Oper} {a : Act} {Q : Exit → Act → World → Prop} (hgd : o.guard = none) (s x : Operand)
 (ho : o.op = .call { callee := .builtin .append, args := #[s, x], argTypes := #[68, 68] }) (B : Nat) (v : Value) (q : List SntV) (y : SntV) (hs : a.eval s = v) (hown : w.ownsRow B 146 13 v q.length (flatS q))
 (g c : Nat) (hx : a.eval x = .slice (some ⟨g, 0, none⟩) 1 c) (hy : y.Ok w) (hc : ∀ j u, y.cells[j]? = some u → w.cell? ⟨g, j, none⟩ = some u) (hB : B ≤ w.heap.size) (hn : q.length < 879609302220)
 (h : ∀ v' w', w'.ownsRow B 146 13 v' (q ++ [y]).length (flatS (q ++ [y])) → w.grownBy w' v.ownBlock → (∀ k, v'.ownBlock = some k → v.ownBlock = some k ∨ w.heap.size ≤ k) → wpList Tryz.prog ops Q rest (a.put o.dst v') w') : wpList Tryz.prog ops Q (o :: rest) a w := by
 refine wpList_plain hgd fun K hK => ?_
 obtain ⟨v', w', hr, k1, k2, k3⟩ := Qla (ty := o.type) (c := c) hown hy hc hB hn
 unfold Oper.wp execOp
 simp only [ho, resolve, invoke, builtin, Sem.run_bind, Sem.run_pure, Result.andThen_ok, List.map_toArray, List.map_cons, List.map_nil, hs, hx, hr]
 exact hK _ _ (h v' w' k1 k2 k3)
structure FrmV where
 f : Frm
 vl : Value
 vg : Value
 vc : Value
def FrmV.cells (x : FrmV) : List Value := [.int .i64 x.f.fr, .int .i64 x.f.to, .int .i64 x.f.seq, .bool x.f.ack, .int .i64 x.f.thread, .int .i64 x.f.mail.host, .int .i64 x.f.mail.thread, x.vl, x.vg, .string ⟨x.f.mail.text.toArray⟩, x.vc]
structure FrmV.Ok (w : World) (x : FrmV) : Prop where
 lab : LabAt w x.vl x.f.mail.label
 nums : IntsAt w x.vg x.f.mail.grants
 crts : CrtsAt w x.vc x.f.certs
theorem FrmV.Ok.below {w wr : World} {x : FrmV} (h : x.Ok w) (hb : Below w.heap.size w wr) : x.Ok wr := ⟨h.lab.below hb, h.nums.below hb, h.crts.below hb⟩
def flatF (q : List FrmV) : List Value := q.flatMap FrmV.cells
theorem Qej (x : FrmV) (q : List FrmV) : flatF (x :: q) = x.cells ++ flatF q := rfl
theorem Qkc (a b : List FrmV) : flatF (a ++ b) = flatF a ++ flatF b := by simp [flatF]
theorem Qfi : ∀ (q : List FrmV) (j : Nat) (hj : j < q.length) (i : Nat) (_ : i < 11), (flatF q)[j * 11 + i]? = (q[j]).cells[i]?
 | x :: r, 0, _, i, hi => by
  rw [Qej, List.getElem?_append_left (by show _ < 11; omega)]
  simp
 | x :: r, j + 1, hj, i, hi => by
  rw [Qej, List.getElem?_append_right (by show 11 ≤ _; omega), show (j + 1) * 11 + i - x.cells.length = j * 11 + i by show (j + 1) * 11 + i - 11 = _; omega, Qfi r j (by simpa using hj) i hi]
  simp
theorem FrmV.Ok.one {w : World} {x : FrmV} (h : x.Ok w) : ∀ u ∈ x.cells, u.oneCell' = true := by
 intro u hu
 obtain ⟨⟨pl, cl, el, _⟩, ⟨pg, cg, eg, _⟩, ⟨pc, cc, ec, _⟩⟩ := h
 unfold FrmV.cells at hu
 rw [el, eg, ec] at hu
 simp only [List.mem_cons, List.not_mem_nil, or_false] at hu
 rcases hu with h | h | h | h | h | h | h | h | h | h | h <;> rw [h] <;> rfl
theorem QlE : (Tryz.prog.info? 111).map (fun i => (i.zero, i.size, i.bytes)) = some (some (.agg #[.int .i64 0, .int .i64 0, .int .i64 0, .bool false, .int .i64 0, .int .i64 0, .int .i64 0, .slice none 0 0, .slice none 0 0, .string ⟨#[]⟩, .slice none 0 0]), 11, 144) := by kernel_rfl
theorem Qmo {w : World} {ty : TypeId} {B : Nat} {v : Value} {q : List FrmV} {x : FrmV} {g c : Nat} (h : w.ownsRow B 111 11 v q.length (flatF q)) (hx : x.Ok w) (hc : ∀ j u, x.cells[j]? = some u → w.cell? ⟨g, j, none⟩ = some u) (hB : B ≤ w.heap.size) (hn : q.length < 879609302220) :
 ∃ v' w', (Builtin.append_ #[107, 107] ty #[v, .slice (some ⟨g, 0, none⟩) 1 c]).run Tryz.prog w = .ok v' w' ∧ w'.ownsRow B 111 11 v' (q ++ [x]).length (flatF (q ++ [x])) ∧ w.grownBy w' v.ownBlock ∧ ∀ k, v'.ownBlock = some k → v.ownBlock = some k ∨ w.heap.size ≤ k := by
 obtain ⟨i0, hi, hz0, hz1, hz2⟩ := info_parts QlE
 obtain ⟨v', w', hr, k1, k2, k3⟩ := Qaq (ty := ty) (c := c) Tryz.underlying107 hi hz0 hz1 hz2 rfl (by decide) (Qp h (Nat.zero_le _)) (m := 1) (news := x.cells) (a := ⟨g, 0, none⟩) rfl (fun j u hu => by rw [WideShapes.add_plain, Nat.zero_add]; exact hc j u hu) hx.one (by unfold maxLen; omega) (by omega)
 refine ⟨v', w', hr, ?_, k2, k3⟩
 rw [Qkc, List.length_append]
 refine Qak (by simpa [flatF] using k1) fun k hk => ?_
 rcases k3 k hk with h1 | h1
 · exact Qs h h1
 · omega
theorem Qgh {w : World} {ops : Array Oper} {rest : List Oper} {o : Oper} {a : Act} {Q : Exit → Act → World → Prop} (hgd : o.guard = none) (s x : Operand)
 (ho : o.op = .call { callee := .builtin .append, args := #[s, x], argTypes := #[107, 107] }) (B : Nat) (v : Value) (q : List FrmV) (y : FrmV) (hs : a.eval s = v) (hown : w.ownsRow B 111 11 v q.length (flatF q))
 (g c : Nat) (hx : a.eval x = .slice (some ⟨g, 0, none⟩) 1 c) (hy : y.Ok w) (hc : ∀ j u, y.cells[j]? = some u → w.cell? ⟨g, j, none⟩ = some u) (hB : B ≤ w.heap.size) (hn : q.length < 879609302220)
 (h : ∀ v' w', w'.ownsRow B 111 11 v' (q ++ [y]).length (flatF (q ++ [y])) → w.grownBy w' v.ownBlock → (∀ k, v'.ownBlock = some k → v.ownBlock = some k ∨ w.heap.size ≤ k) → wpList Tryz.prog ops Q rest (a.put o.dst v') w') : wpList Tryz.prog ops Q (o :: rest) a w := by
 refine wpList_plain hgd fun K hK => ?_
 obtain ⟨v', w', hr, k1, k2, k3⟩ := Qmo (ty := o.type) (c := c) hown hy hc hB hn
 unfold Oper.wp execOp
 simp only [ho, resolve, invoke, builtin, Sem.run_bind, Sem.run_pure, Result.andThen_ok, List.map_toArray, List.map_cons, List.map_nil, hs, hx, hr]
 exact hK _ _ (h v' w' k1 k2 k3)
def FrmsAt (w : World) (v : Value) (l : List Frm) : Prop := ∃ q : List FrmV, q.map (·.f) = l ∧ (∀ x ∈ q, x.Ok w) ∧ ∃ p cap, v = .slice p q.length cap ∧ q.length ≤ 879609302220 ∧ (0 < q.length → ∃ b, p = some ⟨b, 0, none⟩ ∧ ∀ j u, (flatF q)[j]? = some u → w.cell? ⟨b, j, none⟩ = some u)
theorem QdU {B : Nat} {w : World} {v : Value} {q : List FrmV} {l : List Frm} (h : w.ownsRow B 111 11 v q.length (flatF q)) (hl : q.length ≤ 879609302220) (hm : q.map (·.f) = l) (hok : ∀ x ∈ q, x.Ok w) : FrmsAt w v l := by
 refine ⟨q, hm, hok, ?_⟩
 rcases h.2 with ⟨hn, h0⟩ | ⟨g, cap, cur, rfl, hbg, hgg, h1, h2, h3, h4⟩
 · rw [hn]
   exact ⟨none, 0, by rw [h0], hl, fun h => by omega⟩
 · refine ⟨some ⟨g, 0, none⟩, cap, rfl, hl, fun _ => ⟨g, rfl, fun j u hu => ?_⟩⟩
   have := World.ownsRow.cells h (g := g) rfl _ _ hu
   rwa [WideShapes.add_plain, Nat.zero_add] at this
theorem FrmsAt.below {w wr : World} {v : Value} {l : List Frm} (h : FrmsAt w v l) (hb : Below w.heap.size w wr) : FrmsAt wr v l := by
 obtain ⟨q, h1, h2, p, cap, h3, h4, h5⟩ := h
 refine ⟨q, h1, fun x hx => (h2 x hx).below hb, p, cap, h3, h4, fun h0 => ?_⟩
 obtain ⟨b, h6, h7⟩ := h5 h0
 exact ⟨b, h6, fun j u hu => by rw [hb.cell (Qf (h7 j u hu)), h7 j u hu]⟩
theorem FrmsAt.slice {w : World} {v : Value} {l : List Frm} (h : FrmsAt w v l) : ∃ p cap, v = .slice p l.length cap := by
 obtain ⟨q, rfl, _, p, cap, rfl, _⟩ := h
 exact ⟨p, cap, by simp⟩
theorem FrmsAt.len {w : World} {v : Value} {l : List Frm} (h : FrmsAt w v l) : l.length ≤ 879609302220 := by
 obtain ⟨q, rfl, _, p, cap, _, h3, _⟩ := h
 simpa using h3
theorem FrmsAt.get {w : World} {p : Option Addr} {n cap : Nat} {l : List Frm} (h : FrmsAt w (.slice p n cap) l) (j : Nat) (hj : j < l.length) :
 ∃ b pl cl pg cg pc cc, p = some ⟨b, 0, none⟩ ∧ FrmAt w (.agg #[.int .i64 (l[j]).fr, .int .i64 (l[j]).to, .int .i64 (l[j]).seq, .bool (l[j]).ack, .int .i64 (l[j]).thread, .int .i64 (l[j]).mail.host, .int .i64 (l[j]).mail.thread, .slice pl (l[j]).mail.label.length cl, .slice pg (l[j]).mail.grants.length cg, .string ⟨(l[j]).mail.text.toArray⟩, .slice pc (l[j]).certs.length cc]) l[j] ∧
  w.cell? ⟨b, j * 11, none⟩ = some (.int .i64 (l[j]).fr) ∧ w.cell? ⟨b, j * 11 + 1, none⟩ = some (.int .i64 (l[j]).to) ∧ w.cell? ⟨b, j * 11 + 2, none⟩ = some (.int .i64 (l[j]).seq) ∧ w.cell? ⟨b, j * 11 + 3, none⟩ = some (.bool (l[j]).ack) ∧ w.cell? ⟨b, j * 11 + 4, none⟩ = some (.int .i64 (l[j]).thread) ∧ w.cell? ⟨b, j * 11 + 5, none⟩ = some (.int .i64 (l[j]).mail.host) ∧ w.cell? ⟨b, j * 11 + 6, none⟩ = some (.int .i64 (l[j]).mail.thread) ∧ w.cell? ⟨b, j * 11 + 7, none⟩ = some (.slice pl (l[j]).mail.label.length cl) ∧ w.cell? ⟨b, j * 11 + 8, none⟩ = some (.slice pg (l[j]).mail.grants.length cg) ∧ w.cell? ⟨b, j * 11 + 9, none⟩ = some (.string ⟨(l[j]).mail.text.toArray⟩) ∧ w.cell? ⟨b, j * 11 + 10, none⟩ = some (.slice pc (l[j]).certs.length cc) := by
 obtain ⟨q, rfl, hok, p', cap', e, _, h4⟩ := h
 cases e
 have hjq : j < q.length := by simpa using hj
 obtain ⟨b, rfl, hc⟩ := h4 (by omega)
 have ho := hok _ (List.getElem_mem hjq)
 have g : ∀ i, i < 11 → ∀ u, (q[j]).cells[i]? = some u → w.cell? ⟨b, j * 11 + i, none⟩ = some u := fun i hi u hu => hc _ _ (by rw [Qfi q j hjq i hi, hu])
 have e : (q.map (·.f))[j] = (q[j]).f := by simp
 rw [e]
 generalize q[j] = x at *
 obtain ⟨f, vl, vg, vc⟩ := x
 obtain ⟨h1, h2, h3⟩ := ho
 simp only at h1 h2 h3 ⊢
 obtain ⟨pl, cl, rfl, _⟩ := id h1
 obtain ⟨pg, cg, rfl, _⟩ := id h2
 obtain ⟨pc, cc, rfl, _⟩ := id h3
 exact ⟨b, pl, cl, pg, cg, pc, cc, rfl, ⟨_, _, _, rfl, h1, h2, h3⟩, g 0 (by omega) _ rfl, g 1 (by omega) _ rfl, g 2 (by omega) _ rfl, g 3 (by omega) _ rfl, g 4 (by omega) _ rfl, g 5 (by omega) _ rfl, g 6 (by omega) _ rfl, g 7 (by omega) _ rfl, g 8 (by omega) _ rfl, g 9 (by omega) _ rfl, g 10 (by omega) _ rfl⟩
end Go.Proofs.YtpdijobakfpnbaaGreat
