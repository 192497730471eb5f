/- Rows of what was sent, and of frames, in memory of one's own: cut, and appended to; where they lie then. -/
import Derived.Test.YtmpjddnbdidleaaLAppend
namespace Go.Proofs.Ytmpjddnbdidleaa
open Go.RowKit Go.Proofs.Parclose

theorem row_own {B : Nat} {w : World} {v : Value} {q : List SntV} (h : w.ownsRow B 56 13 v q.length (flatS q)) (hl : q.length ≤ 879609302220) : RowAt w v q := by
  rcases h.2 with ⟨hn, h0⟩ | ⟨g, cap, cur, rfl, hbg, hgg, h1, h2, h3, h4⟩
  · rw [hn]
    refine ⟨none, 0, by rw [h0], ⟨by omega, fun _ => rfl⟩, hl, fun h => by omega⟩
  · refine ⟨some ⟨g, 0, none⟩, cap, rfl, ⟨h1, fun e => by cases e⟩, hl, fun _ => ⟨g, 0, rfl, fun j u hu => ?_⟩⟩
    have := World.ownsRow.cells h (g := g) rfl _ _ hu
    rwa [WideShapes.add_plain] at this
theorem RowAt.take {w : World} {p : Option Addr} {cap : Nat} {q : List SntV} (h : RowAt w (.slice p q.length cap) q) (k : Nat) (hk : k ≤ q.length) : RowAt w (.slice p k cap) (q.take k) := by
  obtain ⟨p', cap', e, h2, h3, h4⟩ := h
  cases e
  have hl : (q.take k).length = k := by simp; omega
  refine ⟨p, cap, by rw [hl], ⟨by omega, h2.2⟩, by omega, fun h0 => ?_⟩
  obtain ⟨b, o, e, hc⟩ := h4 (by omega)
  refine ⟨b, o, e, fun j u hu => hc j u ?_⟩
  rw [← List.take_append_drop k q, flatS_app]
  rw [List.getElem?_append_left (List.getElem?_eq_some_iff.1 hu).1]
  exact hu
theorem RowAt.drop {w : World} {b o cap : Nat} {q : List SntV} (h : RowAt w (.slice (some ⟨b, o, none⟩) q.length cap) q) (k : Nat) (hk : k ≤ q.length) : RowAt w (.slice (if cap = k then some ⟨b, o, none⟩ else some ⟨b, o + k * 13, none⟩) (q.length - k) (cap - k)) (q.drop k) := by
  obtain ⟨p', cap', e, h2, h3, h4⟩ := h
  cases e
  have hl : (q.drop k).length = q.length - k := by simp
  by_cases hc0 : cap = k
  · rw [if_pos hc0]
    refine ⟨_, _, by rw [hl], ⟨by omega, fun e => by cases e⟩, by omega, fun h0 => by omega⟩
  · rw [if_neg hc0]
    refine ⟨_, _, by rw [hl], ⟨by omega, fun e => by cases e⟩, by omega, fun h0 => ?_⟩
    obtain ⟨b', o', e, hc⟩ := h4 (by omega)
    cases e
    refine ⟨b, o + k * 13, rfl, fun j u hu => ?_⟩
    have ha : (flatS (q.take k)).length = k * 13 := by rw [flatS_len, List.length_take]; omega
    rw [show o + k * 13 + j = o + (k * 13 + j) by omega]
    refine hc _ u ?_
    rw [← List.take_append_drop k q, flatS_app, List.getElem?_append_right (by omega), ha, Nat.add_sub_cancel_left]
    exact hu

theorem sent_raw {w : World} {ty : TypeId} {B : Nat} {v : Value} {q : List SntV} {x : SntV} {g c : Nat} (h : w.ownsRow B 56 13 v q.length (flatS q)) (hx : x.Ok w) (hc : ∀ j u, x.cells[j]? = some u → w.cell? ⟨g, j, none⟩ = some u) (hB : B ≤ w.heap.size) (hn : q.length < 879609302220) :
    ∃ v' w', (Builtin.append_ #[22, 22] ty #[v, .slice (some ⟨g, 0, none⟩) 1 c]).run Try.prog w = .ok v' w' ∧ w'.ownsRow B 56 13 v' (q ++ [x]).length (flatS (q ++ [x])) ∧ w.grownBy w' v.ownBlock ∧ ∀ k, v'.ownBlock = some k → v.ownBlock = some k ∨ w.heap.size ≤ k := by
  obtain ⟨i0, hi, hz0, hz1, hz2⟩ := info_parts info_sent
  have h1 : ∀ u ∈ x.cells, u.oneCell' = true := fun u hu => flatS_one (q := [x]) (fun y hy => by rw [List.mem_singleton] at hy; subst hy; exact hx) u (by simpa [flatS] using hu)
  obtain ⟨v', w', hr, k1, k2, k3⟩ := append_where (ty := ty) (c := c) Try.underlying22 hi hz0 hz1 hz2 rfl (by decide) (own_base_le h (Nat.zero_le _)) (m := 1) (news := x.cells) (a := ⟨g, 0, none⟩) rfl (fun j u hu => by rw [WideShapes.add_plain, Nat.zero_add]; exact hc j u hu) h1 (by unfold maxLen; omega) (by omega)
  refine ⟨v', w', hr, ?_, k2, k3⟩
  rw [flatS_app, List.length_append]
  refine own_rebase (by simpa [flatS] using k1) fun k hk => ?_
  rcases k3 k hk with h1 | h1
  · exact own_base h h1
  · omega
/-- append of one that was sent, as a step of a region that draws: where the row lies then -/
theorem step_sentR {w : World} {ops : Array Oper} {o : Oper} {a0 : Act} {K : Act → World → Prop} {Q : Exit → Act → World → Prop} {E : Prop} (hgd : o.guard = none) (s x : Operand)
    (ho : o.op = .call { callee := .builtin .append, args := #[s, x], argTypes := #[22, 22] }) (B : Nat) (v : Value) (q : List SntV) (y : SntV) (hs : a0.eval s = v) (hown : w.ownsRow B 56 13 v q.length (flatS q))
    (g c : Nat) (hx : a0.eval x = .slice (some ⟨g, 0, none⟩) 1 c) (hy : y.Ok w) (hc : ∀ j u, y.cells[j]? = some u → w.cell? ⟨g, j, none⟩ = some u) (hB : B ≤ w.heap.size) (hn : q.length < 879609302220)
    (h : ∀ v' w', w'.ownsRow B 56 13 v' (q ++ [y]).length (flatS (q ++ [y])) → w.grownBy w' v.ownBlock → (∀ k, v'.ownBlock = some k → v.ownBlock = some k ∨ w.heap.size ≤ k) → K (a0.put o.dst v') w') :
    if Region.wanted o (yielded ops a0.tmps) = true then Oper.wp Try.prog o a0 w K Q else E := by
  have hw : Region.wanted o (yielded ops a0.tmps) = true := by simp [Region.wanted, hgd]
  rw [if_pos hw]
  obtain ⟨v', w', hr, k1, k2, k3⟩ := sent_raw (ty := o.type) (c := c) hown hy hc hB hn
  unfold Oper.wp execOp
  simp only [ho, resolve, invoke, builtin, Sem.run_bind, Sem.run_pure, Result.andThen_ok, List.map_toArray, List.map_cons, List.map_nil, hs, hx, hr]
  exact h v' w' k1 k2 k3
theorem wpList_sentR {w : World} {ops : Array Oper} {rest : List Oper} {o : Oper} {a : Act} {Q : Exit → Act → World → Prop} (hgd : o.guard = none) (s x : Operand)
    (ho : o.op = .call { callee := .builtin .append, args := #[s, x], argTypes := #[22, 22] }) (B : Nat) (v : Value) (q : List SntV) (y : SntV) (hs : a.eval s = v) (hown : w.ownsRow B 56 13 v q.length (flatS q))
    (g c : Nat) (hx : a.eval x = .slice (some ⟨g, 0, none⟩) 1 c) (hy : y.Ok w) (hc : ∀ j u, y.cells[j]? = some u → w.cell? ⟨g, j, none⟩ = some u) (hB : B ≤ w.heap.size) (hn : q.length < 879609302220)
    (h : ∀ v' w', w'.ownsRow B 56 13 v' (q ++ [y]).length (flatS (q ++ [y])) → w.grownBy w' v.ownBlock → (∀ k, v'.ownBlock = some k → v.ownBlock = some k ∨ w.heap.size ≤ k) → wpList Try.prog ops Q rest (a.put o.dst v') w') : wpList Try.prog ops Q (o :: rest) a w := by
  refine wpList_plain hgd fun K hK => ?_
  obtain ⟨v', w', hr, k1, k2, k3⟩ := sent_raw (ty := o.type) (c := c) hown hy hc hB hn
  unfold Oper.wp execOp
  simp only [ho, resolve, invoke, builtin, Sem.run_bind, Sem.run_pure, Result.andThen_ok, List.map_toArray, List.map_cons, List.map_nil, hs, hx, hr]
  exact hK _ _ (h v' w' k1 k2 k3)
theorem snts_raw {B : Nat} {w : World} {v : Value} {q : List SntV} {st : List Snt} (h : w.ownsRow B 56 13 v q.length (flatS q)) (hl : q.length ≤ 879609302220) (hm : q.map (·.s) = st) (hok : ∀ x ∈ q, x.Ok w) : SntsAt w v st := ⟨q, hm, hok, row_own h hl⟩

/-- a frame, and the values of its lists -/
structure FrmV where
  f : Frm
  vl : Value
  vg : Value
  vc : Value
def FrmV.cells (x : FrmV) : List Value := [.int .i64 x.f.fr, .int .i64 x.f.to, .int .i64 x.f.seq, .bool x.f.ack, .int .i64 x.f.thread, .int .i64 x.f.mail.host, .int .i64 x.f.mail.thread, x.vl, x.vg, .string ⟨x.f.mail.text.toArray⟩, x.vc]
structure FrmV.Ok (w : World) (x : FrmV) : Prop where
  lab : LabAt w x.vl x.f.mail.label
  nums : IntsAt w x.vg x.f.mail.grants
  crts : CrtsAt w x.vc x.f.certs
theorem FrmV.Ok.below {w wr : World} {x : FrmV} (h : x.Ok w) (hb : Below w.heap.size w wr) : x.Ok wr := ⟨h.lab.below hb, h.nums.below hb, h.crts.below hb⟩
def flatF (q : List FrmV) : List Value := q.flatMap FrmV.cells
theorem flatF_cons (x : FrmV) (q : List FrmV) : flatF (x :: q) = x.cells ++ flatF q := rfl
theorem flatF_app (a b : List FrmV) : flatF (a ++ b) = flatF a ++ flatF b := by simp [flatF]
theorem flatF_len (q : List FrmV) : (flatF q).length = q.length * 11 := by
  induction q with
  | nil => rfl
  | cons x r ih =>
    rw [flatF_cons, List.length_append, ih, List.length_cons]
    show 11 + r.length * 11 = _
    omega
theorem flatF_get : ∀ (q : List FrmV) (j : Nat) (hj : j < q.length) (i : Nat) (_ : i < 11), (flatF q)[j * 11 + i]? = (q[j]).cells[i]?
  | x :: r, 0, _, i, hi => by
    rw [flatF_cons, List.getElem?_append_left (by show _ < 11; omega)]
    simp
  | x :: r, j + 1, hj, i, hi => by
    rw [flatF_cons, List.getElem?_append_right (by show 11 ≤ _; omega), show (j + 1) * 11 + i - x.cells.length = j * 11 + i by show (j + 1) * 11 + i - 11 = _; omega, flatF_get r j (by simpa using hj) i hi]
    simp
theorem FrmV.Ok.one {w : World} {x : FrmV} (h : x.Ok w) : ∀ u ∈ x.cells, u.oneCell' = true := by
  intro u hu
  obtain ⟨⟨pl, cl, el, _⟩, ⟨pg, cg, eg, _⟩, ⟨pc, cc, ec, _⟩⟩ := h
  unfold FrmV.cells at hu
  rw [el, eg, ec] at hu
  simp only [List.mem_cons, List.not_mem_nil, or_false] at hu
  rcases hu with h | h | h | h | h | h | h | h | h | h | h <;> rw [h] <;> rfl
theorem info_frm : (Try.prog.info? 33).map (fun i => (i.zero, i.size, i.bytes)) = some (some (.agg #[.int .i64 0, .int .i64 0, .int .i64 0, .bool false, .int .i64 0, .int .i64 0, .int .i64 0, .slice none 0 0, .slice none 0 0, .string ⟨#[]⟩, .slice none 0 0]), 11, 144) := by kernel_rfl

theorem frm_raw {w : World} {ty : TypeId} {B : Nat} {v : Value} {q : List FrmV} {x : FrmV} {g c : Nat} (h : w.ownsRow B 33 11 v q.length (flatF q)) (hx : x.Ok w) (hc : ∀ j u, x.cells[j]? = some u → w.cell? ⟨g, j, none⟩ = some u) (hB : B ≤ w.heap.size) (hn : q.length < 879609302220) :
    ∃ v' w', (Builtin.append_ #[46, 46] ty #[v, .slice (some ⟨g, 0, none⟩) 1 c]).run Try.prog w = .ok v' w' ∧ w'.ownsRow B 33 11 v' (q ++ [x]).length (flatF (q ++ [x])) ∧ w.grownBy w' v.ownBlock ∧ ∀ k, v'.ownBlock = some k → v.ownBlock = some k ∨ w.heap.size ≤ k := by
  obtain ⟨i0, hi, hz0, hz1, hz2⟩ := info_parts info_frm
  obtain ⟨v', w', hr, k1, k2, k3⟩ := append_where (ty := ty) (c := c) Try.underlying46 hi hz0 hz1 hz2 rfl (by decide) (own_base_le h (Nat.zero_le _)) (m := 1) (news := x.cells) (a := ⟨g, 0, none⟩) rfl (fun j u hu => by rw [WideShapes.add_plain, Nat.zero_add]; exact hc j u hu) hx.one (by unfold maxLen; omega) (by omega)
  refine ⟨v', w', hr, ?_, k2, k3⟩
  rw [flatF_app, List.length_append]
  refine own_rebase (by simpa [flatF] using k1) fun k hk => ?_
  rcases k3 k hk with h1 | h1
  · exact own_base h h1
  · omega
/-- append of a frame, as a step of a region that draws -/
theorem step_frmR {w : World} {ops : Array Oper} {o : Oper} {a0 : Act} {K : Act → World → Prop} {Q : Exit → Act → World → Prop} {E : Prop} (hgd : o.guard = none) (s x : Operand)
    (ho : o.op = .call { callee := .builtin .append, args := #[s, x], argTypes := #[46, 46] }) (B : Nat) (v : Value) (q : List FrmV) (y : FrmV) (hs : a0.eval s = v) (hown : w.ownsRow B 33 11 v q.length (flatF q))
    (g c : Nat) (hx : a0.eval x = .slice (some ⟨g, 0, none⟩) 1 c) (hy : y.Ok w) (hc : ∀ j u, y.cells[j]? = some u → w.cell? ⟨g, j, none⟩ = some u) (hB : B ≤ w.heap.size) (hn : q.length < 879609302220)
    (h : ∀ v' w', w'.ownsRow B 33 11 v' (q ++ [y]).length (flatF (q ++ [y])) → w.grownBy w' v.ownBlock → (∀ k, v'.ownBlock = some k → v.ownBlock = some k ∨ w.heap.size ≤ k) → K (a0.put o.dst v') w') :
    if Region.wanted o (yielded ops a0.tmps) = true then Oper.wp Try.prog o a0 w K Q else E := by
  have hw : Region.wanted o (yielded ops a0.tmps) = true := by simp [Region.wanted, hgd]
  rw [if_pos hw]
  obtain ⟨v', w', hr, k1, k2, k3⟩ := frm_raw (ty := o.type) (c := c) hown hy hc hB hn
  unfold Oper.wp execOp
  simp only [ho, resolve, invoke, builtin, Sem.run_bind, Sem.run_pure, Result.andThen_ok, List.map_toArray, List.map_cons, List.map_nil, hs, hx, hr]
  exact h v' w' k1 k2 k3
theorem wpList_frmR {w : World} {ops : Array Oper} {rest : List Oper} {o : Oper} {a : Act} {Q : Exit → Act → World → Prop} (hgd : o.guard = none) (s x : Operand)
    (ho : o.op = .call { callee := .builtin .append, args := #[s, x], argTypes := #[46, 46] }) (B : Nat) (v : Value) (q : List FrmV) (y : FrmV) (hs : a.eval s = v) (hown : w.ownsRow B 33 11 v q.length (flatF q))
    (g c : Nat) (hx : a.eval x = .slice (some ⟨g, 0, none⟩) 1 c) (hy : y.Ok w) (hc : ∀ j u, y.cells[j]? = some u → w.cell? ⟨g, j, none⟩ = some u) (hB : B ≤ w.heap.size) (hn : q.length < 879609302220)
    (h : ∀ v' w', w'.ownsRow B 33 11 v' (q ++ [y]).length (flatF (q ++ [y])) → w.grownBy w' v.ownBlock → (∀ k, v'.ownBlock = some k → v.ownBlock = some k ∨ w.heap.size ≤ k) → wpList Try.prog ops Q rest (a.put o.dst v') w') : wpList Try.prog ops Q (o :: rest) a w := by
  refine wpList_plain hgd fun K hK => ?_
  obtain ⟨v', w', hr, k1, k2, k3⟩ := frm_raw (ty := o.type) (c := c) hown hy hc hB hn
  unfold Oper.wp execOp
  simp only [ho, resolve, invoke, builtin, Sem.run_bind, Sem.run_pure, Result.andThen_ok, List.map_toArray, List.map_cons, List.map_nil, hs, hx, hr]
  exact hK _ _ (h v' w' k1 k2 k3)

/-- v is a slice whose elements are the frames l -/
def FrmsAt (w : World) (v : Value) (l : List Frm) : Prop := ∃ q : List FrmV, q.map (·.f) = l ∧ (∀ x ∈ q, x.Ok w) ∧ ∃ p cap, v = .slice p q.length cap ∧ q.length ≤ 879609302220 ∧ (0 < q.length → ∃ b, p = some ⟨b, 0, none⟩ ∧ ∀ j u, (flatF q)[j]? = some u → w.cell? ⟨b, j, none⟩ = some u)
theorem frms_raw {B : Nat} {w : World} {v : Value} {q : List FrmV} {l : List Frm} (h : w.ownsRow B 33 11 v q.length (flatF q)) (hl : q.length ≤ 879609302220) (hm : q.map (·.f) = l) (hok : ∀ x ∈ q, x.Ok w) : FrmsAt w v l := by
  refine ⟨q, hm, hok, ?_⟩
  rcases h.2 with ⟨hn, h0⟩ | ⟨g, cap, cur, rfl, hbg, hgg, h1, h2, h3, h4⟩
  · rw [hn]
    exact ⟨none, 0, by rw [h0], hl, fun h => by omega⟩
  · refine ⟨some ⟨g, 0, none⟩, cap, rfl, hl, fun _ => ⟨g, rfl, fun j u hu => ?_⟩⟩
    have := World.ownsRow.cells h (g := g) rfl _ _ hu
    rwa [WideShapes.add_plain, Nat.zero_add] at this
theorem FrmsAt.below {w wr : World} {v : Value} {l : List Frm} (h : FrmsAt w v l) (hb : Below w.heap.size w wr) : FrmsAt wr v l := by
  obtain ⟨q, h1, h2, p, cap, h3, h4, h5⟩ := h
  refine ⟨q, h1, fun x hx => (h2 x hx).below hb, p, cap, h3, h4, fun h0 => ?_⟩
  obtain ⟨b, h6, h7⟩ := h5 h0
  exact ⟨b, h6, fun j u hu => by rw [hb.cell (cell_block (h7 j u hu)), h7 j u hu]⟩
end Go.Proofs.Ytmpjddnbdidleaa
