/- append to a row of what was sent. -/
import Derived.Test.YtmpjddnbdidleaaLRow
import Derived.Laws.AppendOwnNone
import Derived.Deep.RegionLaw
namespace Go.Proofs.Ytmpjddnbdidleaa
open Go.RowKit Go.Proofs.Parclose

/-- where a row lies behind an append -/
theorem append_where {w : World} {t ty e : TypeId} {i : TypeInfo} {z : Value} {size bytes : Nat} (ht : Try.prog.underlying t = some (.slice e)) (hi : Try.prog.info? e = some i) (hz : i.zero = some z) (hsize : i.size = size) (hby : i.bytes = bytes) (hzs : z.cells.size = size) (hsz : 0 < size)
    {v : Value} {n : Nat} {xs : List Value} (hown : w.ownsRow 0 e size v n xs) {a : Addr} {m c : Nat} {news : List Value} (hl : news.length = m * size) (hnews : ∀ j u, news[j]? = some u → w.cell? (a.add j) = some u) (h1 : ∀ u ∈ news, u.oneCell' = true)
    (h63 : n + m ≤ maxLen) (hbytes : (n + m) * bytes ≤ 140737488355328) :
    ∃ v' w', (Builtin.append_ #[t, t] ty #[v, .slice (some a) m c]).run Try.prog w = .ok v' w' ∧ w'.ownsRow 0 e size v' (n + m) (xs ++ news) ∧ w.grownBy w' v.ownBlock ∧ ∀ k, v'.ownBlock = some k → v.ownBlock = some k ∨ w.heap.size ≤ k := by
  obtain ⟨v', w', hr, h2, h3, _⟩ := run_append_own (P := Try.prog) w 0 t ty e i z size bytes ht hi hz hsize hby hzs hsz v n xs hown a m c news hl hnews h1 h63 hbytes (Nat.zero_le _)
  refine ⟨v', w', hr, h2, h3, ?_⟩
  rcases hown.2 with ⟨rfl, rfl⟩ | ⟨g, cap, cur, rfl, hbg, hg, hnc, hcm, hcs, htake⟩
  · have hx : xs = [] := List.eq_nil_of_length_eq_zero (by simpa using hown.1)
    subst hx
    obtain ⟨v2, w2, hr2, k2, _, _⟩ := run_append_own (P := Try.prog) w w.heap.size t ty e i z size bytes ht hi hz hsize hby hzs hsz (.slice none 0 0) 0 [] (World.ownsRow_nil _ _ _ _) a m c news hl hnews h1 h63 hbytes (Nat.le_refl _)
    rw [hr] at hr2
    injection hr2 with e1 e2
    subst e1
    exact fun k hk => .inr (own_base k2 hk)
  · subst hsize
    subst hby
    by_cases hroom : n + m ≤ cap
    · have hfit : n * i.size + news.length ≤ cur.size := by rw [hl, hcs, ← Nat.add_mul]; exact Nat.mul_le_mul_right _ hroom
      have hr2 := run_append_room (P := Try.prog) w t ty e i ht hi g n cap cur hg a m c news hl hnews h1 hroom hfit
      rw [hr] at hr2
      injection hr2 with e1 e2
      subst e1
      exact fun k hk => .inl hk
    · have holds : ∀ j u, xs[j]? = some u → w.cell? ((⟨g, 0, none⟩ : Addr).add j) = some u := hown.cells (g := g) rfl
      have hr2 := run_append_grow (P := Try.prog) w t ty e i z ht hi hz ⟨g, 0, none⟩ n cap xs hown.1 holds a m c news hl hnews (by omega) (by simp only [maxLen] at h63; omega) (growslice_fits (by omega) hbytes)
      rw [hr] at hr2
      injection hr2 with e1 e2
      subst e1
      exact fun k hk => .inr (by cases hk; exact Nat.le_refl _)


theorem OwnRow.snoc {B : Nat} {w w' : World} {v v' : Value} {q : List SntV} {x : SntV} (h : OwnRow B w v q) (hx : ∀ w'', Off B v.ownBlock w w'' → x.Ok w'') (hg : w.grownBy w' v.ownBlock) (hown : w'.ownsRow 0 56 13 v' (q.length + 1) (flatS q ++ x.cells)) (hB : B ≤ w.heap.size)
    (hw : ∀ k, v'.ownBlock = some k → v.ownBlock = some k ∨ w.heap.size ≤ k) : OwnRow B w' v' (q ++ [x]) := by
  have ho : ∀ w'', Off B v'.ownBlock w' w'' → Off B v.ownBlock w w'' := fun w'' ho k hk hks hr => by
    rw [ho k hk (Nat.lt_of_lt_of_le hks hg.size) (fun e => (hw k e).elim (fun h1 => hr h1) (fun h1 => by omega)), hg.block k hks (Ne.symm hr)]
  refine ⟨?_, fun y hy w'' hoff => ?_⟩
  · rw [flatS_app, List.length_append]
    refine own_rebase (by simpa [flatS] using hown) fun k hk => ?_
    rcases hw k hk with h1 | h1
    · exact own_base h.own h1
    · omega
  · rcases List.mem_append.1 hy with hy | hy
    · exact h.ok y hy w'' (ho w'' hoff)
    · rw [List.mem_singleton] at hy
      subst hy
      exact hx w'' (ho w'' hoff)

theorem sent_run {w : World} {ty : TypeId} {B : Nat} {v : Value} {q : List SntV} {x : SntV} {g c : Nat} (h : OwnRow B w v q) (hx : ∀ w'', Off B v.ownBlock w w'' → x.Ok w'') (hc : ∀ j u, x.cells[j]? = some u → w.cell? ⟨g, j, none⟩ = some u) (hB : B ≤ w.heap.size) (hn : q.length < 879609302220) :
    ∃ v' w', (Builtin.append_ #[22, 22] ty #[v, .slice (some ⟨g, 0, none⟩) 1 c]).run Try.prog w = .ok v' w' ∧ OwnRow B w' v' (q ++ [x]) ∧ w.grownBy w' v.ownBlock := by
  obtain ⟨i0, hi, hz0, hz1, hz2⟩ := info_parts info_sent
  have h1 : ∀ u ∈ x.cells, u.oneCell' = true := fun u hu => flatS_one (q := [x]) (fun y hy => by rw [List.mem_singleton] at hy; subst hy; exact hx w (Off.refl _ _ _)) u (by simpa [flatS] using hu)
  obtain ⟨v', w', hr, k1, k2, k3⟩ := append_where (ty := ty) (c := c) Try.underlying22 hi hz0 hz1 hz2 rfl (by decide) (own_base_le h.own (Nat.zero_le _)) (m := 1) (news := x.cells) (a := ⟨g, 0, none⟩) rfl (fun j u hu => by rw [WideShapes.add_plain, Nat.zero_add]; exact hc j u hu) h1 (by unfold maxLen; omega) (by omega)
  exact ⟨v', w', hr, h.snoc hx k2 k1 hB k3, k2⟩

/-- append of one that was sent, as a step of a region that draws -/
theorem step_sent {w : World} {ops : Array Oper} {o : Oper} {a0 : Act} {K : Act → World → Prop} {Q : Exit → Act → World → Prop} {E : Prop} (hgd : o.guard = none) (s x : Operand)
    (ho : o.op = .call { callee := .builtin .append, args := #[s, x], argTypes := #[22, 22] }) (B : Nat) (v : Value) (q : List SntV) (y : SntV) (hs : a0.eval s = v) (hown : OwnRow B w v q)
    (g c : Nat) (hx : a0.eval x = .slice (some ⟨g, 0, none⟩) 1 c) (hy : ∀ w'', Off B v.ownBlock w w'' → y.Ok w'') (hc : ∀ j u, y.cells[j]? = some u → w.cell? ⟨g, j, none⟩ = some u) (hB : B ≤ w.heap.size) (hn : q.length < 879609302220)
    (h : ∀ v' w', OwnRow B w' v' (q ++ [y]) → w.grownBy w' v.ownBlock → K (a0.put o.dst v') w') :
    if Region.wanted o (yielded ops a0.tmps) = true then Oper.wp Try.prog o a0 w K Q else E := by
  have hw : Region.wanted o (yielded ops a0.tmps) = true := by simp [Region.wanted, hgd]
  rw [if_pos hw]
  obtain ⟨v', w', hr, k1, k2⟩ := sent_run (ty := o.type) (c := c) hown hy hc hB hn
  unfold Oper.wp execOp
  simp only [ho, resolve, invoke, builtin, Sem.run_bind, Sem.run_pure, Result.andThen_ok, List.map_toArray, List.map_cons, List.map_nil, hs, hx, hr]
  exact h v' w' k1 k2
/-- the same in a list of operations -/
theorem wpList_sent {w : World} {ops : Array Oper} {rest : List Oper} {o : Oper} {a : Act} {Q : Exit → Act → World → Prop} (hgd : o.guard = none) (s x : Operand)
    (ho : o.op = .call { callee := .builtin .append, args := #[s, x], argTypes := #[22, 22] }) (B : Nat) (v : Value) (q : List SntV) (y : SntV) (hs : a.eval s = v) (hown : OwnRow B w v q)
    (g c : Nat) (hx : a.eval x = .slice (some ⟨g, 0, none⟩) 1 c) (hy : ∀ w'', Off B v.ownBlock w w'' → y.Ok w'') (hc : ∀ j u, y.cells[j]? = some u → w.cell? ⟨g, j, none⟩ = some u) (hB : B ≤ w.heap.size) (hn : q.length < 879609302220)
    (h : ∀ v' w', OwnRow B w' v' (q ++ [y]) → w.grownBy w' v.ownBlock → wpList Try.prog ops Q rest (a.put o.dst v') w') : wpList Try.prog ops Q (o :: rest) a w := by
  refine wpList_plain hgd fun K hK => ?_
  obtain ⟨v', w', hr, k1, k2⟩ := sent_run (ty := o.type) (c := c) hown hy hc hB hn
  unfold Oper.wp execOp
  simp only [ho, resolve, invoke, builtin, Sem.run_bind, Sem.run_pure, Result.andThen_ok, List.map_toArray, List.map_cons, List.map_nil, hs, hx, hr]
  exact hK _ _ (h v' w' k1 k2)
end Go.Proofs.Ytmpjddnbdidleaa
