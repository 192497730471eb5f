/- kernel.answer; appends of objects and clones of labels as steps of a region that draws. -/
import Derived.Test.YtichphepfmafjacQKMail
import Derived.Deep.RegionLaw
import Derived.BigCall
namespace Go.Proofs.Ytichphepfmafjac
open Go.RowKit Go.Proofs.Parclose

def repV (r : Rep) : Value := .agg #[.int .i64 r.code, .int .i64 r.n, .string ⟨r.text.toArray⟩]

theorem kundrew {w w' : World} (h : Below w.drew.heap.size w.drew w') : Below w.heap.size w w' := ⟨h.os, h.tape, h.output, h.size, h.block⟩

theorem answer_any (e : Int) (w : World) : Calls Try.prog 49 #[.int .i64 e] w fun e' w' => e' = .returned (repV (code e)) ∧ Below w.heap.size w w' := by
  go_enter Try.func49, Try.ntmps49
  go_wp2
  refine bodyPost_ret (results_cell_row rfl _ _ w.heap.size 40 _ (0, 0) _ rfl (heap_alloc_new w _) Try.underlying40 rfl (by kernel_rfl)) rfl ⟨rfl, below_box _ _⟩

theorem flatO_snoc (vs : List Value) (os : List Obt) (h : vs.length = os.length) (u : Value) (o : Obt) : flatO (vs ++ [u]) (os ++ [o]) = flatO vs os ++ [u, .string ⟨o.text.toArray⟩] := by
  induction vs generalizing os with
  | nil =>
    have : os = [] := List.length_eq_zero_iff.1 (by simpa using h.symm)
    subst this
    rfl
  | cons x r ih =>
    cases os with
    | nil => simp at h
    | cons y t =>
      show x :: .string ⟨y.text.toArray⟩ :: flatO (r ++ [u]) (t ++ [o]) = _
      rw [ih t (by simpa using h)]
      rfl
theorem flatM_snoc (vs : List (Value × Value)) (ms : List Mal) (h : vs.length = ms.length) (u : Value × Value) (m : Mal) : flatM (vs ++ [u]) (ms ++ [m]) = flatM vs ms ++ [.int .i64 m.host, .int .i64 m.thread, u.1, u.2, .string ⟨m.text.toArray⟩] := by
  induction vs generalizing ms with
  | nil =>
    have : ms = [] := List.length_eq_zero_iff.1 (by simpa using h.symm)
    subst this
    rfl
  | cons x r ih =>
    cases ms with
    | nil => simp at h
    | cons y t =>
      show .int .i64 y.host :: .int .i64 y.thread :: x.1 :: x.2 :: .string ⟨y.text.toArray⟩ :: flatM (r ++ [u]) (t ++ [m]) = _
      rw [ih t (by simpa using h)]
      rfl

/-- where a row lies behind an append -/
theorem append_where {w : World} {t ty e : TypeId} {i : TypeInfo} {z : Value} {size bytes : Nat} (ht : Try.prog.underlying t = some (.slice e)) (hi : Try.prog.info? e = some i) (hz : i.zero = some z) (hsize : i.size = size) (hby : i.bytes = bytes) (hzs : z.cells.size = size) (hsz : 0 < size)
    {v : Value} {n : Nat} {xs : List Value} (hown : w.ownsRow 0 e size v n xs) {a : Addr} {m c : Nat} {news : List Value} (hl : news.length = m * size) (hnews : ∀ j u, news[j]? = some u → w.cell? (a.add j) = some u) (h1 : ∀ u ∈ news, u.oneCell' = true)
    (h63 : n + m ≤ maxLen) (hbytes : (n + m) * bytes ≤ 140737488355328) :
    ∃ v' w', (Builtin.append_ #[t, t] ty #[v, .slice (some a) m c]).run Try.prog w = .ok v' w' ∧ w'.ownsRow 0 e size v' (n + m) (xs ++ news) ∧ w.grownBy w' v.ownBlock ∧ ∀ k, v'.ownBlock = some k → v.ownBlock = some k ∨ w.heap.size ≤ k := by
  obtain ⟨v', w', hr, h2, h3, _⟩ := run_append_own (P := Try.prog) w 0 t ty e i z size bytes ht hi hz hsize hby hzs hsz v n xs hown a m c news hl hnews h1 h63 hbytes (Nat.zero_le _)
  refine ⟨v', w', hr, h2, h3, ?_⟩
  rcases hown.2 with ⟨rfl, rfl⟩ | ⟨g, cap, cur, rfl, hbg, hg, hnc, hcm, hcs, htake⟩
  · have hx : xs = [] := List.eq_nil_of_length_eq_zero (by simpa using hown.1)
    subst hx
    obtain ⟨v2, w2, hr2, k2, _, _⟩ := run_append_own (P := Try.prog) w w.heap.size t ty e i z size bytes ht hi hz hsize hby hzs hsz (.slice none 0 0) 0 [] (World.ownsRow_nil _ _ _ _) a m c news hl hnews h1 h63 hbytes (Nat.le_refl _)
    rw [hr] at hr2
    injection hr2 with e1 e2
    subst e1
    exact fun k hk => .inr (own_base k2 hk)
  · subst hsize
    subst hby
    by_cases hroom : n + m ≤ cap
    · have hfit : n * i.size + news.length ≤ cur.size := by rw [hl, hcs, ← Nat.add_mul]; exact Nat.mul_le_mul_right _ hroom
      have hr2 := run_append_room (P := Try.prog) w t ty e i ht hi g n cap cur hg a m c news hl hnews h1 hroom hfit
      rw [hr] at hr2
      injection hr2 with e1 e2
      subst e1
      exact fun k hk => .inl hk
    · have holds : ∀ j u, xs[j]? = some u → w.cell? ((⟨g, 0, none⟩ : Addr).add j) = some u := hown.cells (g := g) rfl
      have hr2 := run_append_grow (P := Try.prog) w t ty e i z ht hi hz ⟨g, 0, none⟩ n cap xs hown.1 holds a m c news hl hnews (by omega) (by simp only [maxLen] at h63; omega) (growslice_fits (by omega) hbytes)
      rw [hr] at hr2
      injection hr2 with e1 e2
      subst e1
      exact fun k hk => .inr (by cases hk; exact Nat.le_refl _)

/-- append of one object, as a step of a region that draws -/
theorem step_object {w : World} {ops : Array Oper} {o : Oper} {a0 : Act} {K : Act → World → Prop} {Q : Exit → Act → World → Prop} {E : Prop} (hgd : o.guard = none) (s x : Operand)
    (ho : o.op = .call { callee := .builtin .append, args := #[s, x], argTypes := #[28, 28] }) (v : Value) (n : Nat) (xs : List Value) (hs : a0.eval s = v) (hown : w.ownsRow 0 55 2 v n xs)
    (g : Nat) (x1 x2 : Value) (hx : a0.eval x = .slice (some ⟨g, 0, none⟩) 1 1) (hc : ∀ j u, [x1, x2][j]? = some u → w.cell? ((⟨g, 0, none⟩ : Addr).add j) = some u) (h1 : ∀ u ∈ [x1, x2], u.oneCell' = true) (hn : n ≤ 1000)
    (h : ∀ v' w', w'.ownsRow 0 55 2 v' (n + 1) (xs ++ [x1, x2]) → w.grownBy w' v.ownBlock → (∀ k, v'.ownBlock = some k → v.ownBlock = some k ∨ w.heap.size ≤ k) → K (a0.put o.dst v') w') :
    if Region.wanted o (yielded ops a0.tmps) = true then Oper.wp Try.prog o a0 w K Q else E := by
  have hw : Region.wanted o (yielded ops a0.tmps) = true := by simp [Region.wanted, hgd]
  rw [if_pos hw]
  obtain ⟨i0, hi, hz0, hz1, hz2⟩ := info_parts info_object
  obtain ⟨v', w', hr, k1, k2, k3⟩ := append_where (ty := o.type) (c := 1) Try.underlying28 hi hz0 hz1 hz2 rfl (by decide) hown (m := 1) (news := [x1, x2]) rfl hc h1 (by unfold maxLen; omega) (by omega)
  unfold Oper.wp execOp
  simp only [ho, resolve, invoke, builtin, Sem.run_bind, Sem.run_pure, Result.andThen_ok, List.map_toArray, List.map_cons, List.map_nil, hs, hx, hr]
  exact h v' w' k1 k2 k3
theorem enter_cloneL (args : Array Value) (w : World) : (callFunc 77 args).run Try.prog w = .ok (.enter 77 args) w := by kernel_rfl
/-- a clone of a label, as a step of a region that draws -/
theorem step_cloneL {w : World} {ops : Array Oper} {o : Oper} {a0 : Act} {K : Act → World → Prop} {Q : Exit → Act → World → Prop} {E : Prop} (hgd : o.guard = none) (x : Operand) (ats : Array TypeId)
    (ho : o.op = .call { callee := .value (.func 77), args := #[x], argTypes := ats }) (v : Value) (l : List (Int × Int)) (hx : a0.eval x = v) (hv : LabAt w v l)
    (h : ∀ v' w', w'.ownsRow w.heap.size 84 2 v' l.length (flat2 l) → Below w.heap.size w w' → K (a0.put o.dst v') w') :
    if Region.wanted o (yielded ops a0.tmps) = true then Oper.wp Try.prog o a0 w K Q else E := by
  have hw : Region.wanted o (yielded ops a0.tmps) = true := by simp [Region.wanted, hgd]
  rw [if_pos hw]
  unfold Oper.wp
  obtain ⟨dst, op, ty, pos, after, guard⟩ := o
  simp only at ho
  subst ho
  rw [execOp_call_go]
  have e : (#[] ++ #[x].map a0.eval ++ #[] : Array Value) = #[v] := by simp [hx]
  rw [e, enter_cloneL, Oper.upon_enter]
  refine (cloneL_any v l w hv).mono ?_
  rintro e w' ⟨v', rfl, h1, h2⟩
  exact h v' w' h1 h2
end Go.Proofs.Ytichphepfmafjac
