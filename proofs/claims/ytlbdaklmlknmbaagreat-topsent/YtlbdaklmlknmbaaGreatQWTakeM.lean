/- wire.takeMail takes mail from what stands in front. -/
import Derived.Test.YtlbdaklmlknmbaaGreatQWTaker
import Derived.Deep.RegionLaw
import Derived.BigCall
namespace Go.Proofs.YtlbdaklmlknmbaaGreat
open Go.RowKit Go.Proofs.Parclose
theorem enter_number (args : Array Value) (w : World) : (callFunc 135 args).run Tryz.prog w = .ok (.enter 135 args) w := by kernel_rfl
theorem step_number {w : World} {ops : Array Oper} {o : Oper} {a0 : Act} {K : Act → World → Prop} {Q : Exit → Act → World → Prop} {E : Prop} (hgd : o.guard = none) (x y : Operand) (ats : Array TypeId)
    (ho : o.op = .call { callee := .value (.func 135), args := #[x, y], argTypes := ats }) (a : Nat) (t : Tk) (hx : a0.eval x = .pointer (some ⟨a, 0, none⟩)) (hy : a0.eval y = .int .i64 1) (ht : TkAt w a t)
    (h : ∀ w', TkAt w' a (numT 1 t).2 → w.grownBy w' (some a) → K (a0.put o.dst (.int .i64 (numT 1 t).1)) w') :
    if Region.wanted o (yielded ops a0.tmps) = true then Oper.wp Tryz.prog o a0 w K Q else E := by
  have hw : Region.wanted o (yielded ops a0.tmps) = true := by simp [Region.wanted, hgd]
  rw [if_pos hw]
  unfold Oper.wp
  obtain ⟨dst, op, ty, pos, after, guard⟩ := o
  simp only at ho
  subst ho
  rw [execOp_call_go]
  have e : (#[] ++ #[x, y].map a0.eval ++ #[] : Array Value) = #[.pointer (some ⟨a, 0, none⟩), .int .i64 1] := by simp [hx, hy]
  rw [e, enter_number, Oper.upon_enter]
  refine (number1 a t w ht).mono ?_
  rintro e w' ⟨rfl, h1, h2⟩
  exact h w' h1 h2
theorem step_level {w : World} {ops : Array Oper} {o : Oper} {a0 : Act} {K : Act → World → Prop} {Q : Exit → Act → World → Prop} {E : Prop} (hgd : o.guard = none) (s x : Operand)
    (ho : o.op = .call { callee := .builtin .append, args := #[s, x], argTypes := #[27, 27] }) (base : Nat) (v : Value) (n : Nat) (xs : List Value) (hs : a0.eval s = v) (hown : w.ownsRow base 92 2 v n xs)
    (g : Nat) (x1 x2 : Int) (hx : a0.eval x = .slice (some ⟨g, 0, none⟩) 1 1) (hc : ∀ j u, [Value.int .i64 x1, .int .i64 x2][j]? = some u → w.cell? ((⟨g, 0, none⟩ : Addr).add j) = some u) (hn : n ≤ 1000) (hbase : base ≤ w.heap.size)
    (h : ∀ v' w', w'.ownsRow base 92 2 v' (n + 1) (xs ++ [.int .i64 x1, .int .i64 x2]) → w.grownBy w' v.ownBlock → K (a0.put o.dst v') w') :
    if Region.wanted o (yielded ops a0.tmps) = true then Oper.wp Tryz.prog o a0 w K Q else E := by
  have hw : Region.wanted o (yielded ops a0.tmps) = true := by simp [Region.wanted, hgd]
  rw [if_pos hw]
  obtain ⟨i0, hi, hz0, hz1, hz2⟩ := info_parts info_level
  exact wp_append_own w s x 27 ho base 92 i0 _ 2 16 Tryz.underlying27 hi hz0 hz1 hz2 rfl (by decide) v n xs hs hown ⟨g, 0, none⟩ 1 1 [.int .i64 x1, .int .i64 x2] hx rfl hc (flat2_one [(x1, x2)]) (by unfold maxLen; omega) (by omega) hbase
      (fun v' w' h1 h2 _ => h v' w' h1 h2)
theorem step_num {w : World} {ops : Array Oper} {o : Oper} {a0 : Act} {K : Act → World → Prop} {Q : Exit → Act → World → Prop} {E : Prop} (hgd : o.guard = none) (s x : Operand)
    (ho : o.op = .call { callee := .builtin .append, args := #[s, x], argTypes := #[28, 28] }) (base : Nat) (v : Value) (n : Nat) (xs : List Value) (hs : a0.eval s = v) (hown : w.ownsRow base 3 1 v n xs)
    (g : Nat) (x1 : Int) (hx : a0.eval x = .slice (some ⟨g, 0, none⟩) 1 1) (hc : ∀ j u, [Value.int .i64 x1][j]? = some u → w.cell? ((⟨g, 0, none⟩ : Addr).add j) = some u) (hn : n ≤ 1000) (hbase : base ≤ w.heap.size)
    (h : ∀ v' w', w'.ownsRow base 3 1 v' (n + 1) (xs ++ [.int .i64 x1]) → w.grownBy w' v.ownBlock → K (a0.put o.dst v') w') :
    if Region.wanted o (yielded ops a0.tmps) = true then Oper.wp Tryz.prog o a0 w K Q else E := by
  have hw : Region.wanted o (yielded ops a0.tmps) = true := by simp [Region.wanted, hgd]
  rw [if_pos hw]
  obtain ⟨i0, hi, hz0, hz1, hz2⟩ := info_parts info_int
  exact wp_append_own w s x 28 ho base 3 i0 _ 1 8 Tryz.underlying28 hi hz0 hz1 hz2 rfl (by decide) v n xs hs hown ⟨g, 0, none⟩ 1 1 [.int .i64 x1] hx rfl hc (flat1_one [x1]) (by unfold maxLen; omega) (by omega) hbase
      (fun v' w' h1 h2 _ => h v' w' h1 h2)
theorem levs_length (k : Nat) (t : Tk) : (iterN levStep k ([], t)).1.length = k := by
  induction k with
  | zero => rfl
  | succ k ih =>
    show ((iterN levStep k ([], t)).1 ++ [_]).length = k + 1
    simp [ih]
theorem grs_length (k : Nat) (t : Tk) : (iterN grStep k ([], t)).1.length = k := by
  induction k with
  | zero => rfl
  | succ k ih =>
    show ((iterN grStep k ([], t)).1 ++ [_]).length = k + 1
    simp [ih]
theorem flat2_snoc (l : List (Int × Int)) (x y : Int) : flat2 (l ++ [(x, y)]) = flat2 l ++ [.int .i64 x, .int .i64 y] := by simp [flat2]
theorem flat1_snoc (l : List Int) (x : Int) : flat1 (l ++ [x]) = flat1 l ++ [.int .i64 x] := by simp [flat1]
end Go.Proofs.YtlbdaklmlknmbaaGreat
