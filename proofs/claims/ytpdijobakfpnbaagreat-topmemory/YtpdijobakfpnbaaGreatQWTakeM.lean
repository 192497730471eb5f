/- wire.takeMail takes mail from what stands in front. -/
import Derived.Test.YtpdijobakfpnbaaGreatQWTaker
import Derived.Deep.RegionLaw
import Derived.BigCall
namespace Go.Proofs.YtpdijobakfpnbaaGreat
open Go.RowKit Go.Proofs.Parclose
theorem QeR (args : Array Value) (w : World) : (callFunc 179 args).run Tryz.prog w = .ok (.enter 179 args) w := by kernel_rfl
theorem Qbw {w : World} {ops : Array Oper} {o : Oper} {a0 : Act} {K : Act → World → Prop} {Q : Exit → Act → World → Prop} {E : Prop} (hgd : o.guard = none) (x y : Operand) (ats : Array TypeId)
 (ho : o.op = .call { callee := .value (.func 179), args := #[x, y], argTypes := ats }) (a : Nat) (t : Tk) (hx : a0.eval x = .pointer (some ⟨a, 0, none⟩)) (hy : a0.eval y = .int .i64 1) (ht : TkAt w a t)
 (h : ∀ w', TkAt w' a (numT 1 t).2 → w.grownBy w' (some a) → K (a0.put o.dst (.int .i64 (numT 1 t).1)) w') :
 if Region.wanted o (yielded ops a0.tmps) = true then Oper.wp Tryz.prog o a0 w K Q else E := by
 have hw : Region.wanted o (yielded ops a0.tmps) = true := by simp [Region.wanted, hgd]
 rw [if_pos hw]
 unfold Oper.wp
 obtain ⟨dst, op, ty, pos, after, guard⟩ := o
 simp only at ho
 subst ho
 rw [execOp_call_go]
 have e : (#[] ++ #[x, y].map a0.eval ++ #[] : Array Value) = #[.pointer (some ⟨a, 0, none⟩), .int .i64 1] := by simp [hx, hy]
 rw [e, QeR, Oper.upon_enter]
 refine (number1 a t w ht).mono ?_
 rintro e w' ⟨rfl, h1, h2⟩
 exact h w' h1 h2
theorem QgA {w : World} {ops : Array Oper} {o : Oper} {a0 : Act} {K : Act → World → Prop} {Q : Exit → Act → World → Prop} {E : Prop} (hgd : o.guard = none) (s x : Operand)
 (ho : o.op = .call { callee := .builtin .append, args := #[s, x], argTypes := #[34, 34] }) (base : Nat) (v : Value) (n : Nat) (xs : List Value) (hs : a0.eval s = v) (hown : w.ownsRow base 54 2 v n xs)
 (g : Nat) (x1 x2 : Int) (hx : a0.eval x = .slice (some ⟨g, 0, none⟩) 1 1) (hc : ∀ j u, [Value.int .i64 x1, .int .i64 x2][j]? = some u → w.cell? ((⟨g, 0, none⟩ : Addr).add j) = some u) (hn : n ≤ 1000) (hbase : base ≤ w.heap.size)
 (h : ∀ v' w', w'.ownsRow base 54 2 v' (n + 1) (xs ++ [.int .i64 x1, .int .i64 x2]) → w.grownBy w' v.ownBlock → K (a0.put o.dst v') w') :
 if Region.wanted o (yielded ops a0.tmps) = true then Oper.wp Tryz.prog o a0 w K Q else E := by
 have hw : Region.wanted o (yielded ops a0.tmps) = true := by simp [Region.wanted, hgd]
 rw [if_pos hw]
 obtain ⟨i0, hi, hz0, hz1, hz2⟩ := info_parts Qbn
 exact wp_append_own w s x 34 ho base 54 i0 _ 2 16 Tryz.underlying34 hi hz0 hz1 hz2 rfl (by decide) v n xs hs hown ⟨g, 0, none⟩ 1 1 [.int .i64 x1, .int .i64 x2] hx rfl hc (Qeq [(x1, x2)]) (by unfold maxLen; omega) (by omega) hbase
  (fun v' w' h1 h2 _ => h v' w' h1 h2)
theorem Qjy {w : World} {ops : Array Oper} {o : Oper} {a0 : Act} {K : Act → World → Prop} {Q : Exit → Act → World → Prop} {E : Prop} (hgd : o.guard = none) (s x : Operand)
 (ho : o.op = .call { callee := .builtin .append, args := #[s, x], argTypes := #[35, 35] }) (base : Nat) (v : Value) (n : Nat) (xs : List Value) (hs : a0.eval s = v) (hown : w.ownsRow base 3 1 v n xs)
 (g : Nat) (x1 : Int) (hx : a0.eval x = .slice (some ⟨g, 0, none⟩) 1 1) (hc : ∀ j u, [Value.int .i64 x1][j]? = some u → w.cell? ((⟨g, 0, none⟩ : Addr).add j) = some u) (hn : n ≤ 1000) (hbase : base ≤ w.heap.size)
 (h : ∀ v' w', w'.ownsRow base 3 1 v' (n + 1) (xs ++ [.int .i64 x1]) → w.grownBy w' v.ownBlock → K (a0.put o.dst v') w') :
 if Region.wanted o (yielded ops a0.tmps) = true then Oper.wp Tryz.prog o a0 w K Q else E := by
 have hw : Region.wanted o (yielded ops a0.tmps) = true := by simp [Region.wanted, hgd]
 rw [if_pos hw]
 obtain ⟨i0, hi, hz0, hz1, hz2⟩ := info_parts Qbu
 exact wp_append_own w s x 35 ho base 3 i0 _ 1 8 Tryz.underlying35 hi hz0 hz1 hz2 rfl (by decide) v n xs hs hown ⟨g, 0, none⟩ 1 1 [.int .i64 x1] hx rfl hc (QaO [x1]) (by unfold maxLen; omega) (by omega) hbase
  (fun v' w' h1 h2 _ => h v' w' h1 h2)
theorem QfA (k : Nat) (t : Tk) : (iterN levStep k ([], t)).1.length = k := by
 induction k with
 | zero => rfl
 | succ k ih =>
  show ((iterN levStep k ([], t)).1 ++ [_]).length = k + 1
  simp [ih]
theorem Qg7 (k : Nat) (t : Tk) : (iterN grStep k ([], t)).1.length = k := by
 induction k with
 | zero => rfl
 | succ k ih =>
  show ((iterN grStep k ([], t)).1 ++ [_]).length = k + 1
  simp [ih]
theorem Qhl (l : List (Int × Int)) (x y : Int) : flat2 (l ++ [(x, y)]) = flat2 l ++ [.int .i64 x, .int .i64 y] := by simp [flat2]
theorem Qhm (l : List Int) (x : Int) : flat1 (l ++ [x]) = flat1 l ++ [.int .i64 x] := by simp [flat1]
end Go.Proofs.YtpdijobakfpnbaaGreat
