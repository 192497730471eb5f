/- wire.takeCerts takes certs from what stands in front. -/
import Derived.Test.YtagmnfghkfeplaaWTaker
import Derived.Test.YtagmnfghkfeplaaWRows
namespace Go.Proofs.Ytagmnfghkfeplaa
open Go.RowKit Go.Proofs.Parclose

theorem number1 (a : Nat) (t : Tk) (w : World) (h : TkAt w a t) : Calls Try.prog 54 #[.pointer (some ⟨a, 0, none⟩), .int .i64 1] w fun e w' => e = .returned (.int .i64 (numT 1 t).1) ∧ TkAt w' a (numT 1 t).2 ∧ w.grownBy w' (some a) := number_any a 1 t w h (by omega)
theorem number6 (a : Nat) (t : Tk) (w : World) (h : TkAt w a t) : Calls Try.prog 54 #[.pointer (some ⟨a, 0, none⟩), .int .i64 6] w fun e w' => e = .returned (.int .i64 (numT 6 t).1) ∧ TkAt w' a (numT 6 t).2 ∧ w.grownBy w' (some a) := number_any a 6 t w h (by omega)

theorem numT1_nat (t : Tk) : ∃ n : Nat, (numT 1 t).1 = (n : Int) ∧ n < 256 := by
  unfold numT textT
  split
  · exact ⟨0, rfl, by omega⟩
  · obtain ⟨r, fl⟩ := t
    cases r with
    | nil => exact ⟨0, rfl, by omega⟩
    | cons b r => exact ⟨b.toNat, by simp [numL], b.toNat_lt⟩

theorem own_tk {w w' : World} {base : Nat} {e : TypeId} {size : Nat} {v : Value} {n : Nat} {xs : List Value} {a : Nat} (h : w.ownsRow base e size v n xs) (ha : a < base) (hg : w.grownBy w' (some a)) : w'.ownsRow base e size v n xs :=
  h.kept hg (Or.inr fun e => by have := own_base h e; omega)

theorem tk_own {w w' : World} {base : Nat} {e : TypeId} {size : Nat} {v : Value} {n : Nat} {xs : List Value} {a : Nat} {t : Tk} (h : TkAt w a t) (ho : w.ownsRow base e size v n xs) (ha : a < base) (hs : a < w.heap.size) (hg : w.grownBy w' v.ownBlock) : TkAt w' a t := by
  unfold TkAt at h ⊢
  rw [hg.block a hs (fun e => by have := own_base ho e.symm; omega), h]


theorem crs_length (k : Nat) (t : Tk) : (iterN crStep k ([], t)).1.length = k := by
  induction k with
  | zero => rfl
  | succ k ih =>
    show ((iterN crStep k ([], t)).1 ++ [_]).length = k + 1
    simp [ih]

theorem flat4_snoc (l : List Crt) (x : Crt) : flat4 (l ++ [x]) = flat4 l ++ [.int .i64 x.c, .int .i64 x.b, .int .i64 x.h, .int .i64 x.u] := by simp [flat4]

set_option maxHeartbeats 1600000 in
theorem takeCerts_any (a : Nat) (t : Tk) (w : World) (h : TkAt w a t) (ha : a < w.heap.size) : Calls Try.prog 56 #[.pointer (some ⟨a, 0, none⟩)] w fun e w' => ∃ v', e = .returned v' ∧ (∀ w'', Since w.heap.size w' w'' → CrtsAt w'' v' (certsT t).1) ∧ TkAt w' a (certsT t).2 ∧ w.grownBy w' (some a) := by
  obtain ⟨i0, hi, hz0, hz1, hz2⟩ := info_parts info_cert
  obtain ⟨N, hN, hN2⟩ := numT1_nat t
  have HC : Hid (certsT t = iterN crStep N ([], (numT 1 t).2)) := hid (by unfold certsT; rw [hN]; rfl)
  go_enter Try.func56, Try.ntmps56
  go_wp2_with fail
  refine (number1 a t _ h).mono ?_
  rintro e w1 ⟨rfl, ht1, hg1⟩
  rw [hN]
  generalize (numT 1 t).2 = t1 at *
  clear hN h
  go_wp2
  go_loopw [3, 6] (fun v i wr => ∃ k : Nat, k ≤ N ∧ i = .int .i64 k ∧ wr.ownsRow w.heap.size 39 4 v (iterN crStep k ([], t1)).1.length (flat4 (iterN crStep k ([], t1)).1) ∧ TkAt wr a (iterN crStep k ([], t1)).2 ∧ w.grownBy wr (some a)) (fun _ i _ => N - (intOf i).toNat)
  case atStart => exact ⟨0, Nat.zero_le _, rfl, World.ownsRow_nil _ _ _ _, ht1, hg1⟩
  case round =>
    clear ht1 hg1
    obtain ⟨k, hk, rfl, hown, ht, hg⟩ := hrel
    have hlen := crs_length k t1
    by_cases hlt : k < N
    · have HS : Hid (iterN crStep (k + 1) ([], t1) = crStep (iterN crStep k ([], t1))) := hid rfl
      have HK : Hid ((iterN crStep k ([], t1)).1.length = k) := hlen
      clear hlen
      generalize iterN crStep k ([], t1) = s at *
      go_wp2_with fail
      refine (number1 a _ _ ht).mono ?_
      rintro e w2 ⟨rfl, ht2, hg2⟩
      have hown2 := own_tk hown ha hg2
      have hgg2 := grown_trans hg hg2
      clear hown ht hg hg2
      go_wp2_with fail
      refine (number1 a _ _ ht2).mono ?_
      rintro e w3 ⟨rfl, ht3, hg3⟩
      have hown3 := own_tk hown2 ha hg3
      have hgg3 := grown_trans hgg2 hg3
      clear hown2 ht2 hgg2 hg3
      go_wp2_with fail
      refine (number1 a _ _ ht3).mono ?_
      rintro e w4 ⟨rfl, ht4, hg4⟩
      have hown4 := own_tk hown3 ha hg4
      have hgg4 := grown_trans hgg3 hg4
      clear hown3 ht3 hgg3 hg4
      go_wp2_with fail
      refine (number6 a _ _ ht4).mono ?_
      rintro e w5 ⟨rfl, ht5, hg5⟩
      have hown5 := own_tk hown4 ha hg5
      have hgg5 := grown_trans hgg4 hg5
      have hsz := hgg5.size
      clear hown4 ht4 hgg4 hg5
      have HX : Hid (crStep s = (s.1 ++ [⟨(numT 1 s.2).1, (numT 1 (numT 1 s.2).2).1, (numT 1 (numT 1 (numT 1 s.2).2).2).1, (numT 6 (numT 1 (numT 1 (numT 1 s.2).2).2).2).1⟩], (numT 6 (numT 1 (numT 1 (numT 1 s.2).2).2).2).2)) := hid rfl
      generalize (numT 1 s.2).1 = x1 at *
      generalize (numT 1 (numT 1 s.2).2).1 = x2 at *
      generalize (numT 1 (numT 1 (numT 1 s.2).2).2).1 = x3 at *
      generalize (numT 6 (numT 1 (numT 1 (numT 1 s.2).2).2).2).1 = x4 at *
      generalize (numT 6 (numT 1 (numT 1 (numT 1 s.2).2).2).2).2 = t5 at *
      have hsl : s.1.length ≤ 255 := by have := HK.out; omega
      go_wp2_with (at_builtin; refine wpList_append_own _ rfl _ _ 27 rfl w.heap.size 39 i0 _ 4 32 Try.underlying27 hi hz0 hz1 hz2 rfl (by decide) _ s.1.length (flat4 s.1) rfl (hown5.alloc _) ⟨w5.heap.size, 0, none⟩ 1 1 [.int .i64 x1, .int .i64 x2, .int .i64 x3, .int .i64 x4] rfl rfl (laid4 w5 _ _ _ _ _) (flat4_one [⟨x1, x2, x3, x4⟩]) (by unfold maxLen; omega) (by omega) (by simp; omega) ?_; intro v6 w6 hown6 hgrow6 hnil6)
      go_roundw
      case rel =>
        have hfin : w6.ownsRow w.heap.size 39 4 v6 (iterN crStep (k + 1) ([], t1)).1.length (flat4 (iterN crStep (k + 1) ([], t1)).1) := by
          rw [HS.out, HX.out, flat4_snoc]
          simpa using hown6
        have htk : TkAt w6 a (iterN crStep (k + 1) ([], t1)).2 := by
          rw [HS.out, HX.out]
          exact tk_own (ht5.keep (below_box _ _)) (hown5.alloc _) ha (by simp; omega) hgrow6
        have hgf : w.grownBy w6 (some a) := grown_own (grown_trans hgg5 (grown_below (below_box _ _) _)) (hown5.alloc _) (Nat.le_refl _) hgrow6
        first | exact ⟨k + 1, hlt, by go_num, hfin, htk, hgf⟩ | ((repeat apply Exists.intro); exact ⟨⟨k + 1, hlt, by go_num, hfin, htk, hgf⟩, rfl⟩)
      case measure => simp [intOf]; omega
    · have hkl : k = N := by omega
      subst hkl
      have hfin : ∀ w'', Since w.heap.size wr w'' → CrtsAt w'' u3 (certsT t).1 := fun w'' hs => by rw [HC.out]; exact crts_of_own (own_since hown hs) (by omega)
      have htk : TkAt wr a (certsT t).2 := by rw [HC.out]; exact ht
      clear hown ht hlen
      go_wp2
      go_ret
      exact ⟨_, rfl, hfin, htk, hg⟩
end Go.Proofs.Ytagmnfghkfeplaa
