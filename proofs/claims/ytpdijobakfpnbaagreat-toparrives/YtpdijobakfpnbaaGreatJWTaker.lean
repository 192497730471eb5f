/- The taker of package wire: fail, done, text and number. -/
import Derived.Test.YtpdijobakfpnbaaGreatJWMem
import Derived.Test.YtpdijobakfpnbaaGreatJRows0
import Derived.Test.YtpdijobakfpnbaaGreatJCat
import Derived.Laws.IdiomStrings
import Derived.Laws.BitsLemmas
import Derived.Laws.BitsAllLaws
import Derived.Lib.Strings
namespace Go.Proofs.YtpdijobakfpnbaaGreat
open Go.RowKit Go.Proofs.Parclose
def TkAt (w : World) (a : Nat) (t : Tk) : Prop := w.heap[a]? = some (.cells #[.string ⟨t.1.toArray⟩, .bool t.2] 189 (0, 0))
theorem TkAt.cell0 {w : World} {a : Nat} {t : Tk} (h : TkAt w a t) : w.cell? ⟨a, 0, none⟩ = some (.string ⟨t.1.toArray⟩) := by simp only [World.cell?, TkAt] at h ⊢; rw [h]; rfl
theorem TkAt.cell1 {w : World} {a : Nat} {t : Tk} (h : TkAt w a t) : w.cell? ⟨a, 1, none⟩ = some (.bool t.2) := by simp only [World.cell?, TkAt] at h ⊢; rw [h]; rfl
theorem TkAt.frozen0 {w : World} {a : Nat} {t : Tk} (h : TkAt w a t) : w.frozen? ⟨a, 0, none⟩ = false := by simp only [World.frozen?, TkAt] at h ⊢; rw [h]; rfl
theorem TkAt.frozen1 {w : World} {a : Nat} {t : Tk} (h : TkAt w a t) : w.frozen? ⟨a, 1, none⟩ = false := by simp only [World.frozen?, TkAt] at h ⊢; rw [h]; rfl
theorem QdV (a : Nat) (t : Tk) (w : World) (h : TkAt w a t) : Calls Tryz.prog 140 #[.pointer (some ⟨a, 0, none⟩)] w fun e w' => e = .returned (.bool (doneB t)) ∧ w' = w := by
 have h0 := h.cell0
 have h1 := h.cell1
 obtain ⟨r, fl⟩ := t
 unfold doneB
 clear h
 cases fl with
 | true =>
  go_enter Tryz.func140, Tryz.ntmps140
  go_wp2
  go_ret
  exact ⟨Qm (by simp), rfl⟩
 | false =>
  cases r with
  | nil =>
   go_enter Tryz.func140, Tryz.ntmps140
   go_wp2
   go_ret
   exact ⟨Qm (by simp), rfl⟩
  | cons x r =>
   go_enter Tryz.func140, Tryz.ntmps140
   go_wp2
   go_ret
   exact ⟨Qm (by simp), rfl⟩
theorem TkAt.put0 {w : World} {a : Nat} {t : Tk} (h : TkAt w a t) (x : List UInt8) : TkAt (w.setCell ⟨a, 0, none⟩ (.string ⟨x.toArray⟩)) a (x, t.2) := heap_setCell h _
theorem TkAt.put1 {w : World} {a : Nat} {t : Tk} (h : TkAt w a t) (x : Bool) : TkAt (w.setCell ⟨a, 1, none⟩ (.bool x)) a (t.1, x) := heap_setCell h _
theorem Qgc (a : Nat) (t : Tk) (w : World) (h : TkAt w a t) : Calls Tryz.prog 182 #[.pointer (some ⟨a, 0, none⟩)] w fun e w' => e = .returned (.tuple #[]) ∧ TkAt w' a ([], true) ∧ w.grownBy w' (some a) := by
 have h0 := h.cell0
 have h1 := h.cell1
 have f0 := h.frozen0
 have f1 := h.frozen1
 go_enter Tryz.func182, Tryz.ntmps182
 go_wp2
 go_end0
 exact ⟨rfl, (h.put0 []).put1 true, Qh (Qg w a 0 _) (Qg _ a 1 _)⟩
theorem Qf0 (a n : Nat) (t : Tk) (w : World) (h : TkAt w a t) : Calls Tryz.prog 209 #[.pointer (some ⟨a, 0, none⟩), .int .i64 n] w fun e w' => e = .returned (.string ⟨(textT n t).1.toArray⟩) ∧ TkAt w' a (textT n t).2 ∧ w.grownBy w' (some a) := by
 have h0 := h.cell0
 have f0 := h.frozen0
 by_cases hlt : t.1.length < n
 · have HT : Hid (textT n t = ([], ([], true))) := hid (by unfold textT; rw [if_pos hlt])
   go_enter Tryz.func209, Tryz.ntmps209
   go_wp2_with (go_at_call 182; refine (Qgc a t _ h).mono ?_; rintro e w1 ⟨rfl, ht1, hg1⟩)
   go_ret
   exact ⟨by rw [HT.out]; rfl, by rw [HT.out]; exact ht1, hg1⟩
 · have HT : Hid (textT n t = (t.1.take n, (t.1.drop n, t.2))) := hid (by unfold textT; rw [if_neg hlt])
   have hle : n ≤ t.1.length := by omega
   go_enter Tryz.func209, Tryz.ntmps209
   go_wp2
   go_ret
   have e1 : (⟨t.1.toArray⟩ : ByteArray).extract 0 n = ⟨(t.1.take n).toArray⟩ := by rw [ByteArray.extract_mk]; simp
   have e2 : (⟨t.1.toArray⟩ : ByteArray).extract n t.1.length = ⟨(t.1.drop n).toArray⟩ := by
    rw [ByteArray.extract_mk, List.take_of_length_le (by simp)]
   refine ⟨?_, ?_, Qg w a 0 _⟩
   · show Ending.returned (.string ((⟨t.1.toArray⟩ : ByteArray).extract 0 n)) = _
     rw [e1, HT.out]
   · show TkAt (w.setCell ⟨a, 0, none⟩ (.string ((⟨t.1.toArray⟩ : ByteArray).extract n t.1.length))) a _
     rw [e2, HT.out]
     exact h.put0 _
theorem QhU (a b : Nat) (ha : a < 4611686018427387904) (hb : b < 4611686018427387904) : bits .or .i64 (a : Int) (b : Int) = ((a ||| b : Nat) : Int) := by
 have hx : a ||| b < 2 ^ 62 := Nat.or_lt_two_pow (by omega) (by omega)
 have h1 : (BitVec.ofInt 64 (a : Int)).toNat = a := by
  rw [BitVec.ofInt_natCast, BitVec.toNat_ofNat]; exact Nat.mod_eq_of_lt (by omega)
 have h2 : (BitVec.ofInt 64 (b : Int)).toNat = b := by
  rw [BitVec.ofInt_natCast, BitVec.toNat_ofNat]; exact Nat.mod_eq_of_lt (by omega)
 show IntKind.i64.wrap ((BitVec.ofInt 64 (a : Int) ||| BitVec.ofInt 64 (b : Int)).toNat : Int) = _
 rw [BitVec.toNat_or, h1, h2]
 simp [IntKind.wrap, IntKind.signed, IntKind.bits]
 omega
theorem QlC (n : Int) (b : UInt8) (h0 : 0 ≤ n) (h1 : n < 1099511627776) : bits .or .i64 (n * 256) (b.toNat : Int) = n * 256 + (b.toNat : Int) := by
 obtain ⟨m, rfl⟩ := Int.eq_ofNat_of_zero_le h0
 have hb := b.toNat_lt
 have e : ((m : Int) * 256) = ((m * 256 : Nat) : Int) := by omega
 rw [e, QhU _ _ (by omega) (by omega), nat_join 8 (m * 256) b.toNat (by omega) (by omega)]
 omega
theorem QjL (x : List UInt8) (b : UInt8) : numL (x ++ [b]) = numL x * 256 + (b.toNat : Int) := by simp [numL]
def numTo (x : List UInt8) (k : Nat) : Int := numL (x.take k)
theorem Qee (x : List UInt8) (k : Nat) (hk : k < x.length) : numTo x (k + 1) = numTo x k * 256 + (x[k].toNat : Int) := by
 unfold numTo
 rw [List.take_succ_eq_append_getElem hk, QjL]
theorem QjK (x : List UInt8) (k : Nat) (hk : k ≤ x.length) : 0 ≤ numTo x k ∧ numTo x k < 256 ^ k := by
 induction k with
 | zero => simp [numTo, numL]
 | succ k ih =>
  have h := ih (by omega)
  rw [Qee x k hk, Int.pow_succ]
  have := Qar x[k]
  omega
theorem Qgt (x : List UInt8) (k : Nat) (hk : k ≤ x.length) (h5 : k ≤ 5) : 0 ≤ numTo x k ∧ numTo x k < 1099511627776 := by
 have h := QjK x k hk
 refine ⟨h.1, Int.lt_of_lt_of_le h.2 ?_⟩
 match k, h5 with
 | 0, _ => decide
 | 1, _ => decide
 | 2, _ => decide
 | 3, _ => decide
 | 4, _ => decide
 | 5, _ => decide
theorem QiS {w1 : World} (x : List UInt8) (cap : Nat) (fr : Nat × Nat) (k : Nat) (hk : k < x.length) : (w1.drew.alloc (.cells (bytesRow ⟨x.toArray⟩ cap) 5 fr)).cell? ⟨w1.heap.size, k, none⟩ = some (.int .u8 (x[k].toNat : Int)) := by
 have h := World.cell?_alloc_mark w1.drew (bytesRow ⟨x.toArray⟩ cap) 5 fr k
 have h2 := bytesRow_at ⟨x.toArray⟩ cap k (by simpa using hk)
 rw [show w1.drew.heap.size = w1.heap.size from rfl] at h
 rw [h, h2]
 simp
theorem TkAt.keep {w w' : World} {a : Nat} {t : Tk} (h : TkAt w a t) (hb : Below w.heap.size w w') : TkAt w' a t := by
 unfold TkAt at h ⊢
 have ha : a < w.heap.size := by
  by_cases hb : a < w.heap.size
  · exact hb
  · rw [Array.getElem?_eq_none (by omega)] at h
    cases h
 rw [hb.block a ha, h]
theorem QkZ (n : Int) (h0 : 0 ≤ n) (h1 : n < 1099511627776) : IntKind.i64.wrap (n * 256) = n * 256 := by
 simp [IntKind.wrap, IntKind.signed, IntKind.bits]
 omega
set_option maxHeartbeats 800000 in
theorem Qed (a n : Nat) (t : Tk) (w : World) (h : TkAt w a t) (hn : n ≤ 6) : Calls Tryz.prog 179 #[.pointer (some ⟨a, 0, none⟩), .int .i64 n] w fun e w' => e = .returned (.int .i64 (numT n t).1) ∧ TkAt w' a (numT n t).2 ∧ w.grownBy w' (some a) := by
 have hcv := fun wx s => run_bytes_of_string (P := Tryz.prog) wx 9 186 5 s Tryz.underlying9 Tryz.underlying186 Tryz.underlying5
 have HN : Hid (numT n t = (numL (textT n t).1, (textT n t).2)) := hid rfl
 have hxl : (textT n t).1.length ≤ 6 := by
  unfold textT
  split
  · simp
  · simp; omega
 go_enter Tryz.func179, Tryz.ntmps179
 go_wp2_with (go_at_call 209; refine (Qf0 a n t _ h).mono ?_; rintro e w1 ⟨rfl, ht1, hg1⟩)
 generalize (textT n t).1 = x at *
 clear hcv h
 go_loopw [5, 13] (fun v i wr => ∃ k : Nat, k ≤ x.length ∧ i = .int .i64 k ∧ v = .int .i64 (numTo x k) ∧ (∀ j (hj : j < x.length), wr.cell? ⟨w1.heap.size, j, none⟩ = some (.int .u8 (x[j].toNat : Int))) ∧ TkAt wr a (textT n t).2 ∧ w.grownBy wr (some a)) (fun _ i _ => x.length - (intOf i).toNat)
 case atStart =>
  have hb : Below w1.heap.size w1 (w1.drew.alloc (.cells (bytesRow ⟨x.toArray⟩ (grownCap w1 (⟨x.toArray⟩ : ByteArray).size 0 5)) 5 ((bytesRow ⟨x.toArray⟩ (grownCap w1 (⟨x.toArray⟩ : ByteArray).size 0 5)).size, (bytesRow ⟨x.toArray⟩ (grownCap w1 (⟨x.toArray⟩ : ByteArray).size 0 5)).size + 1))) := (Below.refl _ w1).drew.alloc (Nat.le_refl _) _
  exact ⟨0, Nat.zero_le _, rfl, rfl, fun j hj => QiS x _ _ j hj, ht1.keep hb, Qh hg1 (Q1 hb _)⟩
 case round =>
  clear ht1 hg1
  obtain ⟨k, hk, rfl, rfl, hcells, ht, hg⟩ := hrel
  by_cases hlt : k < x.length
  · have hc := hcells k hlt
    have HC : Hid (∀ j (hj : j < x.length), wr.cell? ⟨w1.heap.size, j, none⟩ = some (.int .u8 (x[j].toNat : Int))) := hcells
    have hb := Qgt x k hk (by omega)
    have hj := QlC (numTo x k) x[k] hb.1 hb.2
    have hw := QkZ (numTo x k) hb.1 hb.2
    have hw8 : wrap64 (x[k].toNat : Int) = (x[k].toNat : Int) := by have := Qar x[k]; unfold wrap64; omega
    have HS : Hid (numTo x (k + 1) = numTo x k * 256 + (x[k].toNat : Int)) := Qee x k hlt
    clear hcells
    go_wp2
    go_roundw
    case rel => exact ⟨k + 1, hlt, by go_num, by rw [HS.out], HC.out, ht, hg⟩
    case measure => simp [intOf]; omega
  · have hkl : k = x.length := by omega
    subst hkl
    have HS : Hid (numTo x x.length = (numT n t).1) := hid (by rw [HN.out]; unfold numTo; rw [List.take_length])
    have HT : Hid (TkAt wr a (numT n t).2) := hid (by rw [HN.out]; exact ht)
    clear hcells ht
    go_wp2
    go_ret
    exact ⟨QE HS.out, HT.out, hg⟩
theorem number1 (a : Nat) (t : Tk) (w : World) (h : TkAt w a t) : Calls Tryz.prog 179 #[.pointer (some ⟨a, 0, none⟩), .int .i64 1] w fun e w' => e = .returned (.int .i64 (numT 1 t).1) ∧ TkAt w' a (numT 1 t).2 ∧ w.grownBy w' (some a) := Qed a 1 t w h (by omega)
theorem number6 (a : Nat) (t : Tk) (w : World) (h : TkAt w a t) : Calls Tryz.prog 179 #[.pointer (some ⟨a, 0, none⟩), .int .i64 6] w fun e w' => e = .returned (.int .i64 (numT 6 t).1) ∧ TkAt w' a (numT 6 t).2 ∧ w.grownBy w' (some a) := Qed a 6 t w h (by omega)
theorem Qb8 (t : Tk) : ∃ n : Nat, (numT 1 t).1 = (n : Int) ∧ n < 256 := by
 unfold numT textT
 split
 · exact ⟨0, rfl, by omega⟩
 · obtain ⟨r, fl⟩ := t
   cases r with
   | nil => exact ⟨0, rfl, by omega⟩
   | cons b r => exact ⟨b.toNat, by simp [numL], b.toNat_lt⟩
theorem QaA {w w' : World} {base : Nat} {e : TypeId} {size : Nat} {v : Value} {n : Nat} {xs : List Value} {a : Nat} (h : w.ownsRow base e size v n xs) (ha : a < base) (hg : w.grownBy w' (some a)) : w'.ownsRow base e size v n xs :=
 h.kept hg (Or.inr fun e => by have := Qs h e; omega)
theorem Qhq {w w' : World} {base : Nat} {e : TypeId} {size : Nat} {v : Value} {n : Nat} {xs : List Value} {a : Nat} {t : Tk} (h : TkAt w a t) (ho : w.ownsRow base e size v n xs) (ha : a < base) (hs : a < w.heap.size) (hg : w.grownBy w' v.ownBlock) : TkAt w' a t := by
 unfold TkAt at h ⊢
 rw [hg.block a hs (fun e => by have := Qs ho e.symm; omega), h]
theorem Qiz (k : Nat) (t : Tk) : (iterN crStep k ([], t)).1.length = k := by
 induction k with
 | zero => rfl
 | succ k ih =>
  show ((iterN crStep k ([], t)).1 ++ [_]).length = k + 1
  simp [ih]
theorem Qis (l : List Crt) (x : Crt) : flat4 (l ++ [x]) = flat4 l ++ [.int .i64 x.c, .int .i64 x.b, .int .i64 x.h, .int .i64 x.u] := by simp [flat4]
set_option maxHeartbeats 1600000 in
theorem QeL (a : Nat) (t : Tk) (w : World) (h : TkAt w a t) (ha : a < w.heap.size) : Calls Tryz.prog 181 #[.pointer (some ⟨a, 0, none⟩)] w fun e w' => ∃ v', e = .returned v' ∧ (∀ w'', Since w.heap.size w' w'' → CrtsAt w'' v' (certsT t).1) ∧ TkAt w' a (certsT t).2 ∧ w.grownBy w' (some a) := by
 obtain ⟨i0, hi, hz0, hz1, hz2⟩ := info_parts QaV
 obtain ⟨N, hN, hN2⟩ := Qb8 t
 have HC : Hid (certsT t = iterN crStep N ([], (numT 1 t).2)) := hid (by unfold certsT; rw [hN]; rfl)
 go_enter Tryz.func181, Tryz.ntmps181
 go_wp2_with fail
 refine (number1 a t _ h).mono ?_
 rintro e w1 ⟨rfl, ht1, hg1⟩
 rw [hN]
 generalize (numT 1 t).2 = t1 at *
 clear hN h
 go_wp2
 go_loopw [3, 6] (fun v i wr => ∃ k : Nat, k ≤ N ∧ i = .int .i64 k ∧ wr.ownsRow w.heap.size 60 4 v (iterN crStep k ([], t1)).1.length (flat4 (iterN crStep k ([], t1)).1) ∧ TkAt wr a (iterN crStep k ([], t1)).2 ∧ w.grownBy wr (some a)) (fun _ i _ => N - (intOf i).toNat)
 case atStart => exact ⟨0, Nat.zero_le _, rfl, World.ownsRow_nil _ _ _ _, ht1, hg1⟩
 case round =>
  clear ht1 hg1
  obtain ⟨k, hk, rfl, hown, ht, hg⟩ := hrel
  have hlen := Qiz k t1
  by_cases hlt : k < N
  · have HS : Hid (iterN crStep (k + 1) ([], t1) = crStep (iterN crStep k ([], t1))) := hid rfl
    have HK : Hid ((iterN crStep k ([], t1)).1.length = k) := hlen
    clear hlen
    generalize iterN crStep k ([], t1) = s at *
    go_wp2_with fail
    refine (number1 a _ _ ht).mono ?_
    rintro e w2 ⟨rfl, ht2, hg2⟩
    have hown2 := QaA hown ha hg2
    have hgg2 := Qh hg hg2
    clear hown ht hg hg2
    go_wp2_with fail
    refine (number1 a _ _ ht2).mono ?_
    rintro e w3 ⟨rfl, ht3, hg3⟩
    have hown3 := QaA hown2 ha hg3
    have hgg3 := Qh hgg2 hg3
    clear hown2 ht2 hgg2 hg3
    go_wp2_with fail
    refine (number1 a _ _ ht3).mono ?_
    rintro e w4 ⟨rfl, ht4, hg4⟩
    have hown4 := QaA hown3 ha hg4
    have hgg4 := Qh hgg3 hg4
    clear hown3 ht3 hgg3 hg4
    go_wp2_with fail
    refine (number6 a _ _ ht4).mono ?_
    rintro e w5 ⟨rfl, ht5, hg5⟩
    have hown5 := QaA hown4 ha hg5
    have hgg5 := Qh hgg4 hg5
    have hsz := hgg5.size
    clear hown4 ht4 hgg4 hg5
    have HX : Hid (crStep s = (s.1 ++ [⟨(numT 1 s.2).1, (numT 1 (numT 1 s.2).2).1, (numT 1 (numT 1 (numT 1 s.2).2).2).1, (numT 6 (numT 1 (numT 1 (numT 1 s.2).2).2).2).1⟩], (numT 6 (numT 1 (numT 1 (numT 1 s.2).2).2).2).2)) := hid rfl
    generalize (numT 1 s.2).1 = x1 at *
    generalize (numT 1 (numT 1 s.2).2).1 = x2 at *
    generalize (numT 1 (numT 1 (numT 1 s.2).2).2).1 = x3 at *
    generalize (numT 6 (numT 1 (numT 1 (numT 1 s.2).2).2).2).1 = x4 at *
    generalize (numT 6 (numT 1 (numT 1 (numT 1 s.2).2).2).2).2 = t5 at *
    have hsl : s.1.length ≤ 255 := by have := HK.out; omega
    go_wp2_with (at_builtin; refine wpList_append_own _ rfl _ _ 57 rfl w.heap.size 60 i0 _ 4 32 Tryz.underlying57 hi hz0 hz1 hz2 rfl (by decide) _ s.1.length (flat4 s.1) rfl (hown5.alloc _) ⟨w5.heap.size, 0, none⟩ 1 1 [.int .i64 x1, .int .i64 x2, .int .i64 x3, .int .i64 x4] rfl rfl (laid4 w5 _ _ _ _ _) (Qcc [⟨x1, x2, x3, x4⟩]) (by unfold maxLen; omega) (by omega) (by simp; omega) ?_; intro v6 w6 hown6 hgrow6 hnil6)
    go_roundw
    case rel =>
     have hfin : w6.ownsRow w.heap.size 60 4 v6 (iterN crStep (k + 1) ([], t1)).1.length (flat4 (iterN crStep (k + 1) ([], t1)).1) := by
      rw [HS.out, HX.out, Qis]
      simpa using hown6
     have htk : TkAt w6 a (iterN crStep (k + 1) ([], t1)).2 := by
      rw [HS.out, HX.out]
      exact Qhq (ht5.keep (Qd _ _)) (hown5.alloc _) ha (by simp; omega) hgrow6
     have hgf : w.grownBy w6 (some a) := Qdb (Qh hgg5 (Q1 (Qd _ _) _)) (hown5.alloc _) (Nat.le_refl _) hgrow6
     first | exact ⟨k + 1, hlt, by go_num, hfin, htk, hgf⟩ | ((repeat apply Exists.intro); exact ⟨⟨k + 1, hlt, by go_num, hfin, htk, hgf⟩, rfl⟩)
    case measure => simp [intOf]; omega
  · have hkl : k = N := by omega
    subst hkl
    have hfin : ∀ w'', Since w.heap.size wr w'' → CrtsAt w'' u3 (certsT t).1 := fun w'' hs => by rw [HC.out]; exact QaO (Q3 hown hs) (by omega)
    have htk : TkAt wr a (certsT t).2 := by rw [HC.out]; exact ht
    clear hown ht hlen
    go_wp2
    go_ret
    exact ⟨_, rfl, hfin, htk, hg⟩
end Go.Proofs.YtpdijobakfpnbaaGreat
