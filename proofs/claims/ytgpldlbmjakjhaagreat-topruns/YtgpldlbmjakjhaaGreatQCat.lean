/- label.Category answers what the document says, and turns nothing. -/
import Derived.Test.YtgpldlbmjakjhaaGreatQPlain
import Derived.Laws.StructEq
import Derived.Deep.QuietTactic
import Derived.BigQuiet
import Derived.Test.YtgpldlbmjakjhaaGreatQPlainWire
import Derived.Laws.IdiomStrings
import Derived.Laws.BitsLemmas
import Derived.Laws.BitsAllLaws
import Derived.Lib.Strings
import Derived.Deep.RegionLaw
import Derived.BigCall
import Derived.Laws.Rows
namespace Go.Proofs.YtgpldlbmjakjhaaGreat
open Go.RowKit Go.Proofs.Parclose

theorem category_any (c : Int) (w : World) : Calls Tryz.prog 35 #[.int .i64 c] w fun e w' => e = .returned (.bool (catB c)) ∧ w' = w := by
  unfold catB
  by_cases h1 : 0 ≤ c
  · by_cases h2 : c < 80
    · go_enter Tryz.func35, Tryz.ntmps35
      go_wp2
      go_ret
      exact ⟨ret_bool (by simp [h1, h2]), rfl⟩
    · go_enter Tryz.func35, Tryz.ntmps35
      go_wp2
      go_ret
      exact ⟨ret_bool (by simp [h2]), rfl⟩
  · go_enter Tryz.func35, Tryz.ntmps35
    go_wp2
    go_ret
    exact ⟨ret_bool (by simp; omega), rfl⟩
end Go.Proofs.YtgpldlbmjakjhaaGreat

namespace Go.Proofs.YtgpldlbmjakjhaaGreat
open Go.RowKit Go.Proofs.Parclose

theorem inBounds_any (c : Int) (w : World) : Calls Tryz.prog 36 #[.int .i64 c] w fun e w' => e = .returned (.bool (bndB c)) ∧ w' = w := by
  unfold bndB
  by_cases h1 : 0 ≤ c
  · by_cases h2 : c ≤ 3
    · go_enter Tryz.func36, Tryz.ntmps36
      go_wp2
      go_ret
      exact ⟨ret_bool (by simp [h1, h2]), rfl⟩
    · go_enter Tryz.func36, Tryz.ntmps36
      go_wp2
      go_ret
      exact ⟨ret_bool (by simp [h2]), rfl⟩
  · go_enter Tryz.func36, Tryz.ntmps36
    go_wp2
    go_ret
    exact ⟨ret_bool (by simp; omega), rfl⟩

theorem wrap_small {x : Int} (h0 : 0 ≤ x) (h1 : x ≤ 1000000) : IntKind.i64.wrap x = x := by
  simp [IntKind.wrap, IntKind.signed, IntKind.bits]
  omega

set_option maxHeartbeats 800000 in
theorem good_any (v : Value) (l : List (Int × Int)) (w : World) (hv : LabAt w v l) :
    Calls Tryz.prog 14 #[v] w fun e w' => e = .returned (.bool (goodB l)) ∧ Below w.heap.size w w' := by
  obtain ⟨p, cap, rfl, hlc, hcap, hcells⟩ := hv
  by_cases h8 : l.length ≤ 8
  rotate_left
  · have hg := goodB_long (l := l) (by omega)
    have HG : Hid (goodB l = false) := hg
    clear hg
    go_enter Tryz.func14, Tryz.ntmps14
    go_wp2
    go_ret
    exact ⟨ret_bool HG.out.symm, Below.refl _ _⟩
  go_enter Tryz.func14, Tryz.ntmps14
  go_wp2
  go_loopw [10] (fun i wr => ∃ k : Nat, k ≤ l.length ∧ i = .int .i64 k ∧ (∀ j (hj : j < k) (hj' : j < l.length), levB l[j] = true) ∧ (∀ j (hj : j + 1 < k) (hj' : j + 1 < l.length), l[j].1 < l[j + 1].1) ∧ Below w.heap.size w wr) (fun i _ => l.length - (intOf i).toNat)
  case atStart => exact ⟨0, Nat.zero_le _, rfl, fun j hj => absurd hj (Nat.not_lt_zero _), fun j hj => absurd hj (Nat.not_lt_zero _), Below.refl _ _⟩
  case round =>
    obtain ⟨k, hk, rfl, hlev0, hup0, hb⟩ := hrel
    have HL : Hid (∀ j (hj : j < k) (hj' : j < l.length), levB l[j] = true) := hlev0
    have HU : Hid (∀ j (hj : j + 1 < k) (hj' : j + 1 < l.length), l[j].1 < l[j + 1].1) := hup0
    clear hlev0 hup0
    by_cases hlt : k < l.length
    · obtain ⟨b, o, rfl, hc⟩ := hcells (by omega)
      have hcr := hc.below hb
      obtain ⟨hc1, hc2⟩ := hcr k hlt
      have hsz := hb.size
      have hno : ∀ hx : levB l[k] = false, Hid (goodB l = false) := fun hx => goodB_lev k hlt hx
      have hyes : ∀ hx : levB l[k] = true, Hid (levB l[k] = true) := fun hx => hx
      have hlv : levB l[k] = (catB l[k].1 && bndB l[k].2 && !(l[k].2 == 1)) := rfl
      cases hcat : catB l[k].1 with
      | false =>
        have HG := hno (by rw [hlv, hcat]; rfl)
        clear hno hyes hlv hcells hcr hc
        go_wp2_with (first | (go_at_call 35; refine (category_any _ _).mono ?_; rintro e w' ⟨rfl, rfl⟩) | (go_at_call 36; refine (inBounds_any _ _).mono ?_; rintro e w' ⟨rfl, rfl⟩))
        go_ret
        exact ⟨ret_bool HG.out.symm, hb.alloc hsz _⟩
      | true =>
        cases hbnd : bndB l[k].2 with
        | false =>
          have HG := hno (by rw [hlv, hcat, hbnd]; rfl)
          clear hno hyes hlv hcells hcr hc
          go_wp2_with (first | (go_at_call 35; refine (category_any _ _).mono ?_; rintro e w' ⟨rfl, rfl⟩) | (go_at_call 36; refine (inBounds_any _ _).mono ?_; rintro e w' ⟨rfl, rfl⟩))
          go_ret
          exact ⟨ret_bool HG.out.symm, hb.alloc hsz _⟩
        | true =>
          cases hpl : (l[k].2 == 1) with
          | true =>
            have HG := hno (by rw [hlv, hcat, hbnd, hpl]; rfl)
            clear hno hyes hlv hcells hcr hc
            go_wp2_with (first | (go_at_call 35; refine (category_any _ _).mono ?_; rintro e w' ⟨rfl, rfl⟩) | (go_at_call 36; refine (inBounds_any _ _).mono ?_; rintro e w' ⟨rfl, rfl⟩))
            go_ret
            exact ⟨ret_bool HG.out.symm, hb.alloc hsz _⟩
          | false =>
            have HY := hyes (by rw [hlv, hcat, hbnd, hpl]; rfl)
            clear hno hyes hlv hcells hc
            go_wp2_with (first | (go_at_call 35; refine (category_any _ _).mono ?_; rintro e w' ⟨rfl, rfl⟩) | (go_at_call 36; refine (inBounds_any _ _).mono ?_; rintro e w' ⟨rfl, rfl⟩))
            by_cases h0 : k = 0
            · have hd : decide (0 < k) = false := by simp; omega
              go_quiet (fail)
              go_wp2
              go_roundw
              case rel => exact ⟨k + 1, hlt, by go_num, fun j hj hj' => by
                by_cases e : j = k
                · subst e; exact HY.out
                · exact HL.out j (by omega) hj', fun j hj hj' => absurd hj (by omega), below_then (hb.alloc hsz _) (below_drewN _ _)⟩
              case measure => simp [intOf]; omega
            · have hd : 0 < k := by omega
              obtain ⟨m, hm⟩ : ∃ m, k = m + 1 := ⟨k - 1, by omega⟩
              have hml : m < l.length := by omega
              have hbb : b < wr.heap.size := cell_block hc1
              have hw : IntKind.i64.wrap ((k : Int) - 1) = (m : Int) := by
                rw [hm, show ((m + 1 : Nat) : Int) - 1 = (m : Int) by omega]
                exact wrap_small (by omega) (by omega)
              obtain ⟨hp1, hp2⟩ := hcr m hml
              have HM : Hid (k = m + 1) := hm
              clear hp2 hcr hm h0
              by_cases hge : l[k].1 ≤ l[m].1
              · have HG : Hid (goodB l = false) := by
                  have e := HM.out
                  subst e
                  exact goodB_turn m hlt hge
                go_quiet (fail)
                go_wp2
                go_ret
                exact ⟨ret_bool HG.out.symm, below_then (hb.alloc hsz _) (below_drewN _ _)⟩
              · go_quiet (fail)
                go_wp2
                go_roundw
                case rel => exact ⟨k + 1, hlt, by go_num, fun j hj hj' => by
                  by_cases e : j = k
                  · subst e; exact HY.out
                  · exact HL.out j (by omega) hj', fun j hj hj' => by
                  by_cases e : j = m
                  · subst e
                    have e := HM.out
                    subst e
                    omega
                  · exact HU.out j (by have := HM.out; omega) hj', below_then (hb.alloc hsz _) (below_drewN _ _)⟩
                case measure => simp [intOf]; omega
    · go_wp2
      go_ret
      have e : goodB l = true := goodB_all h8 (fun j hj => HL.out j (by omega) hj) (fun j hj => HU.out j (by omega) hj)
      exact ⟨ret_bool e.symm, hb⟩

end Go.Proofs.YtgpldlbmjakjhaaGreat

namespace Go.Proofs.YtgpldlbmjakjhaaGreat
open Go.RowKit Go.Proofs.Parclose

theorem isHost_any (c : Int) (w : World) : Calls Tryz.prog 37 #[.int .i64 c] w fun e w' => e = .returned (.bool (hostB c)) ∧ w' = w := by
  unfold hostB
  by_cases h1 : 0 ≤ c
  · by_cases h2 : c < 4
    · go_enter Tryz.func37, Tryz.ntmps37
      go_wp2
      go_ret
      exact ⟨ret_bool (by simp [h1, h2]), rfl⟩
    · go_enter Tryz.func37, Tryz.ntmps37
      go_wp2
      go_ret
      exact ⟨ret_bool (by simp [h2]), rfl⟩
  · go_enter Tryz.func37, Tryz.ntmps37
    go_wp2
    go_ret
    exact ⟨ret_bool (by simp; omega), rfl⟩

theorem isTime_any (c : Int) (w : World) : Calls Tryz.prog 44 #[.int .i64 c] w fun e w' => e = .returned (.bool (timeB c)) ∧ w' = w := by
  unfold timeB
  by_cases h1 : 0 ≤ c
  · by_cases h2 : c ≤ 1099511627776
    · go_enter Tryz.func44, Tryz.ntmps44
      go_wp2
      go_ret
      exact ⟨ret_bool (by simp [h1, h2]), rfl⟩
    · go_enter Tryz.func44, Tryz.ntmps44
      go_wp2
      go_ret
      exact ⟨ret_bool (by simp [h2]), rfl⟩
  · go_enter Tryz.func44, Tryz.ntmps44
    go_wp2
    go_ret
    exact ⟨ret_bool (by simp; omega), rfl⟩

theorem areTwo_any (a b : Int) (w : World) : Calls Tryz.prog 43 #[.int .i64 a, .int .i64 b] w fun e w' => e = .returned (.bool (twoB a b)) ∧ w' = w := by
  unfold twoB
  cases h1 : hostB a <;> cases h2 : hostB b <;> cases h3 : (a == b)
  all_goals
    have h4 : (a != b) = !(a == b) := rfl
    go_enter Tryz.func43, Tryz.ntmps43
    go_wp2_with (go_at_call 37; refine (isHost_any _ _).mono ?_; rintro e w' ⟨rfl, rfl⟩)
    go_ret
    exact ⟨ret_bool (by simp [*]), rfl⟩

theorem goodCert_any (x : Crt) (w : World) : Calls Tryz.prog 30 #[crtV x] w fun e w' => e = .returned (.bool (certB x)) ∧ Below w.heap.size w w' := by
  unfold certB crtV
  cases h1 : catB x.c <;> cases h2 : twoB x.b x.h <;> cases h3 : timeB x.u
  all_goals
    go_enter Tryz.func30, Tryz.ntmps30
    go_wp2_with (first | (go_at_call 35; refine (category_any _ _).mono ?_; rintro e w' ⟨rfl, rfl⟩) | (go_at_call 43; refine (areTwo_any _ _ _).mono ?_; rintro e w' ⟨rfl, rfl⟩) | (go_at_call 44; refine (isTime_any _ _).mono ?_; rintro e w' ⟨rfl, rfl⟩))
    go_ret
    exact ⟨ret_bool (by simp), below_box _ _⟩
end Go.Proofs.YtgpldlbmjakjhaaGreat

namespace Go.Proofs.YtgpldlbmjakjhaaGreat
open Go.RowKit Go.Proofs.Parclose

/-- a taker lies in block a -/
def TkAt (w : World) (a : Nat) (t : Tk) : Prop := w.heap[a]? = some (.cells #[.string ⟨t.1.toArray⟩, .bool t.2] 99 (0, 0))

theorem TkAt.cell0 {w : World} {a : Nat} {t : Tk} (h : TkAt w a t) : w.cell? ⟨a, 0, none⟩ = some (.string ⟨t.1.toArray⟩) := by simp only [World.cell?, TkAt] at h ⊢; rw [h]; rfl
theorem TkAt.cell1 {w : World} {a : Nat} {t : Tk} (h : TkAt w a t) : w.cell? ⟨a, 1, none⟩ = some (.bool t.2) := by simp only [World.cell?, TkAt] at h ⊢; rw [h]; rfl
theorem TkAt.frozen0 {w : World} {a : Nat} {t : Tk} (h : TkAt w a t) : w.frozen? ⟨a, 0, none⟩ = false := by simp only [World.frozen?, TkAt] at h ⊢; rw [h]; rfl
theorem TkAt.frozen1 {w : World} {a : Nat} {t : Tk} (h : TkAt w a t) : w.frozen? ⟨a, 1, none⟩ = false := by simp only [World.frozen?, TkAt] at h ⊢; rw [h]; rfl


theorem done_any (a : Nat) (t : Tk) (w : World) (h : TkAt w a t) : Calls Tryz.prog 42 #[.pointer (some ⟨a, 0, none⟩)] w fun e w' => e = .returned (.bool (doneB t)) ∧ w' = w := by
  have h0 := h.cell0
  have h1 := h.cell1
  obtain ⟨r, fl⟩ := t
  unfold doneB
  clear h
  cases fl with
  | true =>
    go_enter Tryz.func42, Tryz.ntmps42
    go_wp2
    go_ret
    exact ⟨ret_bool (by simp), rfl⟩
  | false =>
    cases r with
    | nil =>
      go_enter Tryz.func42, Tryz.ntmps42
      go_wp2
      go_ret
      exact ⟨ret_bool (by simp), rfl⟩
    | cons x r =>
      go_enter Tryz.func42, Tryz.ntmps42
      go_wp2
      go_ret
      exact ⟨ret_bool (by simp), rfl⟩


theorem TkAt.put0 {w : World} {a : Nat} {t : Tk} (h : TkAt w a t) (x : List UInt8) : TkAt (w.setCell ⟨a, 0, none⟩ (.string ⟨x.toArray⟩)) a (x, t.2) := heap_setCell h _
theorem TkAt.put1 {w : World} {a : Nat} {t : Tk} (h : TkAt w a t) (x : Bool) : TkAt (w.setCell ⟨a, 1, none⟩ (.bool x)) a (t.1, x) := heap_setCell h _

theorem fail_any (a : Nat) (t : Tk) (w : World) (h : TkAt w a t) : Calls Tryz.prog 63 #[.pointer (some ⟨a, 0, none⟩)] w fun e w' => e = .returned (.tuple #[]) ∧ TkAt w' a ([], true) ∧ w.grownBy w' (some a) := by
  have h0 := h.cell0
  have h1 := h.cell1
  have f0 := h.frozen0
  have f1 := h.frozen1
  go_enter Tryz.func63, Tryz.ntmps63
  go_wp2
  go_end0
  exact ⟨rfl, (h.put0 []).put1 true, grown_trans (grown_setCell w a 0 _) (grown_setCell _ a 1 _)⟩

theorem text_any (a n : Nat) (t : Tk) (w : World) (h : TkAt w a t) : Calls Tryz.prog 81 #[.pointer (some ⟨a, 0, none⟩), .int .i64 n] w fun e w' => e = .returned (.string ⟨(textT n t).1.toArray⟩) ∧ TkAt w' a (textT n t).2 ∧ w.grownBy w' (some a) := by
  have h0 := h.cell0
  have f0 := h.frozen0
  by_cases hlt : t.1.length < n
  · have HT : Hid (textT n t = ([], ([], true))) := hid (by unfold textT; rw [if_pos hlt])
    go_enter Tryz.func81, Tryz.ntmps81
    go_wp2_with (go_at_call 63; refine (fail_any a t _ h).mono ?_; rintro e w1 ⟨rfl, ht1, hg1⟩)
    go_ret
    exact ⟨by rw [HT.out]; rfl, by rw [HT.out]; exact ht1, hg1⟩
  · have HT : Hid (textT n t = (t.1.take n, (t.1.drop n, t.2))) := hid (by unfold textT; rw [if_neg hlt])
    have hle : n ≤ t.1.length := by omega
    go_enter Tryz.func81, Tryz.ntmps81
    go_wp2
    go_ret
    have e1 : (⟨t.1.toArray⟩ : ByteArray).extract 0 n = ⟨(t.1.take n).toArray⟩ := by rw [ByteArray.extract_mk]; simp
    have e2 : (⟨t.1.toArray⟩ : ByteArray).extract n t.1.length = ⟨(t.1.drop n).toArray⟩ := by
      rw [ByteArray.extract_mk, List.take_of_length_le (by simp)]
    refine ⟨?_, ?_, grown_setCell w a 0 _⟩
    · show Ending.returned (.string ((⟨t.1.toArray⟩ : ByteArray).extract 0 n)) = _
      rw [e1, HT.out]
    · show TkAt (w.setCell ⟨a, 0, none⟩ (.string ((⟨t.1.toArray⟩ : ByteArray).extract n t.1.length))) a _
      rw [e2, HT.out]
      exact h.put0 _

theorem or_i64_nat (a b : Nat) (ha : a < 4611686018427387904) (hb : b < 4611686018427387904) : bits .or .i64 (a : Int) (b : Int) = ((a ||| b : Nat) : Int) := by
  have hx : a ||| b < 2 ^ 62 := Nat.or_lt_two_pow (by omega) (by omega)
  have h1 : (BitVec.ofInt 64 (a : Int)).toNat = a := by
    rw [BitVec.ofInt_natCast, BitVec.toNat_ofNat]; exact Nat.mod_eq_of_lt (by omega)
  have h2 : (BitVec.ofInt 64 (b : Int)).toNat = b := by
    rw [BitVec.ofInt_natCast, BitVec.toNat_ofNat]; exact Nat.mod_eq_of_lt (by omega)
  show IntKind.i64.wrap ((BitVec.ofInt 64 (a : Int) ||| BitVec.ofInt 64 (b : Int)).toNat : Int) = _
  rw [BitVec.toNat_or, h1, h2]
  simp [IntKind.wrap, IntKind.signed, IntKind.bits]
  omega

theorem join_i64 (n : Int) (b : UInt8) (h0 : 0 ≤ n) (h1 : n < 1099511627776) : bits .or .i64 (n * 256) (b.toNat : Int) = n * 256 + (b.toNat : Int) := by
  obtain ⟨m, rfl⟩ := Int.eq_ofNat_of_zero_le h0
  have hb := b.toNat_lt
  have e : ((m : Int) * 256) = ((m * 256 : Nat) : Int) := by omega
  rw [e, or_i64_nat _ _ (by omega) (by omega), nat_join 8 (m * 256) b.toNat (by omega) (by omega)]
  omega

theorem numL_snoc (x : List UInt8) (b : UInt8) : numL (x ++ [b]) = numL x * 256 + (b.toNat : Int) := by simp [numL]
/-- the number of the first k bytes -/
def numTo (x : List UInt8) (k : Nat) : Int := numL (x.take k)
theorem numTo_succ (x : List UInt8) (k : Nat) (hk : k < x.length) : numTo x (k + 1) = numTo x k * 256 + (x[k].toNat : Int) := by
  unfold numTo
  rw [List.take_succ_eq_append_getElem hk, numL_snoc]
theorem numTo_pow (x : List UInt8) (k : Nat) (hk : k ≤ x.length) : 0 ≤ numTo x k ∧ numTo x k < 256 ^ k := by
  induction k with
  | zero => simp [numTo, numL]
  | succ k ih =>
    have h := ih (by omega)
    rw [numTo_succ x k hk, Int.pow_succ]
    have := uint8_lt x[k]
    omega
theorem numTo_bound (x : List UInt8) (k : Nat) (hk : k ≤ x.length) (h5 : k ≤ 5) : 0 ≤ numTo x k ∧ numTo x k < 1099511627776 := by
  have h := numTo_pow x k hk
  refine ⟨h.1, Int.lt_of_lt_of_le h.2 ?_⟩
  match k, h5 with
  | 0, _ => decide
  | 1, _ => decide
  | 2, _ => decide
  | 3, _ => decide
  | 4, _ => decide
  | 5, _ => decide

/-- what []byte made of a text -/
theorem bytes_made {w1 : World} (x : List UInt8) (cap : Nat) (fr : Nat × Nat) (k : Nat) (hk : k < x.length) : (w1.drew.alloc (.cells (bytesRow ⟨x.toArray⟩ cap) 5 fr)).cell? ⟨w1.heap.size, k, none⟩ = some (.int .u8 (x[k].toNat : Int)) := by
  have h := World.cell?_alloc_mark w1.drew (bytesRow ⟨x.toArray⟩ cap) 5 fr k
  have h2 := bytesRow_at ⟨x.toArray⟩ cap k (by simpa using hk)
  rw [show w1.drew.heap.size = w1.heap.size from rfl] at h
  rw [h, h2]
  simp

theorem TkAt.keep {w w' : World} {a : Nat} {t : Tk} (h : TkAt w a t) (hb : Below w.heap.size w w') : TkAt w' a t := by
  unfold TkAt at h ⊢
  have ha : a < w.heap.size := by
    by_cases hb : a < w.heap.size
    · exact hb
    · rw [Array.getElem?_eq_none (by omega)] at h
      cases h
  rw [hb.block a ha, h]

theorem wrap_shl (n : Int) (h0 : 0 ≤ n) (h1 : n < 1099511627776) : IntKind.i64.wrap (n * 256) = n * 256 := by
  simp [IntKind.wrap, IntKind.signed, IntKind.bits]
  omega

set_option maxHeartbeats 800000 in
theorem number_any (a n : Nat) (t : Tk) (w : World) (h : TkAt w a t) (hn : n ≤ 6) : Calls Tryz.prog 60 #[.pointer (some ⟨a, 0, none⟩), .int .i64 n] w fun e w' => e = .returned (.int .i64 (numT n t).1) ∧ TkAt w' a (numT n t).2 ∧ w.grownBy w' (some a) := by
  have hcv := fun wx s => run_bytes_of_string (P := Tryz.prog) wx 9 137 5 s Tryz.underlying9 Tryz.underlying137 Tryz.underlying5
  have HN : Hid (numT n t = (numL (textT n t).1, (textT n t).2)) := hid rfl
  have hxl : (textT n t).1.length ≤ 6 := by
    unfold textT
    split
    · simp
    · simp; omega
  go_enter Tryz.func60, Tryz.ntmps60
  go_wp2_with (go_at_call 81; refine (text_any a n t _ h).mono ?_; rintro e w1 ⟨rfl, ht1, hg1⟩)
  generalize (textT n t).1 = x at *
  clear hcv h
  go_loopw [5, 13] (fun v i wr => ∃ k : Nat, k ≤ x.length ∧ i = .int .i64 k ∧ v = .int .i64 (numTo x k) ∧ (∀ j (hj : j < x.length), wr.cell? ⟨w1.heap.size, j, none⟩ = some (.int .u8 (x[j].toNat : Int))) ∧ TkAt wr a (textT n t).2 ∧ w.grownBy wr (some a)) (fun _ i _ => x.length - (intOf i).toNat)
  case atStart =>
    have hb : Below w1.heap.size w1 (w1.drew.alloc (.cells (bytesRow ⟨x.toArray⟩ (grownCap w1 (⟨x.toArray⟩ : ByteArray).size 0 5)) 5 ((bytesRow ⟨x.toArray⟩ (grownCap w1 (⟨x.toArray⟩ : ByteArray).size 0 5)).size, (bytesRow ⟨x.toArray⟩ (grownCap w1 (⟨x.toArray⟩ : ByteArray).size 0 5)).size + 1))) := (Below.refl _ w1).drew.alloc (Nat.le_refl _) _
    exact ⟨0, Nat.zero_le _, rfl, rfl, fun j hj => bytes_made x _ _ j hj, ht1.keep hb, grown_trans hg1 (grown_below hb _)⟩
  case round =>
    clear ht1 hg1
    obtain ⟨k, hk, rfl, rfl, hcells, ht, hg⟩ := hrel
    by_cases hlt : k < x.length
    · have hc := hcells k hlt
      have HC : Hid (∀ j (hj : j < x.length), wr.cell? ⟨w1.heap.size, j, none⟩ = some (.int .u8 (x[j].toNat : Int))) := hcells
      have hb := numTo_bound x k hk (by omega)
      have hj := join_i64 (numTo x k) x[k] hb.1 hb.2
      have hw := wrap_shl (numTo x k) hb.1 hb.2
      have hw8 : wrap64 (x[k].toNat : Int) = (x[k].toNat : Int) := by have := uint8_lt x[k]; unfold wrap64; omega
      have HS : Hid (numTo x (k + 1) = numTo x k * 256 + (x[k].toNat : Int)) := numTo_succ x k hlt
      clear hcells
      go_wp2
      go_roundw
      case rel => exact ⟨k + 1, hlt, by go_num, by rw [HS.out], HC.out, ht, hg⟩
      case measure => simp [intOf]; omega
    · have hkl : k = x.length := by omega
      subst hkl
      have HS : Hid (numTo x x.length = (numT n t).1) := hid (by rw [HN.out]; unfold numTo; rw [List.take_length])
      have HT : Hid (TkAt wr a (numT n t).2) := hid (by rw [HN.out]; exact ht)
      clear hcells ht
      go_wp2
      go_ret
      exact ⟨ret_int HS.out, HT.out, hg⟩
end Go.Proofs.YtgpldlbmjakjhaaGreat

namespace Go.Proofs.YtgpldlbmjakjhaaGreat
open Go.RowKit Go.Proofs.Parclose

theorem number1 (a : Nat) (t : Tk) (w : World) (h : TkAt w a t) : Calls Tryz.prog 60 #[.pointer (some ⟨a, 0, none⟩), .int .i64 1] w fun e w' => e = .returned (.int .i64 (numT 1 t).1) ∧ TkAt w' a (numT 1 t).2 ∧ w.grownBy w' (some a) := number_any a 1 t w h (by omega)
theorem number6 (a : Nat) (t : Tk) (w : World) (h : TkAt w a t) : Calls Tryz.prog 60 #[.pointer (some ⟨a, 0, none⟩), .int .i64 6] w fun e w' => e = .returned (.int .i64 (numT 6 t).1) ∧ TkAt w' a (numT 6 t).2 ∧ w.grownBy w' (some a) := number_any a 6 t w h (by omega)

theorem numT1_nat (t : Tk) : ∃ n : Nat, (numT 1 t).1 = (n : Int) ∧ n < 256 := by
  unfold numT textT
  split
  · exact ⟨0, rfl, by omega⟩
  · obtain ⟨r, fl⟩ := t
    cases r with
    | nil => exact ⟨0, rfl, by omega⟩
    | cons b r => exact ⟨b.toNat, by simp [numL], b.toNat_lt⟩

theorem own_tk {w w' : World} {base : Nat} {e : TypeId} {size : Nat} {v : Value} {n : Nat} {xs : List Value} {a : Nat} (h : w.ownsRow base e size v n xs) (ha : a < base) (hg : w.grownBy w' (some a)) : w'.ownsRow base e size v n xs :=
  h.kept hg (Or.inr fun e => by have := own_base h e; omega)

theorem tk_own {w w' : World} {base : Nat} {e : TypeId} {size : Nat} {v : Value} {n : Nat} {xs : List Value} {a : Nat} {t : Tk} (h : TkAt w a t) (ho : w.ownsRow base e size v n xs) (ha : a < base) (hs : a < w.heap.size) (hg : w.grownBy w' v.ownBlock) : TkAt w' a t := by
  unfold TkAt at h ⊢
  rw [hg.block a hs (fun e => by have := own_base ho e.symm; omega), h]


theorem crs_length (k : Nat) (t : Tk) : (iterN crStep k ([], t)).1.length = k := by
  induction k with
  | zero => rfl
  | succ k ih =>
    show ((iterN crStep k ([], t)).1 ++ [_]).length = k + 1
    simp [ih]

theorem flat4_snoc (l : List Crt) (x : Crt) : flat4 (l ++ [x]) = flat4 l ++ [.int .i64 x.c, .int .i64 x.b, .int .i64 x.h, .int .i64 x.u] := by simp [flat4]

set_option maxHeartbeats 1600000 in
theorem takeCerts_any (a : Nat) (t : Tk) (w : World) (h : TkAt w a t) (ha : a < w.heap.size) : Calls Tryz.prog 62 #[.pointer (some ⟨a, 0, none⟩)] w fun e w' => ∃ v', e = .returned v' ∧ (∀ w'', Since w.heap.size w' w'' → CrtsAt w'' v' (certsT t).1) ∧ TkAt w' a (certsT t).2 ∧ w.grownBy w' (some a) := by
  obtain ⟨i0, hi, hz0, hz1, hz2⟩ := info_parts info_cert
  obtain ⟨N, hN, hN2⟩ := numT1_nat t
  have HC : Hid (certsT t = iterN crStep N ([], (numT 1 t).2)) := hid (by unfold certsT; rw [hN]; rfl)
  go_enter Tryz.func62, Tryz.ntmps62
  go_wp2_with fail
  refine (number1 a t _ h).mono ?_
  rintro e w1 ⟨rfl, ht1, hg1⟩
  rw [hN]
  generalize (numT 1 t).2 = t1 at *
  clear hN h
  go_wp2
  go_loopw [3, 6] (fun v i wr => ∃ k : Nat, k ≤ N ∧ i = .int .i64 k ∧ wr.ownsRow w.heap.size 78 4 v (iterN crStep k ([], t1)).1.length (flat4 (iterN crStep k ([], t1)).1) ∧ TkAt wr a (iterN crStep k ([], t1)).2 ∧ w.grownBy wr (some a)) (fun _ i _ => N - (intOf i).toNat)
  case atStart => exact ⟨0, Nat.zero_le _, rfl, World.ownsRow_nil _ _ _ _, ht1, hg1⟩
  case round =>
    clear ht1 hg1
    obtain ⟨k, hk, rfl, hown, ht, hg⟩ := hrel
    have hlen := crs_length k t1
    by_cases hlt : k < N
    · have HS : Hid (iterN crStep (k + 1) ([], t1) = crStep (iterN crStep k ([], t1))) := hid rfl
      have HK : Hid ((iterN crStep k ([], t1)).1.length = k) := hlen
      clear hlen
      generalize iterN crStep k ([], t1) = s at *
      go_wp2_with fail
      refine (number1 a _ _ ht).mono ?_
      rintro e w2 ⟨rfl, ht2, hg2⟩
      have hown2 := own_tk hown ha hg2
      have hgg2 := grown_trans hg hg2
      clear hown ht hg hg2
      go_wp2_with fail
      refine (number1 a _ _ ht2).mono ?_
      rintro e w3 ⟨rfl, ht3, hg3⟩
      have hown3 := own_tk hown2 ha hg3
      have hgg3 := grown_trans hgg2 hg3
      clear hown2 ht2 hgg2 hg3
      go_wp2_with fail
      refine (number1 a _ _ ht3).mono ?_
      rintro e w4 ⟨rfl, ht4, hg4⟩
      have hown4 := own_tk hown3 ha hg4
      have hgg4 := grown_trans hgg3 hg4
      clear hown3 ht3 hgg3 hg4
      go_wp2_with fail
      refine (number6 a _ _ ht4).mono ?_
      rintro e w5 ⟨rfl, ht5, hg5⟩
      have hown5 := own_tk hown4 ha hg5
      have hgg5 := grown_trans hgg4 hg5
      have hsz := hgg5.size
      clear hown4 ht4 hgg4 hg5
      have HX : Hid (crStep s = (s.1 ++ [⟨(numT 1 s.2).1, (numT 1 (numT 1 s.2).2).1, (numT 1 (numT 1 (numT 1 s.2).2).2).1, (numT 6 (numT 1 (numT 1 (numT 1 s.2).2).2).2).1⟩], (numT 6 (numT 1 (numT 1 (numT 1 s.2).2).2).2).2)) := hid rfl
      generalize (numT 1 s.2).1 = x1 at *
      generalize (numT 1 (numT 1 s.2).2).1 = x2 at *
      generalize (numT 1 (numT 1 (numT 1 s.2).2).2).1 = x3 at *
      generalize (numT 6 (numT 1 (numT 1 (numT 1 s.2).2).2).2).1 = x4 at *
      generalize (numT 6 (numT 1 (numT 1 (numT 1 s.2).2).2).2).2 = t5 at *
      have hsl : s.1.length ≤ 255 := by have := HK.out; omega
      go_wp2_with (at_builtin; refine wpList_append_own _ rfl _ _ 37 rfl w.heap.size 78 i0 _ 4 32 Tryz.underlying37 hi hz0 hz1 hz2 rfl (by decide) _ s.1.length (flat4 s.1) rfl (hown5.alloc _) ⟨w5.heap.size, 0, none⟩ 1 1 [.int .i64 x1, .int .i64 x2, .int .i64 x3, .int .i64 x4] rfl rfl (laid4 w5 _ _ _ _ _) (flat4_one [⟨x1, x2, x3, x4⟩]) (by unfold maxLen; omega) (by omega) (by simp; omega) ?_; intro v6 w6 hown6 hgrow6 hnil6)
      go_roundw
      case rel =>
        have hfin : w6.ownsRow w.heap.size 78 4 v6 (iterN crStep (k + 1) ([], t1)).1.length (flat4 (iterN crStep (k + 1) ([], t1)).1) := by
          rw [HS.out, HX.out, flat4_snoc]
          simpa using hown6
        have htk : TkAt w6 a (iterN crStep (k + 1) ([], t1)).2 := by
          rw [HS.out, HX.out]
          exact tk_own (ht5.keep (below_box _ _)) (hown5.alloc _) ha (by simp; omega) hgrow6
        have hgf : w.grownBy w6 (some a) := grown_own (grown_trans hgg5 (grown_below (below_box _ _) _)) (hown5.alloc _) (Nat.le_refl _) hgrow6
        first | exact ⟨k + 1, hlt, by go_num, hfin, htk, hgf⟩ | ((repeat apply Exists.intro); exact ⟨⟨k + 1, hlt, by go_num, hfin, htk, hgf⟩, rfl⟩)
      case measure => simp [intOf]; omega
    · have hkl : k = N := by omega
      subst hkl
      have hfin : ∀ w'', Since w.heap.size wr w'' → CrtsAt w'' u3 (certsT t).1 := fun w'' hs => by rw [HC.out]; exact crts_of_own (own_since hown hs) (by omega)
      have htk : TkAt wr a (certsT t).2 := by rw [HC.out]; exact ht
      clear hown ht hlen
      go_wp2
      go_ret
      exact ⟨_, rfl, hfin, htk, hg⟩
end Go.Proofs.YtgpldlbmjakjhaaGreat

namespace Go.Proofs.YtgpldlbmjakjhaaGreat
open Go.RowKit Go.Proofs.Parclose



theorem enter_number (args : Array Value) (w : World) : (callFunc 60 args).run Tryz.prog w = .ok (.enter 60 args) w := by kernel_rfl

/-- one number, as a step of a region that draws -/
theorem step_number {w : World} {ops : Array Oper} {o : Oper} {a0 : Act} {K : Act → World → Prop} {Q : Exit → Act → World → Prop} {E : Prop} (hgd : o.guard = none) (x y : Operand) (ats : Array TypeId)
    (ho : o.op = .call { callee := .value (.func 60), args := #[x, y], argTypes := ats }) (a : Nat) (t : Tk) (hx : a0.eval x = .pointer (some ⟨a, 0, none⟩)) (hy : a0.eval y = .int .i64 1) (ht : TkAt w a t)
    (h : ∀ w', TkAt w' a (numT 1 t).2 → w.grownBy w' (some a) → K (a0.put o.dst (.int .i64 (numT 1 t).1)) w') :
    if Region.wanted o (yielded ops a0.tmps) = true then Oper.wp Tryz.prog o a0 w K Q else E := by
  have hw : Region.wanted o (yielded ops a0.tmps) = true := by simp [Region.wanted, hgd]
  rw [if_pos hw]
  unfold Oper.wp
  obtain ⟨dst, op, ty, pos, after, guard⟩ := o
  simp only at ho
  subst ho
  rw [execOp_call_go]
  have e : (#[] ++ #[x, y].map a0.eval ++ #[] : Array Value) = #[.pointer (some ⟨a, 0, none⟩), .int .i64 1] := by simp [hx, hy]
  rw [e, enter_number, Oper.upon_enter]
  refine (number1 a t w ht).mono ?_
  rintro e w' ⟨rfl, h1, h2⟩
  exact h w' h1 h2

/-- append of one level, as a step of a region that draws -/
theorem step_level {w : World} {ops : Array Oper} {o : Oper} {a0 : Act} {K : Act → World → Prop} {Q : Exit → Act → World → Prop} {E : Prop} (hgd : o.guard = none) (s x : Operand)
    (ho : o.op = .call { callee := .builtin .append, args := #[s, x], argTypes := #[27, 27] }) (base : Nat) (v : Value) (n : Nat) (xs : List Value) (hs : a0.eval s = v) (hown : w.ownsRow base 74 2 v n xs)
    (g : Nat) (x1 x2 : Int) (hx : a0.eval x = .slice (some ⟨g, 0, none⟩) 1 1) (hc : ∀ j u, [Value.int .i64 x1, .int .i64 x2][j]? = some u → w.cell? ((⟨g, 0, none⟩ : Addr).add j) = some u) (hn : n ≤ 1000) (hbase : base ≤ w.heap.size)
    (h : ∀ v' w', w'.ownsRow base 74 2 v' (n + 1) (xs ++ [.int .i64 x1, .int .i64 x2]) → w.grownBy w' v.ownBlock → K (a0.put o.dst v') w') :
    if Region.wanted o (yielded ops a0.tmps) = true then Oper.wp Tryz.prog o a0 w K Q else E := by
  have hw : Region.wanted o (yielded ops a0.tmps) = true := by simp [Region.wanted, hgd]
  rw [if_pos hw]
  obtain ⟨i0, hi, hz0, hz1, hz2⟩ := info_parts info_level
  exact wp_append_own w s x 27 ho base 74 i0 _ 2 16 Tryz.underlying27 hi hz0 hz1 hz2 rfl (by decide) v n xs hs hown ⟨g, 0, none⟩ 1 1 [.int .i64 x1, .int .i64 x2] hx rfl hc (flat2_one [(x1, x2)]) (by unfold maxLen; omega) (by omega) hbase
      (fun v' w' h1 h2 _ => h v' w' h1 h2)

/-- append of one number, as a step of a region that draws -/
theorem step_num {w : World} {ops : Array Oper} {o : Oper} {a0 : Act} {K : Act → World → Prop} {Q : Exit → Act → World → Prop} {E : Prop} (hgd : o.guard = none) (s x : Operand)
    (ho : o.op = .call { callee := .builtin .append, args := #[s, x], argTypes := #[28, 28] }) (base : Nat) (v : Value) (n : Nat) (xs : List Value) (hs : a0.eval s = v) (hown : w.ownsRow base 3 1 v n xs)
    (g : Nat) (x1 : Int) (hx : a0.eval x = .slice (some ⟨g, 0, none⟩) 1 1) (hc : ∀ j u, [Value.int .i64 x1][j]? = some u → w.cell? ((⟨g, 0, none⟩ : Addr).add j) = some u) (hn : n ≤ 1000) (hbase : base ≤ w.heap.size)
    (h : ∀ v' w', w'.ownsRow base 3 1 v' (n + 1) (xs ++ [.int .i64 x1]) → w.grownBy w' v.ownBlock → K (a0.put o.dst v') w') :
    if Region.wanted o (yielded ops a0.tmps) = true then Oper.wp Tryz.prog o a0 w K Q else E := by
  have hw : Region.wanted o (yielded ops a0.tmps) = true := by simp [Region.wanted, hgd]
  rw [if_pos hw]
  obtain ⟨i0, hi, hz0, hz1, hz2⟩ := info_parts info_int
  exact wp_append_own w s x 28 ho base 3 i0 _ 1 8 Tryz.underlying28 hi hz0 hz1 hz2 rfl (by decide) v n xs hs hown ⟨g, 0, none⟩ 1 1 [.int .i64 x1] hx rfl hc (flat1_one [x1]) (by unfold maxLen; omega) (by omega) hbase
      (fun v' w' h1 h2 _ => h v' w' h1 h2)

theorem levs_length (k : Nat) (t : Tk) : (iterN levStep k ([], t)).1.length = k := by
  induction k with
  | zero => rfl
  | succ k ih =>
    show ((iterN levStep k ([], t)).1 ++ [_]).length = k + 1
    simp [ih]
theorem grs_length (k : Nat) (t : Tk) : (iterN grStep k ([], t)).1.length = k := by
  induction k with
  | zero => rfl
  | succ k ih =>
    show ((iterN grStep k ([], t)).1 ++ [_]).length = k + 1
    simp [ih]
theorem flat2_snoc (l : List (Int × Int)) (x y : Int) : flat2 (l ++ [(x, y)]) = flat2 l ++ [.int .i64 x, .int .i64 y] := by simp [flat2]
theorem flat1_snoc (l : List Int) (x : Int) : flat1 (l ++ [x]) = flat1 l ++ [.int .i64 x] := by simp [flat1]
end Go.Proofs.YtgpldlbmjakjhaaGreat

namespace Go.Proofs.YtgpldlbmjakjhaaGreat
open Go.RowKit Go.Proofs.Parclose

/-- the box of a mail in the making -/
def MbAt (w : World) (b : Nat) (fr th : Int) (vl vg : Value) (tx : List UInt8) : Prop := w.heap[b]? = some (.cells #[.int .i64 fr, .int .i64 th, vl, vg, .string ⟨tx.toArray⟩] 46 (0, 0))

set_option maxRecDepth 100000 in
set_option maxHeartbeats 3200000 in
theorem takeMail_any (a : Nat) (fr : Int) (t : Tk) (w : World) (h : TkAt w a t) (ha : a < w.heap.size) : Calls Tryz.prog 61 #[.pointer (some ⟨a, 0, none⟩), .int .i64 fr] w fun e w' => ∃ v', e = .returned v' ∧ (∀ w'', Since w.heap.size w' w'' → MalAt w'' v' (mailT fr t).1) ∧ TkAt w' a (mailT fr t).2 ∧ w.grownBy w' (some a) := by
  have HM : Hid (mailT fr t = (⟨fr, (numT 1 t).1, (labT (numT 1 t).2).1, (grT (labT (numT 1 t).2).2).1, (txT (grT (labT (numT 1 t).2).2).2).1⟩, (txT (grT (labT (numT 1 t).2).2).2).2)) := hid rfl
  go_enter Tryz.func61, Tryz.ntmps61
  go_wp2_with fail
  refine (number1 a t _ (h.keep (below_box _ _))).mono ?_
  rintro e w1 ⟨rfl, ht1, hg1⟩
  have hr1 := heap_tk (heap_alloc_new w _) (by omega) hg1
  have hgw1 := grown_trans (grown_below (below_box w _) (some a)) hg1
  have hs1 := hgw1.size
  have hlt1 := heap_lt hr1
  generalize (numT 1 t).1 = th at *
  generalize (numT 1 t).2 = t1 at *
  obtain ⟨N, hN, hN2⟩ := numT1_nat t1
  have HL : Hid (labT t1 = iterN levStep N ([], (numT 1 t1).2)) := hid (by unfold labT; rw [hN]; rfl)
  clear h hg1
  go_wp2_with fail
  refine (number1 a t1 _ (ht1.keep (below_box _ _))).mono ?_
  rintro e w2 ⟨rfl, ht2, hg2⟩
  rw [hN]
  have hm2 := heap_tk (heap_alloc_new w1 _) (by omega) hg2
  have hr2 := heap_tk (heap_new hr1 _) (by omega) hg2
  have hgw2 := grown_trans (grown_trans hgw1 (grown_below (below_box w1 _) (some a))) hg2
  generalize (numT 1 t1).2 = t2 at *
  clear hN ht1 hr1 hg2 hgw1
  go_wp2
  go_loopw [12] (fun i wr => ∃ (k : Nat) (vl : Value), k ≤ N ∧ i = .int .i64 k ∧ MbAt wr w1.heap.size fr th vl (.slice none 0 0) [] ∧ MbAt wr w.heap.size 0 0 (.slice none 0 0) (.slice none 0 0) [] ∧ wr.ownsRow w.heap.size 74 2 vl (iterN levStep k ([], t2)).1.length (flat2 (iterN levStep k ([], t2)).1) ∧ TkAt wr a (iterN levStep k ([], t2)).2 ∧ w.grownBy wr (some a)) (fun i _ => N - (intOf i).toNat)
  case atStart => exact ⟨0, _, Nat.zero_le _, rfl, hm2, hr2, World.ownsRow_nil _ _ _ _, ht2, hgw2⟩
  case round =>
    clear hm2 hr2 ht2 hgw2
    obtain ⟨k, vl, hk, rfl, hm, hr, hown, ht, hg⟩ := hrel
    have hlen := levs_length k t2
    by_cases hlt : k < N
    · have HS : Hid (iterN levStep (k + 1) ([], t2) = levStep (iterN levStep k ([], t2))) := hid rfl
      have HK : Hid ((iterN levStep k ([], t2)).1.length = k) := hlen
      clear hlen
      generalize iterN levStep k ([], t2) = s at *
      have hsl : s.1.length ≤ 255 := by have := HK.out; omega
      have hcm := heap_cell hm 2
      have hmlt := heap_lt hm
      go_wp2
      have hbl : w.heap.size ≤ wr.heap.size := hg.size
      have hdec : (46 : Nat) ≠ 74 := by decide
      go_region_law ((first
        | (refine step_level (by rfl) (.tmp 15) (.tmp 21) (by rfl) w.heap.size vl s.1.length (flat2 s.1) (by rfl) (hownB.alloc _) w4.heap.size (numT 1 s.2).1 (numT 1 (numT 1 s.2).2).1 (by rfl) (laid2 w4 _ _ _) (by omega) (by have := hggB.size; simp; omega) ?_; intro v5 w5 hown5 hgrow5; obtain ⟨p5, c5, rfl, _⟩ := owns_cells hown5; have Hm5 := heap_own (heap_new HmB _) (hownB.alloc _) hdec hgrow5; have hc5 := heap_cell Hm5 2; have hf5 := heap_frozen Hm5 2; have Hr5 := heap_own (heap_new HrB _) (hownB.alloc _) hdec hgrow5; have ht5 := tk_own (htB.keep (below_box _ _)) (hownB.alloc _) ha (by have := hggB.size; simp; omega) hgrow5; have hg5 := grown_own (grown_trans hggB (grown_below (below_box _ _) _)) (hownB.alloc _) (Nat.le_refl _) hgrow5)
        | (refine step_number (by rfl) (.tmp 18) (.const (.int .i64 1)) #[97, 3] (by rfl) a (numT 1 s.2).2 (by rfl) (by rfl) htA ?_; intro w4 htB hgB; have HmB := heap_tk HmA (by omega) hgB; have hcmB := heap_cell HmB 2; have hmltB := heap_lt HmB; have HrB := heap_tk HrA (by omega) hgB; have hownB := own_tk hownA ha hgB; have hggB := grown_trans hggA hgB; clear hgB)
        | (refine step_number (by rfl) (.tmp 16) (.const (.int .i64 1)) #[97, 3] (by rfl) a s.2 (by rfl) (by rfl) ht ?_; intro w3 htA hgA0; have hgA := grown_drew hgA0; have HmA := heap_tk hm (by omega) hgA; have hcmA := heap_cell HmA 2; have hmltA := heap_lt HmA; have HrA := heap_tk hr (by omega) hgA; have hownA := own_tk hown ha hgA; have hggA := grown_trans hg hgA; clear hgA hgA0)))
      all_goals
        have HX : Hid (levStep s = (s.1 ++ [((numT 1 s.2).1, (numT 1 (numT 1 s.2).2).1)], (numT 1 (numT 1 s.2).2).2)) := hid rfl
        have fm : MbAt (w5.setCell ⟨w1.heap.size, 2, none⟩ (.slice p5 (s.1.length + 1) c5)) w1.heap.size fr th (.slice p5 (s.1.length + 1) c5) (.slice none 0 0) [] := heap_setCell Hm5 _
        have fr0 : MbAt (w5.setCell ⟨w1.heap.size, 2, none⟩ (.slice p5 (s.1.length + 1) c5)) w.heap.size 0 0 (.slice none 0 0) (.slice none 0 0) [] := heap_store Hr5 (by omega) _ _
        have fo := own_store hown5 Hm5 hdec 2 (.slice p5 (s.1.length + 1) c5)
        have ft : TkAt (w5.setCell ⟨w1.heap.size, 2, none⟩ (.slice p5 (s.1.length + 1) c5)) a (numT 1 (numT 1 s.2).2).2 := heap_store ht5 (by omega) _ _
        have fg := grown_store hg5 hs1 2 (.slice p5 (s.1.length + 1) c5)
        clear hc5 hf5 Hm5 Hr5 ht5 hg5 hown5 hgrow5 htB HmB hcmB HrB hownB hggB htA HmA hcmA HrA hownA hggA hcm hm hr hown ht hg
        go_wp2
        go_roundw
        case rel =>
          refine ⟨k + 1, _, hlt, by go_num, fm, fr0, ?_, ?_, fg⟩
          · rw [HS.out, HX.out, flat2_snoc]; simpa using fo
          · rw [HS.out, HX.out]; exact ft
        case measure => simp [intOf]; omega
    · have hkl : k = N := by omega
      subst hkl
      have hown' : wr.ownsRow w.heap.size 74 2 vl (labT t1).1.length (flat2 (labT t1).1) := by rw [HL.out]; exact hown
      have ht' : TkAt wr a (labT t1).2 := by rw [HL.out]; exact ht
      have hl255 : (labT t1).1.length ≤ 255 := by rw [HL.out, hlen]; omega
      clear hown ht hlen HL
      generalize labT t1 = L at *
      obtain ⟨M, hM, hM2⟩ := numT1_nat L.2
      have HG : Hid (grT L.2 = iterN grStep M ([], (numT 1 L.2).2)) := hid (by unfold grT; rw [hM]; rfl)
      go_wp2_with fail
      refine (number1 a L.2 _ ht').mono ?_
      rintro e w6 ⟨rfl, ht6, hg6⟩
      rw [hM]
      have hm6 := heap_tk hm (by omega) hg6
      have hr6 := heap_tk hr (by omega) hg6
      have hown6 := own_tk hown' ha hg6
      have hgw6 := grown_trans hg hg6
      generalize (numT 1 L.2).2 = t6 at *
      clear hM hm hr hown' ht' hg hg6
      go_wp2
      go_loopw [27] (fun i wr => ∃ (k : Nat) (vg : Value), k ≤ M ∧ i = .int .i64 k ∧ MbAt wr w1.heap.size fr th vl vg [] ∧ MbAt wr w.heap.size 0 0 (.slice none 0 0) (.slice none 0 0) [] ∧ wr.ownsRow w.heap.size 74 2 vl L.1.length (flat2 L.1) ∧ wr.ownsRow w.heap.size 3 1 vg (iterN grStep k ([], t6)).1.length (flat1 (iterN grStep k ([], t6)).1) ∧ TkAt wr a (iterN grStep k ([], t6)).2 ∧ w.grownBy wr (some a)) (fun i _ => M - (intOf i).toNat)
      case atStart => exact ⟨0, _, Nat.zero_le _, rfl, hm6, hr6, hown6, World.ownsRow_nil _ _ _ _, ht6, hgw6⟩
      case round =>
        clear hm6 hr6 hown6 ht6 hgw6 hk hlt
        obtain ⟨k, vg, hk, rfl, hm, hr, hownL, hown, ht, hg⟩ := hrel
        have hlen := grs_length k t6
        by_cases hlt : k < M
        · have HS : Hid (iterN grStep (k + 1) ([], t6) = grStep (iterN grStep k ([], t6))) := hid rfl
          have HK : Hid ((iterN grStep k ([], t6)).1.length = k) := hlen
          clear hlen
          generalize iterN grStep k ([], t6) = s at *
          have hsl : s.1.length ≤ 255 := by have := HK.out; omega
          have hcm := heap_cell hm 3
          have hmlt := heap_lt hm
          have hbl : w.heap.size ≤ wr.heap.size := hg.size
          have hdec : (46 : Nat) ≠ 3 := by decide
          have hdec2 : (74 : Nat) ≠ 3 := by decide
          have hdec3 : (46 : Nat) ≠ 74 := by decide
          go_wp2
          go_region_law ((first
            | (refine step_num (by rfl) (.tmp 30) (.tmp 33) (by rfl) w.heap.size vg s.1.length (flat1 s.1) (by rfl) (hownA.alloc _) w3.heap.size (numT 1 s.2).1 (by rfl) (laid1 w3 _ _) (by omega) (by have := hggA.size; simp; omega) ?_; intro v5 w5 hown5 hgrow5; obtain ⟨p5, c5, rfl, _⟩ := owns_cells hown5; have Hm5 := heap_own (heap_new HmA _) (hownA.alloc _) hdec hgrow5; have hc5 := heap_cell Hm5 3; have hf5 := heap_frozen Hm5 3; have Hr5 := heap_own (heap_new HrA _) (hownA.alloc _) hdec hgrow5; have hL5 := own_own (hLA.alloc _) (hownA.alloc _) hdec2 hgrow5; have ht5 := tk_own (htA.keep (below_box _ _)) (hownA.alloc _) ha (by have := hggA.size; simp; omega) hgrow5; have hg5 := grown_own (grown_trans hggA (grown_below (below_box _ _) _)) (hownA.alloc _) (Nat.le_refl _) hgrow5)
            | (refine step_number (by rfl) (.tmp 31) (.const (.int .i64 1)) #[97, 3] (by rfl) a s.2 (by rfl) (by rfl) ht ?_; intro w3 htA hgA0; have hgA := grown_drew hgA0; have HmA := heap_tk hm (by omega) hgA; have hcmA := heap_cell HmA 3; have hmltA := heap_lt HmA; have HrA := heap_tk hr (by omega) hgA; have hownA := own_tk hown ha hgA; have hLA := own_tk hownL ha hgA; have hggA := grown_trans hg hgA; clear hgA hgA0)))
          all_goals
            have HX : Hid (grStep s = (s.1 ++ [(numT 1 s.2).1], (numT 1 s.2).2)) := hid rfl
            have fm : MbAt (w5.setCell ⟨w1.heap.size, 3, none⟩ (.slice p5 (s.1.length + 1) c5)) w1.heap.size fr th vl (.slice p5 (s.1.length + 1) c5) [] := heap_setCell Hm5 _
            have fr0 : MbAt (w5.setCell ⟨w1.heap.size, 3, none⟩ (.slice p5 (s.1.length + 1) c5)) w.heap.size 0 0 (.slice none 0 0) (.slice none 0 0) [] := heap_store Hr5 (by omega) _ _
            have fo := own_store hown5 Hm5 hdec 3 (.slice p5 (s.1.length + 1) c5)
            have fl := own_store hL5 Hm5 hdec3 3 (.slice p5 (s.1.length + 1) c5)
            have ft : TkAt (w5.setCell ⟨w1.heap.size, 3, none⟩ (.slice p5 (s.1.length + 1) c5)) a (numT 1 s.2).2 := heap_store ht5 (by omega) _ _
            have fg := grown_store hg5 hs1 3 (.slice p5 (s.1.length + 1) c5)
            clear hc5 hf5 Hm5 Hr5 ht5 hg5 hown5 hgrow5 hL5 htA HmA hcmA HrA hownA hLA hggA hcm hm hr hown hownL ht hg
            go_wp2
            go_roundw
            case rel =>
              refine ⟨k + 1, _, hlt, by go_num, fm, fr0, fl, ?_, ?_, fg⟩
              · rw [HS.out, HX.out, flat1_snoc]; simpa using fo
              · rw [HS.out, HX.out]; exact ft
            case measure => simp [intOf]; omega
        · have hkl : k = M := by omega
          subst hkl
          have hownG : wr.ownsRow w.heap.size 3 1 vg (grT L.2).1.length (flat1 (grT L.2).1) := by rw [HG.out]; exact hown
          have htG : TkAt wr a (grT L.2).2 := by rw [HG.out]; exact ht
          have hg255 : (grT L.2).1.length ≤ 255 := by rw [HG.out, hlen]; omega
          clear hown ht hlen HG
          generalize grT L.2 = G at *
          obtain ⟨P, hP, hP2⟩ := numT1_nat G.2
          have HT : Hid (txT G.2 = textT P (numT 1 G.2).2) := hid (by unfold txT; rw [hP]; rfl)
          go_wp2_with fail
          refine (number1 a G.2 _ htG).mono ?_
          rintro e w7 ⟨rfl, ht7, hg7⟩
          rw [hP]
          have hm7 := heap_tk hm (by omega) hg7
          have hr7 := heap_tk hr (by omega) hg7
          have hL7 := own_tk hownL ha hg7
          have hG7 := own_tk hownG ha hg7
          have hgw7 := grown_trans hg hg7
          clear hP hm hr hownL hownG htG hg hg7
          go_wp2_with fail
          refine (text_any a P _ _ ht7).mono ?_
          rintro e w8 ⟨rfl, ht8, hg8⟩
          have hm8 := heap_tk hm7 (by omega) hg8
          have hr8 := heap_tk hr7 (by omega) hg8
          have hL8 := own_tk hL7 ha hg8
          have hG8 := own_tk hG7 ha hg8
          have hgw8 := grown_trans hgw7 hg8
          clear ht7 hm7 hr7 hL7 hG7 hgw7 hg8
          have HT1 : Hid ((txT G.2).1 = (textT P (numT 1 G.2).2).1 ∧ (txT G.2).2 = (textT P (numT 1 G.2).2).2) := hid ⟨by rw [HT.out], by rw [HT.out]⟩
          generalize (textT P (numT 1 G.2).2).1 = tx at *
          generalize (textT P (numT 1 G.2).2).2 = t8 at *
          obtain ⟨pl, cl, rfl, _⟩ := owns_cells hL8
          obtain ⟨pg, cg, rfl, _⟩ := owns_cells hG8
          have c0 := heap_cell hm8 0
          have c1 := heap_cell hm8 1
          have c2 := heap_cell hm8 2
          have c3 := heap_cell hm8 3
          have c4 := heap_cell hm8 4
          have f4 := heap_frozen hm8 4
          have d0 := heap_cell hr8 0
          have d1 := heap_cell hr8 1
          have d2 := heap_cell hr8 2
          have d3 := heap_cell hr8 3
          have d4 := heap_cell hr8 4
          have e0 := heap_frozen hr8 0
          have e1 := heap_frozen hr8 1
          have e2 := heap_frozen hr8 2
          have e3 := heap_frozen hr8 3
          have e4 := heap_frozen hr8 4
          have hne : w.heap.size ≠ w1.heap.size := by omega
          have hne2 : w1.heap.size ≠ w.heap.size := by omega
          go_wp2
          have A0 := heap_store hr8 hne 4 (.string ⟨tx.toArray⟩)
          have hL9 := own_store hL8 hm8 (by decide) 4 (.string ⟨tx.toArray⟩)
          have hG9 := own_store hG8 hm8 (by decide) 4 (.string ⟨tx.toArray⟩)
          have ht9 := heap_store ht8 (show a ≠ w1.heap.size by omega) 4 (.string ⟨tx.toArray⟩)
          have hg9 := grown_store hgw8 hs1 4 (.string ⟨tx.toArray⟩)
          clear c0 c1 c2 c3 c4 f4 d0 d1 d2 d3 d4 e0 e1 e2 e3 e4 hm8 hr8 hL8 hG8 ht8 hgw8
          generalize w8.setCell ⟨w1.heap.size, 4, none⟩ (.string ⟨tx.toArray⟩) = w9 at *
          have hS := grown_trans (grown_trans (grown_trans (grown_trans (grown_setCell w9 w.heap.size 0 (.int .i64 fr)) (grown_setCell _ w.heap.size 1 (.int .i64 th))) (grown_setCell _ w.heap.size 2 (.slice pl L.1.length cl))) (grown_setCell _ w.heap.size 3 (.slice pg G.1.length cg))) (grown_setCell _ w.heap.size 4 (.string ⟨tx.toArray⟩))
          have hW := heap_setCell (j := 4) (heap_setCell (j := 3) (heap_setCell (j := 2) (heap_setCell (j := 1) (heap_setCell (j := 0) A0 (.int .i64 fr)) (.int .i64 th)) (.slice pl L.1.length cl)) (.slice pg G.1.length cg)) (.string ⟨tx.toArray⟩)
          have hL10 := own_block hL9 A0 (by decide) hS
          have hG10 := own_block hG9 A0 (by decide) hS
          have ht10 := heap_tk ht9 (show a ≠ w.heap.size by omega) hS
          have hg10 := grown_block hg9 (Nat.le_refl _) hS
          refine bodyPost_ret (results_cell_row rfl _ _ w.heap.size 46 _ (0, 0) _ rfl hW Tryz.underlying46 rfl (by kernel_rfl)) rfl ⟨_, rfl, ?_, ?_, hg10⟩
          · intro w'' hs
            rw [HM.out]
            have hL10 := own_since hL10 hs
            have hG10 := own_since hG10 hs
            exact ⟨.slice pl L.1.length cl, .slice pg G.1.length cg, by rw [HT1.out.1]; rfl, labs_of_own hL10 (Nat.le_trans hl255 (by decide)), nums_of_own hG10 (Nat.le_trans hg255 (by decide))⟩
          · rw [HM.out, HT1.out.2]
            exact ht10
end Go.Proofs.YtgpldlbmjakjhaaGreat
