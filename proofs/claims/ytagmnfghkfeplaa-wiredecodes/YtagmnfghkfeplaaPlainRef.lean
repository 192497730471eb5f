/- Plain facts on how the document's own answer reads bytes, row by row: it reads what the taker reads; no program is named here. -/
import Derived.Test.YtagmnfghkfeplaaPlainBack
namespace Go.Proofs.Parclose

/-- row i of a size -/
def rowL (x : List UInt8) (sz i : Nat) : List UInt8 := (x.drop (i * sz)).take sz
def byteAt (x : List UInt8) (i : Nat) : Int := ((x.getD i 0).toNat : Int)
def levOf (x : List UInt8) : Int × Int := (byteAt x 0, byteAt x 1)
def crtOf (x : List UInt8) : Crt := ⟨byteAt x 0, byteAt x 1, byteAt x 2, numL (x.drop 3)⟩
/-- the rows of a text of n rows -/
def rowsL (x : List UInt8) (sz n : Nat) : List (List UInt8) := (List.range n).map (rowL x sz)
/-- a count, and so many rows: the rows, and the rest -/
def rowsP (sz : Nat) : List UInt8 → Option (List (List UInt8) × List UInt8)
  | [] => none
  | b :: r => if r.length < b.toNat * sz then none else some (rowsL (r.take (b.toNat * sz)) sz b.toNat, r.drop (b.toNat * sz))

theorem rowL_length (x : List UInt8) (sz n i : Nat) (hx : x.length = n * sz) (hi : i < n) : (rowL x sz i).length = sz := by
  unfold rowL
  rw [List.length_take, List.length_drop, hx]
  have : (i + 1) * sz ≤ n * sz := Nat.mul_le_mul_right _ hi
  rw [Nat.add_mul, Nat.one_mul] at this
  omega

theorem rowL_take (x : List UInt8) (sz n i : Nat) (hi : i < n) : rowL (x.take (n * sz)) sz i = rowL x sz i := by
  unfold rowL
  rw [List.drop_take, List.take_take]
  have : (i + 1) * sz ≤ n * sz := Nat.mul_le_mul_right _ hi
  rw [Nat.add_mul, Nat.one_mul] at this
  rw [Nat.min_eq_left (by omega)]

theorem rowsL_take (x : List UInt8) (sz n : Nat) : rowsL (x.take (n * sz)) sz n = rowsL x sz n := by
  unfold rowsL
  refine List.map_congr_left fun i hi => ?_
  exact rowL_take x sz n i (List.mem_range.1 hi)

theorem rowsL_succ (x : List UInt8) (sz n : Nat) : rowsL x sz (n + 1) = rowsL x sz n ++ [rowL x sz n] := by
  unfold rowsL
  rw [List.range_succ, List.map_append]
  rfl
theorem rowsL_length (x : List UInt8) (sz n : Nat) : (rowsL x sz n).length = n := by simp [rowsL]

theorem iter_rows {α : Type} (st : List α × Tk → List α × Tk) (f : List UInt8 → α) (sz : Nat) (h : ∀ acc y r, y.length = sz → st (acc, (y ++ r, false)) = (acc ++ [f y], (r, false))) (n : Nat) :
    ∀ (x r : List UInt8), x.length = n * sz → iterN st n ([], (x ++ r, false)) = ((rowsL x sz n).map f, (r, false)) := by
  induction n with
  | zero =>
    intro x r hx
    have : x = [] := List.length_eq_zero_iff.1 (by omega)
    subst this
    rfl
  | succ n ih =>
    intro x r hx
    have hx' : x.length = n * sz + sz := by rw [hx, Nat.add_mul, Nat.one_mul]
    have e : x ++ r = x.take (n * sz) ++ (x.drop (n * sz) ++ r) := by rw [← List.append_assoc, List.take_append_drop]
    rw [rowsL_succ, List.map_append, e]
    show st (iterN st n _) = _
    rw [ih _ _ (by rw [List.length_take, hx']; omega), h _ _ _ (by rw [List.length_drop, hx']; omega), rowsL_take]
    have e2 : rowL x sz n = x.drop (n * sz) := by
      unfold rowL
      rw [List.take_of_length_le]
      rw [List.length_drop, hx']
      omega
    rw [e2]
    rfl

theorem list2 {x : List UInt8} (h : x.length = 2) : ∃ a b, x = [a, b] := by
  match x, h with
  | [a, b], _ => exact ⟨a, b, rfl⟩
theorem list9 {x : List UInt8} (h : x.length = 9) : ∃ a b c y, x = a :: b :: c :: y ∧ y.length = 6 := by
  match x, h with
  | a :: b :: c :: y, h => exact ⟨a, b, c, y, rfl, by simpa using h⟩
theorem numT1_byte (a : UInt8) (r : List UInt8) : numT 1 (a :: r, false) = ((a.toNat : Int), (r, false)) := by
  have h := numT1_app (a.toNat : Int) r (by omega) (uint8_lt a)
  rwa [byteL_toNat] at h
theorem numT6_text (y r : List UInt8) (h : y.length = 6) : numT 6 (y ++ r, false) = (numL y, (r, false)) := by
  unfold numT
  rw [textT_app' y r h]

theorem lev_row (acc : List (Int × Int)) (y r : List UInt8) (h : y.length = 2) : levStep (acc, (y ++ r, false)) = (acc ++ [levOf y], (r, false)) := by
  obtain ⟨a, b, rfl⟩ := list2 h
  unfold levStep
  simp only [List.cons_append, List.nil_append]
  rw [numT1_byte]
  simp only
  rw [numT1_byte]
  rfl
theorem gr_row (acc : List Int) (y r : List UInt8) (h : y.length = 1) : grStep (acc, (y ++ r, false)) = (acc ++ [byteAt y 0], (r, false)) := by
  obtain ⟨a, rfl⟩ := list1 h
  unfold grStep
  simp only [List.cons_append, List.nil_append]
  rw [numT1_byte]
  rfl
theorem cr_row (acc : List Crt) (y r : List UInt8) (h : y.length = 9) : crStep (acc, (y ++ r, false)) = (acc ++ [crtOf y], (r, false)) := by
  obtain ⟨a, b, c, z, rfl, hz⟩ := list9 h
  unfold crStep crtT
  simp only [List.cons_append]
  rw [numT1_byte]
  simp only
  rw [numT1_byte]
  simp only
  rw [numT1_byte]
  simp only
  rw [numT6_text z r hz]
  rfl

theorem tail_split (r : List UInt8) (n : Nat) : r.take n ++ r.drop n = r := List.take_append_drop n r

theorem lab_rows {s : List UInt8} {rs : List (List UInt8)} {r : List UInt8} (h : rowsP 2 s = some (rs, r)) : labT (s, false) = (rs.map levOf, (r, false)) := by
  cases s with
  | nil => cases h
  | cons b q =>
    simp only [rowsP] at h
    split at h
    · cases h
    · rename_i hl
      injection h with h
      injection h with h1 h2
      subst h1
      subst h2
      unfold labT
      rw [numT1_byte]
      simp only [Int.toNat_natCast]
      conv => lhs; rw [← tail_split q (b.toNat * 2)]
      exact iter_rows levStep levOf 2 lev_row b.toNat _ _ (by rw [List.length_take]; omega)
theorem gr_rows {s : List UInt8} {rs : List (List UInt8)} {r : List UInt8} (h : rowsP 1 s = some (rs, r)) : grT (s, false) = (rs.map (byteAt · 0), (r, false)) := by
  cases s with
  | nil => cases h
  | cons b q =>
    simp only [rowsP] at h
    split at h
    · cases h
    · rename_i hl
      injection h with h
      injection h with h1 h2
      subst h1
      subst h2
      unfold grT
      rw [numT1_byte]
      simp only [Int.toNat_natCast]
      conv => lhs; rw [← tail_split q (b.toNat * 1)]
      exact iter_rows grStep (byteAt · 0) 1 gr_row b.toNat _ _ (by rw [List.length_take]; omega)
theorem cr_rows {s : List UInt8} {rs : List (List UInt8)} {r : List UInt8} (h : rowsP 9 s = some (rs, r)) : certsT (s, false) = (rs.map crtOf, (r, false)) := by
  cases s with
  | nil => cases h
  | cons b q =>
    simp only [rowsP] at h
    split at h
    · cases h
    · rename_i hl
      injection h with h
      injection h with h1 h2
      subst h1
      subst h2
      unfold certsT
      rw [numT1_byte]
      simp only [Int.toNat_natCast]
      conv => lhs; rw [← tail_split q (b.toNat * 9)]
      exact iter_rows crStep crtOf 9 cr_row b.toNat _ _ (by rw [List.length_take]; omega)

theorem rows_flat (x : List UInt8) (n : Nat) (hx : x.length = n) : (rowsL x 1 n).flatten = x := by
  induction n generalizing x with
  | zero =>
    have : x = [] := List.length_eq_zero_iff.1 hx
    subst this
    rfl
  | succ n ih =>
    rw [rowsL_succ, List.flatten_append, ← rowsL_take, ih _ (by rw [List.length_take]; omega)]
    unfold rowL
    rw [List.flatten_singleton, List.take_of_length_le (l := x.drop (n * 1)) (by rw [List.length_drop]; omega), tail_split]
theorem tx_rows {s : List UInt8} {rs : List (List UInt8)} {r : List UInt8} (h : rowsP 1 s = some (rs, r)) : txT (s, false) = (rs.flatten, (r, false)) := by
  cases s with
  | nil => cases h
  | cons b q =>
    simp only [rowsP] at h
    split at h
    · cases h
    · rename_i hl
      injection h with h
      injection h with h1 h2
      subst h1
      subst h2
      unfold txT
      rw [numT1_byte]
      simp only [Int.toNat_natCast]
      rw [rows_flat _ _ (by rw [List.length_take]; omega), Nat.mul_one]
      conv => lhs; rw [← tail_split q b.toNat]
      exact textT_app' _ _ (by rw [List.length_take]; omega)

theorem bool_true {b : Bool} (h : b ≠ false) : b = true := by cases b <;> simp_all

theorem count_fits {s : List UInt8} {n sz : Nat} {x r : List UInt8} (h : rowsP sz s = none) (e : s = byteL n :: x ++ r) (hn : n < 256) (hx : x.length = n * sz) : False := by
  subst e
  simp only [List.cons_append, rowsP] at h
  have hb : (byteL (n : Int)).toNat = n := by have := toNat_byteL (n : Int); omega
  rw [hb, if_neg (by rw [List.length_append, hx]; omega)] at h
  cases h

theorem count_short {t : Tk} (h : (numT 1 t).2.2 = false) (n : Nat) (hn : n = (numT 1 t).1.toNat) : n < 256 := by
  obtain ⟨_, h0, h1⟩ := num1 h
  omega
theorem levels_len (l : List (Int × Int)) : (levelsL l).length = l.length * 2 := by
  unfold levelsL
  induction l with
  | nil => rfl
  | cons x r ih => rw [List.flatMap_cons, List.length_append, ih]; simp; omega
theorem certs_len (l : List Crt) : (l.flatMap certL).length = l.length * 9 := by
  induction l with
  | nil => rfl
  | cons x r ih => rw [List.flatMap_cons, List.length_append, ih]; simp [certL, timeL]; omega

theorem lab_none {s : List UInt8} (h : rowsP 2 s = none) : (labT (s, false)).2.2 = true := by
  refine bool_true fun g => ?_
  have e := congrArg Prod.fst (lab1 g)
  have hl : (labT (s, false)).1.length < 256 := by
    unfold labT at g ⊢
    obtain ⟨e2, h2⟩ := levs g
    exact count_short (tk_false e2) _ h2
  exact count_fits h e hl (levels_len _)
theorem gr_none {s : List UInt8} (h : rowsP 1 s = none) : (grT (s, false)).2.2 = true := by
  refine bool_true fun g => ?_
  have e := congrArg Prod.fst (gr1 g)
  have hl : (grT (s, false)).1.length < 256 := by
    unfold grT at g ⊢
    obtain ⟨e2, h2⟩ := grs g
    exact count_short (tk_false e2) _ h2
  exact count_fits h e hl (by rw [List.length_map, Nat.mul_one])
theorem tx_none {s : List UInt8} (h : rowsP 1 s = none) : (txT (s, false)).2.2 = true := by
  refine bool_true fun g => ?_
  have e := congrArg Prod.fst (tx1 g)
  have hl : (txT (s, false)).1.length < 256 := by
    unfold txT at g ⊢
    obtain ⟨e2, h2⟩ := text1 g
    exact count_short (tk_false e2) _ h2
  exact count_fits h e hl (by rw [Nat.mul_one])
theorem cr_none {s : List UInt8} (h : rowsP 9 s = none) : (certsT (s, false)).2.2 = true := by
  refine bool_true fun g => ?_
  have e := congrArg Prod.fst (certs1 g)
  have hl : (certsT (s, false)).1.length < 256 := by
    unfold certsT at g ⊢
    obtain ⟨e2, h2⟩ := crs g
    exact count_short (tk_false e2) _ h2
  simp only [certsL, List.cons_append, List.nil_append] at e
  exact count_fits h e hl (certs_len _)

/-- what the load of a frame reads behind its head -/
def refLoad (fr to seq : Int) (rest : List UInt8) : Option (Frm × List UInt8) :=
  match rest with
  | a :: b :: q =>
    match rowsP 2 q with
    | none => none
    | some (ls, q2) =>
      match rowsP 1 q2 with
      | none => none
      | some (gs, q3) =>
        match rowsP 1 q3 with
        | none => none
        | some (ts, q4) =>
          match rowsP 9 q4 with
          | none => none
          | some (cs, q5) => some (⟨fr, to, seq, false, (a.toNat : Int), ⟨fr, (b.toNat : Int), ls.map levOf, gs.map (byteAt · 0), ts.flatten⟩, cs.map crtOf⟩, q5)
  | _ => none

theorem num_none (n : Nat) (s : List UInt8) (h : s.length < n) (f : Bool) : numT n (s, f) = (0, ([], true)) := by
  unfold numT textT
  rw [if_pos h]
  rfl
theorem failed_text {n : Nat} {t : Tk} (h : t.2 = true) : (textT n t).2.2 = true := bool_true fun g => by have := tk_false (text1 g).1; rw [h] at this; cases this
theorem failed_num {n : Nat} {t : Tk} (h : t.2 = true) : (numT n t).2.2 = true := failed_text h
theorem failed_lab {t : Tk} (h : t.2 = true) : (labT t).2.2 = true := bool_true fun g => by have := tk_false (lab1 g); rw [h] at this; cases this
theorem failed_gr {t : Tk} (h : t.2 = true) : (grT t).2.2 = true := bool_true fun g => by have := tk_false (gr1 g); rw [h] at this; cases this
theorem failed_tx {t : Tk} (h : t.2 = true) : (txT t).2.2 = true := bool_true fun g => by have := tk_false (tx1 g); rw [h] at this; cases this
theorem failed_certs {t : Tk} (h : t.2 = true) : (certsT t).2.2 = true := bool_true fun g => by have := tk_false (certs1 g); rw [h] at this; cases this
theorem failed_mail {fr : Int} {t : Tk} (h : t.2 = true) : (mailT fr t).2.2 = true := bool_true fun g => by have := tk_false (mail1 g); rw [h] at this; cases this

theorem load_ref (fr to seq : Int) (rest : List UInt8) :
    (∀ f q, refLoad fr to seq rest = some (f, q) → loadT fr to seq (rest, false) = (f, (q, false))) ∧ (refLoad fr to seq rest = none → (loadT fr to seq (rest, false)).2.2 = true) := by
  match rest with
  | [] =>
    refine ⟨fun f q h => (by cases h), fun _ => ?_⟩
    simp only [loadT]
    refine failed_certs (failed_mail ?_)
    rw [num_none 1 [] (by simp)]
  | [a] =>
    refine ⟨fun f q h => (by cases h), fun _ => ?_⟩
    simp only [loadT]
    refine failed_certs ?_
    rw [numT1_byte]
    simp only [mailT]
    refine failed_tx (failed_gr (failed_lab ?_))
    rw [num_none 1 [] (by simp)]
  | a :: b :: q =>
    simp only [refLoad, loadT]
    rw [numT1_byte]
    simp only [mailT]
    rw [numT1_byte]
    simp only
    cases h2 : rowsP 2 q with
    | none => exact ⟨fun f q h => (by cases h), fun _ => failed_certs (failed_tx (failed_gr (lab_none h2)))⟩
    | some p2 =>
      obtain ⟨ls, q2⟩ := p2
      simp only
      rw [lab_rows h2]
      simp only
      cases h3 : rowsP 1 q2 with
      | none => exact ⟨fun f q h => (by cases h), fun _ => failed_certs (failed_tx (gr_none h3))⟩
      | some p3 =>
        obtain ⟨gs, q3⟩ := p3
        simp only
        rw [gr_rows h3]
        simp only
        cases h4 : rowsP 1 q3 with
        | none => exact ⟨fun f q h => (by cases h), fun _ => failed_certs (tx_none h4)⟩
        | some p4 =>
          obtain ⟨ts, q4⟩ := p4
          simp only
          rw [tx_rows h4]
          simp only
          cases h5 : rowsP 9 q4 with
          | none => exact ⟨fun f q h => (by cases h), fun _ => cr_none h5⟩
          | some p5 =>
            obtain ⟨cs, q5⟩ := p5
            simp only
            rw [cr_rows h5]
            refine ⟨fun f q h => ?_, fun h => (by cases h)⟩
            injection h with h
            injection h with h1 h2
            rw [← h1, ← h2]

/-- what is read of a text of nine bytes or more -/
def refT (s : List UInt8) : Option (Frm × List UInt8) :=
  if s.length < 9 then none
  else if 1 < (s.getD 0 0).toNat then none
  else if (s.getD 0 0).toNat = 1 then some (⟨byteAt s 1, byteAt s 2, numL ((s.drop 3).take 6), true, 0, zeroMal, []⟩, s.drop 9)
  else refLoad (byteAt s 1) (byteAt s 2) (numL ((s.drop 3).take 6)) (s.drop 9)

theorem list9more {s : List UInt8} (h : ¬ s.length < 9) : ∃ a b c y r, s = a :: b :: c :: (y ++ r) ∧ y.length = 6 := by
  match s, h with
  | a :: b :: c :: q, h => exact ⟨a, b, c, q.take 6, q.drop 6, by rw [tail_split], by rw [List.length_take]; simp at h; omega⟩
  | [a, b], h => simp at h
  | [a], h => simp at h
  | [], h => simp at h

theorem head_short {s : List UInt8} (h : s.length < 9) : (headT (s, false)).2.2 = true := by
  refine bool_true fun g => ?_
  obtain ⟨e, _⟩ := head1 g
  have := congrArg (fun p => p.1.length) e
  simp [timeL] at this
  omega

theorem frame_ref (s : List UInt8) : (∀ f q, refT s = some (f, q) → frameT (s, false) = (f, (q, false))) ∧ (refT s = none → (frameT (s, false)).2.2 = true) := by
  unfold refT
  by_cases h9 : s.length < 9
  · rw [if_pos h9]
    refine ⟨fun f q h => (by cases h), fun _ => ?_⟩
    refine bool_true fun g => ?_
    have hh : (headT (s, false)).2.2 = false := by
      unfold frameT at g
      split at g
      · exact g
      · split at g
        · simp only [loadT] at g
          exact num_false (tk_false (mail1 (tk_false (certs1 g))))
        · simp at g
    rw [head_short h9] at hh
    cases hh
  · rw [if_neg h9]
    obtain ⟨a, b, c, y, r, rfl, hy⟩ := list9more h9
    have e0 : headT (a :: b :: c :: (y ++ r), false) = (((a.toNat : Int), (b.toNat : Int), (c.toNat : Int), numL y), (r, false)) := by
      simp only [headT]
      rw [numT1_byte]
      simp only
      rw [numT1_byte]
      simp only
      rw [numT1_byte]
      simp only
      rw [numT6_text y r hy]
    have e1 : ((a :: b :: c :: (y ++ r)).drop 3).take 6 = y := by
      simp only [List.drop_succ_cons, List.drop_zero]
      rw [List.take_append_of_le_length (by omega), List.take_of_length_le (by omega)]
    have e2 : (a :: b :: c :: (y ++ r)).drop 9 = r := by
      simp only [List.drop_succ_cons]
      rw [List.drop_append_of_le_length (by omega), List.drop_of_length_le (by omega), List.nil_append]
    rw [e1, e2]
    have e3 : ((a :: b :: c :: (y ++ r)).getD 0 0).toNat = a.toNat := rfl
    have e4 : byteAt (a :: b :: c :: (y ++ r)) 1 = (b.toNat : Int) := rfl
    have e5 : byteAt (a :: b :: c :: (y ++ r)) 2 = (c.toNat : Int) := rfl
    rw [e3, e4, e5]
    unfold frameT
    rw [e0]
    simp only
    by_cases h1 : 1 < a.toNat
    · rw [if_pos h1, if_neg (by omega), if_neg (by omega)]
      exact ⟨fun f q h => (by cases h), fun _ => rfl⟩
    · rw [if_neg h1]
      by_cases h2 : a.toNat = 1
      · rw [if_pos h2, if_pos (by omega)]
        refine ⟨fun f q h => ?_, fun h => (by cases h)⟩
        injection h with h
        injection h with h3 h4
        rw [← h3, ← h4]
      · rw [if_neg h2, if_neg (by omega), if_pos (by omega)]
        exact load_ref _ _ _ _

/-- what becomes of it -/
def refFin : Option (Frm × List UInt8) → Frm × Int
  | none => (zeroFrm, 1)
  | some (f, q) => if q = [] then (if frameE f = 0 then (f, 0) else (zeroFrm, frameE f)) else (zeroFrm, 1)
/-- what the document's own answer reads -/
def refDec (s : List UInt8) : Frm × Int := refFin (refT s)

theorem refDec_short {s : List UInt8} (h : s.length < 9) : refDec s = (zeroFrm, 1) := by
  unfold refDec refT
  rw [if_pos h]
  rfl
theorem refDec_head (a b c : UInt8) (y r : List UInt8) (hy : y.length = 6) : refDec (a :: b :: c :: (y ++ r)) =
    if 1 < a.toNat then (zeroFrm, 1) else if a.toNat = 1 then refFin (some (⟨(b.toNat : Int), (c.toNat : Int), numL y, true, 0, zeroMal, []⟩, r)) else refFin (refLoad (b.toNat : Int) (c.toNat : Int) (numL y) r) := by
  have e1 : ((a :: b :: c :: (y ++ r)).drop 3).take 6 = y := by
    simp only [List.drop_succ_cons, List.drop_zero]
    rw [List.take_append_of_le_length (by omega), List.take_of_length_le (by omega)]
  have e2 : (a :: b :: c :: (y ++ r)).drop 9 = r := by
    simp only [List.drop_succ_cons]
    rw [List.drop_append_of_le_length (by omega), List.drop_of_length_le (by omega), List.nil_append]
  unfold refDec refT
  rw [if_neg (by simp; omega), e1, e2]
  have e3 : ((a :: b :: c :: (y ++ r)).getD 0 0).toNat = a.toNat := rfl
  have e4 : byteAt (a :: b :: c :: (y ++ r)) 1 = (b.toNat : Int) := rfl
  have e5 : byteAt (a :: b :: c :: (y ++ r)) 2 = (c.toNat : Int) := rfl
  rw [e3, e4, e5]
  split
  · rfl
  · split <;> rfl

theorem refDec_eq (s : List UInt8) : refDec s = decL s := by
  obtain ⟨h1, h2⟩ := frame_ref s
  unfold refDec decL
  cases h : refT s with
  | none =>
    have hd : doneB (frameT (s, false)).2 = false := by unfold doneB; rw [h2 h]; rfl
    rw [hd, if_neg (by simp)]
    rfl
  | some p =>
    obtain ⟨f, q⟩ := p
    rw [h1 f q h]
    simp only [refFin]
    by_cases hq : q = []
    · subst hq
      rfl
    · rw [if_neg hq, if_neg (by simp [doneB, hq])]
end Go.Proofs.Parclose
