/- Plain facts on certs, mail and frames: what is good, which bytes they have, how bytes are taken; no program is named here. -/
import Derived.Test.YtagmnfghkfeplaaPlain
namespace Go.Proofs.Parclose

structure Crt where
  c : Int
  b : Int
  h : Int
  u : Int

structure Mal where
  host : Int
  thread : Int
  label : List (Int × Int)
  grants : List Int
  text : List UInt8

structure Frm where
  fr : Int
  to : Int
  seq : Int
  ack : Bool
  thread : Int
  mail : Mal
  certs : List Crt

def zeroMal : Mal := ⟨0, 0, [], [], []⟩
def zeroFrm : Frm := ⟨0, 0, 0, false, 0, zeroMal, []⟩

def hostB (h : Int) : Bool := decide (0 ≤ h ∧ h < 4)
def timeB (n : Int) : Bool := decide (0 ≤ n ∧ n ≤ 1099511627776)
def twoB (a b : Int) : Bool := hostB a && hostB b && !(a == b)
def certB (x : Crt) : Bool := catB x.c && twoB x.b x.h && timeB x.u
def grantsB (l : List Int) : Bool := decide (l.length ≤ 8 ∧ (∀ x ∈ l, 0 ≤ x ∧ x < 80) ∧ l.Pairwise (· < ·))
/-- the errors number of mail -/
def mailE (m : Mal) : Int := if hostB m.host && hostB m.thread && goodB m.label && grantsB m.grants then (if m.text.length ≤ 64 then 0 else 9) else 2
def emptyB (m : Mal) : Bool := m.host == 0 && m.thread == 0 && m.label.isEmpty && m.grants.isEmpty && m.text.isEmpty
def answerE (f : Frm) : Int := if f.thread == 0 && emptyB f.mail && f.certs.isEmpty then 0 else 1
def certsE (l : List Crt) : Int := if l.length ≤ 24 then (if l.all certB then 0 else 2) else 5
def loadE (f : Frm) : Int := if mailE f.mail = 0 then (if f.mail.host = f.fr then certsE f.certs else 1) else mailE f.mail
def headB (f : Frm) : Bool := twoB f.fr f.to && !(f.seq == 0) && timeB f.seq && hostB f.thread
def frameE (f : Frm) : Int := if headB f then (if f.ack then answerE f else loadE f) else 2

/-- the byte of a number -/
def byteL (n : Int) : UInt8 := UInt8.ofNat (n % 256).toNat
def timeL (n : Int) : List UInt8 := [byteL (n / 1099511627776), byteL (n / 4294967296), byteL (n / 16777216), byteL (n / 65536), byteL (n / 256), byteL n]
def headL (k : Int) (f : Frm) : List UInt8 := [byteL k, byteL f.fr, byteL f.to] ++ timeL f.seq
def levelsL (l : List (Int × Int)) : List UInt8 := l.flatMap fun x => [byteL x.1, byteL x.2]
def mailL (m : Mal) : List UInt8 := [byteL m.thread, byteL m.label.length] ++ levelsL m.label ++ [byteL m.grants.length] ++ m.grants.map byteL ++ [byteL m.text.length] ++ m.text
def certL (x : Crt) : List UInt8 := [byteL x.c, byteL x.b, byteL x.h] ++ timeL x.u
def certsL (l : List Crt) : List UInt8 := [byteL l.length] ++ l.flatMap certL
def encL (f : Frm) : List UInt8 := if f.ack then headL 1 f else headL 0 f ++ [byteL f.thread] ++ mailL f.mail ++ certsL f.certs

/-- a taker: what is left, and whether it failed -/
abbrev Tk := List UInt8 × Bool
def textT (n : Nat) (t : Tk) : List UInt8 × Tk := if t.1.length < n then ([], ([], true)) else (t.1.take n, (t.1.drop n, t.2))
def numL (l : List UInt8) : Int := l.foldl (fun n b => n * 256 + (b.toNat : Int)) 0
def numT (n : Nat) (t : Tk) : Int × Tk := (numL (textT n t).1, (textT n t).2)

def iterN {α : Type} (f : α → α) : Nat → α → α
  | 0, s => s
  | n + 1, s => f (iterN f n s)

def levStep (s : List (Int × Int) × Tk) : List (Int × Int) × Tk := (s.1 ++ [((numT 1 s.2).1, (numT 1 (numT 1 s.2).2).1)], (numT 1 (numT 1 s.2).2).2)
def grStep (s : List Int × Tk) : List Int × Tk := (s.1 ++ [(numT 1 s.2).1], (numT 1 s.2).2)
def crtT (t : Tk) : Crt × Tk :=
  (⟨(numT 1 t).1, (numT 1 (numT 1 t).2).1, (numT 1 (numT 1 (numT 1 t).2).2).1, (numT 6 (numT 1 (numT 1 (numT 1 t).2).2).2).1⟩, (numT 6 (numT 1 (numT 1 (numT 1 t).2).2).2).2)
def crStep (s : List Crt × Tk) : List Crt × Tk := (s.1 ++ [(crtT s.2).1], (crtT s.2).2)

def labT (t : Tk) : List (Int × Int) × Tk := iterN levStep (numT 1 t).1.toNat ([], (numT 1 t).2)
def grT (t : Tk) : List Int × Tk := iterN grStep (numT 1 t).1.toNat ([], (numT 1 t).2)
def txT (t : Tk) : List UInt8 × Tk := textT (numT 1 t).1.toNat (numT 1 t).2
def certsT (t : Tk) : List Crt × Tk := iterN crStep (numT 1 t).1.toNat ([], (numT 1 t).2)
def mailT (fr : Int) (t : Tk) : Mal × Tk :=
  (⟨fr, (numT 1 t).1, (labT (numT 1 t).2).1, (grT (labT (numT 1 t).2).2).1, (txT (grT (labT (numT 1 t).2).2).2).1⟩, (txT (grT (labT (numT 1 t).2).2).2).2)
/-- the head: the kind, From, To and Seq -/
def headT (t : Tk) : (Int × Int × Int × Int) × Tk :=
  (((numT 1 t).1, (numT 1 (numT 1 t).2).1, (numT 1 (numT 1 (numT 1 t).2).2).1, (numT 6 (numT 1 (numT 1 (numT 1 t).2).2).2).1), (numT 6 (numT 1 (numT 1 (numT 1 t).2).2).2).2)
def loadT (fr to seq : Int) (t : Tk) : Frm × Tk :=
  (⟨fr, to, seq, false, (numT 1 t).1, (mailT fr (numT 1 t).2).1, (certsT (mailT fr (numT 1 t).2).2).1⟩, (certsT (mailT fr (numT 1 t).2).2).2)
def frameT (t : Tk) : Frm × Tk :=
  if (headT t).1.1 = 1 then (⟨(headT t).1.2.1, (headT t).1.2.2.1, (headT t).1.2.2.2, true, 0, zeroMal, []⟩, (headT t).2)
  else if (headT t).1.1 = 0 then loadT (headT t).1.2.1 (headT t).1.2.2.1 (headT t).1.2.2.2 (headT t).2
  else (⟨(headT t).1.2.1, (headT t).1.2.2.1, (headT t).1.2.2.2, false, 0, zeroMal, []⟩, ([], true))
def doneB (t : Tk) : Bool := !t.2 && t.1.isEmpty
/-- what is read: the frame, and the errors number -/
def decL (s : List UInt8) : Frm × Int :=
  if doneB (frameT (s, false)).2 then (if frameE (frameT (s, false)).1 = 0 then ((frameT (s, false)).1, 0) else (zeroFrm, frameE (frameT (s, false)).1)) else (zeroFrm, 1)

theorem uint8_lt (b : UInt8) : (b.toNat : Int) < 256 := by have := b.toNat_lt; omega

theorem byteL_toNat (b : UInt8) : byteL (b.toNat : Int) = b := by
  unfold byteL
  have := b.toNat_lt
  rw [show ((b.toNat : Int) % 256).toNat = b.toNat by omega]
  simp

theorem toNat_byteL (n : Int) : ((byteL n).toNat : Int) = n % 256 := by
  unfold byteL
  rw [UInt8.toNat_ofNat']
  have : (n % 256).toNat < 2 ^ 8 := by omega
  rw [Nat.mod_eq_of_lt this]
  omega

/-- bytes that suffice are taken; of a taker that has not failed behind it, nothing else can be said -/
theorem textT_ok {n : Nat} {t : Tk} {x r : List UInt8} (h : textT n t = (x, (r, false))) : t = (x ++ r, false) ∧ x.length = n := by
  unfold textT at h
  split at h
  · cases h
  · rename_i hn
    obtain ⟨s, f⟩ := t
    simp only [Prod.mk.injEq] at h
    obtain ⟨rfl, rfl, rfl⟩ := h
    simp at hn
    exact ⟨by simp, by simp; omega⟩

theorem textT_app (x r : List UInt8) : textT x.length (x ++ r, false) = (x, (r, false)) := by
  unfold textT
  rw [if_neg (by simp)]
  simp

theorem textT_app' {n : Nat} (x r : List UInt8) (h : x.length = n) : textT n (x ++ r, false) = (x, (r, false)) := by
  subst h
  exact textT_app x r

theorem list1 {x : List UInt8} (h : x.length = 1) : ∃ b, x = [b] := by
  match x, h with
  | [b], _ => exact ⟨b, rfl⟩

theorem numT1_ok {t : Tk} {n : Int} {r : List UInt8} (h : numT 1 t = (n, (r, false))) : t = (byteL n :: r, false) ∧ 0 ≤ n ∧ n < 256 := by
  unfold numT at h
  simp only [Prod.mk.injEq] at h
  obtain ⟨h1, h2⟩ := h
  obtain ⟨e, hx⟩ := textT_ok (n := 1) (t := t) (x := (textT 1 t).1) (r := r) (by rw [← h2])
  obtain ⟨b, hb⟩ := list1 hx
  rw [hb] at h1 e
  have hn : n = (b.toNat : Int) := by rw [← h1]; simp [numL]
  subst hn
  rw [byteL_toNat]
  have := uint8_lt b
  exact ⟨by simpa using e, by omega, by omega⟩

theorem numT1_app (n : Int) (r : List UInt8) (h0 : 0 ≤ n) (h1 : n < 256) : numT 1 (byteL n :: r, false) = (n, (r, false)) := by
  unfold numT
  rw [show (byteL n :: r) = [byteL n] ++ r from rfl, textT_app' (n := 1) [byteL n] r rfl]
  simp [numL, toNat_byteL]
  omega

theorem list6 {x : List UInt8} (h : x.length = 6) : ∃ a b c d e f, x = [a, b, c, d, e, f] := by
  match x, h with
  | [a, b, c, d, e, f], _ => exact ⟨a, b, c, d, e, f, rfl⟩

theorem numL6 (a b c d e f : UInt8) : numL [a, b, c, d, e, f] = (((((a.toNat : Int) * 256 + b.toNat) * 256 + c.toNat) * 256 + d.toNat) * 256 + e.toNat) * 256 + f.toNat := by
  simp [numL]

theorem byteL_eq {n : Int} {b : UInt8} (h : n % 256 = (b.toNat : Int)) : byteL n = b := by
  rw [← byteL_toNat b]
  unfold byteL
  rw [h]
  have := uint8_lt b
  rw [show ((b.toNat : Int) % 256) = b.toNat by omega]

theorem timeL_num (a b c d e f : UInt8) : timeL (numL [a, b, c, d, e, f]) = [a, b, c, d, e, f] := by
  rw [numL6]
  have h1 := uint8_lt a
  have h2 := uint8_lt b
  have h3 := uint8_lt c
  have h4 := uint8_lt d
  have h5 := uint8_lt e
  have h6 := uint8_lt f
  unfold timeL
  rw [byteL_eq (b := a) (by omega), byteL_eq (b := b) (by omega), byteL_eq (b := c) (by omega), byteL_eq (b := d) (by omega), byteL_eq (b := e) (by omega), byteL_eq (b := f) (by omega)]

theorem num_timeL (n : Int) (h0 : 0 ≤ n) (h1 : n < 281474976710656) : numL (timeL n) = n := by
  unfold timeL
  rw [numL6]
  simp only [toNat_byteL]
  omega

theorem numT6_ok {t : Tk} {n : Int} {r : List UInt8} (h : numT 6 t = (n, (r, false))) : t = (timeL n ++ r, false) := by
  unfold numT at h
  simp only [Prod.mk.injEq] at h
  obtain ⟨h1, h2⟩ := h
  obtain ⟨e, hx⟩ := textT_ok (n := 6) (t := t) (x := (textT 6 t).1) (r := r) (by rw [← h2])
  obtain ⟨a, b, c, d, e', f, hb⟩ := list6 hx
  rw [hb] at h1 e
  rw [← h1, timeL_num]
  exact e

theorem numT6_app (n : Int) (r : List UInt8) (h0 : 0 ≤ n) (h1 : n < 281474976710656) : numT 6 (timeL n ++ r, false) = (n, (r, false)) := by
  unfold numT
  rw [textT_app' (n := 6) (timeL n) r rfl]
  simp only [num_timeL n h0 h1]

/-- what was taken was ahead -/
theorem pair_eta {α β : Type} (p : α × β) : p = (p.1, p.2) := rfl

theorem num1 {t : Tk} (h : (numT 1 t).2.2 = false) : t = (byteL (numT 1 t).1 :: (numT 1 t).2.1, false) ∧ 0 ≤ (numT 1 t).1 ∧ (numT 1 t).1 < 256 := numT1_ok (by rw [← h])
theorem num6 {t : Tk} (h : (numT 6 t).2.2 = false) : t = (timeL (numT 6 t).1 ++ (numT 6 t).2.1, false) := numT6_ok (by rw [← h])
theorem text1 {n : Nat} {t : Tk} (h : (textT n t).2.2 = false) : t = ((textT n t).1 ++ (textT n t).2.1, false) ∧ (textT n t).1.length = n := textT_ok (by rw [← h])

theorem tk_false {t : Tk} {x : List UInt8} (h : t = (x, false)) : t.2 = false := by rw [h]

theorem levs {n : Nat} {t : Tk} (h : (iterN levStep n ([], t)).2.2 = false) : t = (levelsL (iterN levStep n ([], t)).1 ++ (iterN levStep n ([], t)).2.1, false) ∧ (iterN levStep n ([], t)).1.length = n := by
  induction n with
  | zero => exact ⟨by simp only [iterN] at h ⊢; rw [← h]; rfl, rfl⟩
  | succ n ih =>
    simp only [iterN] at h ⊢
    generalize iterN levStep n ([], t) = s at h ih ⊢
    obtain ⟨l, t1⟩ := s
    simp only [levStep] at h ⊢
    obtain ⟨e2, _, _⟩ := num1 h
    obtain ⟨e1, _, _⟩ := num1 (tk_false e2)
    obtain ⟨e0, hl⟩ := ih (tk_false e1)
    simp only at e0 e1 e2 hl
    refine ⟨?_, by simp [hl]⟩
    rw [e0]
    have f1 := congrArg Prod.fst e1
    have f2 := congrArg Prod.fst e2
    simp only at f1 f2
    rw [f1, f2]
    simp [levelsL]

theorem grs {n : Nat} {t : Tk} (h : (iterN grStep n ([], t)).2.2 = false) : t = ((iterN grStep n ([], t)).1.map byteL ++ (iterN grStep n ([], t)).2.1, false) ∧ (iterN grStep n ([], t)).1.length = n := by
  induction n with
  | zero => exact ⟨by simp only [iterN] at h ⊢; rw [← h]; rfl, rfl⟩
  | succ n ih =>
    simp only [iterN] at h ⊢
    generalize iterN grStep n ([], t) = s at h ih ⊢
    obtain ⟨l, t1⟩ := s
    simp only [grStep] at h ⊢
    obtain ⟨e1, _, _⟩ := num1 h
    obtain ⟨e0, hl⟩ := ih (tk_false e1)
    simp only at e0 e1 hl
    refine ⟨?_, by simp [hl]⟩
    rw [e0]
    have f1 := congrArg Prod.fst e1
    simp only at f1
    rw [f1]
    simp

theorem crt1 {t : Tk} (h : (crtT t).2.2 = false) : t = (certL (crtT t).1 ++ (crtT t).2.1, false) := by
  simp only [crtT] at h ⊢
  have e4 := num6 h
  obtain ⟨e3, _, _⟩ := num1 (tk_false e4)
  obtain ⟨e2, _, _⟩ := num1 (tk_false e3)
  obtain ⟨e1, _, _⟩ := num1 (tk_false e2)
  have f4 := congrArg Prod.fst e4
  have f3 := congrArg Prod.fst e3
  have f2 := congrArg Prod.fst e2
  have f1 := congrArg Prod.fst e1
  simp only at f1 f2 f3 f4
  rw [Prod.ext_iff]
  refine ⟨?_, tk_false e1⟩
  simp only [certL]
  rw [f1, f2, f3]
  simp only [List.cons_append, List.nil_append, ← f4]

theorem crs {n : Nat} {t : Tk} (h : (iterN crStep n ([], t)).2.2 = false) : t = ((iterN crStep n ([], t)).1.flatMap certL ++ (iterN crStep n ([], t)).2.1, false) ∧ (iterN crStep n ([], t)).1.length = n := by
  induction n with
  | zero => exact ⟨by simp only [iterN] at h ⊢; rw [← h]; rfl, rfl⟩
  | succ n ih =>
    simp only [iterN] at h ⊢
    generalize iterN crStep n ([], t) = s at h ih ⊢
    obtain ⟨l, t1⟩ := s
    simp only [crStep] at h ⊢
    have e1 := crt1 h
    obtain ⟨e0, hl⟩ := ih (tk_false e1)
    simp only at e0 e1 hl
    refine ⟨?_, by simp [hl]⟩
    rw [e0]
    have f1 := congrArg Prod.fst e1
    simp only at f1
    rw [f1]
    simp

theorem counted {t : Tk} (h : (numT 1 t).2.2 = false) (n : Nat) (hn : n = (numT 1 t).1.toNat) : t = (byteL n :: (numT 1 t).2.1, false) := by
  obtain ⟨e, h0, h1⟩ := num1 h
  subst hn
  rw [show (((numT 1 t).1.toNat : Nat) : Int) = (numT 1 t).1 by omega]
  exact e

theorem lab1 {t : Tk} (h : (labT t).2.2 = false) : t = (byteL (labT t).1.length :: levelsL (labT t).1 ++ (labT t).2.1, false) := by
  unfold labT at h ⊢
  obtain ⟨e, hl⟩ := levs h
  have e1 := counted (tk_false e) _ hl
  have f := congrArg Prod.fst e
  simp only at f
  rw [List.cons_append, ← f]
  exact e1

theorem gr1 {t : Tk} (h : (grT t).2.2 = false) : t = (byteL (grT t).1.length :: (grT t).1.map byteL ++ (grT t).2.1, false) := by
  unfold grT at h ⊢
  obtain ⟨e, hl⟩ := grs h
  have e1 := counted (tk_false e) _ hl
  have f := congrArg Prod.fst e
  simp only at f
  rw [List.cons_append, ← f]
  exact e1

theorem tx1 {t : Tk} (h : (txT t).2.2 = false) : t = (byteL (txT t).1.length :: (txT t).1 ++ (txT t).2.1, false) := by
  unfold txT at h ⊢
  obtain ⟨e, hl⟩ := text1 h
  have e1 := counted (tk_false e) _ hl
  have f := congrArg Prod.fst e
  simp only at f
  rw [List.cons_append, ← f]
  exact e1

theorem certs1 {t : Tk} (h : (certsT t).2.2 = false) : t = (certsL (certsT t).1 ++ (certsT t).2.1, false) := by
  unfold certsT at h ⊢
  obtain ⟨e, hl⟩ := crs h
  have e1 := counted (tk_false e) _ hl
  have f := congrArg Prod.fst e
  simp only at f
  simp only [certsL, List.cons_append, List.nil_append]
  rw [← f]
  exact e1

theorem mail_bytes {t t1 t2 t3 t4 : Tk} {n : Int} {l : List (Int × Int)} {g : List Int} {x : List UInt8} (fr : Int) (e1 : t = (byteL n :: t1.1, false)) (e2 : t1 = (byteL l.length :: levelsL l ++ t2.1, false))
    (e3 : t2 = (byteL g.length :: g.map byteL ++ t3.1, false)) (e4 : t3 = (byteL x.length :: x ++ t4.1, false)) : t = (mailL ⟨fr, n, l, g, x⟩ ++ t4.1, false) := by
  subst e4
  subst e3
  subst e2
  subst e1
  simp [mailL]

theorem mail1 {fr : Int} {t : Tk} (h : (mailT fr t).2.2 = false) : t = (mailL (mailT fr t).1 ++ (mailT fr t).2.1, false) := by
  simp only [mailT] at h ⊢
  generalize hA : numT 1 t = A at h ⊢
  generalize hB : labT A.2 = B at h ⊢
  generalize hC : grT B.2 = C at h ⊢
  generalize hD : txT C.2 = D at h ⊢
  have e4 := tx1 (t := C.2) (by rw [hD]; exact h)
  rw [hD] at e4
  have e3 := gr1 (t := B.2) (by rw [hC]; exact tk_false e4)
  rw [hC] at e3
  have e2 := lab1 (t := A.2) (by rw [hB]; exact tk_false e3)
  rw [hB] at e2
  obtain ⟨e1, _, _⟩ := num1 (t := t) (by rw [hA]; exact tk_false e2)
  rw [hA] at e1
  exact mail_bytes fr e1 e2 e3 e4

theorem head1 {t : Tk} (h : (headT t).2.2 = false) : t = ([byteL (headT t).1.1, byteL (headT t).1.2.1, byteL (headT t).1.2.2.1] ++ timeL (headT t).1.2.2.2 ++ (headT t).2.1, false) ∧ 0 ≤ (headT t).1.1 := by
  simp only [headT] at h ⊢
  have e4 := num6 h
  obtain ⟨e3, _, _⟩ := num1 (tk_false e4)
  obtain ⟨e2, _, _⟩ := num1 (tk_false e3)
  obtain ⟨e1, h0, _⟩ := num1 (tk_false e2)
  have f4 := congrArg Prod.fst e4
  have f3 := congrArg Prod.fst e3
  have f2 := congrArg Prod.fst e2
  have f1 := congrArg Prod.fst e1
  simp only at f1 f2 f3 f4
  refine ⟨?_, h0⟩
  rw [Prod.ext_iff]
  refine ⟨?_, tk_false e1⟩
  simp only
  rw [f1, f2, f3]
  simp only [List.cons_append, List.nil_append, ← f4]

theorem load_bytes {t t1 t2 t3 t4 : Tk} {fr to seq n : Int} {m : Mal} {cs : List Crt} (e1 : t = ([byteL 0, byteL fr, byteL to] ++ timeL seq ++ t1.1, false)) (e2 : t1 = (byteL n :: t2.1, false))
    (e3 : t2 = (mailL m ++ t3.1, false)) (e4 : t3 = (certsL cs ++ t4.1, false)) : t = (encL ⟨fr, to, seq, false, n, m, cs⟩ ++ t4.1, false) := by
  subst e4
  subst e3
  subst e2
  subst e1
  simp [encL, headL]

/-- WHAT IS READ HAS JUST THESE BYTES -/
theorem frame1 {t : Tk} (h : (frameT t).2.2 = false) : t = (encL (frameT t).1 ++ (frameT t).2.1, false) := by
  unfold frameT at h ⊢
  by_cases h1 : (headT t).1.1 = 1
  · rw [if_pos h1] at h ⊢
    obtain ⟨e, _⟩ := head1 h
    rw [h1] at e
    simp only [encL, headL, if_true]
    exact e
  · rw [if_neg h1] at h ⊢
    by_cases h0 : (headT t).1.1 = 0
    · rw [if_pos h0] at h ⊢
      simp only [loadT] at h ⊢
      have e4 := certs1 h
      have e3 := mail1 (tk_false e4)
      obtain ⟨e2, _, _⟩ := num1 (tk_false e3)
      obtain ⟨e1, _⟩ := head1 (tk_false e2)
      rw [h0] at e1
      exact load_bytes e1 e2 e3 e4
    · rw [if_neg h0] at h
      simp at h
end Go.Proofs.Parclose
