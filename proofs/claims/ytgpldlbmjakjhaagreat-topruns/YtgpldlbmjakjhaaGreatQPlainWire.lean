/- Plain facts on certs, mail and frames: what is good, which bytes they have, how bytes are taken; no program is named here. -/
import Derived.Test.YtgpldlbmjakjhaaGreatQPlain
import Derived.Laws.IdiomStrings
import Derived.Laws.AppendOwn
import Derived.Laws.AppendOwnNone
import Derived.OwnWalk
import Derived.Laws.Tables
namespace Go.Proofs.Parclose

structure Crt where
  c : Int
  b : Int
  h : Int
  u : Int

structure Mal where
  host : Int
  thread : Int
  label : List (Int × Int)
  grants : List Int
  text : List UInt8

structure Frm where
  fr : Int
  to : Int
  seq : Int
  ack : Bool
  thread : Int
  mail : Mal
  certs : List Crt

def zeroMal : Mal := ⟨0, 0, [], [], []⟩
def zeroFrm : Frm := ⟨0, 0, 0, false, 0, zeroMal, []⟩

def hostB (h : Int) : Bool := decide (0 ≤ h ∧ h < 4)
def timeB (n : Int) : Bool := decide (0 ≤ n ∧ n ≤ 1099511627776)
def twoB (a b : Int) : Bool := hostB a && hostB b && !(a == b)
def certB (x : Crt) : Bool := catB x.c && twoB x.b x.h && timeB x.u
def grantsB (l : List Int) : Bool := decide (l.length ≤ 8 ∧ (∀ x ∈ l, 0 ≤ x ∧ x < 80) ∧ l.Pairwise (· < ·))
/-- the errors number of mail -/
def mailE (m : Mal) : Int := if hostB m.host && hostB m.thread && goodB m.label && grantsB m.grants then (if m.text.length ≤ 64 then 0 else 9) else 2
def emptyB (m : Mal) : Bool := m.host == 0 && m.thread == 0 && m.label.isEmpty && m.grants.isEmpty && m.text.isEmpty
def answerE (f : Frm) : Int := if f.thread == 0 && emptyB f.mail && f.certs.isEmpty then 0 else 1
def certsE (l : List Crt) : Int := if l.length ≤ 24 then (if l.all certB then 0 else 2) else 5
def loadE (f : Frm) : Int := if mailE f.mail = 0 then (if f.mail.host = f.fr then certsE f.certs else 1) else mailE f.mail
def headB (f : Frm) : Bool := twoB f.fr f.to && !(f.seq == 0) && timeB f.seq && hostB f.thread
def frameE (f : Frm) : Int := if headB f then (if f.ack then answerE f else loadE f) else 2

/-- the byte of a number -/
def byteL (n : Int) : UInt8 := UInt8.ofNat (n % 256).toNat
def timeL (n : Int) : List UInt8 := [byteL (n / 1099511627776), byteL (n / 4294967296), byteL (n / 16777216), byteL (n / 65536), byteL (n / 256), byteL n]
def headL (k : Int) (f : Frm) : List UInt8 := [byteL k, byteL f.fr, byteL f.to] ++ timeL f.seq
def levelsL (l : List (Int × Int)) : List UInt8 := l.flatMap fun x => [byteL x.1, byteL x.2]
def mailL (m : Mal) : List UInt8 := [byteL m.thread, byteL m.label.length] ++ levelsL m.label ++ [byteL m.grants.length] ++ m.grants.map byteL ++ [byteL m.text.length] ++ m.text
def certL (x : Crt) : List UInt8 := [byteL x.c, byteL x.b, byteL x.h] ++ timeL x.u
def certsL (l : List Crt) : List UInt8 := [byteL l.length] ++ l.flatMap certL
def encL (f : Frm) : List UInt8 := if f.ack then headL 1 f else headL 0 f ++ [byteL f.thread] ++ mailL f.mail ++ certsL f.certs

/-- a taker: what is left, and whether it failed -/
abbrev Tk := List UInt8 × Bool
def textT (n : Nat) (t : Tk) : List UInt8 × Tk := if t.1.length < n then ([], ([], true)) else (t.1.take n, (t.1.drop n, t.2))
def numL (l : List UInt8) : Int := l.foldl (fun n b => n * 256 + (b.toNat : Int)) 0
def numT (n : Nat) (t : Tk) : Int × Tk := (numL (textT n t).1, (textT n t).2)

def iterN {α : Type} (f : α → α) : Nat → α → α
  | 0, s => s
  | n + 1, s => f (iterN f n s)

def levStep (s : List (Int × Int) × Tk) : List (Int × Int) × Tk := (s.1 ++ [((numT 1 s.2).1, (numT 1 (numT 1 s.2).2).1)], (numT 1 (numT 1 s.2).2).2)
def grStep (s : List Int × Tk) : List Int × Tk := (s.1 ++ [(numT 1 s.2).1], (numT 1 s.2).2)
def crtT (t : Tk) : Crt × Tk :=
  (⟨(numT 1 t).1, (numT 1 (numT 1 t).2).1, (numT 1 (numT 1 (numT 1 t).2).2).1, (numT 6 (numT 1 (numT 1 (numT 1 t).2).2).2).1⟩, (numT 6 (numT 1 (numT 1 (numT 1 t).2).2).2).2)
def crStep (s : List Crt × Tk) : List Crt × Tk := (s.1 ++ [(crtT s.2).1], (crtT s.2).2)

def labT (t : Tk) : List (Int × Int) × Tk := iterN levStep (numT 1 t).1.toNat ([], (numT 1 t).2)
def grT (t : Tk) : List Int × Tk := iterN grStep (numT 1 t).1.toNat ([], (numT 1 t).2)
def txT (t : Tk) : List UInt8 × Tk := textT (numT 1 t).1.toNat (numT 1 t).2
def certsT (t : Tk) : List Crt × Tk := iterN crStep (numT 1 t).1.toNat ([], (numT 1 t).2)
def mailT (fr : Int) (t : Tk) : Mal × Tk :=
  (⟨fr, (numT 1 t).1, (labT (numT 1 t).2).1, (grT (labT (numT 1 t).2).2).1, (txT (grT (labT (numT 1 t).2).2).2).1⟩, (txT (grT (labT (numT 1 t).2).2).2).2)
/-- the head: the kind, From, To and Seq -/
def headT (t : Tk) : (Int × Int × Int × Int) × Tk :=
  (((numT 1 t).1, (numT 1 (numT 1 t).2).1, (numT 1 (numT 1 (numT 1 t).2).2).1, (numT 6 (numT 1 (numT 1 (numT 1 t).2).2).2).1), (numT 6 (numT 1 (numT 1 (numT 1 t).2).2).2).2)
def loadT (fr to seq : Int) (t : Tk) : Frm × Tk :=
  (⟨fr, to, seq, false, (numT 1 t).1, (mailT fr (numT 1 t).2).1, (certsT (mailT fr (numT 1 t).2).2).1⟩, (certsT (mailT fr (numT 1 t).2).2).2)
def frameT (t : Tk) : Frm × Tk :=
  if (headT t).1.1 = 1 then (⟨(headT t).1.2.1, (headT t).1.2.2.1, (headT t).1.2.2.2, true, 0, zeroMal, []⟩, (headT t).2)
  else if (headT t).1.1 = 0 then loadT (headT t).1.2.1 (headT t).1.2.2.1 (headT t).1.2.2.2 (headT t).2
  else (⟨(headT t).1.2.1, (headT t).1.2.2.1, (headT t).1.2.2.2, false, 0, zeroMal, []⟩, ([], true))
def doneB (t : Tk) : Bool := !t.2 && t.1.isEmpty
/-- what is read: the frame, and the errors number -/
def decL (s : List UInt8) : Frm × Int :=
  if doneB (frameT (s, false)).2 then (if frameE (frameT (s, false)).1 = 0 then ((frameT (s, false)).1, 0) else (zeroFrm, frameE (frameT (s, false)).1)) else (zeroFrm, 1)

theorem uint8_lt (b : UInt8) : (b.toNat : Int) < 256 := by have := b.toNat_lt; omega

theorem byteL_toNat (b : UInt8) : byteL (b.toNat : Int) = b := by
  unfold byteL
  have := b.toNat_lt
  rw [show ((b.toNat : Int) % 256).toNat = b.toNat by omega]
  simp

theorem toNat_byteL (n : Int) : ((byteL n).toNat : Int) = n % 256 := by
  unfold byteL
  rw [UInt8.toNat_ofNat']
  have : (n % 256).toNat < 2 ^ 8 := by omega
  rw [Nat.mod_eq_of_lt this]
  omega

/-- bytes that suffice are taken; of a taker that has not failed behind it, nothing else can be said -/
theorem textT_ok {n : Nat} {t : Tk} {x r : List UInt8} (h : textT n t = (x, (r, false))) : t = (x ++ r, false) ∧ x.length = n := by
  unfold textT at h
  split at h
  · cases h
  · rename_i hn
    obtain ⟨s, f⟩ := t
    simp only [Prod.mk.injEq] at h
    obtain ⟨rfl, rfl, rfl⟩ := h
    simp at hn
    exact ⟨by simp, by simp; omega⟩

theorem list1 {x : List UInt8} (h : x.length = 1) : ∃ b, x = [b] := by
  match x, h with
  | [b], _ => exact ⟨b, rfl⟩

theorem numT1_ok {t : Tk} {n : Int} {r : List UInt8} (h : numT 1 t = (n, (r, false))) : t = (byteL n :: r, false) ∧ 0 ≤ n ∧ n < 256 := by
  unfold numT at h
  simp only [Prod.mk.injEq] at h
  obtain ⟨h1, h2⟩ := h
  obtain ⟨e, hx⟩ := textT_ok (n := 1) (t := t) (x := (textT 1 t).1) (r := r) (by rw [← h2])
  obtain ⟨b, hb⟩ := list1 hx
  rw [hb] at h1 e
  have hn : n = (b.toNat : Int) := by rw [← h1]; simp [numL]
  subst hn
  rw [byteL_toNat]
  have := uint8_lt b
  exact ⟨by simpa using e, by omega, by omega⟩

theorem list6 {x : List UInt8} (h : x.length = 6) : ∃ a b c d e f, x = [a, b, c, d, e, f] := by
  match x, h with
  | [a, b, c, d, e, f], _ => exact ⟨a, b, c, d, e, f, rfl⟩

theorem numL6 (a b c d e f : UInt8) : numL [a, b, c, d, e, f] = (((((a.toNat : Int) * 256 + b.toNat) * 256 + c.toNat) * 256 + d.toNat) * 256 + e.toNat) * 256 + f.toNat := by
  simp [numL]

theorem byteL_eq {n : Int} {b : UInt8} (h : n % 256 = (b.toNat : Int)) : byteL n = b := by
  rw [← byteL_toNat b]
  unfold byteL
  rw [h]
  have := uint8_lt b
  rw [show ((b.toNat : Int) % 256) = b.toNat by omega]

theorem timeL_num (a b c d e f : UInt8) : timeL (numL [a, b, c, d, e, f]) = [a, b, c, d, e, f] := by
  rw [numL6]
  have h1 := uint8_lt a
  have h2 := uint8_lt b
  have h3 := uint8_lt c
  have h4 := uint8_lt d
  have h5 := uint8_lt e
  have h6 := uint8_lt f
  unfold timeL
  rw [byteL_eq (b := a) (by omega), byteL_eq (b := b) (by omega), byteL_eq (b := c) (by omega), byteL_eq (b := d) (by omega), byteL_eq (b := e) (by omega), byteL_eq (b := f) (by omega)]

theorem numT6_ok {t : Tk} {n : Int} {r : List UInt8} (h : numT 6 t = (n, (r, false))) : t = (timeL n ++ r, false) := by
  unfold numT at h
  simp only [Prod.mk.injEq] at h
  obtain ⟨h1, h2⟩ := h
  obtain ⟨e, hx⟩ := textT_ok (n := 6) (t := t) (x := (textT 6 t).1) (r := r) (by rw [← h2])
  obtain ⟨a, b, c, d, e', f, hb⟩ := list6 hx
  rw [hb] at h1 e
  rw [← h1, timeL_num]
  exact e

theorem num1 {t : Tk} (h : (numT 1 t).2.2 = false) : t = (byteL (numT 1 t).1 :: (numT 1 t).2.1, false) ∧ 0 ≤ (numT 1 t).1 ∧ (numT 1 t).1 < 256 := numT1_ok (by rw [← h])
theorem num6 {t : Tk} (h : (numT 6 t).2.2 = false) : t = (timeL (numT 6 t).1 ++ (numT 6 t).2.1, false) := numT6_ok (by rw [← h])
theorem text1 {n : Nat} {t : Tk} (h : (textT n t).2.2 = false) : t = ((textT n t).1 ++ (textT n t).2.1, false) ∧ (textT n t).1.length = n := textT_ok (by rw [← h])

theorem tk_false {t : Tk} {x : List UInt8} (h : t = (x, false)) : t.2 = false := by rw [h]

theorem levs {n : Nat} {t : Tk} (h : (iterN levStep n ([], t)).2.2 = false) : t = (levelsL (iterN levStep n ([], t)).1 ++ (iterN levStep n ([], t)).2.1, false) ∧ (iterN levStep n ([], t)).1.length = n := by
  induction n with
  | zero => exact ⟨by simp only [iterN] at h ⊢; rw [← h]; rfl, rfl⟩
  | succ n ih =>
    simp only [iterN] at h ⊢
    generalize iterN levStep n ([], t) = s at h ih ⊢
    obtain ⟨l, t1⟩ := s
    simp only [levStep] at h ⊢
    obtain ⟨e2, _, _⟩ := num1 h
    obtain ⟨e1, _, _⟩ := num1 (tk_false e2)
    obtain ⟨e0, hl⟩ := ih (tk_false e1)
    simp only at e0 e1 e2 hl
    refine ⟨?_, by simp [hl]⟩
    rw [e0]
    have f1 := congrArg Prod.fst e1
    have f2 := congrArg Prod.fst e2
    simp only at f1 f2
    rw [f1, f2]
    simp [levelsL]

theorem grs {n : Nat} {t : Tk} (h : (iterN grStep n ([], t)).2.2 = false) : t = ((iterN grStep n ([], t)).1.map byteL ++ (iterN grStep n ([], t)).2.1, false) ∧ (iterN grStep n ([], t)).1.length = n := by
  induction n with
  | zero => exact ⟨by simp only [iterN] at h ⊢; rw [← h]; rfl, rfl⟩
  | succ n ih =>
    simp only [iterN] at h ⊢
    generalize iterN grStep n ([], t) = s at h ih ⊢
    obtain ⟨l, t1⟩ := s
    simp only [grStep] at h ⊢
    obtain ⟨e1, _, _⟩ := num1 h
    obtain ⟨e0, hl⟩ := ih (tk_false e1)
    simp only at e0 e1 hl
    refine ⟨?_, by simp [hl]⟩
    rw [e0]
    have f1 := congrArg Prod.fst e1
    simp only at f1
    rw [f1]
    simp

theorem crt1 {t : Tk} (h : (crtT t).2.2 = false) : t = (certL (crtT t).1 ++ (crtT t).2.1, false) := by
  simp only [crtT] at h ⊢
  have e4 := num6 h
  obtain ⟨e3, _, _⟩ := num1 (tk_false e4)
  obtain ⟨e2, _, _⟩ := num1 (tk_false e3)
  obtain ⟨e1, _, _⟩ := num1 (tk_false e2)
  have f4 := congrArg Prod.fst e4
  have f3 := congrArg Prod.fst e3
  have f2 := congrArg Prod.fst e2
  have f1 := congrArg Prod.fst e1
  simp only at f1 f2 f3 f4
  rw [Prod.ext_iff]
  refine ⟨?_, tk_false e1⟩
  simp only [certL]
  rw [f1, f2, f3]
  simp only [List.cons_append, List.nil_append, ← f4]

theorem crs {n : Nat} {t : Tk} (h : (iterN crStep n ([], t)).2.2 = false) : t = ((iterN crStep n ([], t)).1.flatMap certL ++ (iterN crStep n ([], t)).2.1, false) ∧ (iterN crStep n ([], t)).1.length = n := by
  induction n with
  | zero => exact ⟨by simp only [iterN] at h ⊢; rw [← h]; rfl, rfl⟩
  | succ n ih =>
    simp only [iterN] at h ⊢
    generalize iterN crStep n ([], t) = s at h ih ⊢
    obtain ⟨l, t1⟩ := s
    simp only [crStep] at h ⊢
    have e1 := crt1 h
    obtain ⟨e0, hl⟩ := ih (tk_false e1)
    simp only at e0 e1 hl
    refine ⟨?_, by simp [hl]⟩
    rw [e0]
    have f1 := congrArg Prod.fst e1
    simp only at f1
    rw [f1]
    simp

theorem counted {t : Tk} (h : (numT 1 t).2.2 = false) (n : Nat) (hn : n = (numT 1 t).1.toNat) : t = (byteL n :: (numT 1 t).2.1, false) := by
  obtain ⟨e, h0, h1⟩ := num1 h
  subst hn
  rw [show (((numT 1 t).1.toNat : Nat) : Int) = (numT 1 t).1 by omega]
  exact e

theorem lab1 {t : Tk} (h : (labT t).2.2 = false) : t = (byteL (labT t).1.length :: levelsL (labT t).1 ++ (labT t).2.1, false) := by
  unfold labT at h ⊢
  obtain ⟨e, hl⟩ := levs h
  have e1 := counted (tk_false e) _ hl
  have f := congrArg Prod.fst e
  simp only at f
  rw [List.cons_append, ← f]
  exact e1

theorem gr1 {t : Tk} (h : (grT t).2.2 = false) : t = (byteL (grT t).1.length :: (grT t).1.map byteL ++ (grT t).2.1, false) := by
  unfold grT at h ⊢
  obtain ⟨e, hl⟩ := grs h
  have e1 := counted (tk_false e) _ hl
  have f := congrArg Prod.fst e
  simp only at f
  rw [List.cons_append, ← f]
  exact e1

theorem tx1 {t : Tk} (h : (txT t).2.2 = false) : t = (byteL (txT t).1.length :: (txT t).1 ++ (txT t).2.1, false) := by
  unfold txT at h ⊢
  obtain ⟨e, hl⟩ := text1 h
  have e1 := counted (tk_false e) _ hl
  have f := congrArg Prod.fst e
  simp only at f
  rw [List.cons_append, ← f]
  exact e1

theorem certs1 {t : Tk} (h : (certsT t).2.2 = false) : t = (certsL (certsT t).1 ++ (certsT t).2.1, false) := by
  unfold certsT at h ⊢
  obtain ⟨e, hl⟩ := crs h
  have e1 := counted (tk_false e) _ hl
  have f := congrArg Prod.fst e
  simp only at f
  simp only [certsL, List.cons_append, List.nil_append]
  rw [← f]
  exact e1

theorem mail_bytes {t t1 t2 t3 t4 : Tk} {n : Int} {l : List (Int × Int)} {g : List Int} {x : List UInt8} (fr : Int) (e1 : t = (byteL n :: t1.1, false)) (e2 : t1 = (byteL l.length :: levelsL l ++ t2.1, false))
    (e3 : t2 = (byteL g.length :: g.map byteL ++ t3.1, false)) (e4 : t3 = (byteL x.length :: x ++ t4.1, false)) : t = (mailL ⟨fr, n, l, g, x⟩ ++ t4.1, false) := by
  subst e4
  subst e3
  subst e2
  subst e1
  simp [mailL]

theorem mail1 {fr : Int} {t : Tk} (h : (mailT fr t).2.2 = false) : t = (mailL (mailT fr t).1 ++ (mailT fr t).2.1, false) := by
  simp only [mailT] at h ⊢
  generalize hA : numT 1 t = A at h ⊢
  generalize hB : labT A.2 = B at h ⊢
  generalize hC : grT B.2 = C at h ⊢
  generalize hD : txT C.2 = D at h ⊢
  have e4 := tx1 (t := C.2) (by rw [hD]; exact h)
  rw [hD] at e4
  have e3 := gr1 (t := B.2) (by rw [hC]; exact tk_false e4)
  rw [hC] at e3
  have e2 := lab1 (t := A.2) (by rw [hB]; exact tk_false e3)
  rw [hB] at e2
  obtain ⟨e1, _, _⟩ := num1 (t := t) (by rw [hA]; exact tk_false e2)
  rw [hA] at e1
  exact mail_bytes fr e1 e2 e3 e4

theorem head1 {t : Tk} (h : (headT t).2.2 = false) : t = ([byteL (headT t).1.1, byteL (headT t).1.2.1, byteL (headT t).1.2.2.1] ++ timeL (headT t).1.2.2.2 ++ (headT t).2.1, false) ∧ 0 ≤ (headT t).1.1 := by
  simp only [headT] at h ⊢
  have e4 := num6 h
  obtain ⟨e3, _, _⟩ := num1 (tk_false e4)
  obtain ⟨e2, _, _⟩ := num1 (tk_false e3)
  obtain ⟨e1, h0, _⟩ := num1 (tk_false e2)
  have f4 := congrArg Prod.fst e4
  have f3 := congrArg Prod.fst e3
  have f2 := congrArg Prod.fst e2
  have f1 := congrArg Prod.fst e1
  simp only at f1 f2 f3 f4
  refine ⟨?_, h0⟩
  rw [Prod.ext_iff]
  refine ⟨?_, tk_false e1⟩
  simp only
  rw [f1, f2, f3]
  simp only [List.cons_append, List.nil_append, ← f4]

theorem load_bytes {t t1 t2 t3 t4 : Tk} {fr to seq n : Int} {m : Mal} {cs : List Crt} (e1 : t = ([byteL 0, byteL fr, byteL to] ++ timeL seq ++ t1.1, false)) (e2 : t1 = (byteL n :: t2.1, false))
    (e3 : t2 = (mailL m ++ t3.1, false)) (e4 : t3 = (certsL cs ++ t4.1, false)) : t = (encL ⟨fr, to, seq, false, n, m, cs⟩ ++ t4.1, false) := by
  subst e4
  subst e3
  subst e2
  subst e1
  simp [encL, headL]

/-- WHAT IS READ HAS JUST THESE BYTES -/
theorem frame1 {t : Tk} (h : (frameT t).2.2 = false) : t = (encL (frameT t).1 ++ (frameT t).2.1, false) := by
  unfold frameT at h ⊢
  by_cases h1 : (headT t).1.1 = 1
  · rw [if_pos h1] at h ⊢
    obtain ⟨e, _⟩ := head1 h
    rw [h1] at e
    simp only [encL, headL, if_true]
    exact e
  · rw [if_neg h1] at h ⊢
    by_cases h0 : (headT t).1.1 = 0
    · rw [if_pos h0] at h ⊢
      simp only [loadT] at h ⊢
      have e4 := certs1 h
      have e3 := mail1 (tk_false e4)
      obtain ⟨e2, _, _⟩ := num1 (tk_false e3)
      obtain ⟨e1, _⟩ := head1 (tk_false e2)
      rw [h0] at e1
      exact load_bytes e1 e2 e3 e4
    · rw [if_neg h0] at h
      simp at h
end Go.Proofs.Parclose

namespace Go.Proofs.YtgpldlbmjakjhaaGreat
open Go.RowKit Go.Proofs.Parclose

/-- the certs l lie at offset o of block b -/
def Cells4 (w : World) (b o : Nat) (l : List Crt) : Prop :=
  ∀ j (_ : j < l.length), w.cell? ⟨b, o + j * 4, none⟩ = some (.int .i64 (l[j]).c) ∧ w.cell? ⟨b, o + j * 4 + 1, none⟩ = some (.int .i64 (l[j]).b) ∧ w.cell? ⟨b, o + j * 4 + 2, none⟩ = some (.int .i64 (l[j]).h) ∧ w.cell? ⟨b, o + j * 4 + 3, none⟩ = some (.int .i64 (l[j]).u)

theorem Cells4.below {w wr : World} {b o : Nat} {l : List Crt} (h : Cells4 w b o l) (hb : Below w.heap.size w wr) : Cells4 wr b o l := by
  intro j hj
  obtain ⟨h1, h2, h3, h4⟩ := h j hj
  exact ⟨by rw [hb.cell (cell_block h1), h1], by rw [hb.cell (cell_block h2), h2], by rw [hb.cell (cell_block h3), h3], by rw [hb.cell (cell_block h4), h4]⟩

/-- v is a slice whose elements are the certs l -/
def CrtsAt (w : World) (v : Value) (l : List Crt) : Prop :=
  ∃ p cap, v = .slice p l.length cap ∧ (l.length ≤ cap ∧ (p = none → cap = 0)) ∧ l.length ≤ 4398046511104 ∧ (0 < l.length → ∃ b o, p = some ⟨b, o, none⟩ ∧ Cells4 w b o l)

theorem CrtsAt.below {w wr : World} {v : Value} {l : List Crt} (h : CrtsAt w v l) (hb : Below w.heap.size w wr) : CrtsAt wr v l := by
  obtain ⟨p, cap, h1, h2, h3, h4⟩ := h
  refine ⟨p, cap, h1, h2, h3, fun g => ?_⟩
  obtain ⟨b, o, h5, h6⟩ := h4 g
  exact ⟨b, o, h5, h6.below hb⟩

theorem CrtsAt.len {w : World} {v : Value} {l : List Crt} (h : CrtsAt w v l) : l.length ≤ 4398046511104 := by
  obtain ⟨p, cap, h1, h2, h3, h4⟩ := h
  omega

theorem CrtsAt.nil (w : World) (p : Option Addr) (cap : Nat) (hp : p = none → cap = 0) : CrtsAt w (.slice p 0 cap) [] := ⟨p, cap, rfl, ⟨Nat.zero_le _, hp⟩, Nat.zero_le _, fun h => absurd h (by simp)⟩

theorem CrtsAt.cells {w : World} {p : Option Addr} {n cap : Nat} {l : List Crt} (h : CrtsAt w (.slice p n cap) l) (h0 : 0 < l.length) : ∃ b o, p = some ⟨b, o, none⟩ ∧ Cells4 w b o l := by
  obtain ⟨p', cap', e, _, _, h4⟩ := h
  cases e
  exact h4 h0
theorem LabAt.cells {w : World} {p : Option Addr} {n cap : Nat} {l : List (Int × Int)} (h : LabAt w (.slice p n cap) l) (h0 : 0 < l.length) : ∃ b o, p = some ⟨b, o, none⟩ ∧ Cells2 w b o l := by
  obtain ⟨p', cap', e, _, _, h4⟩ := h
  cases e
  exact h4 h0
theorem IntsAt.cells {w : World} {p : Option Addr} {n cap : Nat} {l : List Int} (h : IntsAt w (.slice p n cap) l) (h0 : 0 < l.length) : ∃ b o, p = some ⟨b, o, none⟩ ∧ Cells1 w b o l := by
  obtain ⟨p', cap', e, _, _, h4⟩ := h
  cases e
  exact h4 h0

/-- the text of bytes -/
def strV (x : List UInt8) : Value := .string ⟨x.toArray⟩
def crtV (x : Crt) : Value := .agg #[.int .i64 x.c, .int .i64 x.b, .int .i64 x.h, .int .i64 x.u]
def malV (m : Mal) (vl vg : Value) : Value := .agg #[.int .i64 m.host, .int .i64 m.thread, vl, vg, .string ⟨m.text.toArray⟩]
def frmV (f : Frm) (vl vg vc : Value) : Value := .agg #[.int .i64 f.fr, .int .i64 f.to, .int .i64 f.seq, .bool f.ack, .int .i64 f.thread, .int .i64 f.mail.host, .int .i64 f.mail.thread, vl, vg, .string ⟨f.mail.text.toArray⟩, vc]

def MalAt (w : World) (v : Value) (m : Mal) : Prop := ∃ vl vg, v = malV m vl vg ∧ LabAt w vl m.label ∧ IntsAt w vg m.grants
def FrmAt (w : World) (v : Value) (f : Frm) : Prop := ∃ vl vg vc, v = frmV f vl vg vc ∧ LabAt w vl f.mail.label ∧ IntsAt w vg f.mail.grants ∧ CrtsAt w vc f.certs

theorem MalAt.below {w wr : World} {v : Value} {m : Mal} (h : MalAt w v m) (hb : Below w.heap.size w wr) : MalAt wr v m := by
  obtain ⟨vl, vg, e, h1, h2⟩ := h
  exact ⟨vl, vg, e, h1.below hb, h2.below hb⟩
theorem FrmAt.below {w wr : World} {v : Value} {f : Frm} (h : FrmAt w v f) (hb : Below w.heap.size w wr) : FrmAt wr v f := by
  obtain ⟨vl, vg, vc, e, h1, h2, h3⟩ := h
  exact ⟨vl, vg, vc, e, h1.below hb, h2.below hb, h3.below hb⟩

/-- a block that was laid is there still -/
theorem box_cell {w w' : World} {C : Array Value} {t : TypeId} {B : Nat} (h : Below B (w.alloc (.cells C t)) w') (hB : w.heap.size < B) (j : Nat) : w'.cell? ⟨w.heap.size, j, none⟩ = C[j]? := by
  rw [h.cell (p := ⟨w.heap.size, j, none⟩) hB]
  exact World.cell?_alloc_mark w C t _ j

theorem hid {p : Prop} (h : p) : Hid p := h
theorem below_box (w : World) (o : Obj) : Below w.heap.size w (w.alloc o) := (Below.refl _ _).alloc (Nat.le_refl _) _
theorem size_box (w : World) (o : Obj) : (w.alloc o).heap.size = w.heap.size + 1 := by simp
end Go.Proofs.YtgpldlbmjakjhaaGreat

namespace Go.Proofs.YtgpldlbmjakjhaaGreat
open Go.RowKit Go.Proofs.Parclose

theorem info_level : (Tryz.prog.info? 74).map (fun i => (i.zero, i.size, i.bytes)) = some (some (.agg #[.int .i64 0, .int .i64 0]), 2, 16) := by kernel_rfl
theorem info_int : (Tryz.prog.info? 3).map (fun i => (i.zero, i.size, i.bytes)) = some (some (.int .i64 0), 1, 8) := by kernel_rfl

theorem owns_cells {w : World} {base : Nat} {e : TypeId} {s : Nat} {v : Value} {n : Nat} {xs : List Value} (h : w.ownsRow base e s v n xs) :
    ∃ p cap, v = .slice p n cap ∧ (n ≤ cap ∧ (p = none → cap = 0)) ∧ (0 < n → ∃ g, p = some ⟨g, 0, none⟩ ∧ ∀ j u, xs[j]? = some u → w.cell? ⟨g, j, none⟩ = some u) := by
  have h0 := h
  rcases h.2 with ⟨rfl, rfl⟩ | ⟨g, cap, cur, rfl, hb, hh, h1, h2, h3, h4⟩
  · exact ⟨none, 0, rfl, ⟨Nat.le_refl _, fun _ => rfl⟩, fun h => absurd h (by omega)⟩
  · refine ⟨_, cap, rfl, ⟨h1, fun h => by cases h⟩, fun _ => ⟨g, rfl, fun j u hu => ?_⟩⟩
    have := World.ownsRow.cells h0 (g := g) rfl j u hu
    rwa [WideShapes.add_plain, Nat.zero_add] at this

def flat2 (l : List (Int × Int)) : List Value := l.flatMap fun x => [.int .i64 x.1, .int .i64 x.2]
def flat1 (l : List Int) : List Value := l.map (Value.int .i64)

theorem flat2_get (l : List (Int × Int)) (i : Nat) (hi : i < l.length) : (flat2 l)[i * 2]? = some (.int .i64 l[i].1) ∧ (flat2 l)[i * 2 + 1]? = some (.int .i64 l[i].2) := by
  induction l generalizing i with
  | nil => simp at hi
  | cons x r ih =>
    have e : flat2 (x :: r) = .int .i64 x.1 :: .int .i64 x.2 :: flat2 r := rfl
    cases i with
    | zero => rw [e]; exact ⟨rfl, rfl⟩
    | succ i =>
      obtain ⟨h1, h2⟩ := ih i (by simpa using hi)
      rw [e, show (i + 1) * 2 = i * 2 + 1 + 1 by omega]
      simp only [List.getElem?_cons_succ, List.getElem_cons_succ]
      exact ⟨h1, h2⟩
theorem labs_of_own {w : World} {base : Nat} {v : Value} {l : List (Int × Int)} (h : w.ownsRow base 74 2 v l.length (flat2 l)) (hl : l.length ≤ 8796093022208) : LabAt w v l := by
  obtain ⟨p, cap, rfl, h1, h2⟩ := owns_cells h
  refine ⟨p, cap, rfl, h1, hl, fun h0 => ?_⟩
  obtain ⟨g, rfl, hc⟩ := h2 h0
  exact ⟨g, 0, rfl, fun j hj => by
    obtain ⟨g1, g2⟩ := flat2_get l j hj
    rw [Nat.zero_add]
    exact ⟨hc _ _ g1, hc _ _ g2⟩⟩
theorem nums_of_own {w : World} {base : Nat} {v : Value} {l : List Int} (h : w.ownsRow base 3 1 v l.length (flat1 l)) (hl : l.length ≤ 17592186044416) : IntsAt w v l := by
  obtain ⟨p, cap, rfl, h1, h2⟩ := owns_cells h
  refine ⟨p, cap, rfl, h1, hl, fun h0 => ?_⟩
  obtain ⟨g, rfl, hc⟩ := h2 h0
  exact ⟨g, 0, rfl, fun j hj => by
    rw [Nat.zero_add]
    exact hc j _ (by simp [flat1, hj])⟩

theorem flat2_one (l : List (Int × Int)) : ∀ u ∈ flat2 l, u.oneCell' = true := by
  intro u hu
  obtain ⟨x, _, hx⟩ := List.mem_flatMap.1 hu
  simp at hx
  rcases hx with rfl | rfl <;> rfl
theorem flat1_one (l : List Int) : ∀ u ∈ flat1 l, u.oneCell' = true := by
  intro u hu
  obtain ⟨x, _, rfl⟩ := List.mem_map.1 hu
  rfl

theorem laid2 (w : World) (a b : Value) (t : TypeId) : ∀ j u, [a, b][j]? = some u → (w.alloc (.cells #[a, b] t)).cell? ((⟨w.heap.size, 0, none⟩ : Addr).add j) = some u := by
  intro j u hu
  rw [WideShapes.add_plain, Nat.zero_add, World.cell?_alloc_mark]
  simpa using hu
theorem laid1 (w : World) (a : Value) (t : TypeId) : ∀ j u, [a][j]? = some u → (w.alloc (.cells #[a] t)).cell? ((⟨w.heap.size, 0, none⟩ : Addr).add j) = some u := by
  intro j u hu
  rw [WideShapes.add_plain, Nat.zero_add, World.cell?_alloc_mark]
  simpa using hu

theorem own_base {w : World} {base : Nat} {e : TypeId} {size : Nat} {v : Value} {n : Nat} {xs : List Value} (h : w.ownsRow base e size v n xs) {k : Nat} (hk : v.ownBlock = some k) : base ≤ k := by
  rcases h.2 with ⟨rfl, _⟩ | ⟨g, cap, cur, rfl, hb, _⟩
  · cases hk
  · cases hk; exact hb
end Go.Proofs.YtgpldlbmjakjhaaGreat

namespace Go.Proofs.YtgpldlbmjakjhaaGreat
open Go.RowKit Go.Proofs.Parclose

theorem heap_setCell {w : World} {a j : Nat} {C : Array Value} {t : TypeId} {fr : Nat × Nat} (h : w.heap[a]? = some (.cells C t fr)) (u : Value) : (w.setCell ⟨a, j, none⟩ u).heap[a]? = some (.cells (C.setIfInBounds j u) t fr) := by
  simp [World.setCell, Array.getElem?_modify, h]
theorem grown_trans {a b c : World} {r : Option Nat} (h : a.grownBy b r) (k : b.grownBy c r) : a.grownBy c r :=
  ⟨k.os.trans h.os, k.tape.trans h.tape, k.output.trans h.output, Nat.le_trans h.size k.size, fun i hi hr => by rw [k.block i (by have := h.size; omega) hr, h.block i hi hr]⟩
theorem grown_setCell (w : World) (a j : Nat) (u : Value) : w.grownBy (w.setCell ⟨a, j, none⟩ u) (some a) :=
  ⟨rfl, rfl, rfl, by simp, fun k _ hr => Below.heap_setCell w _ _ k (fun e => hr (by rw [e]))⟩
theorem grown_below {w w' : World} (h : Below w.heap.size w w') (r : Option Nat) : w.grownBy w' r := ⟨h.os, h.tape, h.output, h.size, fun k hk _ => h.block k hk⟩
theorem heap_cell {w : World} {b : Nat} {C : Array Value} {t : TypeId} {fr : Nat × Nat} (h : w.heap[b]? = some (.cells C t fr)) (j : Nat) : w.cell? ⟨b, j, none⟩ = C[j]? := by simp only [World.cell?]; rw [h]; rfl
theorem heap_frozen {w : World} {b : Nat} {C : Array Value} {t : TypeId} (h : w.heap[b]? = some (.cells C t (0, 0))) (j : Nat) : w.frozen? ⟨b, j, none⟩ = false := by simp only [World.frozen?]; rw [h]; simp
theorem heap_lt {w : World} {b : Nat} {o : Obj} (h : w.heap[b]? = some o) : b < w.heap.size := (Array.getElem?_eq_some_iff.1 h).1
theorem heap_tk {w w' : World} {a b : Nat} {o : Obj} (h : w.heap[b]? = some o) (hab : b ≠ a) (hg : w.grownBy w' (some a)) : w'.heap[b]? = some o := by
  rw [hg.block b (heap_lt h) (fun e => hab (Option.some.inj e)), h]
theorem heap_own {w w' : World} {base : Nat} {e : TypeId} {size : Nat} {v : Value} {n : Nat} {xs : List Value} {b : Nat} {C : Array Value} {t : TypeId} (h : w.heap[b]? = some (.cells C t (0, 0))) (ho : w.ownsRow base e size v n xs) (hte : t ≠ e) (hg : w.grownBy w' v.ownBlock) : w'.heap[b]? = some (.cells C t (0, 0)) := by
  rw [hg.block b (heap_lt h) (fun ee => ?_), h]
  rcases ho.2 with ⟨rfl, _⟩ | ⟨g, cap, cur, rfl, _, hh, _⟩
  · cases ee
  · have e' : b = g := Option.some.inj ee
    subst e'
    rw [h] at hh
    injection hh with hh
    injection hh with _ h2 _
    exact hte h2
theorem heap_new {w : World} {b : Nat} {o : Obj} (h : w.heap[b]? = some o) (x : Obj) : (w.alloc x).heap[b]? = some o := by rw [Below.heap_alloc w x b (heap_lt h), h]
theorem grown_store {w0 w : World} {r : Option Nat} (h : w0.grownBy w r) {b : Nat} (hb : w0.heap.size ≤ b) (j : Nat) (u : Value) : w0.grownBy (w.setCell ⟨b, j, none⟩ u) r :=
  ⟨h.os, h.tape, h.output, by simpa using h.size, fun k hk hr => by
    rw [Below.heap_setCell w _ _ k (by show k ≠ b; omega)]
    exact h.block k hk hr⟩
theorem heap_store {w : World} {b c : Nat} {o : Obj} (h : w.heap[b]? = some o) (hbc : b ≠ c) (j : Nat) (u : Value) : (w.setCell ⟨c, j, none⟩ u).heap[b]? = some o := by
  rw [Below.heap_setCell w _ _ b hbc, h]
theorem own_store {w : World} {base : Nat} {e : TypeId} {size : Nat} {v : Value} {n : Nat} {xs : List Value} {b : Nat} {C : Array Value} {t : TypeId} (ho : w.ownsRow base e size v n xs) (h : w.heap[b]? = some (.cells C t (0, 0))) (hte : t ≠ e) (j : Nat) (u : Value) : (w.setCell ⟨b, j, none⟩ u).ownsRow base e size v n xs := by
  refine ho.kept (grown_setCell w b j u) (Or.inr fun ee => ?_)
  rcases ho.2 with ⟨rfl, _⟩ | ⟨g, cap, cur, rfl, _, hh, _⟩
  · cases ee
  · have e' : g = b := Option.some.inj ee
    subst e'
    rw [h] at hh
    injection hh with hh
    injection hh with _ h2 _
    exact hte h2
theorem own_block {w w' : World} {base : Nat} {e : TypeId} {size : Nat} {v : Value} {n : Nat} {xs : List Value} {b : Nat} {C : Array Value} {t : TypeId} (ho : w.ownsRow base e size v n xs) (h : w.heap[b]? = some (.cells C t (0, 0))) (hte : t ≠ e) (hg : w.grownBy w' (some b)) : w'.ownsRow base e size v n xs := by
  refine ho.kept hg (Or.inr fun ee => ?_)
  rcases ho.2 with ⟨rfl, _⟩ | ⟨g, cap, cur, rfl, _, hh, _⟩
  · cases ee
  · have e' : g = b := Option.some.inj ee
    subst e'
    rw [h] at hh
    injection hh with hh
    injection hh with _ h2 _
    exact hte h2
theorem grown_block {w0 w w' : World} {r : Option Nat} {b : Nat} (h : w0.grownBy w r) (hb : w0.heap.size ≤ b) (hg : w.grownBy w' (some b)) : w0.grownBy w' r :=
  ⟨hg.os.trans h.os, hg.tape.trans h.tape, hg.output.trans h.output, Nat.le_trans h.size hg.size, fun k hk hr => by
    rw [hg.block k (by have := h.size; omega) (fun e => by have := Option.some.inj e; omega), h.block k hk hr]⟩
theorem own_own {w w' : World} {base base' : Nat} {e e' : TypeId} {size size' : Nat} {v v' : Value} {n n' : Nat} {xs xs' : List Value} (h : w.ownsRow base e size v n xs) (h' : w.ownsRow base' e' size' v' n' xs') (hne : e ≠ e') (hg : w.grownBy w' v'.ownBlock) : w'.ownsRow base e size v n xs := by
  rcases h.2 with ⟨rfl, hn⟩ | ⟨g, cap, cur, rfl, hb, hh, hrest⟩
  · exact ⟨h.1, Or.inl ⟨rfl, hn⟩⟩
  · refine h.kept hg (Or.inr fun ee => ?_)
    rcases h'.2 with ⟨rfl, _⟩ | ⟨g', cap', cur', rfl, _, hh', _⟩
    · cases ee
    · have e1 : g = g' := Option.some.inj ee
      subst e1
      rw [hh] at hh'
      injection hh' with hh'
      injection hh' with _ h2 _
      exact hne h2
theorem grown_drew {w w' : World} {r : Option Nat} (h : w.drew.grownBy w' r) : w.grownBy w' r := ⟨h.os, h.tape, h.output, h.size, h.block⟩
/-- from block base on the world is as it was -/
def Since (base : Nat) (w w' : World) : Prop := ∀ k, base ≤ k → k < w.heap.size → w'.heap[k]? = w.heap[k]?
theorem Since.refl (base : Nat) (w : World) : Since base w w := fun _ _ _ => rfl
theorem own_since {w w' : World} {base : Nat} {e : TypeId} {size : Nat} {v : Value} {n : Nat} {xs : List Value} (h : w.ownsRow base e size v n xs) (hs : Since base w w') : w'.ownsRow base e size v n xs := by
  refine ⟨h.1, ?_⟩
  rcases h.2 with hn | ⟨g, cap, cur, rfl, hb, hgg, rest⟩
  · exact .inl hn
  · refine .inr ⟨g, cap, cur, rfl, hb, ?_, rest⟩
    rw [hs g hb (Array.getElem?_eq_some_iff.1 hgg).1]
    exact hgg
theorem grown_own {w0 w w' : World} {base : Nat} {e : TypeId} {size : Nat} {v : Value} {n : Nat} {xs : List Value} {r : Option Nat} (h : w0.grownBy w r) (ho : w.ownsRow base e size v n xs) (hb : w0.heap.size ≤ base) (hg : w.grownBy w' v.ownBlock) : w0.grownBy w' r :=
  ⟨hg.os.trans h.os, hg.tape.trans h.tape, hg.output.trans h.output, Nat.le_trans h.size hg.size, fun k hk hr => by
    rw [hg.block k (by have := h.size; omega) (fun e => by have := own_base ho e.symm; omega), h.block k hk hr]⟩
theorem grown_setRow (w : World) (b : Nat) (cs : Array Value) : w.grownBy (w.setRow b cs) (some b) :=
  ⟨rfl, rfl, rfl, by simp, fun k _ hr => setRow_other w b k cs (fun e => hr (by rw [e]))⟩
theorem since_grown {w w' : World} {a base : Nat} (h : w.grownBy w' (some a)) (ha : a < base) : Since base w w' := fun k hk hs => h.block k hs (fun e => by have := Option.some.inj e; omega)
theorem since_below {w w' : World} {base : Nat} (h : Below w.heap.size w w') : Since base w w' := fun k _ hs => h.block k hs
theorem Since.trans {base : Nat} {a b c : World} (h : Since base a b) (k : Since base b c) (hs : a.heap.size ≤ b.heap.size) : Since base a c := fun i hi his => by rw [k i hi (by omega), h i hi his]
theorem Since.mono {base base' : Nat} {a b : World} (h : Since base a b) (hb : base ≤ base') : Since base' a b := fun k hk hs => h k (by omega) hs
theorem heap_keep {w w' : World} {b : Nat} {o : Obj} (h : w.heap[b]? = some o) (hb : Below w.heap.size w w') : w'.heap[b]? = some o := by rw [hb.block b (heap_lt h), h]
end Go.Proofs.YtgpldlbmjakjhaaGreat

namespace Go.Proofs.YtgpldlbmjakjhaaGreat
open Go.RowKit Go.Proofs.Parclose

theorem info_cert : (Tryz.prog.info? 78).map (fun i => (i.zero, i.size, i.bytes)) = some (some (.agg #[.int .i64 0, .int .i64 0, .int .i64 0, .int .i64 0]), 4, 32) := by kernel_rfl
def flat4 (l : List Crt) : List Value := l.flatMap fun x => [.int .i64 x.c, .int .i64 x.b, .int .i64 x.h, .int .i64 x.u]
theorem flat4_get (l : List Crt) (i : Nat) (hi : i < l.length) : (flat4 l)[i * 4]? = some (.int .i64 l[i].c) ∧ (flat4 l)[i * 4 + 1]? = some (.int .i64 l[i].b) ∧ (flat4 l)[i * 4 + 2]? = some (.int .i64 l[i].h) ∧ (flat4 l)[i * 4 + 3]? = some (.int .i64 l[i].u) := by
  induction l generalizing i with
  | nil => simp at hi
  | cons x r ih =>
    have e : flat4 (x :: r) = .int .i64 x.c :: .int .i64 x.b :: .int .i64 x.h :: .int .i64 x.u :: flat4 r := rfl
    cases i with
    | zero => rw [e]; exact ⟨rfl, rfl, rfl, rfl⟩
    | succ i =>
      obtain ⟨h1, h2, h3, h4⟩ := ih i (by simpa using hi)
      rw [e, show (i + 1) * 4 = i * 4 + 1 + 1 + 1 + 1 by omega, show i * 4 + 1 + 1 + 1 + 1 + 1 = i * 4 + 1 + 1 + 1 + 1 + 1 from rfl]
      refine ⟨?_, ?_, ?_, ?_⟩
      · simp only [List.getElem?_cons_succ, List.getElem_cons_succ]; exact h1
      · rw [show i * 4 + 1 + 1 + 1 + 1 + 1 = (i * 4 + 1) + 1 + 1 + 1 + 1 by omega]; simp only [List.getElem?_cons_succ, List.getElem_cons_succ]; exact h2
      · rw [show i * 4 + 1 + 1 + 1 + 1 + 2 = (i * 4 + 2) + 1 + 1 + 1 + 1 by omega]; simp only [List.getElem?_cons_succ, List.getElem_cons_succ]; exact h3
      · rw [show i * 4 + 1 + 1 + 1 + 1 + 3 = (i * 4 + 3) + 1 + 1 + 1 + 1 by omega]; simp only [List.getElem?_cons_succ, List.getElem_cons_succ]; exact h4

theorem crts_of_own {w : World} {base : Nat} {v : Value} {l : List Crt} (h : w.ownsRow base 78 4 v l.length (flat4 l)) (hl : l.length ≤ 4398046511104) : CrtsAt w v l := by
  obtain ⟨p, cap, rfl, h1, h2⟩ := owns_cells h
  refine ⟨p, cap, rfl, h1, hl, fun h0 => ?_⟩
  obtain ⟨g, rfl, hc⟩ := h2 h0
  exact ⟨g, 0, rfl, fun j hj => by
    obtain ⟨g1, g2, g3, g4⟩ := flat4_get l j hj
    rw [Nat.zero_add]
    exact ⟨hc _ _ g1, hc _ _ g2, hc _ _ g3, hc _ _ g4⟩⟩
theorem flat4_one (l : List Crt) : ∀ u ∈ flat4 l, u.oneCell' = true := by
  intro u hu
  obtain ⟨x, _, hx⟩ := List.mem_flatMap.1 hu
  simp at hx
  rcases hx with rfl | rfl | rfl | rfl <;> rfl
theorem laid4 (w : World) (a b c d : Value) (t : TypeId) : ∀ j u, [a, b, c, d][j]? = some u → (w.alloc (.cells #[a, b, c, d] t)).cell? ((⟨w.heap.size, 0, none⟩ : Addr).add j) = some u := by
  intro j u hu
  rw [WideShapes.add_plain, Nat.zero_add, World.cell?_alloc_mark]
  simpa using hu
end Go.Proofs.YtgpldlbmjakjhaaGreat

namespace Go.Proofs.YtgpldlbmjakjhaaGreat
open Go.RowKit Go.Proofs.Parclose

theorem chost_any (n : Int) (w : World) : Calls Tryz.prog 32 #[.int .i64 n] w fun e w' => e = .returned (.bool (hostB n)) ∧ w' = w := by
  go_enter Tryz.func32, Tryz.ntmps32
  by_cases h1 : 0 ≤ n
  · by_cases h2 : n < 4
    · go_wp2
      go_ret
      exact ⟨by rw [show hostB n = true by simp [hostB, h1, h2]]; rfl, rfl⟩
    · go_wp2
      go_ret
      exact ⟨by rw [show hostB n = false by simp [hostB]; omega]; rfl, rfl⟩
  · go_wp2
    go_ret
    exact ⟨by rw [show hostB n = false by simp [hostB]; omega]; rfl, rfl⟩
theorem cisThread_any (n : Int) (w : World) : Calls Tryz.prog 65 #[.int .i64 n] w fun e w' => e = .returned (.bool (hostB n)) ∧ w' = w := by
  go_enter Tryz.func65, Tryz.ntmps65
  by_cases h1 : 0 ≤ n
  · by_cases h2 : n < 4
    · go_wp2
      go_ret
      exact ⟨by rw [show hostB n = true by simp [hostB, h1, h2]]; rfl, rfl⟩
    · go_wp2
      go_ret
      exact ⟨by rw [show hostB n = false by simp [hostB]; omega]; rfl, rfl⟩
  · go_wp2
    go_ret
    exact ⟨by rw [show hostB n = false by simp [hostB]; omega]; rfl, rfl⟩
theorem ctime_any (n : Int) (w : World) : Calls Tryz.prog 85 #[.int .i64 n] w fun e w' => e = .returned (.bool (timeB n)) ∧ w' = w := by
  go_enter Tryz.func85, Tryz.ntmps85
  by_cases h1 : 0 ≤ n
  · by_cases h2 : n ≤ 1099511627776
    · go_wp2
      go_ret
      exact ⟨by rw [show timeB n = true by simp [timeB, h1, h2]]; rfl, rfl⟩
    · go_wp2
      go_ret
      exact ⟨by rw [show timeB n = false by simp [timeB]; omega]; rfl, rfl⟩
  · go_wp2
    go_ret
    exact ⟨by rw [show timeB n = false by simp [timeB]; omega]; rfl, rfl⟩
theorem canswer_any (n : Int) (w : World) : Calls Tryz.prog 47 #[.int .i64 n] w fun e w' => e = .returned (.agg #[.int .i64 n, .int .i64 0, .string ⟨#[]⟩]) ∧ Below w.heap.size w w' := by
  go_enter Tryz.func47, Tryz.ntmps47
  go_wp2
  refine bodyPost_ret (results_cell_row rfl _ _ w.heap.size 35 _ (0, 0) _ rfl (heap_alloc_new w _) Tryz.underlying35 rfl (by kernel_rfl)) rfl ⟨rfl, below_box _ _⟩
end Go.Proofs.YtgpldlbmjakjhaaGreat
