/- Plain facts on lists of levels: what At, named, Flows, Good, Same say of them; no program is named here. -/
import Derived.Lib.SlicesCompact
namespace Go.Proofs.Parclose
def atL (l : List (Int × Int)) (c : Int) : Int := match l with
 | [] => 1
 | x :: r => if x.1 = c then x.2 else atL r c
theorem Ql7 (l : List (Int × Int)) (c : Int) (h : ∀ j (hj : j < l.length), l[j].1 ≠ c) : atL l c = 1 := by
 induction l with
 | nil => rfl
 | cons x r ih =>
  have h0 := h 0 (by simp)
  simp only [List.getElem_cons_zero] at h0
  simp only [atL, if_neg h0]
  exact ih fun j hj => by have := h (j + 1) (by simp; omega); simpa using this
theorem Ql6 (l : List (Int × Int)) (c : Int) (k : Nat) (hk : k < l.length) (h : ∀ j (hj : j < k), l[j].1 ≠ c) (hc : l[k].1 = c) : atL l c = l[k].2 := by
 induction l generalizing k with
 | nil => simp at hk
 | cons x r ih =>
  cases k with
  | zero => simp only [List.getElem_cons_zero] at hc ⊢; simp only [atL, if_pos hc]
  | succ k =>
   have h0 := h 0 (by omega)
   simp only [List.getElem_cons_zero] at h0
   simp only [atL, if_neg h0, List.getElem_cons_succ]
   exact ih k (by simpa using hk) (fun j hj => by have := h (j + 1) (by omega); simpa using this) (by simpa using hc)
theorem QdA {l : List (Int × Int)} {c : Int} (h : c ∉ l.map (·.1)) : atL l c = 1 := by
 induction l with
 | nil => rfl
 | cons x r ih =>
  simp only [List.map_cons, List.mem_cons, not_or] at h
  simp only [atL, if_neg (Ne.symm h.1)]
  exact ih h.2
def catsL (a b : List (Int × Int)) : List Int := Lib.compact ((a.map (·.1) ++ b.map (·.1)).mergeSort fun x y => decide (x ≤ y))
theorem QbC (d : Array Int) (m : Nat) (hm : m ≤ d.size) (x : Int) : x ∈ Lib.compactUpTo d m ↔ ∃ j, j < m ∧ d[j]! = x := by
 induction m with
 | zero => simp [Lib.compactUpTo]
 | succ m ih =>
  rw [Lib.compactUpTo_succ, List.mem_append, ih (by omega)]
  by_cases hk : Lib.keeps d m
  · simp only [hk, if_true, List.mem_singleton]
    constructor
    · rintro (⟨j, hj, e⟩ | e)
      · exact ⟨j, by omega, e⟩
      · exact ⟨m, by omega, e.symm⟩
    · rintro ⟨j, hj, e⟩
      by_cases h : j = m
      · subst h; exact Or.inr e.symm
      · exact Or.inl ⟨j, by omega, e⟩
  · have hk' : Lib.keeps d m = false := by simpa using hk
    simp only [hk', Bool.false_eq_true, if_false, List.not_mem_nil, or_false]
    have hz : ¬ (m = 0 ∨ d[m]! ≠ d[m - 1]!) := by simpa [Lib.keeps] using hk'
    constructor
    · rintro ⟨j, hj, e⟩; exact ⟨j, by omega, e⟩
    · rintro ⟨j, hj, e⟩
      by_cases h : j = m
      · subst h
        have h2 : d[j]! = d[j - 1]! := by
         by_cases g : d[j]! = d[j - 1]!
         · exact g
         · exact absurd (Or.inr g) hz
        have h1 : ¬ j = 0 := fun g => hz (Or.inl g)
        exact ⟨j - 1, by omega, by rw [← h2]; exact e⟩
      · exact ⟨j, by omega, e⟩
theorem Qdp (zs : List Int) (x : Int) : x ∈ Lib.compact zs ↔ x ∈ zs := by
 unfold Lib.compact
 rw [QbC _ _ (by simp)]
 constructor
 · rintro ⟨j, hj, e⟩
   rw [getElem!_pos _ j (by simpa using hj)] at e
   subst e
   simp
 · intro h
   obtain ⟨j, hj, e⟩ := List.mem_iff_getElem.1 h
   exact ⟨j, hj, by rw [getElem!_pos _ j (by simpa using hj)]; simpa using e⟩
theorem QcU (d : Array Int) (hd : ∀ i j, i ≤ j → j < d.size → d[i]! ≤ d[j]!) (m : Nat) (hm : m ≤ d.size) : (Lib.compactUpTo d m).Pairwise (· < ·) := by
 induction m with
 | zero => simp [Lib.compactUpTo]
 | succ m ih =>
  rw [Lib.compactUpTo_succ, List.pairwise_append]
  refine ⟨ih (by omega), by split <;> simp, ?_⟩
  intro x hx y hy
  obtain ⟨j, hj, e⟩ := (QbC d m (by omega) x).1 hx
  by_cases hk : Lib.keeps d m
  · simp only [hk, if_true, List.mem_singleton] at hy
    subst hy
    have hz : m = 0 ∨ d[m]! ≠ d[m - 1]! := by simpa [Lib.keeps] using hk
    rcases hz with h0 | hne
    · omega
    · have h1 := hd j (m - 1) (by omega) (by omega)
      have h2 := hd (m - 1) m (by omega) (by omega)
      omega
  · simp [hk] at hy
theorem QjV (a b : List (Int × Int)) (c : Int) : c ∈ catsL a b ↔ c ∈ a.map (·.1) ∨ c ∈ b.map (·.1) := by
 unfold catsL
 rw [Qdp, List.mem_mergeSort, List.mem_append]
theorem QcN (a b : List (Int × Int)) : (catsL a b).length ≤ a.length + b.length := by
 unfold catsL Lib.compact Lib.compactUpTo
 have h1 := List.length_filter_le (Lib.keeps ((a.map (·.1) ++ b.map (·.1)).mergeSort fun x y => decide (x ≤ y)).toArray) (List.range ((a.map (·.1) ++ b.map (·.1)).mergeSort fun x y => decide (x ≤ y)).length)
 simp at h1 ⊢
 omega
def hasB (own : List Int) (c : Int) : Bool := own.contains c
def flowsL (a b : List (Int × Int)) (own : List Int) : Bool := (catsL a b).all fun c => decide (atL a c ≤ atL b c) || own.contains c
theorem Qej (a b : List (Int × Int)) (own : List Int) : flowsL a b own = true ↔ ∀ c, c ∈ own ∨ atL a c ≤ atL b c := by
 unfold flowsL
 simp only [List.all_eq_true, Bool.or_eq_true, decide_eq_true_eq, List.contains_iff_mem]
 constructor
 · intro h c
   by_cases hc : c ∈ catsL a b
   · rcases h c hc with h1 | h1
     · exact Or.inr h1
     · exact Or.inl h1
   · rw [QjV, not_or] at hc
     rw [QdA hc.1, QdA hc.2]
     exact Or.inr (Int.le_refl _)
 · intro h c _
   rcases h c with h1 | h1
   · exact Or.inr h1
   · exact Or.inl h1
theorem QdH {a b : List (Int × Int)} {own : List Int} {c : Int} (h1 : atL b c < atL a c) (h2 : hasB own c = false) : flowsL a b own = false := by
 cases hf : flowsL a b own with
 | false => rfl
 | true =>
  rcases (Qej a b own).1 hf c with h | h
  · simp [hasB, h] at h2
  · omega
theorem QeD {a b : List (Int × Int)} {own : List Int} (h : ∀ j (hj : j < (catsL a b).length), atL a (catsL a b)[j] ≤ atL b (catsL a b)[j] ∨ hasB own (catsL a b)[j] = true) : flowsL a b own = true := by
 unfold flowsL
 simp only [List.all_eq_true, Bool.or_eq_true, decide_eq_true_eq]
 intro c hc
 obtain ⟨j, hj, e⟩ := List.mem_iff_getElem.1 hc
 subst e
 exact h j hj
def goodL (l : List (Int × Int)) : Prop := l.length ≤ 8 ∧ (∀ x ∈ l, 0 ≤ x.1 ∧ x.1 < 80 ∧ 0 ≤ x.2 ∧ x.2 ≤ 3 ∧ x.2 ≠ 1) ∧ l.Pairwise (fun x y => x.1 < y.1)
def catB (c : Int) : Bool := decide (0 ≤ c ∧ c < 80)
def bndB (n : Int) : Bool := decide (0 ≤ n ∧ n ≤ 3)
def levB (x : Int × Int) : Bool := catB x.1 && bndB x.2 && !(x.2 == 1)
def goodB (l : List (Int × Int)) : Bool := decide (l.length ≤ 8 ∧ (∀ x ∈ l, 0 ≤ x.1 ∧ x.1 < 80 ∧ 0 ≤ x.2 ∧ x.2 ≤ 3 ∧ x.2 ≠ 1) ∧ l.Pairwise (fun x y => x.1 < y.1))
theorem QaD (l : List (Int × Int)) : goodB l = true ↔ goodL l := by unfold goodB goodL; exact decide_eq_true_iff
theorem Qgi (x : Int × Int) : levB x = true ↔ (0 ≤ x.1 ∧ x.1 < 80 ∧ 0 ≤ x.2 ∧ x.2 ≤ 3 ∧ x.2 ≠ 1) := by
 simp only [levB, catB, bndB, Bool.and_eq_true, decide_eq_true_eq, Bool.not_eq_true', beq_eq_false_iff_ne, ne_eq]
 constructor
 · rintro ⟨⟨⟨h1, h2⟩, h3, h4⟩, h5⟩; exact ⟨h1, h2, h3, h4, h5⟩
 · rintro ⟨h1, h2, h3, h4, h5⟩; exact ⟨⟨⟨h1, h2⟩, h3, h4⟩, h5⟩
theorem Qim {l : List (Int × Int)} (h : 8 < l.length) : goodB l = false := by
 cases e : goodB l with
 | false => rfl
 | true => have := ((QaD l).1 e).1; omega
theorem Qj6 {l : List (Int × Int)} (k : Nat) (hk : k < l.length) (h : levB l[k] = false) : goodB l = false := by
 cases e : goodB l with
 | false => rfl
 | true =>
  have := (Qgi l[k]).2 (((QaD l).1 e).2.1 l[k] (List.getElem_mem hk))
  rw [h] at this
  cases this
theorem Qil {l : List (Int × Int)} (k : Nat) (hk : k + 1 < l.length) (h : l[k + 1].1 ≤ l[k].1) : goodB l = false := by
 cases e : goodB l with
 | false => rfl
 | true =>
  have := (List.pairwise_iff_getElem.1 ((QaD l).1 e).2.2) k (k + 1) (by omega) hk (by omega)
  omega
theorem QdF (l : List (Int × Int)) (h : ∀ j (hj : j + 1 < l.length), l[j].1 < l[j + 1].1) : l.Pairwise (fun x y => x.1 < y.1) := by
 rw [List.pairwise_iff_getElem]
 intro i j hi hj hij
 induction j with
 | zero => omega
 | succ j ih =>
  have hs := h j hj
  by_cases e : i = j
  · subst e; exact hs
  · have := ih (by omega) (by omega); omega
theorem Qj7 {l : List (Int × Int)} (h8 : l.length ≤ 8) (h1 : ∀ j (hj : j < l.length), levB l[j] = true) (h2 : ∀ j (hj : j + 1 < l.length), l[j].1 < l[j + 1].1) : goodB l = true := by
 refine (QaD l).2 ⟨h8, fun x hx => ?_, QdF l h2⟩
 obtain ⟨j, hj, e⟩ := List.mem_iff_getElem.1 hx
 subst e
 exact (Qgi _).1 (h1 j hj)
structure Crt where
 c : Int
 b : Int
 h : Int
 u : Int
structure Mal where
 host : Int
 thread : Int
 label : List (Int × Int)
 grants : List Int
 text : List UInt8
structure Frm where
 fr : Int
 to : Int
 seq : Int
 ack : Bool
 thread : Int
 mail : Mal
 certs : List Crt
def zeroMal : Mal := ⟨0, 0, [], [], []⟩
def zeroFrm : Frm := ⟨0, 0, 0, false, 0, zeroMal, []⟩
def hostB (h : Int) : Bool := decide (0 ≤ h ∧ h < 4)
def timeB (n : Int) : Bool := decide (0 ≤ n ∧ n ≤ 1099511627776)
def twoB (a b : Int) : Bool := hostB a && hostB b && !(a == b)
def certB (x : Crt) : Bool := catB x.c && twoB x.b x.h && timeB x.u
def grantsB (l : List Int) : Bool := decide (l.length ≤ 8 ∧ (∀ x ∈ l, 0 ≤ x ∧ x < 80) ∧ l.Pairwise (· < ·))
def mailE (m : Mal) : Int := if hostB m.host && hostB m.thread && goodB m.label && grantsB m.grants then (if m.text.length ≤ 64 then 0 else 9) else 2
def emptyB (m : Mal) : Bool := m.host == 0 && m.thread == 0 && m.label.isEmpty && m.grants.isEmpty && m.text.isEmpty
def answerE (f : Frm) : Int := if f.thread == 0 && emptyB f.mail && f.certs.isEmpty then 0 else 1
def certsE (l : List Crt) : Int := if l.length ≤ 24 then (if l.all certB then 0 else 2) else 5
def loadE (f : Frm) : Int := if mailE f.mail = 0 then (if f.mail.host = f.fr then certsE f.certs else 1) else mailE f.mail
def headB (f : Frm) : Bool := twoB f.fr f.to && !(f.seq == 0) && timeB f.seq && hostB f.thread
def frameE (f : Frm) : Int := if headB f then (if f.ack then answerE f else loadE f) else 2
def byteL (n : Int) : UInt8 := UInt8.ofNat (n % 256).toNat
def timeL (n : Int) : List UInt8 := [byteL (n / 1099511627776), byteL (n / 4294967296), byteL (n / 16777216), byteL (n / 65536), byteL (n / 256), byteL n]
def headL (k : Int) (f : Frm) : List UInt8 := [byteL k, byteL f.fr, byteL f.to] ++ timeL f.seq
def levelsL (l : List (Int × Int)) : List UInt8 := l.flatMap fun x => [byteL x.1, byteL x.2]
def mailL (m : Mal) : List UInt8 := [byteL m.thread, byteL m.label.length] ++ levelsL m.label ++ [byteL m.grants.length] ++ m.grants.map byteL ++ [byteL m.text.length] ++ m.text
def certL (x : Crt) : List UInt8 := [byteL x.c, byteL x.b, byteL x.h] ++ timeL x.u
def certsL (l : List Crt) : List UInt8 := [byteL l.length] ++ l.flatMap certL
def encL (f : Frm) : List UInt8 := if f.ack then headL 1 f else headL 0 f ++ [byteL f.thread] ++ mailL f.mail ++ certsL f.certs
abbrev Tk := List UInt8 × Bool
def textT (n : Nat) (t : Tk) : List UInt8 × Tk := if t.1.length < n then ([], ([], true)) else (t.1.take n, (t.1.drop n, t.2))
def numL (l : List UInt8) : Int := l.foldl (fun n b => n * 256 + (b.toNat : Int)) 0
def numT (n : Nat) (t : Tk) : Int × Tk := (numL (textT n t).1, (textT n t).2)
def iterN {α : Type} (f : α → α) : Nat → α → α
 | 0, s => s
 | n + 1, s => f (iterN f n s)
def levStep (s : List (Int × Int) × Tk) : List (Int × Int) × Tk := (s.1 ++ [((numT 1 s.2).1, (numT 1 (numT 1 s.2).2).1)], (numT 1 (numT 1 s.2).2).2)
def grStep (s : List Int × Tk) : List Int × Tk := (s.1 ++ [(numT 1 s.2).1], (numT 1 s.2).2)
def crtT (t : Tk) : Crt × Tk :=
 (⟨(numT 1 t).1, (numT 1 (numT 1 t).2).1, (numT 1 (numT 1 (numT 1 t).2).2).1, (numT 6 (numT 1 (numT 1 (numT 1 t).2).2).2).1⟩, (numT 6 (numT 1 (numT 1 (numT 1 t).2).2).2).2)
def crStep (s : List Crt × Tk) : List Crt × Tk := (s.1 ++ [(crtT s.2).1], (crtT s.2).2)
def labT (t : Tk) : List (Int × Int) × Tk := iterN levStep (numT 1 t).1.toNat ([], (numT 1 t).2)
def grT (t : Tk) : List Int × Tk := iterN grStep (numT 1 t).1.toNat ([], (numT 1 t).2)
def txT (t : Tk) : List UInt8 × Tk := textT (numT 1 t).1.toNat (numT 1 t).2
def certsT (t : Tk) : List Crt × Tk := iterN crStep (numT 1 t).1.toNat ([], (numT 1 t).2)
def mailT (fr : Int) (t : Tk) : Mal × Tk :=
 (⟨fr, (numT 1 t).1, (labT (numT 1 t).2).1, (grT (labT (numT 1 t).2).2).1, (txT (grT (labT (numT 1 t).2).2).2).1⟩, (txT (grT (labT (numT 1 t).2).2).2).2)
def headT (t : Tk) : (Int × Int × Int × Int) × Tk :=
 (((numT 1 t).1, (numT 1 (numT 1 t).2).1, (numT 1 (numT 1 (numT 1 t).2).2).1, (numT 6 (numT 1 (numT 1 (numT 1 t).2).2).2).1), (numT 6 (numT 1 (numT 1 (numT 1 t).2).2).2).2)
def loadT (fr to seq : Int) (t : Tk) : Frm × Tk :=
 (⟨fr, to, seq, false, (numT 1 t).1, (mailT fr (numT 1 t).2).1, (certsT (mailT fr (numT 1 t).2).2).1⟩, (certsT (mailT fr (numT 1 t).2).2).2)
def frameT (t : Tk) : Frm × Tk :=
 if (headT t).1.1 = 1 then (⟨(headT t).1.2.1, (headT t).1.2.2.1, (headT t).1.2.2.2, true, 0, zeroMal, []⟩, (headT t).2)
 else if (headT t).1.1 = 0 then loadT (headT t).1.2.1 (headT t).1.2.2.1 (headT t).1.2.2.2 (headT t).2
 else (⟨(headT t).1.2.1, (headT t).1.2.2.1, (headT t).1.2.2.2, false, 0, zeroMal, []⟩, ([], true))
def doneB (t : Tk) : Bool := !t.2 && t.1.isEmpty
def decL (s : List UInt8) : Frm × Int :=
 if doneB (frameT (s, false)).2 then (if frameE (frameT (s, false)).1 = 0 then ((frameT (s, false)).1, 0) else (zeroFrm, frameE (frameT (s, false)).1)) else (zeroFrm, 1)
theorem Qaq (b : UInt8) : (b.toNat : Int) < 256 := by have := b.toNat_lt; omega
theorem Qdz (b : UInt8) : byteL (b.toNat : Int) = b := by
 unfold byteL
 have := b.toNat_lt
 rw [show ((b.toNat : Int) % 256).toNat = b.toNat by omega]
 simp
theorem QbJ (n : Int) : ((byteL n).toNat : Int) = n % 256 := by
 unfold byteL
 rw [UInt8.toNat_ofNat']
 have : (n % 256).toNat < 2 ^ 8 := by omega
 rw [Nat.mod_eq_of_lt this]
 omega
theorem QdO {n : Nat} {t : Tk} {x r : List UInt8} (h : textT n t = (x, (r, false))) : t = (x ++ r, false) ∧ x.length = n := by
 unfold textT at h
 split at h
 · cases h
 · rename_i hn
   obtain ⟨s, f⟩ := t
   simp only [Prod.mk.injEq] at h
   obtain ⟨rfl, rfl, rfl⟩ := h
   simp at hn
   exact ⟨by simp, by simp; omega⟩
theorem Qe1 (x r : List UInt8) : textT x.length (x ++ r, false) = (x, (r, false)) := by
 unfold textT
 rw [if_neg (by simp)]
 simp
theorem Qd3 {n : Nat} (x r : List UInt8) (h : x.length = n) : textT n (x ++ r, false) = (x, (r, false)) := by
 subst h
 exact Qe1 x r
theorem list1 {x : List UInt8} (h : x.length = 1) : ∃ b, x = [b] := by
 match x, h with
 | [b], _ => exact ⟨b, rfl⟩
theorem Qli {t : Tk} {n : Int} {r : List UInt8} (h : numT 1 t = (n, (r, false))) : t = (byteL n :: r, false) ∧ 0 ≤ n ∧ n < 256 := by
 unfold numT at h
 simp only [Prod.mk.injEq] at h
 obtain ⟨h1, h2⟩ := h
 obtain ⟨e, hx⟩ := QdO (n := 1) (t := t) (x := (textT 1 t).1) (r := r) (by rw [← h2])
 obtain ⟨b, hb⟩ := list1 hx
 rw [hb] at h1 e
 have hn : n = (b.toNat : Int) := by rw [← h1]; simp [numL]
 subst hn
 rw [Qdz]
 have := Qaq b
 exact ⟨by simpa using e, by omega, by omega⟩
theorem Q7 (n : Int) (r : List UInt8) (h0 : 0 ≤ n) (h1 : n < 256) : numT 1 (byteL n :: r, false) = (n, (r, false)) := by
 unfold numT
 rw [show (byteL n :: r) = [byteL n] ++ r from rfl, Qd3 (n := 1) [byteL n] r rfl]
 simp [numL, QbJ]
 omega
theorem list6 {x : List UInt8} (h : x.length = 6) : ∃ a b c d e f, x = [a, b, c, d, e, f] := by
 match x, h with
 | [a, b, c, d, e, f], _ => exact ⟨a, b, c, d, e, f, rfl⟩
theorem numL6 (a b c d e f : UInt8) : numL [a, b, c, d, e, f] = (((((a.toNat : Int) * 256 + b.toNat) * 256 + c.toNat) * 256 + d.toNat) * 256 + e.toNat) * 256 + f.toNat := by
 simp [numL]
theorem Qbn {n : Int} {b : UInt8} (h : n % 256 = (b.toNat : Int)) : byteL n = b := by
 rw [← Qdz b]
 unfold byteL
 rw [h]
 have := Qaq b
 rw [show ((b.toNat : Int) % 256) = b.toNat by omega]
theorem Qjr (a b c d e f : UInt8) : timeL (numL [a, b, c, d, e, f]) = [a, b, c, d, e, f] := by
 rw [numL6]
 have h1 := Qaq a
 have h2 := Qaq b
 have h3 := Qaq c
 have h4 := Qaq d
 have h5 := Qaq e
 have h6 := Qaq f
 unfold timeL
 rw [Qbn (b := a) (by omega), Qbn (b := b) (by omega), Qbn (b := c) (by omega), Qbn (b := d) (by omega), Qbn (b := e) (by omega), Qbn (b := f) (by omega)]
theorem QjN (n : Int) (h0 : 0 ≤ n) (h1 : n < 281474976710656) : numL (timeL n) = n := by
 unfold timeL
 rw [numL6]
 simp only [QbJ]
 omega
theorem Qlh {t : Tk} {n : Int} {r : List UInt8} (h : numT 6 t = (n, (r, false))) : t = (timeL n ++ r, false) := by
 unfold numT at h
 simp only [Prod.mk.injEq] at h
 obtain ⟨h1, h2⟩ := h
 obtain ⟨e, hx⟩ := QdO (n := 6) (t := t) (x := (textT 6 t).1) (r := r) (by rw [← h2])
 obtain ⟨a, b, c, d, e', f, hb⟩ := list6 hx
 rw [hb] at h1 e
 rw [← h1, Qjr]
 exact e
theorem Qfd (n : Int) (r : List UInt8) (h0 : 0 ≤ n) (h1 : n < 281474976710656) : numT 6 (timeL n ++ r, false) = (n, (r, false)) := by
 unfold numT
 rw [Qd3 (n := 6) (timeL n) r rfl]
 simp only [QjN n h0 h1]
theorem num1 {t : Tk} (h : (numT 1 t).2.2 = false) : t = (byteL (numT 1 t).1 :: (numT 1 t).2.1, false) ∧ 0 ≤ (numT 1 t).1 ∧ (numT 1 t).1 < 256 := Qli (by rw [← h])
theorem num6 {t : Tk} (h : (numT 6 t).2.2 = false) : t = (timeL (numT 6 t).1 ++ (numT 6 t).2.1, false) := Qlh (by rw [← h])
theorem text1 {n : Nat} {t : Tk} (h : (textT n t).2.2 = false) : t = ((textT n t).1 ++ (textT n t).2.1, false) ∧ (textT n t).1.length = n := QdO (by rw [← h])
theorem QM {t : Tk} {x : List UInt8} (h : t = (x, false)) : t.2 = false := by rw [h]
theorem levs {n : Nat} {t : Tk} (h : (iterN levStep n ([], t)).2.2 = false) : t = (levelsL (iterN levStep n ([], t)).1 ++ (iterN levStep n ([], t)).2.1, false) ∧ (iterN levStep n ([], t)).1.length = n := by
 induction n with
 | zero => exact ⟨by simp only [iterN] at h ⊢; rw [← h]; rfl, rfl⟩
 | succ n ih =>
  simp only [iterN] at h ⊢
  generalize iterN levStep n ([], t) = s at h ih ⊢
  obtain ⟨l, t1⟩ := s
  simp only [levStep] at h ⊢
  obtain ⟨e2, _, _⟩ := num1 h
  obtain ⟨e1, _, _⟩ := num1 (QM e2)
  obtain ⟨e0, hl⟩ := ih (QM e1)
  simp only at e0 e1 e2 hl
  refine ⟨?_, by simp [hl]⟩
  rw [e0]
  have f1 := congrArg Prod.fst e1
  have f2 := congrArg Prod.fst e2
  simp only at f1 f2
  rw [f1, f2]
  simp [levelsL]
theorem grs {n : Nat} {t : Tk} (h : (iterN grStep n ([], t)).2.2 = false) : t = ((iterN grStep n ([], t)).1.map byteL ++ (iterN grStep n ([], t)).2.1, false) ∧ (iterN grStep n ([], t)).1.length = n := by
 induction n with
 | zero => exact ⟨by simp only [iterN] at h ⊢; rw [← h]; rfl, rfl⟩
 | succ n ih =>
  simp only [iterN] at h ⊢
  generalize iterN grStep n ([], t) = s at h ih ⊢
  obtain ⟨l, t1⟩ := s
  simp only [grStep] at h ⊢
  obtain ⟨e1, _, _⟩ := num1 h
  obtain ⟨e0, hl⟩ := ih (QM e1)
  simp only at e0 e1 hl
  refine ⟨?_, by simp [hl]⟩
  rw [e0]
  have f1 := congrArg Prod.fst e1
  simp only at f1
  rw [f1]
  simp
theorem crt1 {t : Tk} (h : (crtT t).2.2 = false) : t = (certL (crtT t).1 ++ (crtT t).2.1, false) := by
 simp only [crtT] at h ⊢
 have e4 := num6 h
 obtain ⟨e3, _, _⟩ := num1 (QM e4)
 obtain ⟨e2, _, _⟩ := num1 (QM e3)
 obtain ⟨e1, _, _⟩ := num1 (QM e2)
 have f4 := congrArg Prod.fst e4
 have f3 := congrArg Prod.fst e3
 have f2 := congrArg Prod.fst e2
 have f1 := congrArg Prod.fst e1
 simp only at f1 f2 f3 f4
 rw [Prod.ext_iff]
 refine ⟨?_, QM e1⟩
 simp only [certL]
 rw [f1, f2, f3]
 simp only [List.cons_append, List.nil_append, ← f4]
theorem crs {n : Nat} {t : Tk} (h : (iterN crStep n ([], t)).2.2 = false) : t = ((iterN crStep n ([], t)).1.flatMap certL ++ (iterN crStep n ([], t)).2.1, false) ∧ (iterN crStep n ([], t)).1.length = n := by
 induction n with
 | zero => exact ⟨by simp only [iterN] at h ⊢; rw [← h]; rfl, rfl⟩
 | succ n ih =>
  simp only [iterN] at h ⊢
  generalize iterN crStep n ([], t) = s at h ih ⊢
  obtain ⟨l, t1⟩ := s
  simp only [crStep] at h ⊢
  have e1 := crt1 h
  obtain ⟨e0, hl⟩ := ih (QM e1)
  simp only at e0 e1 hl
  refine ⟨?_, by simp [hl]⟩
  rw [e0]
  have f1 := congrArg Prod.fst e1
  simp only at f1
  rw [f1]
  simp
theorem counted {t : Tk} (h : (numT 1 t).2.2 = false) (n : Nat) (hn : n = (numT 1 t).1.toNat) : t = (byteL n :: (numT 1 t).2.1, false) := by
 obtain ⟨e, h0, h1⟩ := num1 h
 subst hn
 rw [show (((numT 1 t).1.toNat : Nat) : Int) = (numT 1 t).1 by omega]
 exact e
theorem lab1 {t : Tk} (h : (labT t).2.2 = false) : t = (byteL (labT t).1.length :: levelsL (labT t).1 ++ (labT t).2.1, false) := by
 unfold labT at h ⊢
 obtain ⟨e, hl⟩ := levs h
 have e1 := counted (QM e) _ hl
 have f := congrArg Prod.fst e
 simp only at f
 rw [List.cons_append, ← f]
 exact e1
theorem gr1 {t : Tk} (h : (grT t).2.2 = false) : t = (byteL (grT t).1.length :: (grT t).1.map byteL ++ (grT t).2.1, false) := by
 unfold grT at h ⊢
 obtain ⟨e, hl⟩ := grs h
 have e1 := counted (QM e) _ hl
 have f := congrArg Prod.fst e
 simp only at f
 rw [List.cons_append, ← f]
 exact e1
theorem tx1 {t : Tk} (h : (txT t).2.2 = false) : t = (byteL (txT t).1.length :: (txT t).1 ++ (txT t).2.1, false) := by
 unfold txT at h ⊢
 obtain ⟨e, hl⟩ := text1 h
 have e1 := counted (QM e) _ hl
 have f := congrArg Prod.fst e
 simp only at f
 rw [List.cons_append, ← f]
 exact e1
theorem certs1 {t : Tk} (h : (certsT t).2.2 = false) : t = (certsL (certsT t).1 ++ (certsT t).2.1, false) := by
 unfold certsT at h ⊢
 obtain ⟨e, hl⟩ := crs h
 have e1 := counted (QM e) _ hl
 have f := congrArg Prod.fst e
 simp only at f
 simp only [certsL, List.cons_append, List.nil_append]
 rw [← f]
 exact e1
theorem Qh7 {t t1 t2 t3 t4 : Tk} {n : Int} {l : List (Int × Int)} {g : List Int} {x : List UInt8} (fr : Int) (e1 : t = (byteL n :: t1.1, false)) (e2 : t1 = (byteL l.length :: levelsL l ++ t2.1, false))
 (e3 : t2 = (byteL g.length :: g.map byteL ++ t3.1, false)) (e4 : t3 = (byteL x.length :: x ++ t4.1, false)) : t = (mailL ⟨fr, n, l, g, x⟩ ++ t4.1, false) := by
 subst e4
 subst e3
 subst e2
 subst e1
 simp [mailL]
theorem mail1 {fr : Int} {t : Tk} (h : (mailT fr t).2.2 = false) : t = (mailL (mailT fr t).1 ++ (mailT fr t).2.1, false) := by
 simp only [mailT] at h ⊢
 generalize hA : numT 1 t = A at h ⊢
 generalize hB : labT A.2 = B at h ⊢
 generalize hC : grT B.2 = C at h ⊢
 generalize hD : txT C.2 = D at h ⊢
 have e4 := tx1 (t := C.2) (by rw [hD]; exact h)
 rw [hD] at e4
 have e3 := gr1 (t := B.2) (by rw [hC]; exact QM e4)
 rw [hC] at e3
 have e2 := lab1 (t := A.2) (by rw [hB]; exact QM e3)
 rw [hB] at e2
 obtain ⟨e1, _, _⟩ := num1 (t := t) (by rw [hA]; exact QM e2)
 rw [hA] at e1
 exact Qh7 fr e1 e2 e3 e4
theorem head1 {t : Tk} (h : (headT t).2.2 = false) : t = ([byteL (headT t).1.1, byteL (headT t).1.2.1, byteL (headT t).1.2.2.1] ++ timeL (headT t).1.2.2.2 ++ (headT t).2.1, false) ∧ 0 ≤ (headT t).1.1 := by
 simp only [headT] at h ⊢
 have e4 := num6 h
 obtain ⟨e3, _, _⟩ := num1 (QM e4)
 obtain ⟨e2, _, _⟩ := num1 (QM e3)
 obtain ⟨e1, h0, _⟩ := num1 (QM e2)
 have f4 := congrArg Prod.fst e4
 have f3 := congrArg Prod.fst e3
 have f2 := congrArg Prod.fst e2
 have f1 := congrArg Prod.fst e1
 simp only at f1 f2 f3 f4
 refine ⟨?_, h0⟩
 rw [Prod.ext_iff]
 refine ⟨?_, QM e1⟩
 simp only
 rw [f1, f2, f3]
 simp only [List.cons_append, List.nil_append, ← f4]
theorem Qia {t t1 t2 t3 t4 : Tk} {fr to seq n : Int} {m : Mal} {cs : List Crt} (e1 : t = ([byteL 0, byteL fr, byteL to] ++ timeL seq ++ t1.1, false)) (e2 : t1 = (byteL n :: t2.1, false))
 (e3 : t2 = (mailL m ++ t3.1, false)) (e4 : t3 = (certsL cs ++ t4.1, false)) : t = (encL ⟨fr, to, seq, false, n, m, cs⟩ ++ t4.1, false) := by
 subst e4
 subst e3
 subst e2
 subst e1
 simp [encL, headL]
theorem frame1 {t : Tk} (h : (frameT t).2.2 = false) : t = (encL (frameT t).1 ++ (frameT t).2.1, false) := by
 unfold frameT at h ⊢
 by_cases h1 : (headT t).1.1 = 1
 · rw [if_pos h1] at h ⊢
   obtain ⟨e, _⟩ := head1 h
   rw [h1] at e
   simp only [encL, headL, if_true]
   exact e
 · rw [if_neg h1] at h ⊢
   by_cases h0 : (headT t).1.1 = 0
   · rw [if_pos h0] at h ⊢
     simp only [loadT] at h ⊢
     have e4 := certs1 h
     have e3 := mail1 (QM e4)
     obtain ⟨e2, _, _⟩ := num1 (QM e3)
     obtain ⟨e1, _⟩ := head1 (QM e2)
     rw [h0] at e1
     exact Qia e1 e2 e3 e4
   · rw [if_neg h0] at h
     simp at h
structure Snt where
 f : Frm
 tries : Int
 due : Int
structure Lne where
 next : Int
 sent : List Snt
 high : Int
 seen : List Bool
def zeroLne : Lne := ⟨0, [], 0, [false, false, false, false, false, false, false, false]⟩
def triesB (s : Snt) : Bool := decide (1 ≤ s.tries ∧ s.tries ≤ 5 ∧ 0 ≤ s.due ∧ s.due ≤ 2199023255552)
def sentB (next : Int) (s : Snt) : Bool := decide (s.f.seq ≤ next) && triesB s
def rises (next : Int) : Int → List Snt → Bool
 | _, [] => true
 | n, s :: r => decide (n < s.f.seq) && sentB next s && rises next s.f.seq r
def headLn (l : Lne) : Bool := decide (0 ≤ l.next ∧ l.next < 1099511627776 ∧ 0 ≤ l.high ∧ l.high ≤ 1099511627776 ∧ l.sent.length ≤ 8)
def goodLn (l : Lne) : Bool := headLn l && rises l.next 0 l.sent
def shiftL (n : Nat) (s : List Bool) : List Bool := (List.replicate (min n 8) false ++ s).take 8
def takeLn (l : Lne) (q : Int) : Lne × Int :=
 if goodLn l && decide (1 ≤ q ∧ q ≤ 1099511627776) then
  if q ≤ l.high - 8 then (l, 11)
  else if l.high < q then ({ l with high := q, seen := (shiftL (q - l.high).toNat l.seen).set 0 true }, 0)
  else if l.seen[(l.high - q).toNat]? = some true then (l, 10)
  else ({ l with seen := l.seen.set (l.high - q).toNat true }, 0)
 else (l, 2)
def sendLn (l : Lne) (f : Frm) (now : Int) : Lne × Frm × Int :=
 if goodLn l && timeB now then
  if l.sent.length = 8 ∨ l.next = 1099511627775 then (l, zeroFrm, 5)
  else ({ l with next := l.next + 1, sent := l.sent ++ [⟨{ f with seq := l.next + 1 }, 1, now + 2⟩] }, { f with seq := l.next + 1 }, 0)
 else (l, zeroFrm, 2)
def ansLn (l : Lne) (q : Int) : Lne × Int :=
 if goodLn l then
  if l.sent.all (fun s => !(s.f.seq == q)) then (l, 4)
  else ({ l with sent := l.sent.filter (fun s => !(s.f.seq == q)) }, 0)
 else (l, 2)
def againS (now : Int) (s : Snt) : List Snt := if now < s.due then [s] else if s.tries = 5 then [] else [{ s with tries := s.tries + 1, due := now + 2 ^ (s.tries + 1).toNat }]
def againF (now : Int) (s : Snt) : List Frm := if now < s.due then [] else if s.tries = 5 then [] else [s.f]
def againLn (l : Lne) (now : Int) : Lne × List Frm × Int :=
 if goodLn l && timeB now then ({ l with sent := l.sent.flatMap (againS now) }, l.sent.flatMap (againF now), 0) else (l, [], 2)
theorem QhU (next n : Int) (l : List Snt) (k : Nat) (hk : k < l.length) : rises next n (l.drop k) = (decide (n < (l[k]).f.seq) && sentB next l[k] && rises next (l[k]).f.seq (l.drop (k + 1))) := by
 rw [List.drop_eq_getElem_cons hk]
 rfl
theorem Q5 (l : Lne) : headLn l = true ↔ 0 ≤ l.next ∧ l.next < 1099511627776 ∧ 0 ≤ l.high ∧ l.high ≤ 1099511627776 ∧ l.sent.length ≤ 8 := by simp [headLn]
theorem Qaw {l : Lne} (h : goodLn l = true) : headLn l = true := by
 unfold goodLn at h
 simp only [Bool.and_eq_true] at h
 exact h.1
theorem QaB {l : Lne} (h : goodLn l = true) : rises l.next 0 l.sent = true := by
 unfold goodLn at h
 simp only [Bool.and_eq_true] at h
 exact h.2
theorem QaU {next : Int} : ∀ {l : List Snt} {n : Int}, rises next n l = true → ∀ s ∈ l, n < s.f.seq ∧ s.f.seq ≤ next ∧ triesB s = true
 | [], _, _, s, h => by cases h
 | x :: r, n, h, s, hs => by
  simp only [rises, sentB, Bool.and_eq_true, decide_eq_true_eq] at h
  rcases List.mem_cons.1 hs with rfl | hm
  · exact ⟨h.1.1, h.1.2.1, h.1.2.2⟩
  · have := QaU h.2 s hm
    exact ⟨by omega, this.2⟩
theorem QjD {next : Int} : ∀ {l : List Snt} {n m : Int}, rises next n l = true → m ≤ n → rises next m l = true
 | [], _, _, _, _ => rfl
 | x :: r, n, m, h, hm => by
  simp only [rises, Bool.and_eq_true, decide_eq_true_eq] at h ⊢
  exact ⟨⟨by omega, h.1.2⟩, h.2⟩
theorem Qd9 {next : Int} : ∀ {l : List Snt} {n : Int} (_ : rises next n l = true) (i : Nat) (hi : i < l.length), l.filter (fun s => !(s.f.seq == (l[i]).f.seq)) = l.take i ++ l.drop (i + 1)
 | x :: r, n, h, 0, _ => by
  simp only [rises, Bool.and_eq_true] at h
  have hm := QaU h.2
  rw [List.filter_cons]
  simp only [List.getElem_cons_zero, beq_self_eq_true, Bool.not_true, Bool.false_eq_true, if_false, List.take_zero, List.nil_append, List.drop_succ_cons, List.drop_zero]
  rw [List.filter_eq_self]
  intro s hs
  have := (hm s hs).1
  simp
  omega
 | x :: r, n, h, i + 1, hi => by
  simp only [rises, Bool.and_eq_true] at h
  have hm := QaU h.2
  have hir : i < r.length := by simpa using hi
  have hne := (hm r[i] (List.getElem_mem hir)).1
  rw [List.filter_cons]
  simp only [List.getElem_cons_succ]
  rw [if_pos (by simp; omega), Qd9 h.2 i hir]
  simp
theorem Qdl {next now : Int} (h0 : 0 ≤ now) (h1 : now ≤ 1099511627776) : ∀ {l : List Snt} {n : Int}, rises next n l = true → rises next n (l.flatMap (againS now)) = true
 | [], _, _ => rfl
 | x :: r, n, h => by
  simp only [rises, Bool.and_eq_true, decide_eq_true_eq] at h
  have ih := Qdl (now := now) h0 h1 h.2
  obtain ⟨⟨h2, h3⟩, h4⟩ := h
  rw [List.flatMap_cons]
  by_cases hd : now < x.due
  · rw [show againS now x = [x] by unfold againS; rw [if_pos hd]]
    simp only [List.singleton_append, rises, Bool.and_eq_true, decide_eq_true_eq]
    exact ⟨⟨h2, h3⟩, ih⟩
  · by_cases ht : x.tries = 5
    · rw [show againS now x = [] by unfold againS; rw [if_neg hd, if_pos ht]]
      exact QjD ih (by omega)
    · rw [show againS now x = [{ x with tries := x.tries + 1, due := now + 2 ^ (x.tries + 1).toNat }] by unfold againS; rw [if_neg hd, if_neg ht]]
      simp only [sentB, triesB, Bool.and_eq_true, decide_eq_true_eq] at h3
      have hp : (2 : Int) ^ (x.tries + 1).toNat ≤ 32 ∧ (0 : Int) ≤ 2 ^ (x.tries + 1).toNat := by
       have h : x.tries = 1 ∨ x.tries = 2 ∨ x.tries = 3 ∨ x.tries = 4 := by omega
       rcases h with e | e | e | e <;> rw [e] <;> decide
      simp only [List.singleton_append, rises, sentB, triesB, Bool.and_eq_true, decide_eq_true_eq]
      exact ⟨⟨h2, h3.1, by omega, by omega, by omega, by omega⟩, ih⟩
theorem QbB (now : Int) : ∀ l : List Snt, (l.flatMap (againS now)).length ≤ l.length
 | [] => Nat.le_refl _
 | x :: r => by
  have ih := QbB now r
  have hx : (againS now x).length ≤ 1 := by
   unfold againS
   split
   · simp
   · split <;> simp
  simp only [List.flatMap_cons, List.length_append, List.length_cons]
  omega
theorem Qb4 (l : Lne) (q : Int) (h : goodLn l = true) : goodLn (takeLn l q).1 = true := by
 have hh := Qaw h
 have hr := QaB h
 rw [Q5] at hh
 unfold takeLn
 split
 · rename_i hg
   simp only [Bool.and_eq_true, decide_eq_true_eq] at hg
   split
   · exact h
   · split
     · unfold goodLn
       rw [Bool.and_eq_true, Q5]
       exact ⟨⟨hh.1, hh.2.1, by show 0 ≤ q; omega, by show q ≤ _; omega, hh.2.2.2.2⟩, hr⟩
     · split
       · exact h
       · exact h
 · exact h
theorem Qk2 (l : Lne) (q : Int) (h : goodLn l = false) : takeLn l q = (l, 2) := by
 unfold takeLn
 rw [h]
 rfl
theorem Qcf {s : List Bool} (hs : s.length = 8) (n : Nat) : (shiftL n s).length = 8 := by
 simp only [shiftL, List.length_take, List.length_append, List.length_replicate, hs]
 omega
theorem take_length (l : Lne) (q : Int) (h : l.seen.length = 8) : (takeLn l q).1.seen.length = 8 := by
 unfold takeLn
 split
 · split
   · exact h
   · split
     · simp [Qcf h]
     · split
       · exact h
       · simpa using h
 · exact h
theorem Qcn {s : List Bool} (n k : Nat) (hk : k < 8) : (shiftL n s)[k]? = if k < n then some false else s[k - n]? := by
 unfold shiftL
 rw [List.getElem?_take, if_pos hk]
 by_cases h : k < n
 · rw [if_pos h, List.getElem?_append_left (by simp; omega), List.getElem?_replicate, if_pos (by omega)]
 · rw [if_neg h, List.getElem?_append_right (by simp; omega), List.length_replicate, show min n 8 = n by omega]
def Came (l : Lne) (s : Int) : Prop := s ≤ l.high ∧ (s ≤ l.high - 8 ∨ l.seen[(l.high - s).toNat]? = some true)
theorem Qb0 {l : Lne} {q : Int} (h8 : l.seen.length = 8) (h : (takeLn l q).2 = 0) : ¬ Came l q ∧ q ≤ (takeLn l q).1.high ∧ Came (takeLn l q).1 q := by
 unfold takeLn at h ⊢
 split at h
 · rename_i hg
   rw [if_pos hg]
   split at h
   · cases h
   · rename_i ho
     rw [if_neg ho]
     split at h
     · rename_i hh
       rw [if_pos hh]
       refine ⟨fun hc => ?_, Int.le_refl _, Int.le_refl _, Or.inr ?_⟩
       · unfold Came at hc; omega
       · simp [Qcf h8]
     · rename_i hh
       rw [if_neg hh]
       split at h
       · cases h
       · rename_i hs
         rw [if_neg hs]
         refine ⟨fun hc => ?_, by show q ≤ l.high; omega, by show q ≤ l.high; omega, Or.inr ?_⟩
         · rcases hc.2 with h1 | h1
           · exact ho h1
           · exact hs h1
         · show (l.seen.set (l.high - q).toNat true)[(l.high - q).toNat]? = some true
           rw [List.getElem?_set_self (by omega)]
 · cases h
theorem QcZ {l : Lne} {q s : Int} (h8 : l.seen.length = 8) (h : Came l s) : Came (takeLn l q).1 s := by
 unfold takeLn
 split
 · rename_i hg
   split
   · exact h
   · rename_i ho
     split
     · rename_i hh
       refine ⟨by show s ≤ q; have := h.1; omega, ?_⟩
       show s ≤ q - 8 ∨ ((shiftL (q - l.high).toNat l.seen).set 0 true)[(q - s).toNat]? = some true
       by_cases hs : s ≤ q - 8
       · exact Or.inl hs
       · right
         rcases h with ⟨h1, h2⟩
         rw [List.getElem?_set_ne (by omega), Qcn _ _ (by omega), if_neg (by omega)]
         rcases h2 with h2 | h2
         · omega
         · rw [← h2]
           congr 1
           omega
     · split
       · exact h
       · rename_i hs
         refine ⟨h.1, ?_⟩
         rcases h.2 with h2 | h2
         · exact Or.inl h2
         · right
           show (l.seen.set (l.high - q).toNat true)[(l.high - s).toNat]? = some true
           rw [List.getElem?_set]
           split
           · rw [if_pos (by omega)]
           · exact h2
 · exact h
theorem QbN {α : Type} (f : α → α) (n : Nat) (s : α) : iterN f (n + 1) s = iterN f n (f s) := by
 induction n with
 | zero => rfl
 | succ n ih =>
  show f (iterN f (n + 1) s) = f (iterN f n (f s))
  rw [ih]
theorem Qly (l : List (Int × Int)) (hl : ∀ x ∈ l, 0 ≤ x.1 ∧ x.1 < 80 ∧ 0 ≤ x.2 ∧ x.2 ≤ 3) (r : List UInt8) (acc : List (Int × Int)) : iterN levStep l.length (acc, (levelsL l ++ r, false)) = (acc ++ l, (r, false)) := by
 induction l generalizing acc with
 | nil => simp [iterN, levelsL]
 | cons x l ih =>
  obtain ⟨h1, h2, h3, h4⟩ := hl x (by simp)
  rw [List.length_cons, QbN]
  have e : levStep (acc, (levelsL (x :: l) ++ r, false)) = (acc ++ [x], (levelsL l ++ r, false)) := by
   have e0 : levelsL (x :: l) ++ r = byteL x.1 :: byteL x.2 :: (levelsL l ++ r) := by simp [levelsL]
   unfold levStep
   rw [e0]
   simp only
   rw [Q7 x.1 _ h1 (by omega)]
   simp only
   rw [Q7 x.2 _ h3 (by omega)]
  rw [e, ih (fun y hy => hl y (by simp [hy]))]
  simp
theorem Qmr (l : List Int) (hl : ∀ x ∈ l, 0 ≤ x ∧ x < 80) (r : List UInt8) (acc : List Int) : iterN grStep l.length (acc, (l.map byteL ++ r, false)) = (acc ++ l, (r, false)) := by
 induction l generalizing acc with
 | nil => simp [iterN]
 | cons x l ih =>
  obtain ⟨h1, h2⟩ := hl x (by simp)
  rw [List.length_cons, QbN]
  have e : grStep (acc, ((x :: l).map byteL ++ r, false)) = (acc ++ [x], (l.map byteL ++ r, false)) := by
   unfold grStep
   simp only [List.map_cons, List.cons_append]
   rw [Q7 x _ h1 (by omega)]
  rw [e, ih (fun y hy => hl y (by simp [hy]))]
  simp
theorem Qc8 (h : Int) : hostB h = true ↔ 0 ≤ h ∧ h < 4 := by unfold hostB; exact decide_eq_true_iff
theorem QeZ (h : Int) : timeB h = true ↔ 0 ≤ h ∧ h ≤ 1099511627776 := by unfold timeB; exact decide_eq_true_iff
theorem QdY (h : Int) : catB h = true ↔ 0 ≤ h ∧ h < 80 := by unfold catB; exact decide_eq_true_iff
theorem Qky (x : Crt) : certB x = true ↔ (0 ≤ x.c ∧ x.c < 80) ∧ (0 ≤ x.b ∧ x.b < 4) ∧ (0 ≤ x.h ∧ x.h < 4) ∧ x.b ≠ x.h ∧ (0 ≤ x.u ∧ x.u ≤ 1099511627776) := by
 unfold certB twoB
 simp only [Bool.and_eq_true, Qc8, QeZ, QdY, Bool.not_eq_true', beq_eq_false_iff_ne]
 constructor
 · rintro ⟨⟨h1, ⟨h2, h3⟩, h4⟩, h5⟩
   exact ⟨h1, h2, h3, h4, h5⟩
 · rintro ⟨h1, h2, h3, h4, h5⟩
   exact ⟨⟨h1, ⟨h2, h3⟩, h4⟩, h5⟩
theorem Qmz (l : List Crt) (hl : ∀ x ∈ l, certB x = true) (r : List UInt8) (acc : List Crt) : iterN crStep l.length (acc, (l.flatMap certL ++ r, false)) = (acc ++ l, (r, false)) := by
 induction l generalizing acc with
 | nil => simp [iterN]
 | cons x l ih =>
  obtain ⟨h1, h2, h3, _, h5⟩ := (Qky x).1 (hl x (by simp))
  rw [List.length_cons, QbN]
  have e : crStep (acc, ((x :: l).flatMap certL ++ r, false)) = (acc ++ [x], (l.flatMap certL ++ r, false)) := by
   have e0 : (x :: l).flatMap certL ++ r = byteL x.c :: byteL x.b :: byteL x.h :: (timeL x.u ++ (l.flatMap certL ++ r)) := by simp [certL]
   unfold crStep crtT
   rw [e0]
   simp only
   rw [Q7 x.c _ h1.1 (by omega)]
   simp only
   rw [Q7 x.b _ h2.1 (by omega)]
   simp only
   rw [Q7 x.h _ h3.1 (by omega)]
   simp only
   rw [Qfd x.u _ h5.1 (by omega)]
  rw [e, ih (fun y hy => hl y (by simp [hy]))]
  simp
theorem Qb8 (n : Nat) (r : List UInt8) (h : n < 256) : numT 1 (byteL (n : Int) :: r, false) = ((n : Int), (r, false)) := Q7 n r (by omega) (by omega)
theorem Qmq (l : List (Int × Int)) (hn : l.length < 256) (hl : ∀ x ∈ l, 0 ≤ x.1 ∧ x.1 < 80 ∧ 0 ≤ x.2 ∧ x.2 ≤ 3) (r : List UInt8) : labT (byteL l.length :: (levelsL l ++ r), false) = (l, (r, false)) := by
 unfold labT
 rw [Qb8 _ _ hn]
 simp only [Int.toNat_natCast]
 rw [Qly l hl]
 simp
theorem QmL (l : List Int) (hn : l.length < 256) (hl : ∀ x ∈ l, 0 ≤ x ∧ x < 80) (r : List UInt8) : grT (byteL l.length :: (l.map byteL ++ r), false) = (l, (r, false)) := by
 unfold grT
 rw [Qb8 _ _ hn]
 simp only [Int.toNat_natCast]
 rw [Qmr l hl]
 simp
theorem QmH (x : List UInt8) (hn : x.length < 256) (r : List UInt8) : txT (byteL x.length :: (x ++ r), false) = (x, (r, false)) := by
 unfold txT
 rw [Qb8 _ _ hn]
 simp only [Int.toNat_natCast]
 rw [Qe1]
theorem Qkx (l : List Crt) (hn : l.length < 256) (hl : ∀ x ∈ l, certB x = true) (r : List UInt8) : certsT (certsL l ++ r, false) = (l, (r, false)) := by
 unfold certsT certsL
 rw [show [byteL (l.length : Int)] ++ l.flatMap certL ++ r = byteL (l.length : Int) :: (l.flatMap certL ++ r) by simp, Qb8 _ _ hn]
 simp only [Int.toNat_natCast]
 rw [Qmz l hl]
 simp
theorem QbP (l : List Int) : grantsB l = true ↔ l.length ≤ 8 ∧ (∀ x ∈ l, 0 ≤ x ∧ x < 80) ∧ l.Pairwise (· < ·) := by unfold grantsB; exact decide_eq_true_iff
theorem Qee {m : Mal} (h : mailE m = 0) : (0 ≤ m.host ∧ m.host < 4) ∧ (0 ≤ m.thread ∧ m.thread < 4) ∧ goodB m.label = true ∧ grantsB m.grants = true ∧ m.text.length ≤ 64 := by
 unfold mailE at h
 split at h
 · rename_i h1
   simp only [Bool.and_eq_true, Qc8] at h1
   split at h
   · exact ⟨h1.1.1.1, h1.1.1.2, h1.1.2, h1.2, by assumption⟩
   · simp at h
 · simp at h
theorem Qln (m : Mal) (h : mailE m = 0) (r : List UInt8) : mailT m.host (mailL m ++ r, false) = (m, (r, false)) := by
 obtain ⟨h1, h2, h3, h4, h5⟩ := Qee h
 obtain ⟨g1, g2, _⟩ := of_decide_eq_true h3
 obtain ⟨k1, k2, _⟩ := (QbP _).1 h4
 have e : mailL m ++ r = byteL m.thread :: (byteL m.label.length :: (levelsL m.label ++ (byteL m.grants.length :: (m.grants.map byteL ++ (byteL m.text.length :: (m.text ++ r)))))) := by simp [mailL]
 rw [e]
 unfold mailT
 rw [Q7 _ _ h2.1 (by omega)]
 simp only
 rw [Qmq _ (by omega) (fun x hx => ⟨(g2 x hx).1, (g2 x hx).2.1, (g2 x hx).2.2.1, (g2 x hx).2.2.2.1⟩)]
 simp only
 rw [QmL _ (by omega) k2]
 simp only
 rw [QmH _ (by omega)]
theorem Qfj (f : Frm) : headB f = true ↔ (0 ≤ f.fr ∧ f.fr < 4) ∧ (0 ≤ f.to ∧ f.to < 4) ∧ f.fr ≠ f.to ∧ f.seq ≠ 0 ∧ (0 ≤ f.seq ∧ f.seq ≤ 1099511627776) ∧ (0 ≤ f.thread ∧ f.thread < 4) := by
 unfold headB twoB
 simp only [Bool.and_eq_true, Qc8, QeZ, Bool.not_eq_true', beq_eq_false_iff_ne]
 constructor
 · rintro ⟨⟨⟨⟨⟨h1, h2⟩, h3⟩, h4⟩, h5⟩, h6⟩
   exact ⟨h1, h2, h3, h4, h5, h6⟩
 · rintro ⟨h1, h2, h3, h4, h5, h6⟩
   exact ⟨⟨⟨⟨⟨h1, h2⟩, h3⟩, h4⟩, h5⟩, h6⟩
theorem Qf2 {f : Frm} (h : answerE f = 0) : f.thread = 0 ∧ f.mail = zeroMal ∧ f.certs = [] := by
 unfold answerE at h
 split at h
 · rename_i h1
   obtain ⟨fr, to, seq, ack, th, ⟨mh, mt, ml, mg, mx⟩, cs⟩ := f
   simp only [emptyB, Bool.and_eq_true, beq_iff_eq, List.isEmpty_iff] at h1
   obtain ⟨⟨rfl, ⟨⟨⟨rfl, rfl⟩, rfl⟩, rfl⟩, rfl⟩, rfl⟩ := h1
   exact ⟨rfl, rfl, rfl⟩
 · simp at h
theorem Qdw {l : List Crt} (h : certsE l = 0) : l.length ≤ 24 ∧ ∀ x ∈ l, certB x = true := by
 unfold certsE at h
 split at h
 · split at h
   · rename_i h1 h2
     exact ⟨h1, List.all_eq_true.1 h2⟩
   · simp at h
 · simp at h
theorem Qef {f : Frm} (h : loadE f = 0) : mailE f.mail = 0 ∧ f.mail.host = f.fr ∧ certsE f.certs = 0 := by
 unfold loadE at h
 split at h
 · split at h
   · exact ⟨by assumption, by assumption, h⟩
   · simp at h
 · exact absurd h (by assumption)
theorem Qgk (k : Int) (f : Frm) (hk : 0 ≤ k ∧ k < 256) (h : headB f = true) (r : List UInt8) : headT (headL k f ++ r, false) = ((k, f.fr, f.to, f.seq), (r, false)) := by
 obtain ⟨h1, h2, _, _, h5, _⟩ := (Qfj f).1 h
 have e : headL k f ++ r = byteL k :: (byteL f.fr :: (byteL f.to :: (timeL f.seq ++ r))) := by simp [headL]
 rw [e]
 unfold headT
 rw [Q7 _ _ hk.1 hk.2]
 simp only
 rw [Q7 _ _ h1.1 (by omega)]
 simp only
 rw [Q7 _ _ h2.1 (by omega)]
 simp only
 rw [Qfd _ _ h5.1 (by omega)]
theorem Qkb (f : Frm) (h : frameE f = 0) (r : List UInt8) : frameT (encL f ++ r, false) = (f, (r, false)) := by
 unfold frameE at h
 split at h
 · rename_i hh
   have hb := (Qfj f).1 hh
   cases ha : f.ack with
   | true =>
    rw [ha, if_pos rfl] at h
    obtain ⟨h1, h2, h3⟩ := Qf2 h
    unfold encL
    rw [ha, if_pos rfl]
    unfold frameT
    rw [Qgk 1 f (by omega) hh]
    simp only [if_true]
    rw [← h1, ← h2, ← h3, ← ha]
   | false =>
    rw [ha, if_neg (by simp)] at h
    obtain ⟨h1, h2, h3⟩ := Qef h
    obtain ⟨k1, k2⟩ := Qdw h3
    unfold encL
    rw [ha, if_neg (by simp), List.append_assoc, List.append_assoc, List.append_assoc]
    unfold frameT
    rw [Qgk 0 f (by omega) hh]
    simp only [show ((0 : Int) = 1) = False by simp, if_false, if_true]
    unfold loadT
    simp only [List.cons_append, List.nil_append]
    rw [Q7 _ _ hb.2.2.2.2.2.1 (by omega)]
    simp only
    rw [← h2, Qln f.mail h1]
    simp only
    rw [Qkx f.certs (by omega) k2]
    rw [h2, ← ha]
 · simp at h
theorem back (f : Frm) (h : frameE f = 0) : decL (encL f) = (f, 0) := by
 have e := Qkb f h []
 rw [List.append_nil] at e
 unfold decL
 rw [e]
 simp [doneB, h]
theorem only {s : List UInt8} (h : (decL s).2 = 0) : encL (decL s).1 = s ∧ frameE (decL s).1 = 0 := by
 unfold decL at h ⊢
 by_cases hd : doneB (frameT (s, false)).2 = true
 · rw [if_pos hd] at h ⊢
   by_cases he : frameE (frameT (s, false)).1 = 0
   · rw [if_pos he]
     refine ⟨?_, he⟩
     simp only [doneB, Bool.and_eq_true, Bool.not_eq_true', List.isEmpty_iff] at hd
     have e := congrArg Prod.fst (frame1 hd.1)
     simp only [hd.2, List.append_nil] at e
     exact e.symm
   · rw [if_neg he] at h
     exact absurd h he
 · rw [if_neg hd] at h
   simp at h
def frontL (l : List (Int × Int)) (c : Int) : List (Int × Int) := l.filter fun x => decide (x.1 < c)
def behindL (l : List (Int × Int)) (c : Int) : List (Int × Int) := l.filter fun x => decide (c < x.1)
def newL (c n : Int) : List (Int × Int) := if n = 1 then [] else [(c, n)]
def setL (l : List (Int × Int)) (c n : Int) : List (Int × Int) := frontL l c ++ newL c n ++ behindL l c
theorem QhG {l : List (Int × Int)} {c : Int} {i : Nat} (h1 : ∀ m (_ : m < i) (hm : m < l.length), l[m].1 < c) (h2 : ∀ m (_ : i ≤ m) (hm : m < l.length), c ≤ l[m].1) : l.take i = frontL l c := by
 unfold frontL
 conv => rhs; rw [← List.take_append_drop i l]
 rw [List.filter_append, List.filter_eq_self.2, List.filter_eq_nil_iff.2]
 · simp
 · intro x hx
   obtain ⟨m, hm, e⟩ := List.mem_iff_getElem.1 hx
   rw [List.getElem_drop] at e
   have := h2 (i + m) (by omega) (by simp at hm; omega)
   subst e
   simpa using this
 · intro x hx
   obtain ⟨m, hm, e⟩ := List.mem_iff_getElem.1 hx
   rw [List.getElem_take] at e
   have := h1 m (by simp at hm; omega) (by simp at hm; omega)
   subst e
   simpa using this
theorem Qds {l : List (Int × Int)} {c : Int} {k : Nat} (h1 : ∀ m (_ : m < k) (hm : m < l.length), l[m].1 ≤ c) (h2 : ∀ m (_ : k ≤ m) (hm : m < l.length), c < l[m].1) : l.drop k = behindL l c := by
 unfold behindL
 conv => rhs; rw [← List.take_append_drop k l]
 rw [List.filter_append, List.filter_eq_nil_iff.2, List.filter_eq_self.2]
 · simp
 · intro x hx
   obtain ⟨m, hm, e⟩ := List.mem_iff_getElem.1 hx
   rw [List.getElem_drop] at e
   have := h2 (k + m) (by omega) (by simp at hm; omega)
   subst e
   simpa using this
 · intro x hx
   obtain ⟨m, hm, e⟩ := List.mem_iff_getElem.1 hx
   rw [List.getElem_take] at e
   have := h1 m (by simp at hm; omega) (by simp at hm; omega)
   subst e
   simpa using this
structure Spot (l : List (Int × Int)) (c : Int) (i : Nat) (f : Bool) : Prop where
 le : i ≤ l.length
 low : ∀ m (_ : m < i) (hm : m < l.length), l[m].1 < c
 high : ∀ m (_ : i ≤ m) (hm : m < l.length), c ≤ l[m].1
 yes : f = true → ∃ h : i < l.length, l[i].1 = c
 no : f = false → ∀ h : i < l.length, l[i].1 ≠ c
theorem Spot.front {l : List (Int × Int)} {c : Int} {i : Nat} {f : Bool} (s : Spot l c i f) : l.take i = frontL l c := QhG s.low s.high
theorem Spot.behind_yes {l : List (Int × Int)} {c : Int} {i : Nat} (s : Spot l c i true) (hr : l.Pairwise fun x y => x.1 < y.1) : l.drop (i + 1) = behindL l c := by
 obtain ⟨hi, e⟩ := s.yes rfl
 refine Qds (fun m h hm => ?_) (fun m h hm => ?_)
 · by_cases hmi : m = i
   · subst hmi; omega
   · have := s.low m (by omega) hm; omega
 · have := (List.pairwise_iff_getElem.1 hr) i m hi hm (by omega)
   omega
theorem Spot.behind_no {l : List (Int × Int)} {c : Int} {i : Nat} (s : Spot l c i false) (hr : l.Pairwise fun x y => x.1 < y.1) : l.drop i = behindL l c := by
 refine Qds (fun m h hm => ?_) (fun m h hm => ?_)
 · have := s.low m h hm; omega
 · by_cases hmi : m = i
   · subst hmi
     have h1 := s.high m (Nat.le_refl _) hm
     have h2 := s.no rfl hm
     omega
   · have h1 := s.high i (Nat.le_refl _) (by omega)
     have := (List.pairwise_iff_getElem.1 hr) i m (by omega) hm (by omega)
     omega
theorem QhO {l : List (Int × Int)} (hr : l.Pairwise fun x y => x.1 < y.1) (c n : Int) : (setL l c n).Pairwise fun x y => x.1 < y.1 := by
 unfold setL
 have hf : ∀ x ∈ frontL l c, x.1 < c := fun x hx => by have := (List.mem_filter.1 hx).2; simpa using this
 have hb : ∀ x ∈ behindL l c, c < x.1 := fun x hx => by have := (List.mem_filter.1 hx).2; simpa using this
 have hn : ∀ x ∈ newL c n, x.1 = c := fun x hx => by
  unfold newL at hx
  by_cases h : n = 1
  · simp [h] at hx
  · simp only [h, if_false, List.mem_singleton] at hx; rw [hx]
 refine List.pairwise_append.2 ⟨List.pairwise_append.2 ⟨hr.filter _, ?_, ?_⟩, hr.filter _, ?_⟩
 · unfold newL; split <;> simp
 · intro x hx y hy; have := hf x hx; have := hn y hy; omega
 · intro x hx y hy
   have := hb y hy
   rcases List.mem_append.1 hx with hx | hx
   · have := hf x hx; omega
   · have := hn x hx; omega
theorem Qj4 {l : List (Int × Int)} (h : goodL l) {c n : Int} (hc : catB c = true) (hn : bndB n = true) (h8 : (setL l c n).length ≤ 8) : goodL (setL l c n) := by
 have hc' : 0 ≤ c ∧ c < 80 := of_decide_eq_true hc
 have hn' : 0 ≤ n ∧ n ≤ 3 := of_decide_eq_true hn
 refine ⟨h8, fun x hx => ?_, QhO h.2.2 c n⟩
 unfold setL at hx
 rcases List.mem_append.1 hx with hx | hx
 · rcases List.mem_append.1 hx with hx | hx
   · exact h.2.1 x (List.mem_filter.1 hx).1
   · unfold newL at hx
     by_cases e : n = 1
     · simp [e] at hx
     · simp only [e, if_false, List.mem_singleton] at hx; rw [hx]; exact ⟨hc'.1, hc'.2, hn'.1, hn'.2, e⟩
 · exact h.2.1 x (List.mem_filter.1 hx).1
theorem QeP (l : List (Int × Int)) (c : Int) : (frontL l c).length ≤ l.length := List.length_filter_le _ _
theorem QeK (l : List (Int × Int)) (c : Int) : (behindL l c).length ≤ l.length := List.length_filter_le _ _
theorem QgD (c n : Int) : (newL c n).length ≤ 1 := by unfold newL; split <;> simp
def setB (l : List (Int × Int)) (c n : Int) : Bool := goodB l && catB c && bndB n
def setE (l : List (Int × Int)) (c n : Int) : Int := if setB l c n = false then 2 else if 8 < (setL l c n).length then 5 else 0
structure Obt where
 label : List (Int × Int)
 text : List UInt8
structure Thr where
 label : List (Int × Int)
 own : List Int
 text : List UInt8
 objs : List Obt
 mails : List Mal
structure Ker where
 host : Int
 made : Int
 ths : List Thr
structure Cal where
 kind : Int
 h : Int
 t : Int
 n : Int
 c : Int
 label : List (Int × Int)
 grants : List Int
 text : List UInt8
structure Rep where
 code : Int
 n : Int
 text : List UInt8
def zeroThr : Thr := ⟨[], [], [], [], []⟩
def freshKer (h : Int) : Ker := ⟨h, 0, [zeroThr, zeroThr, zeroThr, zeroThr]⟩
def code (e : Int) : Rep := ⟨e, 0, []⟩
def lastL (x : List UInt8) : List UInt8 := x.drop (x.length - 64)
theorem Qbp (x : List UInt8) : (lastL x).length ≤ 64 := by unfold lastL; rw [List.length_drop]; omega
theorem QbM {x : List UInt8} (h : x.length ≤ 64) : lastL x = x := by unfold lastL; rw [show x.length - 64 = 0 by omega]; rfl
def insL (l : List Int) (c : Int) : List Int := l.take (l.countP (· < c)) ++ c :: l.drop (l.countP (· < c))
def ownL (l : List Int) (c : Int) : Int × List Int := if l.contains c then (0, l) else if 8 ≤ l.length then (5, l) else (0, insL l c)
def mayL (th : Thr) (m : Mal) : Int := if mailE m = 0 then (if m.grants.all (th.own.contains ·) then (if flowsL th.label m.label th.own then 0 else 6) else 7) else mailE m
def getT (K : Ker) (t : Int) : Option Thr := if 0 ≤ t then K.ths[t.toNat]? else none
def setT (K : Ker) (t : Int) (th : Thr) : Ker := { K with ths := K.ths.set t.toNat th }
def letterM (K : Ker) (t : Int) (c : Cal) (th : Thr) : Mal := ⟨K.host, t, c.label, c.grants, lastL (th.text ++ c.text)⟩
def letterL (K : Ker) (t : Int) (c : Cal) : Mal × Int :=
 match getT K t with
 | none => (zeroMal, 4)
 | some th => if mayL th (letterM K t c th) = 0 then (letterM K t c th, 0) else (zeroMal, mayL th (letterM K t c th))
def boxL (th : Thr) (m : Mal) : Thr := if mailE m = 0 ∧ flowsL m.label th.label th.own = true ∧ th.mails.length < 6 then { th with mails := th.mails ++ [m] } else th
def deliverL (K : Ker) (t : Int) (m : Mal) : Ker :=
 match getT K t with
 | none => K
 | some th => setT K t (boxL th m)
def grantL : List Int → List Int → List Int
 | [], o => o
 | c :: r, o => if (ownL o c).1 = 0 then grantL r (ownL o c).2 else o
def readL (th : Thr) (m : Mal) : Thr := { th with text := lastL (th.text ++ m.text), own := grantL m.grants th.own }
def takeL (th : Thr) : List Mal → Thr × Rep
 | [] => ({ th with mails := [] }, code 4)
 | m :: r => if flowsL m.label th.label th.own then ({ readL th m with mails := r }, ⟨0, m.host * 4 + m.thread, []⟩) else takeL th r
def objectL (th : Thr) (l : List (Int × Int)) : Thr × Rep :=
 if goodB l then (if flowsL th.label l th.own then (if 4 ≤ th.objs.length then (th, code 5) else ({ th with objs := th.objs ++ [⟨l, []⟩] }, ⟨0, (th.objs.length : Int), []⟩)) else (th, code 6)) else (th, code 2)
def levelL (th : Thr) (c n : Int) : Thr × Int :=
 if setE th.label c n = 0 then (if flowsL th.label (setL th.label c n) th.own then ({ th with label := setL th.label c n }, 0) else (th, 6)) else (th, setE th.label c n)
def objAt (K : Ker) (t n : Int) : Option Obt :=
 match getT K t with
 | none => none
 | some th => if 0 ≤ n then th.objs[n.toNat]? else none
def putO (th : Thr) (n : Int) (x : List UInt8) : Thr := { th with objs := th.objs.modify n.toNat fun o => { o with text := x } }
def putL (K : Ker) (th : Thr) (c : Cal) : Ker :=
 match getT K c.t, objAt K c.t c.n with
 | some u, some o => if flowsL th.label o.label th.own then setT K c.t (putO u c.n (lastL (th.text ++ c.text))) else K
 | _, _ => K
def getL (K : Ker) (t : Int) (th : Thr) (c : Cal) : Ker × Rep :=
 match objAt K c.t c.n with
 | none => (K, code 4)
 | some o => if flowsL o.label th.label th.own then (setT K t { th with text := lastL (th.text ++ o.text) }, ⟨0, (o.text.length : Int), []⟩) else (K, code 4)
def categoryL (K : Ker) (t : Int) (th : Thr) : Ker × Rep :=
 if 20 ≤ K.made then (K, code 5)
 else if (ownL th.own (K.host * 20 + K.made)).1 = 0 then ({ setT K t { th with own := (ownL th.own (K.host * 20 + K.made)).2 } with made := K.made + 1 }, ⟨0, K.host * 20 + K.made, []⟩)
 else (K, code (ownL th.own (K.host * 20 + K.made)).1)
def callT (K : Ker) (t : Int) (th : Thr) (c : Cal) : Ker × Rep :=
 if 64 < c.text.length then (K, code 9)
 else if c.kind = 1 then categoryL K t th
 else if c.kind = 2 then (setT K t (objectL th c.label).1, (objectL th c.label).2)
 else if c.kind = 3 then (putL K th c, code 0)
 else if c.kind = 4 then getL K t th c
 else if c.kind = 5 then (setT K t (levelL th c.c c.n).1, code (levelL th c.c c.n).2)
 else if c.kind = 7 then (setT K t (takeL th th.mails).1, (takeL th th.mails).2)
 else if c.kind = 9 then (setT K t { th with text := lastL c.text }, code 0)
 else if c.kind = 10 then (K, ⟨0, 0, th.text⟩)
 else (K, code 3)
def callL (K : Ker) (t : Int) (c : Cal) : Ker × Rep :=
 match getT K t with
 | none => (K, code 4)
 | some th => callT K t th c
theorem Crt.ext4 {x y : Crt} (h1 : x.c = y.c) (h2 : x.b = y.b) (h3 : x.h = y.h) (h4 : x.u = y.u) : x = y := by
 cases x; cases y
 simp_all
instance : DecidableEq Crt := fun x y =>
 if h : x.c = y.c ∧ x.b = y.b ∧ x.h = y.h ∧ x.u = y.u then isTrue (Crt.ext4 h.1 h.2.1 h.2.2.1 h.2.2.2) else isFalse fun e => h (by subst e; exact ⟨rfl, rfl, rfl, rfl⟩)
def sameC (x y : Crt) : Bool := x.c == y.c && x.b == y.b && x.h == y.h && x.u == y.u
theorem Qe7 (x y : Crt) : sameC x y = true ↔ x = y := by
 unfold sameC
 simp only [Bool.and_eq_true, beq_iff_eq]
 constructor
 · rintro ⟨⟨⟨h1, h2⟩, h3⟩, h4⟩
   exact Crt.ext4 h1 h2 h3 h4
 · rintro rfl
   exact ⟨⟨⟨rfl, rfl⟩, rfl⟩, rfl⟩
def goodCs (l : List Crt) : Prop := l.length ≤ 24 ∧ (∀ x ∈ l, certB x = true) ∧ l.Nodup
instance (l : List Crt) : Decidable (goodCs l) := by unfold goodCs; infer_instance
def csB (l : List Crt) : Bool := decide (goodCs l)
theorem QlY {l : List Crt} (h : 24 < l.length) : csB l = false := decide_eq_false fun g => by have := g.1; omega
theorem Qmx {l : List Crt} {k : Nat} (hk : k < l.length) (h : certB l[k] = false) : csB l = false := decide_eq_false fun g => by
 have := g.2.1 l[k] (List.getElem_mem hk)
 rw [h] at this
 cases this
theorem Qkp {l : List Crt} {k : Nat} (hk : k < l.length) (h : l[k] ∈ l.take k) : csB l = false := decide_eq_false fun g => by
 obtain ⟨j, hj, e⟩ := List.mem_iff_getElem.1 h
 rw [List.length_take] at hj
 rw [List.getElem_take] at e
 exact List.pairwise_iff_getElem.1 g.2.2 j k (by omega) hk (by omega) e
theorem Qmy {l : List Crt} (h24 : l.length ≤ 24) (h1 : ∀ j (hj : j < l.length), certB l[j] = true) (h2 : ∀ j (hj : j < l.length), l[j] ∉ l.take j) : csB l = true := decide_eq_true ⟨h24, fun x hx => by
 obtain ⟨j, hj, rfl⟩ := List.mem_iff_getElem.1 hx
 exact h1 j hj, by
 rw [List.nodup_iff_pairwise_ne, List.pairwise_iff_getElem]
 intro i j hi hj hij e
 refine h2 j hj ?_
 rw [← e]
 exact List.mem_iff_getElem.2 ⟨i, by rw [List.length_take]; omega, by rw [List.getElem_take]⟩⟩
def addL (l : List Crt) (x : Crt) : List Crt × Int :=
 if goodCs l ∧ certB x = true then (if x ∈ l then (l, 0) else if 24 ≤ l.length then ([], 5) else (l ++ [x], 0)) else ([], 2)
inductive Reach (l : List Crt) (c now : Int) : Int → Prop
 | home : Reach l c now (c / 20)
 | step {x : Crt} : Reach l c now x.b → x ∈ l → x.c = c → now ≤ x.u → Reach l c now x.h
theorem Reach.more {l l' : List Crt} {c now h : Int} (hr : Reach l c now h) (hl : ∀ x ∈ l, x.c = c → now ≤ x.u → x ∈ l') : Reach l' c now h := by
 induction hr with
 | home => exact .home
 | step h1 h2 h3 h4 ih => exact .step ih (hl _ h2 h3 h4) h3 h4
def Trusts (l : List Crt) (c now h : Int) : Prop := catB c = true ∧ goodCs l ∧ Reach l c now h
open Classical in
noncomputable def trB (l : List Crt) (c now h : Int) : Bool := decide (Trusts l c now h)
theorem Qbu (l : List Crt) (c now h : Int) : trB l c now h = true ↔ Trusts l c now h := by unfold trB; exact @decide_eq_true_iff _ (_)
theorem Qjq {l : List Crt} {c now h : Int} (hc : catB c = false) : trB l c now h = false := by
 rw [← Bool.not_eq_true, Qbu]
 rintro ⟨h1, _⟩
 rw [hc] at h1
 cases h1
theorem Qmg {l : List Crt} {c now h : Int} (hc : csB l = false) : trB l c now h = false := by
 rw [← Bool.not_eq_true, Qbu]
 rintro ⟨_, h1, _⟩
 rw [show csB l = true from decide_eq_true h1] at hc
 cases hc
structure Work (l : List Crt) (c now : Int) (b : Int → Bool) (row : List Int) : Prop where
 home : b (c / 20) = true
 mark : ∀ h, 0 ≤ h → h < 4 → (b h = true ↔ h ∈ row)
 host : ∀ h ∈ row, 0 ≤ h ∧ h < 4
 once : row.Nodup
 real : ∀ h ∈ row, Reach l c now h
theorem QiD (row : List Int) (h2 : ∀ h ∈ row, 0 ≤ h ∧ h < 4) : row.length = row.count 0 + row.count 1 + row.count 2 + row.count 3 := by
 induction row with
 | nil => rfl
 | cons x r ih =>
  have h := ih fun y hy => h2 y (List.mem_cons_of_mem _ hy)
  have hx := h2 x List.mem_cons_self
  have : x = 0 ∨ x = 1 ∨ x = 2 ∨ x = 3 := by omega
  rcases this with rfl | rfl | rfl | rfl <;> simp <;> omega
theorem Qbd {row : List Int} (h1 : row.Nodup) (a : Int) : row.count a ≤ 1 := by
 induction row with
 | nil => simp
 | cons x r ih =>
  have h := List.nodup_cons.1 h1
  have := ih h.2
  rw [List.count_cons]
  by_cases e : x = a
  · subst e
    have : r.count x = 0 := List.count_eq_zero.2 h.1
    simp [this]
  · simp [e]; omega
theorem Qh1 {row : List Int} (h1 : row.Nodup) (h2 : ∀ h ∈ row, 0 ≤ h ∧ h < 4) : row.length ≤ 4 := by
 have h := QiD row h2
 have := Qbd h1 0
 have := Qbd h1 1
 have := Qbd h1 2
 have := Qbd h1 3
 omega
theorem Work.four {l : List Crt} {c now : Int} {b : Int → Bool} {row : List Int} (h : Work l c now b row) : row.length ≤ 4 := Qh1 h.once h.host
def Asked (c now : Int) (b : Int → Bool) (h : Int) (x : Crt) : Prop := x.c = c → x.b = h → now ≤ x.u → b x.h = true
theorem Work.start {l : List Crt} {c now : Int} (hc : catB c = true) (b : Int → Bool) (hb : ∀ h, 0 ≤ h → h < 4 → b h = decide (h = c / 20)) : Work l c now b [c / 20] := by
 have hc' : 0 ≤ c ∧ c < 80 := of_decide_eq_true hc
 have h1 : 0 ≤ c / 20 ∧ c / 20 < 4 := by omega
 refine ⟨by rw [hb _ h1.1 h1.2]; simp, fun h g1 g2 => by rw [hb h g1 g2]; simp, fun h hh => ?_, by simp, fun h hh => ?_⟩
 · rw [List.mem_singleton.1 hh]; exact h1
 · rw [List.mem_singleton.1 hh]; exact .home
theorem Work.put {l : List Crt} {c now : Int} {b b' : Int → Bool} {row : List Int} (w : Work l c now b row) {x : Crt} (hx : x ∈ l) (hc : x.c = c) (hr : x.b ∈ row) (hu : now ≤ x.u) (hb : b x.h = false) (hh : 0 ≤ x.h ∧ x.h < 4)
 (hb' : ∀ h, 0 ≤ h → h < 4 → b' h = (b h || decide (h = x.h))) (hc2 : 0 ≤ c / 20 ∧ c / 20 < 4) : Work l c now b' (row ++ [x.h]) := by
 have hn : x.h ∉ row := fun h => by
  have := (w.mark x.h hh.1 hh.2).2 h
  rw [hb] at this
  cases this
 refine ⟨by rw [hb' _ hc2.1 hc2.2, w.home]; rfl, fun h g1 g2 => ?_, fun h hh' => ?_, ?_, fun h hh' => ?_⟩
 · rw [hb' h g1 g2, Bool.or_eq_true, decide_eq_true_iff, w.mark h g1 g2, List.mem_append, List.mem_singleton]
 · rcases List.mem_append.1 hh' with g | g
   · exact w.host h g
   · rw [List.mem_singleton.1 g]; exact hh
 · rw [List.nodup_append]
   refine ⟨w.once, by simp, fun a ha b hb2 => ?_⟩
   rw [List.mem_singleton.1 hb2]
   rintro rfl
   exact hn ha
 · rcases List.mem_append.1 hh' with g | g
   · exact w.real h g
   · rw [List.mem_singleton.1 g]; exact .step (w.real _ hr) hx hc hu
theorem Work.done {l : List Crt} {c now : Int} {b : Int → Bool} {row : List Int} (w : Work l c now b row) (hc : catB c = true) (hg : goodCs l) (ha : ∀ h ∈ row, ∀ x ∈ l, Asked c now b h x) (h : Int) (h1 : 0 ≤ h) (h2 : h < 4) : b h = trB l c now h := by
 have hc' : 0 ≤ c ∧ c < 80 := of_decide_eq_true hc
 have hall : ∀ g, Reach l c now g → (0 ≤ g ∧ g < 4) ∧ b g = true := by
  intro g hr
  induction hr with
  | home => exact ⟨by omega, w.home⟩
  | @step x _ hx hxc hxu ih =>
   have hcx := hg.2.1 x hx
   unfold certB twoB hostB at hcx
   simp only [Bool.and_eq_true, decide_eq_true_iff] at hcx
   exact ⟨hcx.1.2.1.2, ha x.b ((w.mark x.b ih.1.1 ih.1.2).1 ih.2) x hx hxc rfl hxu⟩
 cases hb : b h with
 | true => exact ((Qbu _ _ _ _).2 ⟨hc, hg, w.real h ((w.mark h h1 h2).1 hb)⟩).symm
 | false =>
  cases ht : trB l c now h with
  | false => rfl
  | true =>
   have := (hall h ((Qbu _ _ _ _).1 ht).2.2).2
   rw [hb] at this
   cases this
def namesL (m : Mal) : List Int := Lib.compact ((m.label.map (·.1) ++ m.grants).mergeSort fun x y => decide (x ≤ y))
theorem QfJ (m : Mal) : (namesL m).Pairwise (· < ·) := by
 unfold namesL Lib.compact
 have hs := List.pairwise_mergeSort (le := fun x y : Int => decide (x ≤ y)) (by intro x y z; simp; omega) (by intro x y; simp; omega) (m.label.map (·.1) ++ m.grants)
 refine QcU _ ?_ _ (by simp)
 intro i j hij hj
 rw [getElem!_pos _ i (by omega), getElem!_pos _ j hj]
 by_cases e : i = j
 · subst e; omega
 · have := (List.pairwise_iff_getElem.1 hs) i j (by simp at hj ⊢; omega) (by simpa using hj) (by omega)
   simpa using this
theorem QeN (m : Mal) : (namesL m).length ≤ m.label.length + m.grants.length := by
 unfold namesL Lib.compact Lib.compactUpTo
 have h1 := List.length_filter_le (Lib.keeps ((m.label.map (·.1) ++ m.grants).mergeSort fun x y => decide (x ≤ y)).toArray) (List.range ((m.label.map (·.1) ++ m.grants).mergeSort fun x y => decide (x ≤ y)).length)
 simp at h1 ⊢
 exact h1
noncomputable def mayB (l : List Crt) (h : Int) (m : Mal) (now : Int) : Bool := hostB h && (namesL m).all fun c => trB l c now h
def showL (l : List Crt) (m : Mal) : List Crt := l.filter fun x => decide (x.c ∈ namesL m)
theorem Qgg (l : List Crt) (h : Int) (m : Mal) (now : Int) : mayB l h m now = true ↔ hostB h = true ∧ ∀ c ∈ namesL m, Trusts l c now h := by
 unfold mayB
 rw [Bool.and_eq_true, List.all_eq_true]
 simp only [Qbu]
structure Clu where
 now : Int
 acts : Nat
 ks : Nat → Ker
 certs : Nat → List Crt
 lines : Nat → Nat → Lne
 net : List (List UInt8)
structure Ac where
 kind : Int
 h : Int
 t : Int
 n : Int
 call : Cal
def freshClu : Clu := ⟨0, 0, fun h => freshKer h, fun _ => [], fun _ _ => zeroLne, []⟩
def kerC (C : Clu) (h : Int) : Ker := C.ks h.toNat
def crtC (C : Clu) (h : Int) : List Crt := C.certs h.toNat
def lineC (C : Clu) (a b : Int) : Lne := C.lines a.toNat b.toNat
def setK (C : Clu) (h : Int) (K : Ker) : Clu := { C with ks := fun g => if g = h.toNat then K else C.ks g }
def setC (C : Clu) (h : Int) (l : List Crt) : Clu := { C with certs := fun g => if g = h.toNat then l else C.certs g }
def setLi (C : Clu) (a b : Int) (l : Lne) : Clu := { C with lines := fun x y => if x = a.toNat ∧ y = b.toNat then l else C.lines x y }
def putC (C : Clu) (f : Frm) : Clu := if frameE f = 0 ∧ C.net.length < 60 then { C with net := C.net ++ [encL f] } else C
def addC (C : Clu) (h : Int) (x : Crt) : Clu × Int := if (addL (crtC C h) x).2 = 0 then (setC C h (addL (crtC C h) x).1, 0) else (C, (addL (crtC C h) x).2)
noncomputable def awayC (C : Clu) (fr to t : Int) (m : Mal) : Clu × Int :=
 if mayB (crtC C fr) to m C.now then
  let f : Frm := ⟨fr, to, 0, false, t, m, showL (crtC C fr) m⟩
  let s := sendLn (lineC C fr to) f C.now
  if s.2.2 = 0 then (putC (setLi C fr to s.1) s.2.1, 0) else (C, s.2.2)
 else (C, 8)
noncomputable def sendC (C : Clu) (h t : Int) (c : Cal) : Clu × Int :=
 if 64 < c.text.length then (C, 9)
 else if hostB c.h && hostB c.t then
  (if (letterL (kerC C h) t c).2 = 0 then
   (if c.h = h then (setK C h (deliverL (kerC C h) c.t (letterL (kerC C h) t c).1), 0) else awayC C h c.h c.t (letterL (kerC C h) t c).1)
  else (C, (letterL (kerC C h) t c).2))
 else (C, 4)
def certifyC (C : Clu) (h t : Int) (c : Cal) : Clu × Int :=
 if hostB c.h && !(c.h == h) && timeB c.n then
  (if (((getT (kerC C h) t).getD zeroThr).own.contains c.c) then addC C h ⟨c.c, h, c.h, c.n⟩ else (C, 7))
 else (C, 2)
noncomputable def callC (C : Clu) (h t : Int) (c : Cal) : Clu × Rep :=
 if hostB h && hostB t then
  (if c.kind = 6 then ((sendC C h t c).1, code (sendC C h t c).2)
  else if c.kind = 8 then ((certifyC C h t c).1, code (certifyC C h t c).2)
  else (setK C h (callL (kerC C h) t c).1, (callL (kerC C h) t c).2))
 else (C, code 4)
def takeC (C : Clu) : Int → List Crt → Clu
 | _, [] => C
 | h, x :: r => takeC (addC C h x).1 h r
noncomputable def acceptC (C : Clu) (f : Frm) : Clu :=
 let D := takeC C f.to f.certs
 if mayB (crtC D f.to) f.fr f.mail D.now then setK D f.to (deliverL (kerC D f.to) f.thread f.mail) else D
noncomputable def comeC (C : Clu) (s : List UInt8) : Clu :=
 if (decL s).2 = 0 then
  let f := (decL s).1
  if f.ack then setLi C f.to f.fr (ansLn (lineC C f.to f.fr) f.seq).1
  else
   let k := takeLn (lineC C f.fr f.to) f.seq
   let D := setLi C f.fr f.to k.1
   let E := if k.2 = 0 ∨ k.2 = 10 then putC D ⟨f.to, f.fr, f.seq, true, 0, zeroMal, []⟩ else D
   if k.2 = 0 then acceptC E f else E
 else C
noncomputable def moveC (C : Clu) (kind n : Int) : Clu × Rep :=
 if 0 ≤ n ∧ n < (C.net.length : Int) then
  let s := C.net.getD n.toNat []
  let D := if kind = 3 then C else { C with net := C.net.take n.toNat ++ C.net.drop (n.toNat + 1) }
  ((if kind = 4 then D else comeC D s), ⟨0, (s.length : Int), []⟩)
 else (C, code 4)
def againC (C : Clu) (a b : Int) : Clu × Nat :=
 let k := againLn (lineC C a b) C.now
 (k.2.1.foldl putC (setLi C a b k.1), k.2.1.length)
def tickC (C : Clu) (n : Int) : Clu × Rep :=
 if 1 ≤ n ∧ n ≤ 1099511627776 - C.now then
  let D := { C with now := C.now + n }
  let r := ([0, 1, 2, 3].flatMap fun a => [0, 1, 2, 3].map fun b => ((a : Int), (b : Int))).foldl (fun (s : Clu × Nat) ab => ((againC s.1 ab.1 ab.2).1, s.2 + (againC s.1 ab.1 ab.2).2)) (D, 0)
  (r.1, ⟨0, (r.2 : Int), []⟩)
 else (C, code 2)
noncomputable def doC (C : Clu) (a : Ac) : Clu × Rep :=
 if 300 ≤ C.acts then (C, code 5)
 else
  let D := { C with acts := C.acts + 1 }
  if a.kind = 1 then callC D a.h a.t a.call
  else if a.kind = 2 ∨ a.kind = 3 ∨ a.kind = 4 then moveC D a.kind a.n
  else if a.kind = 5 then tickC D a.n
  else (D, code 3)
noncomputable def playC : Clu → List Ac → Clu
 | C, [] => C
 | C, a :: r => playC (doC C a).1 r
theorem Qc2 (C : Clu) (f : Frm) : (putC C f).acts = C.acts := by unfold putC; split <;> rfl
theorem Qfu (C : Clu) (h : Int) (x : Crt) : (addC C h x).1.acts = C.acts := by unfold addC; split <;> rfl
theorem Qcm : ∀ (l : List Crt) (C : Clu) (h : Int), (takeC C h l).acts = C.acts
 | [], _, _ => rfl
 | x :: r, C, h => by rw [takeC, Qcm r, Qfu]
theorem Qi0 (C : Clu) (fr to t : Int) (m : Mal) : (awayC C fr to t m).1.acts = C.acts := by
 unfold awayC
 split
 · dsimp only
   split
   · rw [Qc2]; rfl
   · rfl
 · rfl
theorem QhT (C : Clu) (h t : Int) (c : Cal) : (sendC C h t c).1.acts = C.acts := by
 unfold sendC
 split
 · rfl
 · split
   · split
     · split
       · rfl
       · exact Qi0 _ _ _ _ _
     · rfl
   · rfl
theorem QeS (C : Clu) (h t : Int) (c : Cal) : (certifyC C h t c).1.acts = C.acts := by
 unfold certifyC
 split
 · split
   · exact Qfu _ _ _
   · rfl
 · rfl
theorem QiV (C : Clu) (h t : Int) (c : Cal) : (callC C h t c).1.acts = C.acts := by
 unfold callC
 split
 · split
   · exact QhT _ _ _ _
   · split
     · exact QeS _ _ _ _
     · rfl
 · rfl
theorem Qf6 (C : Clu) (f : Frm) : (acceptC C f).acts = C.acts := by
 unfold acceptC
 dsimp only
 split
 · exact Qcm _ _ _
 · exact Qcm _ _ _
theorem QiG (C : Clu) (s : List UInt8) : (comeC C s).acts = C.acts := by
 unfold comeC
 split
 · dsimp only
   split
   · rfl
   · have hE : ∀ (b : Prop) [Decidable b] (D : Clu) (g : Frm), (if b then putC D g else D).acts = D.acts := fun b _ D g => by split <;> first | rfl | exact Qc2 _ _
     split
     · rw [Qf6, hE]; rfl
     · rw [hE]; rfl
 · rfl
theorem Qh3 (C : Clu) (kind n : Int) : (moveC C kind n).1.acts = C.acts := by
 unfold moveC
 split
 · dsimp only
   have hD : ∀ (b : Prop) [Decidable b] (x : List (List UInt8)), (if b then C else { C with net := x }).acts = C.acts := fun b _ x => by split <;> rfl
   split
   · exact hD _ _
   · rw [QiG]; exact hD _ _
 · rfl
theorem QbX : ∀ (l : List Frm) (C : Clu), (l.foldl putC C).acts = C.acts
 | [], _ => rfl
 | f :: r, C => by rw [List.foldl_cons, QbX r, Qc2]
theorem Qhp (C : Clu) (a b : Int) : (againC C a b).1.acts = C.acts := by
 unfold againC
 dsimp only
 rw [QbX]
 rfl
theorem Qbt : ∀ (l : List (Int × Int)) (s : Clu × Nat), (l.foldl (fun (s : Clu × Nat) ab => ((againC s.1 ab.1 ab.2).1, s.2 + (againC s.1 ab.1 ab.2).2)) s).1.acts = s.1.acts
 | [], _ => rfl
 | x :: r, s => by rw [List.foldl_cons, Qbt r]; exact Qhp _ _ _
theorem QhE (C : Clu) (n : Int) : (tickC C n).1.acts = C.acts := by
 unfold tickC
 split
 · dsimp only
   rw [Qbt]
 · rfl
theorem QlX (C : Clu) (a : Ac) (h : C.acts < 300) : (doC C a).1.acts = C.acts + 1 := by
 unfold doC
 rw [if_neg (by omega)]
 dsimp only
 split
 · exact QiV _ _ _ _
 · split
   · exact Qh3 _ _ _
   · split
     · exact QhE _ _
     · rfl
theorem Qgn (C : Clu) (a : Ac) (h : 300 ≤ C.acts) : doC C a = (C, code 5) := by
 unfold doC
 rw [if_pos h]
theorem QgV {l : List Int} (hs : l.Pairwise (· < ·)) (c : Int) : (∀ x ∈ l.take (l.countP (· < c)), x < c) ∧ ∀ x ∈ l.drop (l.countP (· < c)), c ≤ x := by
 induction l with
 | nil => simp
 | cons a r ih =>
  have hr := (List.pairwise_cons.1 hs).2
  have ha := (List.pairwise_cons.1 hs).1
  by_cases h : a < c
  · rw [List.countP_cons_of_pos (by simpa using h), List.take_succ_cons, List.drop_succ_cons]
    obtain ⟨h1, h2⟩ := ih hr
    refine ⟨fun x hx => ?_, h2⟩
    rcases List.mem_cons.1 hx with rfl | hx
    · exact h
    · exact h1 x hx
  · have hz : r.countP (· < c) = 0 := by
     rw [List.countP_eq_zero]
     intro x hx
     have := ha x hx
     simp
     omega
    rw [List.countP_cons_of_neg (by simpa using h), hz]
    refine ⟨fun x hx => by simp at hx, fun x hx => ?_⟩
    rcases List.mem_cons.1 hx with rfl | hx
    · omega
    · have := ha x hx; omega
theorem QgN {l : List Int} (hs : l.Pairwise (· < ·)) {c : Int} (hc : l.contains c = false) : (insL l c).Pairwise (· < ·) := by
 obtain ⟨h1, h2⟩ := QgV hs c
 have hn : ∀ x ∈ l, x ≠ c := fun x hx e => by
  subst e
  have : l.contains x = true := by simpa using hx
  rw [hc] at this
  cases this
 unfold insL
 rw [List.pairwise_append]
 refine ⟨hs.sublist (List.take_sublist _ _), List.pairwise_cons.2 ⟨fun x hx => ?_, hs.sublist (List.drop_sublist _ _)⟩, fun x hx y hy => ?_⟩
 · have a := h2 x hx
   have b := hn x (List.mem_of_mem_drop hx)
   omega
 · rcases List.mem_cons.1 hy with rfl | hy
   · exact h1 x hx
   · have a := h1 x hx
     have b := h2 y hy
     omega
theorem QlE (l : List Int) (c : Int) : (insL l c).length = l.length + 1 := by
 have : l.countP (· < c) ≤ l.length := List.countP_le_length
 unfold insL
 simp
 omega
theorem QbL {l : List Int} (hs : l.Pairwise (· < ·)) (c : Int) : (ownL l c).2.Pairwise (· < ·) := by
 unfold ownL
 split
 · exact hs
 · split
   · exact hs
   · exact QgN hs (by rename_i h _; simpa using h)
theorem QdS {l : List Int} (h : l.length ≤ 8) (c : Int) : (ownL l c).2.length ≤ 8 := by
 unfold ownL
 split
 · exact h
 · split
   · exact h
   · show (insL l c).length ≤ 8
     rw [QlE]
     omega
theorem QjK {l : List Int} {c : Int} (h : (ownL l c).1 ≠ 0) : (ownL l c).2 = l := by
 unfold ownL at h ⊢
 split
 · rfl
 · rename_i h1
   rw [if_neg h1] at h
   split
   · rfl
   · rename_i h2
     rw [if_neg h2] at h
     exact absurd rfl h
theorem QaO (c : Int) (r o : List Int) : grantL (c :: r) o = if (ownL o c).1 = 0 then grantL r (ownL o c).2 else o := rfl
structure GoodT (th : Thr) : Prop where
 sorted : th.own.Pairwise (· < ·)
 own : th.own.length ≤ 8
 text : th.text.length ≤ 64
 objs : th.objs.length ≤ 4
 obj : ∀ o ∈ th.objs, o.text.length ≤ 64 ∧ goodL o.label
 mails : th.mails.length ≤ 6
 mail : ∀ m ∈ th.mails, mailE m = 0
 label : goodL th.label
structure GoodK (K : Ker) : Prop where
 four : K.ths.length = 4
 host : 0 ≤ K.host ∧ K.host < 4
 made : 0 ≤ K.made ∧ K.made ≤ 20
 ths : ∀ th ∈ K.ths, GoodT th
theorem Qj5 : goodL [] := ⟨by simp, by simp, by simp⟩
theorem QcW : GoodT zeroThr := ⟨by simp [zeroThr], by simp [zeroThr], by simp [zeroThr], by simp [zeroThr], by simp [zeroThr], by simp [zeroThr], by simp [zeroThr], Qj5⟩
theorem Qin {h : Int} (h0 : 0 ≤ h ∧ h < 4) : GoodK (freshKer h) := ⟨rfl, h0, ⟨by simp [freshKer], by simp [freshKer]⟩, fun th hth => by
 simp [freshKer] at hth
 rw [hth]
 exact QcW⟩
theorem Qh5 {α : Type} {l : List α} {i : Nat} {a x : α} (h : x ∈ l.set i a) : x = a ∨ x ∈ l := by
 rcases List.mem_or_eq_of_mem_set h with h | h
 · exact Or.inr h
 · exact Or.inl h
theorem GoodK.set {K : Ker} (h : GoodK K) (i : Nat) {th : Thr} (ht : GoodT th) : GoodK { K with ths := K.ths.set i th } :=
 ⟨by simpa using h.four, h.host, h.made, fun x hx => (Qh5 hx).elim (fun e => by rw [e]; exact ht) (h.ths x)⟩
theorem QV {K : Ker} {t : Int} {th : Thr} (h : getT K t = some th) : ∃ n : Nat, t = n ∧ ∃ hn : n < K.ths.length, K.ths[n] = th := by
 unfold getT at h
 split at h
 · rename_i h0
   obtain ⟨hn, e⟩ := List.getElem?_eq_some_iff.1 h
   exact ⟨t.toNat, by omega, hn, e⟩
 · cases h
theorem Qdb {K : Ker} (h4 : K.ths.length = 4) {t : Int} (h : getT K t = none) : ¬ (0 ≤ t ∧ t < 4) := by
 rintro ⟨h0, h1⟩
 unfold getT at h
 rw [if_pos h0, List.getElem?_eq_none_iff] at h
 omega
theorem QbH {K : Ker} {n : Nat} (hn : n < K.ths.length) : getT K (n : Int) = some K.ths[n] := by
 unfold getT
 rw [if_pos (by omega), Int.toNat_natCast]
 exact List.getElem?_eq_getElem hn
theorem QaL (K : Ker) (n : Nat) (th : Thr) : setT K (n : Int) th = { K with ths := K.ths.set n th } := by
 unfold setT
 rw [Int.toNat_natCast]
theorem QeO (l : List Int) {o : List Int} (hs : o.Pairwise (· < ·)) : (grantL l o).Pairwise (· < ·) := by
 induction l generalizing o with
 | nil => exact hs
 | cons c r ih =>
  rw [QaO]
  split
  · exact ih (QbL hs c)
  · exact hs
theorem Qik (l : List Int) {o : List Int} (hl : o.length ≤ 8) : (grantL l o).length ≤ 8 := by
 induction l generalizing o with
 | nil => exact hl
 | cons c r ih =>
  rw [QaO]
  split
  · exact ih (QdS hl c)
  · exact hl
theorem QhL (ms : List Mal) {th : Thr} (h : GoodT th) (hl : ms.length ≤ 6) (hm : ∀ m ∈ ms, mailE m = 0) : GoodT (takeL th ms).1 := by
 induction ms with
 | nil => exact ⟨h.sorted, h.own, h.text, h.objs, h.obj, by simp [takeL], by simp [takeL], h.label⟩
 | cons m r ih =>
  unfold takeL
  split
  · exact ⟨QeO _ h.sorted, Qik _ h.own, Qbp _, h.objs, h.obj, by simp at hl; show r.length ≤ 6; omega, fun x hx => hm x (List.mem_cons_of_mem _ hx), h.label⟩
  · exact ih (by simp at hl; omega) (fun x hx => hm x (List.mem_cons_of_mem _ hx))
theorem QfI {th : Thr} (h : GoodT th) (l : List (Int × Int)) : GoodT (objectL th l).1 := by
 unfold objectL
 split
 · rename_i hg
   split
   · split
     · exact h
     · rename_i hn
       refine ⟨h.sorted, h.own, h.text, by simp; omega, fun o ho => ?_, h.mails, h.mail, h.label⟩
       rcases List.mem_append.1 ho with ho | ho
       · exact h.obj o ho
       · rw [List.mem_singleton.1 ho]
         exact ⟨by simp, (QaD l).1 hg⟩
   · exact h
 · exact h
theorem QgI {th : Thr} (h : GoodT th) (c n : Int) : GoodT (levelL th c n).1 := by
 unfold levelL
 split
 · rename_i he
   split
   · refine ⟨h.sorted, h.own, h.text, h.objs, h.obj, h.mails, h.mail, ?_⟩
     show goodL (setL th.label c n)
     unfold setE at he
     split at he
     · cases he
     · rename_i hb
       split at he
       · cases he
       · rename_i h8
         have hb2 : setB th.label c n = true := by simpa using hb
         unfold setB at hb2
         simp only [Bool.and_eq_true] at hb2
         exact Qj4 h.label hb2.1.2 hb2.2 (by omega)
   · exact h
 · exact h
theorem QjE {th : Thr} (h : GoodT th) (n : Int) {x : List UInt8} (hx : x.length ≤ 64) : GoodT (putO th n x) := by
 refine ⟨h.sorted, h.own, h.text, by simpa [putO] using h.objs, fun o ho => ?_, h.mails, h.mail, h.label⟩
 unfold putO at ho
 simp only at ho
 obtain ⟨i, hi, e⟩ := List.mem_iff_getElem.1 ho
 rw [List.getElem_modify] at e
 have hi2 : i < th.objs.length := by simpa using hi
 have hold := h.obj th.objs[i] (List.getElem_mem hi2)
 split at e
 · rw [← e]; exact ⟨hx, hold.2⟩
 · rw [← e]; exact hold
theorem QkD {th : Thr} (h : GoodT th) (m : Mal) : GoodT (boxL th m) := by
 unfold boxL
 split
 · rename_i g
   refine ⟨h.sorted, h.own, h.text, h.objs, h.obj, by simp; omega, fun x hx => ?_, h.label⟩
   rcases List.mem_append.1 hx with hx | hx
   · exact h.mail x hx
   · rw [List.mem_singleton.1 hx]; exact g.1
 · exact h
theorem Qe0 {th : Thr} (h : GoodT th) (x : List UInt8) : GoodT { th with text := lastL x } := ⟨h.sorted, h.own, Qbp _, h.objs, h.obj, h.mails, h.mail, h.label⟩
theorem QjF {K : Ker} (h : GoodK K) (th : Thr) (c : Cal) : GoodK (putL K th c) := by
 unfold putL
 split
 · rename_i u o hu _
   split
   · obtain ⟨n, _, hn, rfl⟩ := QV hu
     exact h.set _ (QjE (h.ths _ (List.getElem_mem hn)) _ (Qbp _))
   · exact h
 · exact h
theorem Qj8 {K : Ker} (h : GoodK K) (t : Int) {th : Thr} (ht : GoodT th) (c : Cal) : GoodK (getL K t th c).1 := by
 unfold getL
 split
 · exact h
 · split
   · exact h.set _ (Qe0 ht _)
   · exact h
theorem QeI {K : Ker} (h : GoodK K) (t : Int) {th : Thr} (ht : GoodT th) : GoodK (categoryL K t th).1 := by
 unfold categoryL
 split
 · exact h
 · rename_i hm
   split
   · have hk := h.set t.toNat (th := { th with own := (ownL th.own (K.host * 20 + K.made)).2 }) ⟨QbL ht.sorted _, QdS ht.own _, ht.text, ht.objs, ht.obj, ht.mails, ht.mail, ht.label⟩
     have := h.made
     exact ⟨hk.four, hk.host, ⟨by show 0 ≤ K.made + 1; omega, by show K.made + 1 ≤ 20; omega⟩, hk.ths⟩
   · exact h
theorem QiQ {K : Ker} (h : GoodK K) (t : Int) {th : Thr} (ht : GoodT th) (c : Cal) : GoodK (callT K t th c).1 := by
 unfold callT
 split
 · exact h
 · split
   · exact QeI h t ht
   · split
     · exact h.set _ (QfI ht _)
     · split
       · exact QjF h th c
       · split
         · exact Qj8 h t ht c
         · split
           · exact h.set _ (QgI ht _ _)
           · split
             · exact h.set _ (QhL _ ht ht.mails ht.mail)
             · split
               · exact h.set _ (Qe0 ht _)
               · split
                 · exact h
                 · exact h
theorem QiS {K : Ker} (h : GoodK K) (t : Int) (c : Cal) : GoodK (callL K t c).1 := by
 unfold callL
 split
 · exact h
 · rename_i th hth
   obtain ⟨n, _, hn, rfl⟩ := QV hth
   exact QiQ h t (h.ths _ (List.getElem_mem hn)) c
theorem Qcj {K : Ker} (h : GoodK K) (t : Int) (m : Mal) : GoodK (deliverL K t m) := by
 unfold deliverL
 split
 · exact h
 · rename_i th hth
   obtain ⟨n, _, hn, rfl⟩ := QV hth
   exact h.set _ (QkD (h.ths _ (List.getElem_mem hn)) m)
structure GoodC (C : Clu) : Prop where
 ks : ∀ h, h < 4 → GoodK (C.ks h)
 now : 0 ≤ C.now ∧ C.now ≤ 1099511627776
 acts : C.acts ≤ 300
 net : C.net.length ≤ 60
theorem Qbf : GoodC freshClu := ⟨fun h hh => Qin (by omega), by decide, by decide, by decide⟩
theorem GoodC.ker {C : Clu} (h : GoodC C) {a : Int} (ha : hostB a = true) : GoodK (kerC C a) := by
 have : 0 ≤ a ∧ a < 4 := of_decide_eq_true ha
 exact h.ks _ (by omega)
theorem Qc1 {C : Clu} (h : GoodC C) (a : Int) {K : Ker} (hK : GoodK K) : GoodC (setK C a K) :=
 ⟨fun g hg => by
  show GoodK (if g = a.toNat then K else C.ks g)
  split
  · exact hK
  · exact h.ks g hg, h.now, h.acts, h.net⟩
theorem Qjz {C : Clu} (h : GoodC C) (a : Int) (l : List Crt) : GoodC (setC C a l) := ⟨h.ks, h.now, h.acts, h.net⟩
theorem Qaj {C : Clu} (h : GoodC C) (a b : Int) (l : Lne) : GoodC (setLi C a b l) := ⟨h.ks, h.now, h.acts, h.net⟩
theorem Qb6 {C : Clu} (h : GoodC C) (f : Frm) : GoodC (putC C f) := by
 unfold putC
 split
 · rename_i h1
   exact ⟨h.ks, h.now, h.acts, by show (C.net ++ [encL f]).length ≤ 60; simp; omega⟩
 · exact h
theorem Qft {C : Clu} (h : GoodC C) (a : Int) (x : Crt) : GoodC (addC C a x).1 := by
 unfold addC
 split
 · exact Qjz h _ _
 · exact h
theorem Qa4 : ∀ (l : List Crt) {C : Clu} (_ : GoodC C) (a : Int), GoodC (takeC C a l)
 | [], _, h, _ => h
 | x :: r, _, h, a => Qa4 r (Qft h a x) a
theorem QiZ {C : Clu} (h : GoodC C) (fr to t : Int) (m : Mal) : GoodC (awayC C fr to t m).1 := by
 unfold awayC
 split
 · dsimp only
   split
   · exact Qb6 (Qaj h _ _ _) _
   · exact h
 · exact h
theorem QhR {C : Clu} (h : GoodC C) (a t : Int) (c : Cal) (ha : hostB a = true) : GoodC (sendC C a t c).1 := by
 unfold sendC
 split
 · exact h
 · split
   · split
     · split
       · exact Qc1 h _ (Qcj (h.ker ha) _ _)
       · exact QiZ h _ _ _ _
     · exact h
   · exact h
theorem QeR {C : Clu} (h : GoodC C) (a t : Int) (c : Cal) : GoodC (certifyC C a t c).1 := by
 unfold certifyC
 split
 · split
   · exact Qft h _ _
   · exact h
 · exact h
theorem QiU {C : Clu} (h : GoodC C) (a t : Int) (c : Cal) : GoodC (callC C a t c).1 := by
 unfold callC
 split
 · rename_i h1
   have ha : hostB a = true := by
    rw [Bool.and_eq_true] at h1
    exact h1.1
   split
   · exact QhR h _ _ _ ha
   · split
     · exact QeR h _ _ _
     · exact Qc1 h _ (QiS (h.ker ha) _ _)
 · exact h
theorem Qax {f : Frm} (h : frameE f = 0) : hostB f.fr = true ∧ hostB f.to = true ∧ hostB f.thread = true := by
 unfold frameE at h
 split at h
 · rename_i h1
   unfold headB twoB at h1
   simp only [Bool.and_eq_true] at h1
   exact ⟨h1.1.1.1.1.1, h1.1.1.1.1.2, h1.2⟩
 · cases h
theorem Qcc {s : List UInt8} (h : (decL s).2 = 0) : frameE (decL s).1 = 0 := by
 unfold decL at h ⊢
 split
 · rename_i h1
   rw [if_pos h1] at h
   split
   · rename_i h2
     exact h2
   · rename_i h2
     rw [if_neg h2] at h
     exact absurd h h2
 · rename_i h1
   rw [if_neg h1] at h
   cases h
theorem Qf5 {C : Clu} (h : GoodC C) {f : Frm} (hf : hostB f.to = true) : GoodC (acceptC C f) := by
 unfold acceptC
 dsimp only
 split
 · exact Qc1 (Qa4 _ h _) _ (Qcj ((Qa4 _ h _).ker hf) _ _)
 · exact Qa4 _ h _
theorem QiF {C : Clu} (h : GoodC C) (s : List UInt8) : GoodC (comeC C s) := by
 unfold comeC
 split
 · rename_i h1
   have hf := (Qax (Qcc h1)).2.1
   dsimp only
   split
   · exact Qaj h _ _ _
   · have hE : ∀ (b : Prop) [Decidable b] (D : Clu) (g : Frm), GoodC D → GoodC (if b then putC D g else D) := fun b _ D g hD => by
      split
      · exact Qb6 hD _
      · exact hD
     split
     · exact Qf5 (hE _ _ _ (Qaj h _ _ _)) hf
     · exact hE _ _ _ (Qaj h _ _ _)
 · exact h
theorem Qh2 {C : Clu} (h : GoodC C) (kind n : Int) : GoodC (moveC C kind n).1 := by
 unfold moveC
 split
 · dsimp only
   have hD : ∀ (b : Prop) [Decidable b], GoodC (if b then C else { C with net := C.net.take n.toNat ++ C.net.drop (n.toNat + 1) }) := fun b _ => by
    split
    · exact h
    · exact ⟨h.ks, h.now, h.acts, by have := h.net; show (C.net.take n.toNat ++ C.net.drop (n.toNat + 1)).length ≤ 60; rw [List.length_append, List.length_take, List.length_drop]; omega⟩
   split
   · exact hD _
   · exact QiF (hD _) _
 · exact h
theorem Qa9 : ∀ (l : List Frm) {C : Clu} (_ : GoodC C), GoodC (l.foldl putC C)
 | [], _, h => h
 | f :: r, _, h => Qa9 r (Qb6 h f)
theorem Qho {C : Clu} (h : GoodC C) (a b : Int) : GoodC (againC C a b).1 := by
 unfold againC
 exact Qa9 _ (Qaj h _ _ _)
theorem QaI : ∀ (l : List (Int × Int)) (s : Clu × Nat) (_ : GoodC s.1), GoodC (l.foldl (fun (s : Clu × Nat) ab => ((againC s.1 ab.1 ab.2).1, s.2 + (againC s.1 ab.1 ab.2).2)) s).1
 | [], _, h => h
 | x :: r, s, h => by
  rw [List.foldl_cons]
  exact QaI r _ (Qho h _ _)
theorem QhD {C : Clu} (h : GoodC C) (n : Int) : GoodC (tickC C n).1 := by
 unfold tickC
 split
 · dsimp only
   rename_i h1
   exact QaI _ _ ⟨h.ks, by have := h.now; show 0 ≤ C.now + n ∧ C.now + n ≤ 1099511627776; omega, h.acts, h.net⟩
 · exact h
theorem QbI {C : Clu} (h : GoodC C) (a : Ac) : GoodC (doC C a).1 := by
 unfold doC
 split
 · exact h
 · dsimp only
   have hD : GoodC { C with acts := C.acts + 1 } := ⟨h.ks, h.now, by show C.acts + 1 ≤ 300; omega, h.net⟩
   split
   · exact QiU hD _ _ _
   · split
     · exact Qh2 hD _ _
     · split
       · exact QhD hD _
       · exact hD
def thrOf (K : Ker) (t : Int) : Thr := (getT K t).getD zeroThr
theorem Qan {K : Ker} {n : Nat} (h : n < K.ths.length) : thrOf K n = K.ths[n] := by unfold thrOf; rw [QbH h]; rfl
theorem QlL {K K' : Ker} {i : Nat} (hi : i < K.ths.length) {th : Thr} (h : K'.ths = K.ths.set i th) (u : Int) : getT K' u = if u = i then some th else getT K u := by
 unfold getT
 by_cases h0 : 0 ≤ u
 · rw [if_pos h0, if_pos h0, h]
   by_cases e : u = i
   · subst e
     rw [if_pos rfl, Int.toNat_natCast, List.getElem?_set_self hi]
   · rw [if_neg e, List.getElem?_set_ne (by omega)]
 · rw [if_neg h0, if_neg h0, if_neg (by omega)]
theorem Qb3 {K K' : Ker} {i : Nat} (hi : i < K.ths.length) {th : Thr} (h : K'.ths = K.ths.set i th) (u : Int) : thrOf K' u = if u = i then th else thrOf K u := by
 unfold thrOf
 rw [QlL hi h]
 split <;> rfl
structure SelfStep (K : Ker) (th th2 : Thr) (c : Cal) (r : Rep) : Prop where
 label : th2.label = th.label ∨ (c.kind = 5 ∧ r.code = 0 ∧ flowsL th.label th2.label th.own = true)
 own : ∀ x ∈ th.own, x ∈ th2.own
 objs : th2.objs = th.objs ∨ ∃ o, th2.objs = th.objs ++ [o]
 text : th2.text = th.text ∨ c.kind = 9 ∨ (c.kind = 7 ∧ r.code = 0) ∨ (c.kind = 4 ∧ r.code = 0 ∧ th2.objs = th.objs ∧ ∃ o, objAt K c.t c.n = some o ∧ flowsL o.label th.label th.own = true)
theorem SelfStep.refl (K : Ker) (th : Thr) (c : Cal) (r : Rep) : SelfStep K th th c r := ⟨.inl rfl, fun _ h => h, .inl rfl, .inl rfl⟩
theorem QlD (l : List Int) (c : Int) : ∀ x ∈ l, x ∈ insL l c := fun x hx => by
 unfold insL
 rw [← List.take_append_drop (l.countP (· < c)) l] at hx
 rcases List.mem_append.1 hx with h | h
 · exact List.mem_append_left _ h
 · exact List.mem_append_right _ (List.mem_cons_of_mem _ h)
theorem Qgd (l : List Int) (c : Int) : ∀ x ∈ l, x ∈ (ownL l c).2 := fun x hx => by
 unfold ownL
 split
 · exact hx
 · split
   · exact hx
   · exact QlD l c x hx
theorem Qij (g : List Int) : ∀ (l : List Int), ∀ x ∈ l, x ∈ grantL g l := by
 induction g with
 | nil => exact fun _ _ h => h
 | cons c r ih =>
  intro l x hx
  rw [QaO]
  split
  · exact ih _ x (Qgd l c x hx)
  · exact hx
theorem QhK (K : Ker) (th : Thr) (c : Cal) (hk : c.kind = 7) (ms : List Mal) : SelfStep K th (takeL th ms).1 c (takeL th ms).2 := by
 induction ms with
 | nil => exact ⟨.inl rfl, fun _ h => h, .inl rfl, .inl rfl⟩
 | cons m r ih =>
  unfold takeL
  split
  · exact ⟨.inl rfl, Qij _ _, .inl rfl, .inr (.inr (.inl ⟨hk, rfl⟩))⟩
  · exact ih
theorem call_moves {K : Ker} {n : Nat} (hn : n < K.ths.length) (c : Cal) :
 (∃ th2, (callL K n c).1.ths = K.ths.set n th2 ∧ SelfStep K K.ths[n] th2 c (callL K n c).2) ∨
 (c.kind = 3 ∧ ∃ (u : Nat) (hu : u < K.ths.length) (i : Nat) (hi : i < K.ths[u].objs.length) (x : List UInt8), (callL K n c).1.ths = K.ths.set u (putO K.ths[u] i x) ∧ flowsL K.ths[n].label K.ths[u].objs[i].label K.ths[n].own = true) := by
 have e : callL K n c = callT K n K.ths[n] c := by unfold callL; rw [QbH hn]
 have same : ∀ r, ∃ th2, K.ths = K.ths.set n th2 ∧ SelfStep K K.ths[n] th2 c r := fun r => ⟨K.ths[n], by rw [List.set_getElem_self], SelfStep.refl _ _ _ _⟩
 rw [e]
 unfold callT
 by_cases hx : 64 < c.text.length
 · rw [if_pos hx]; exact .inl (same _)
 rw [if_neg hx]
 by_cases k1 : c.kind = 1
 · rw [if_pos k1]
   left
   unfold categoryL
   split
   · exact same _
   · split
     · exact ⟨{ K.ths[n] with own := (ownL K.ths[n].own (K.host * 20 + K.made)).2 }, by simp [setT], .inl rfl, Qgd _ _, .inl rfl, .inl rfl⟩
     · exact same _
 rw [if_neg k1]
 by_cases k2 : c.kind = 2
 · rw [if_pos k2]
   left
   refine ⟨(objectL K.ths[n] c.label).1, by simp [setT], ?_⟩
   show SelfStep _ _ _ _ (objectL K.ths[n] c.label).2
   unfold objectL
   split
   · split
     · split
       · exact SelfStep.refl _ _ _ _
       · exact ⟨.inl rfl, fun _ h => h, .inr ⟨_, rfl⟩, .inl rfl⟩
     · exact SelfStep.refl _ _ _ _
   · exact SelfStep.refl _ _ _ _
 rw [if_neg k2]
 by_cases k3 : c.kind = 3
 · rw [if_pos k3]
   unfold putL
   split
   · rename_i u o hu ho
     split
     · rename_i hf
       right
       obtain ⟨m, em, hm, rfl⟩ := QV hu
       unfold objAt at ho
       rw [hu] at ho
       simp only at ho
       split at ho
       · rename_i h0
         obtain ⟨hi, eo⟩ := List.getElem?_eq_some_iff.1 ho
         subst eo
         refine ⟨k3, m, hm, c.n.toNat, hi, lastL (K.ths[n].text ++ c.text), ?_, hf⟩
         show (setT K c.t _).ths = _
         rw [em, QaL, show ((c.n.toNat : Nat) : Int) = c.n by omega]
       · cases ho
     · exact .inl (same _)
   · exact .inl (same _)
 rw [if_neg k3]
 left
 by_cases k4 : c.kind = 4
 · rw [if_pos k4]
   unfold getL
   split
   · exact same _
   · rename_i o ho
     split
     · rename_i hf
       exact ⟨{ K.ths[n] with text := lastL (K.ths[n].text ++ o.text) }, by simp [setT], .inl rfl, fun _ h => h, .inl rfl, .inr (.inr (.inr ⟨k4, rfl, rfl, o, ho, hf⟩))⟩
     · exact same _
 rw [if_neg k4]
 by_cases k5 : c.kind = 5
 · rw [if_pos k5]
   refine ⟨(levelL K.ths[n] c.c c.n).1, by simp [setT], ?_⟩
   unfold levelL
   split
   · split
     · rename_i hf
       exact ⟨.inr ⟨k5, rfl, hf⟩, fun _ h => h, .inl rfl, .inl rfl⟩
     · exact SelfStep.refl _ _ _ _
   · exact SelfStep.refl _ _ _ _
 rw [if_neg k5]
 by_cases k7 : c.kind = 7
 · rw [if_pos k7]
   exact ⟨(takeL K.ths[n] K.ths[n].mails).1, by simp [setT], QhK K _ c k7 _⟩
 rw [if_neg k7]
 by_cases k9 : c.kind = 9
 · rw [if_pos k9]
   exact ⟨{ K.ths[n] with text := lastL c.text }, by simp [setT], .inl rfl, fun _ h => h, .inl rfl, .inr (.inl k9)⟩
 rw [if_neg k9]
 by_cases k10 : c.kind = 10
 · rw [if_pos k10]; exact same _
 rw [if_neg k10]
 exact same _
def firstN (q : Int) : Nat → List Snt → Int
 | _, [] => -1
 | k, s :: r => if s.f.seq = q then k else firstN q (k + 1) r
theorem firstN_or (q : Int) : ∀ (l : List Snt) (k : Nat), (firstN q k l = -1 ∧ ∀ s ∈ l, s.f.seq ≠ q) ∨ ∃ (i : Nat) (h : i < l.length), firstN q k l = ((k + i : Nat) : Int) ∧ (l[i]).f.seq = q
 | [], _ => Or.inl ⟨rfl, fun s hs => absurd hs (by simp)⟩
 | s :: r, k => by
  by_cases hs : s.f.seq = q
  · exact Or.inr ⟨0, by simp, by simp [firstN, hs], hs⟩
  · rcases firstN_or q r (k + 1) with ⟨h1, h2⟩ | ⟨i, hi, h1, h2⟩
    · refine Or.inl ⟨by simp [firstN, hs, h1], fun x hx => ?_⟩
      rcases List.mem_cons.1 hx with e | hx
      · rw [e]; exact hs
      · exact h2 x hx
    · refine Or.inr ⟨i + 1, by simpa using hi, ?_, by simpa using h2⟩
      simp only [firstN, hs, if_false]
      rw [h1]
      congr 1
      omega
theorem Qmb {l : Lne} {q : Int} (hg : goodLn l = true) (h : ∀ s ∈ l.sent, s.f.seq ≠ q) : ansLn l q = (l, 4) := by
 unfold ansLn
 rw [if_pos hg, if_pos]
 rw [List.all_eq_true]
 intro s hs
 simpa using h s hs
theorem Ql9 {l : Lne} {q : Int} (hg : goodLn l = true) (i : Nat) (hi : i < l.sent.length) (h : (l.sent[i]).f.seq = q) : ansLn l q = ({ l with sent := l.sent.take i ++ l.sent.drop (i + 1) }, 0) := by
 unfold ansLn
 have hne : ¬ (l.sent.all (fun s => !(s.f.seq == q)) = true) := fun ha => by
  have := List.all_eq_true.1 ha _ (List.getElem_mem hi)
  simp [h] at this
 rw [if_pos hg, if_neg hne, ← h, Qd9 (QaB hg) i hi]
theorem QmD {l : Lne} {q : Int} (hg : goodLn l = false) : ansLn l q = (l, 2) := by
 unfold ansLn
 rw [hg]
 rfl
def pairsC : List (Int × Int) := [0, 1, 2, 3].flatMap fun a => [0, 1, 2, 3].map fun b => ((a : Int), (b : Int))
def stepT (s : Clu × Nat) (ab : Int × Int) : Clu × Nat := ((againC s.1 ab.1 ab.2).1, s.2 + (againC s.1 ab.1 ab.2).2)
def tickN (D : Clu) (k : Nat) : Clu × Nat := (pairsC.take k).foldl stepT (D, 0)
theorem QhW : ∀ i, i < 4 → ∀ j, j < 4 → pairsC.take (i * 4 + j + 1) = pairsC.take (i * 4 + j) ++ [((i : Int), (j : Int))] := by decide
theorem QhB (D : Clu) {i j : Nat} (hi : i < 4) (hj : j < 4) : tickN D (i * 4 + j + 1) = ((againC (tickN D (i * 4 + j)).1 i j).1, (tickN D (i * 4 + j)).2 + (againC (tickN D (i * 4 + j)).1 i j).2) := by
 unfold tickN
 rw [QhW i hi j hj, List.foldl_append]
 rfl
theorem QkZ {C : Clu} {n : Int} (h1 : 1 ≤ n) (h2 : n ≤ 1099511627776 - C.now) : tickC C n = ((tickN { C with now := C.now + n } 16).1, ⟨0, ((tickN { C with now := C.now + n } 16).2 : Int), []⟩) := by
 unfold tickC
 rw [if_pos ⟨h1, h2⟩]
 rfl
theorem Qjs {C : Clu} {n : Int} (h : ¬ (1 ≤ n ∧ n ≤ 1099511627776 - C.now)) : tickC C n = (C, code 2) := by
 unfold tickC
 rw [if_neg h]
theorem QhC {D : Clu} (h : GoodC D) (k : Nat) : GoodC (tickN D k).1 := QaI (pairsC.take k) (D, 0) h
def aliveA : Ac := ⟨1, 2, 0, 0, ⟨1, 0, 0, 0, 0, [], [], []⟩⟩
def aliveB : Ac := ⟨1, 2, 0, 0, ⟨6, 1, 3, 0, 0, [], [], [104, 105]⟩⟩
theorem QmF : (doC freshClu aliveA).2.n = 40 := by rfl
def aliveM : Mal := ⟨2, 0, [], [], [104, 105]⟩
theorem QcM : Lib.compact ([] : List Int) = [] := by
 refine List.eq_nil_iff_forall_not_mem.2 fun x hx => ?_
 rw [Qdp] at hx
 cases hx
theorem Qhm : namesL aliveM = [] := by
 unfold namesL aliveM
 simp [QcM]
theorem Qhn (own : List Int) : flowsL [] [] own = true := by
 unfold flowsL catsL
 simp [QcM]
theorem QkI : getT ((doC freshClu aliveA).1.ks 2) 0 = some ⟨[], [40], [], [], []⟩ := by rfl
theorem Qf3 : letterL ((doC freshClu aliveA).1.ks 2) 0 aliveB.call = (aliveM, 0) := by
 unfold letterL
 rw [QkI]
 have hm : letterM ((doC freshClu aliveA).1.ks 2) 0 aliveB.call ⟨[], [40], [], [], []⟩ = aliveM := by rfl
 simp only [hm]
 have h0 : mayL ⟨[], [40], [], [], []⟩ aliveM = 0 := by
  unfold mayL
  rw [if_pos (by decide), if_pos (by rfl)]
  show (if flowsL [] [] [40] = true then (0 : Int) else 6) = 0
  rw [Qhn]
  rfl
 rw [if_pos h0]
theorem QkK (l : List Crt) : mayB l 1 aliveM 0 = true := by
 unfold mayB
 rw [Qhm]
 rfl
theorem Qi2 : showL [] aliveM = [] := rfl
theorem QkN : (doC freshClu aliveA).1.certs 2 = [] := by rfl
theorem QkL : (doC freshClu aliveA).1.lines 2 1 = zeroLne := by rfl
theorem QkJ : (doC freshClu aliveA).1.now = 0 := by rfl
theorem Qi5 : (doC freshClu aliveA).1.acts = 1 := by rfl
theorem Qi4 : (doC freshClu aliveA).1.net = [] := by rfl
def aliveF : Frm := ⟨2, 1, 0, false, 3, aliveM, []⟩
theorem Qi3 : sendLn zeroLne aliveF 0 = (⟨1, [⟨{ aliveF with seq := 1 }, 1, 2⟩], 0, zeroLne.seen⟩, { aliveF with seq := 1 }, 0) := by
 unfold sendLn
 rw [if_pos (by decide), if_neg (by decide)]
 rfl
theorem QkM : frameE { aliveF with seq := 1 } = 0 := by decide
theorem QkH : (doC (doC freshClu aliveA).1 aliveB).2.code = 0 ∧ (doC (doC freshClu aliveA).1 aliveB).1.net.length = 1 := by
 have h1 := Qf3
 have h2 := QkN
 have h3 := QkL
 have h4 := QkJ
 have h5 := Qi5
 have h6 := Qi4
 generalize (doC freshClu aliveA).1 = C at *
 have e1 : doC C aliveB = callC { C with acts := C.acts + 1 } 2 0 aliveB.call := by
  unfold doC
  rw [if_neg (by omega)]
  rfl
 generalize hD : ({ C with acts := C.acts + 1 } : Clu) = D at e1
 have d1 : letterL (kerC D 2) 0 aliveB.call = (aliveM, 0) := by rw [← hD]; exact h1
 have d2 : crtC D 2 = [] := by rw [← hD]; exact h2
 have d3 : lineC D 2 1 = zeroLne := by rw [← hD]; exact h3
 have d4 : D.now = 0 := by rw [← hD]; exact h4
 have d6 : D.net = [] := by rw [← hD]; exact h6
 have e2 : callC D 2 0 aliveB.call = ((sendC D 2 0 aliveB.call).1, code (sendC D 2 0 aliveB.call).2) := by
  unfold callC
  rfl
 have e3 : sendC D 2 0 aliveB.call = awayC D 2 1 3 aliveM := by
  unfold sendC
  rw [if_neg (by decide), d1]
  rfl
 have e4 : awayC D 2 1 3 aliveM = (putC (setLi D 2 1 ⟨1, [⟨{ aliveF with seq := 1 }, 1, 2⟩], 0, zeroLne.seen⟩) { aliveF with seq := 1 }, 0) := by
  unfold awayC
  rw [d2, d3, d4, QkK, if_pos rfl]
  simp only [Qi2]
  show (if (sendLn zeroLne aliveF 0).2.2 = 0 then (putC (setLi D 2 1 (sendLn zeroLne aliveF 0).1) (sendLn zeroLne aliveF 0).2.1, (0 : Int)) else (D, (sendLn zeroLne aliveF 0).2.2)) = _
  simp only [Qi3, if_pos]
 rw [e1, e2, e3, e4]
 refine ⟨rfl, ?_⟩
 unfold putC
 rw [if_pos ⟨QkM, by show D.net.length < 60; rw [d6]; decide⟩]
 show (D.net ++ _).length = 1
 rw [d6]
 rfl
theorem Qcp (C : Clu) (f : Frm) : (putC C f).ks = C.ks ∧ (putC C f).certs = C.certs ∧ (putC C f).now = C.now := by
 unfold putC
 split <;> exact ⟨rfl, rfl, rfl⟩
theorem QfM {K : Ker} {t : Int} {c : Cal} (h : (letterL K t c).2 = 0) : ∃ th, getT K t = some th ∧ letterL K t c = (letterM K t c th, 0) ∧ mailE (letterM K t c th) = 0 ∧ (∀ g ∈ c.grants, g ∈ th.own) ∧ flowsL th.label c.label th.own = true := by
 unfold letterL at h ⊢
 cases hth : getT K t with
 | none =>
  rw [hth] at h
  cases h
 | some th =>
  rw [hth] at h
  simp only at h ⊢
  by_cases h1 : mayL th (letterM K t c th) = 0
  · rw [if_pos h1]
    refine ⟨th, rfl, rfl, ?_⟩
    unfold mayL at h1
    by_cases h2 : mailE (letterM K t c th) = 0
    · rw [if_pos h2] at h1
      by_cases h3 : (letterM K t c th).grants.all (th.own.contains ·) = true
      · rw [if_pos h3] at h1
        by_cases h4 : flowsL th.label (letterM K t c th).label th.own = true
        · exact ⟨h2, fun g hg => by have := List.all_eq_true.1 h3 g hg; simpa using this, h4⟩
        · rw [if_neg h4] at h1
          cases h1
      · rw [if_neg h3] at h1
        cases h1
    · rw [if_neg h2] at h1
      exact absurd h1 h2
  · rw [if_neg h1] at h
    exact absurd h h1
theorem Qfz (C : Clu) (h : Int) (x : Crt) : (addC C h x).1.ks = C.ks ∧ (addC C h x).1.now = C.now := by unfold addC; split <;> exact ⟨rfl, rfl⟩
theorem QdP : ∀ (l : List Crt) (C : Clu) (h : Int), (takeC C h l).ks = C.ks ∧ (takeC C h l).now = C.now
 | [], _, _ => ⟨rfl, rfl⟩
 | x :: r, C, h => by
  have h1 := QdP r (addC C h x).1 h
  have h2 := Qfz C h x
  exact ⟨h1.1.trans h2.1, h1.2.trans h2.2⟩
theorem Ql5 (C : Clu) (fr to t : Int) (m : Mal) : (awayC C fr to t m).1.ks = C.ks := by
 unfold awayC
 split
 · dsimp only
   split
   · exact (Qcp _ _).1
   · rfl
 · rfl
theorem Qhh (C : Clu) (h t : Int) (c : Cal) : (certifyC C h t c).1.ks = C.ks := by
 unfold certifyC
 split
 · split
   · exact (Qfz _ _ _).1
   · rfl
 · rfl
theorem QcJ : ∀ (l : List Frm) (C : Clu), (l.foldl putC C).ks = C.ks
 | [], _ => rfl
 | f :: r, C => by rw [List.foldl_cons, QcJ r, (Qcp _ _).1]
theorem QkO (C : Clu) (a b : Int) : (againC C a b).1.ks = C.ks := by
 unfold againC
 dsimp only
 rw [QcJ]
 rfl
theorem QbY : ∀ (l : List (Int × Int)) (s : Clu × Nat), (l.foldl (fun (s : Clu × Nat) ab => ((againC s.1 ab.1 ab.2).1, s.2 + (againC s.1 ab.1 ab.2).2)) s).1.ks = s.1.ks
 | [], _ => rfl
 | x :: r, s => by rw [List.foldl_cons, QbY r]; exact QkO _ _ _
theorem Qf9 (C : Clu) (n : Int) : (tickC C n).1.ks = C.ks := by
 unfold tickC
 split
 · dsimp only
   rw [QbY]
 · rfl
def FromHere (C : Clu) (a : Ac) (r : Rep) (g : Nat) (t : Int) (m : Mal) : Prop := a.kind = 1 ∧ a.h = g ∧ a.call.kind = 6 ∧ a.call.h = g ∧ t = a.call.t ∧ r.code = 0 ∧ letterL (C.ks g) a.t a.call = (m, 0)
def FromFar (C D : Clu) (g : Nat) (t : Int) (m : Mal) : Prop := ∃ f : Frm, frameE f = 0 ∧ f.ack = false ∧ f.to = g ∧ t = f.thread ∧ m = f.mail ∧ mayB (D.certs g) f.fr m D.now = true ∧ (∃ s ∈ C.net, (decL s) = (f, 0)) ∧ (takeLn (C.lines f.fr.toNat g) f.seq).2 = 0
def KMove (C D : Clu) (a : Ac) (r : Rep) (g : Nat) : Prop :=
 D.ks g = C.ks g ∨ (a.kind = 1 ∧ a.h = g ∧ hostB a.t = true ∧ a.call.kind ≠ 6 ∧ a.call.kind ≠ 8 ∧ D.ks g = (callL (C.ks g) a.t a.call).1 ∧ r = (callL (C.ks g) a.t a.call).2) ∨
  ∃ t m, D.ks g = deliverL (C.ks g) t m ∧ (FromHere C a r g t m ∨ FromFar C D g t m)
theorem Qb1 {C : Clu} {h : Int} {K : Ker} {g : Nat} : (setK C h K).ks g = if g = h.toNat then K else C.ks g := rfl
theorem doC_ks (C : Clu) (a : Ac) (g : Nat) : KMove C (doC C a).1 a (doC C a).2 g := by
 unfold doC
 by_cases h3 : 300 ≤ C.acts
 · rw [if_pos h3]; exact .inl rfl
 rw [if_neg h3]
 dsimp only
 by_cases k1 : a.kind = 1
 · rw [if_pos k1]
   unfold callC
   by_cases h4 : (hostB a.h && hostB a.t) = true
   · rw [if_pos h4]
     rw [Bool.and_eq_true] at h4
     have hh : 0 ≤ a.h ∧ a.h < 4 := of_decide_eq_true h4.1
     by_cases k6 : a.call.kind = 6
     · rw [if_pos k6]
       unfold sendC
       by_cases g1 : 64 < a.call.text.length
       · rw [if_pos g1]; exact .inl rfl
       rw [if_neg g1]
       by_cases g2 : (hostB a.call.h && hostB a.call.t) = true
       · rw [if_pos g2]
         by_cases g3 : (letterL (kerC { C with acts := C.acts + 1 } a.h) a.t a.call).2 = 0
         · rw [if_pos g3]
           by_cases g4 : a.call.h = a.h
           · rw [if_pos g4]
             by_cases e : g = a.h.toNat
             · refine .inr (.inr ⟨a.call.t, (letterL (C.ks g) a.t a.call).1, ?_, .inl ⟨k1, by omega, k6, by omega, rfl, rfl, ?_⟩⟩)
               · rw [Qb1, if_pos e, e]
                 rfl
               · rw [e]
                 exact Prod.ext rfl g3
             · exact .inl (by rw [Qb1, if_neg e])
           · rw [if_neg g4]
             exact .inl (by show (awayC _ _ _ _ _).1.ks g = _; rw [Ql5])
         · rw [if_neg g3]; exact .inl rfl
       · rw [if_neg g2]; exact .inl rfl
     · rw [if_neg k6]
       by_cases k8 : a.call.kind = 8
       · rw [if_pos k8]
         exact .inl (by show (certifyC _ _ _ _).1.ks g = _; rw [Qhh])
       · rw [if_neg k8]
         by_cases e : g = a.h.toNat
         · refine .inr (.inl ⟨k1, by omega, h4.2, k6, k8, ?_, ?_⟩)
           · rw [Qb1, if_pos e, e]
             rfl
           · rw [e]
             rfl
         · exact .inl (by rw [Qb1, if_neg e])
   · rw [if_neg h4]; exact .inl rfl
 · rw [if_neg k1]
   by_cases k2 : a.kind = 2 ∨ a.kind = 3 ∨ a.kind = 4
   · rw [if_pos k2]
     unfold moveC
     by_cases h5 : 0 ≤ a.n ∧ a.n < ((C.net.length : Nat) : Int)
     · rw [if_pos h5]
       dsimp only
       have hmem : C.net.getD a.n.toNat [] ∈ C.net := by
        rw [List.getD_eq_getElem?_getD, List.getElem?_eq_getElem (by omega)]
        exact List.getElem_mem _
       generalize C.net.getD a.n.toNat [] = s at *
       have hB : ∀ (b : Prop) [Decidable b] (x : List (List UInt8)), (if b then ({ C with acts := C.acts + 1 } : Clu) else { C with acts := C.acts + 1, net := x }).ks = C.ks ∧ (if b then ({ C with acts := C.acts + 1 } : Clu) else { C with acts := C.acts + 1, net := x }).lines = C.lines := fun b _ x => by split <;> exact ⟨rfl, rfl⟩
       by_cases k4 : a.kind = 4
       · rw [if_pos k4]
         exact .inl (by rw [(hB _ _).1])
       · rw [if_neg k4]
         have hD := hB (a.kind = 3) (C.net.take a.n.toNat ++ C.net.drop (a.n.toNat + 1))
         generalize (if a.kind = 3 then ({ C with acts := C.acts + 1 } : Clu) else { C with acts := C.acts + 1, net := C.net.take a.n.toNat ++ C.net.drop (a.n.toNat + 1) }) = D0 at *
         unfold comeC
         by_cases h6 : (decL s).2 = 0
         · rw [if_pos h6]
           dsimp only
           have hfe := Qcc h6
           have hds : decL s = ((decL s).1, 0) := Prod.ext rfl h6
           generalize (decL s).1 = f at *
           by_cases hk : f.ack = true
           · rw [if_pos hk]
             exact .inl (by show D0.ks g = _; rw [hD.1])
           · rw [if_neg hk]
             generalize hE : (if (takeLn (lineC D0 f.fr f.to) f.seq).2 = 0 ∨ (takeLn (lineC D0 f.fr f.to) f.seq).2 = 10 then putC (setLi D0 f.fr f.to (takeLn (lineC D0 f.fr f.to) f.seq).1) ⟨f.to, f.fr, f.seq, true, 0, zeroMal, []⟩ else setLi D0 f.fr f.to (takeLn (lineC D0 f.fr f.to) f.seq).1) = E
             have hEk : E.ks = C.ks := by
              rw [← hE]
              split
              · rw [(Qcp _ _).1]; exact hD.1
              · exact hD.1
             by_cases h7 : (takeLn (lineC D0 f.fr f.to) f.seq).2 = 0
             · rw [if_pos h7]
               unfold acceptC
               dsimp only
               have hTk := QdP f.certs E f.to
               generalize takeC E f.to f.certs = T at *
               by_cases h8 : mayB (crtC T f.to) f.fr f.mail T.now = true
               · rw [if_pos h8]
                 by_cases e : g = f.to.toNat
                 · have hto : 0 ≤ f.to ∧ f.to < 4 := of_decide_eq_true (Qax hfe).2.1
                   refine .inr (.inr ⟨f.thread, f.mail, ?_, .inr ⟨f, hfe, by simpa using hk, by omega, rfl, rfl, ?_, ⟨s, hmem, hds⟩, ?_⟩⟩)
                   · rw [Qb1, if_pos e]
                     unfold kerC
                     rw [hTk.1, hEk, e]
                   · rw [e]; exact h8
                   · rw [e, ← hD.2]; exact h7
                 · exact .inl (by rw [Qb1, if_neg e, hTk.1, hEk])
               · rw [if_neg h8]
                 exact .inl (by rw [hTk.1, hEk])
             · rw [if_neg h7]
               exact .inl (by rw [hEk])
         · rw [if_neg h6]
           exact .inl (by rw [hD.1])
     · rw [if_neg h5]; exact .inl rfl
   · rw [if_neg k2]
     by_cases k5 : a.kind = 5
     · rw [if_pos k5]
       exact .inl (by rw [Qf9])
     · rw [if_neg k5]; exact .inl rfl
theorem QlC {l : List Int} {c x : Int} (h : x ∈ insL l c) : x ∈ l ∨ x = c := by
 unfold insL at h
 rcases List.mem_append.1 h with e | e
 · exact .inl (List.mem_of_mem_take e)
 · rcases List.mem_cons.1 e with e | e
   · exact .inr e
   · exact .inl (List.mem_of_mem_drop e)
theorem ownL_new {l : List Int} {c x : Int} (h : x ∈ (ownL l c).2) : x ∈ l ∨ x = c := by
 unfold ownL at h
 split at h
 · exact .inl h
 · split at h
   · exact .inl h
   · exact QlC h
theorem grantL_new : ∀ (g l : List Int) {x : Int}, x ∈ grantL g l → x ∈ l ∨ x ∈ g
 | [], _, _, h => .inl h
 | c :: r, l, x, h => by
  rw [grantL] at h
  split at h
  · rcases grantL_new r _ h with e | e
    · rcases ownL_new e with e | e
      · exact .inl e
      · exact .inr (by rw [e]; simp)
    · exact .inr (List.mem_cons_of_mem _ e)
  · exact .inl h
theorem takeL_new {th : Thr} : ∀ (ms : List Mal) {x : Int}, x ∈ (takeL th ms).1.own → x ∈ th.own ∨ ((takeL th ms).2.code = 0 ∧ ∃ m ∈ ms, x ∈ m.grants)
 | [], _, h => .inl h
 | m :: r, x, h => by
  rw [takeL] at h ⊢
  split
  · rename_i h1
    rw [if_pos h1] at h
    rcases grantL_new _ _ h with e | e
    · exact .inl e
    · exact .inr ⟨rfl, m, by simp, e⟩
  · rename_i h1
    rw [if_neg h1] at h
    rcases takeL_new r h with e | ⟨e1, m', e2, e3⟩
    · exact .inl e
    · exact .inr ⟨e1, m', List.mem_cons_of_mem _ e2, e3⟩
theorem Qa1 {K : Ker} {n : Nat} (hn : n < K.ths.length) (th : Thr) (u : Int) : thrOf (setT K n th) u = if u = n then th else thrOf K u := Qb3 hn (by unfold setT; rw [Int.toNat_natCast]) u
theorem callL_own {K : Ker} {n : Nat} (hn : n < K.ths.length) (c : Cal) (u x : Int) (h : x ∈ (thrOf (callL K n c).1 u).own) :
 x ∈ (thrOf K u).own ∨ (u = n ∧ (callL K n c).2.code = 0 ∧ ((c.kind = 1 ∧ (callL K n c).2.n = x) ∨ (c.kind = 7 ∧ ∃ m ∈ (thrOf K u).mails, x ∈ m.grants))) := by
 have e : callL K n c = callT K n K.ths[n] c := by unfold callL; rw [QbH hn]
 have hT : thrOf K n = K.ths[n] := Qan hn
 rw [e] at h ⊢
 unfold callT at h ⊢
 have put : ∀ (th2 : Thr) (K2 : Ker), K2.ths = K.ths.set n th2 → th2.own = K.ths[n].own → x ∈ (thrOf K2 u).own → x ∈ (thrOf K u).own := fun th2 K2 h1 h2 h3 => by
  rw [Qb3 hn h1] at h3
  split at h3
  · rename_i hu
    rw [hu, hT, ← h2]; exact h3
  · exact h3
 have put2 : ∀ (th2 : Thr), x ∈ (thrOf (setT K n th2) u).own → th2.own = K.ths[n].own → x ∈ (thrOf K u).own := fun th2 h3 h2 => put th2 _ (by unfold setT; rw [Int.toNat_natCast]) h2 h3
 by_cases g0 : 64 < c.text.length
 · rw [if_pos g0] at h; exact .inl h
 rw [if_neg g0] at h ⊢
 by_cases g1 : c.kind = 1
 · rw [if_pos g1] at h ⊢
   unfold categoryL at h ⊢
   split
   · rename_i h1
     rw [if_pos h1] at h; exact .inl h
   · rename_i h1
     rw [if_neg h1] at h
     split
     · rename_i h2
       rw [if_pos h2] at h
       have h4 : x ∈ (thrOf (setT K n { K.ths[n] with own := (ownL K.ths[n].own (K.host * 20 + K.made)).2 }) u).own := h
       rw [Qa1 hn] at h4
       split at h4
       · rename_i hu
         rcases ownL_new h4 with e1 | e1
         · exact .inl (by rw [hu, hT]; exact e1)
         · exact .inr ⟨hu, rfl, .inl ⟨g1, e1.symm⟩⟩
       · exact .inl h4
     · rename_i h2
       rw [if_neg h2] at h; exact .inl h
 rw [if_neg g1] at h ⊢
 by_cases g2 : c.kind = 2
 · rw [if_pos g2] at h
   refine .inl (put2 _ h ?_)
   unfold objectL
   split
   · split
     · split <;> rfl
     · rfl
   · rfl
 rw [if_neg g2] at h ⊢
 by_cases g3 : c.kind = 3
 · rw [if_pos g3] at h
   left
   replace h : x ∈ (thrOf (putL K K.ths[n] c) u).own := h
   unfold putL at h
   split at h
   · rename_i v o hv ho
     split at h
     · obtain ⟨k, hk, hk2, hk3⟩ := QV hv
       rw [hk, Qa1 hk2] at h
       split at h
       · rename_i hu
         rw [hu, Qan hk2, hk3]
         exact h
       · exact h
     · exact h
   · exact h
 rw [if_neg g3] at h ⊢
 by_cases g4 : c.kind = 4
 · rw [if_pos g4] at h
   left
   unfold getL at h
   split at h
   · exact h
   · split at h
     · exact put2 _ h rfl
     · exact h
 rw [if_neg g4] at h ⊢
 by_cases g5 : c.kind = 5
 · rw [if_pos g5] at h
   refine .inl (put2 _ h ?_)
   unfold levelL
   split
   · split <;> rfl
   · rfl
 rw [if_neg g5] at h ⊢
 by_cases g7 : c.kind = 7
 · rw [if_pos g7] at h ⊢
   replace h : x ∈ (thrOf (setT K n (takeL K.ths[n] K.ths[n].mails).1) u).own := h
   rw [Qa1 hn] at h
   split at h
   · rename_i hu
     rcases takeL_new _ h with e1 | ⟨e1, e2⟩
     · exact .inl (by rw [hu, hT]; exact e1)
     · exact .inr ⟨hu, e1, .inr ⟨g7, by rw [hu, hT]; exact e2⟩⟩
   · exact .inl h
 rw [if_neg g7] at h ⊢
 by_cases g9 : c.kind = 9
 · rw [if_pos g9] at h
   exact .inl (put2 _ h rfl)
 rw [if_neg g9] at h ⊢
 by_cases g10 : c.kind = 10
 · rw [if_pos g10] at h; exact .inl h
 rw [if_neg g10] at h; exact .inl h
theorem Qay (l : List (Int × Int)) (own : List Int) : flowsL l l own = true := (Qej _ _ _).2 fun _ => .inr (Int.le_refl _)
theorem Qdy {K : Ker} {n : Nat} (hn : n < K.ths.length) (c : Cal) (u : Int) : (∀ x ∈ (thrOf K u).own, x ∈ (thrOf (callL K n c).1 u).own) ∧ flowsL (thrOf K u).label (thrOf (callL K n c).1 u).label (thrOf K u).own = true := by
 rcases call_moves hn c with ⟨th2, h1, h2⟩ | ⟨_, v, hv, i, hi, x, h1, _⟩
 · rw [Qb3 hn h1]
   split
   · rename_i hu
     rw [hu, Qan hn]
     refine ⟨h2.own, ?_⟩
     rcases h2.label with e | ⟨_, _, e⟩
     · rw [e]; exact Qay _ _
     · exact e
   · exact ⟨fun _ h => h, Qay _ _⟩
 · rw [Qb3 hv h1]
   split
   · rename_i hu
     rw [hu, Qan hv]
     exact ⟨fun _ h => h, Qay _ _⟩
   · exact ⟨fun _ h => h, Qay _ _⟩
theorem Qep (th : Thr) (m : Mal) : (boxL th m).own = th.own ∧ (boxL th m).label = th.label ∧ (boxL th m).objs = th.objs ∧ (boxL th m).text = th.text := by
 unfold boxL
 split <;> exact ⟨rfl, rfl, rfl, rfl⟩
theorem QeF {K : Ker} (t : Int) (m : Mal) (u : Int) : (thrOf (deliverL K t m) u).own = (thrOf K u).own ∧ (thrOf (deliverL K t m) u).label = (thrOf K u).label := by
 unfold deliverL
 cases ht : getT K t with
 | none => exact ⟨rfl, rfl⟩
 | some th =>
  obtain ⟨n, rfl, hn, e⟩ := QV ht
  simp only
  rw [Qa1 hn]
  split
  · rename_i hu
    rw [hu, Qan hn, e]
    exact ⟨(Qep _ _).1, (Qep _ _).2.1⟩
  · exact ⟨rfl, rfl⟩
theorem QbR {C : Clu} (hg : GoodC C) (a : Ac) (h : Nat) (h4 : h < 4) (t x : Int) :
 (x ∈ (thrOf ((doC C a).1.ks h) t).own → x ∈ (thrOf (C.ks h) t).own ∨ (a.kind = 1 ∧ a.h = h ∧ a.t = t ∧ (doC C a).2.code = 0 ∧ ((a.call.kind = 1 ∧ (doC C a).2.n = x) ∨ (a.call.kind = 7 ∧ ∃ m ∈ (thrOf (C.ks h) t).mails, x ∈ m.grants)))) ∧
 (x ∈ (thrOf (C.ks h) t).own → x ∈ (thrOf ((doC C a).1.ks h) t).own) ∧ flowsL (thrOf (C.ks h) t).label (thrOf ((doC C a).1.ks h) t).label (thrOf (C.ks h) t).own = true := by
 rcases doC_ks C a h with e | ⟨k1, k2, k3, _, _, e, er⟩ | ⟨t', m, e, _⟩
 · rw [e]
   exact ⟨.inl, id, Qay _ _⟩
 · have ht : 0 ≤ a.t ∧ a.t < 4 := of_decide_eq_true k3
   obtain ⟨n, hn⟩ : ∃ n : Nat, a.t = n := ⟨a.t.toNat, by omega⟩
   have hl : n < (C.ks h).ths.length := by rw [(hg.ks h h4).four]; omega
   rw [e, er, hn]
   refine ⟨fun hx => ?_, (Qdy hl a.call t).1 x, (Qdy hl a.call t).2⟩
   rcases callL_own hl a.call t x hx with q | ⟨q1, q2, q3⟩
   · exact .inl q
   · exact .inr ⟨k1, k2, q1.symm, q2, q3⟩
 · rw [e]
   obtain ⟨q1, q2⟩ := QeF (K := C.ks h) t' m t
   rw [q1, q2]
   exact ⟨.inl, id, Qay _ _⟩
theorem Qdk {th : Thr} : ∀ (ms : List Mal), ∃ k, (takeL th ms).1.mails = ms.drop k
 | [] => ⟨0, rfl⟩
 | m :: r => by
  rw [takeL]
  split
  · exact ⟨1, rfl⟩
  · obtain ⟨k, e⟩ := Qdk (th := th) r
    exact ⟨k + 1, e⟩
theorem Qdx {K : Ker} {n : Nat} (hn : n < K.ths.length) (c : Cal) (u : Int) : ∃ k, (thrOf (callL K n c).1 u).mails = (thrOf K u).mails.drop k := by
 have e : callL K n c = callT K n K.ths[n] c := by unfold callL; rw [QbH hn]
 have hT : thrOf K n = K.ths[n] := Qan hn
 have same : ∃ k, (thrOf K u).mails = (thrOf K u).mails.drop k := ⟨0, rfl⟩
 have put : ∀ (th2 : Thr) (k : Nat), th2.mails = K.ths[n].mails.drop k → ∃ k, (thrOf (setT K n th2) u).mails = (thrOf K u).mails.drop k := fun th2 k h => by
  rw [Qa1 hn]
  split
  · rename_i hu
    rw [hu, hT]; exact ⟨k, h⟩
  · exact same
 rw [e]
 unfold callT
 by_cases g0 : 64 < c.text.length
 · rw [if_pos g0]; exact same
 rw [if_neg g0]
 by_cases g1 : c.kind = 1
 · rw [if_pos g1]
   unfold categoryL
   split
   · exact same
   · split
     · exact put { K.ths[n] with own := (ownL K.ths[n].own (K.host * 20 + K.made)).2 } 0 rfl
     · exact same
 rw [if_neg g1]
 by_cases g2 : c.kind = 2
 · rw [if_pos g2]
   refine put (objectL K.ths[n] c.label).1 0 ?_
   unfold objectL
   split
   · split
     · split <;> rfl
     · rfl
   · rfl
 rw [if_neg g2]
 by_cases g3 : c.kind = 3
 · rw [if_pos g3]
   show ∃ k, (thrOf (putL K K.ths[n] c) u).mails = _
   unfold putL
   split
   · rename_i v o hv ho
     split
     · obtain ⟨k, hk, hk2, hk3⟩ := QV hv
       rw [hk, Qa1 hk2]
       split
       · rename_i hu
         rw [hu, Qan hk2, hk3]
         exact ⟨0, rfl⟩
       · exact same
     · exact same
   · exact same
 rw [if_neg g3]
 by_cases g4 : c.kind = 4
 · rw [if_pos g4]
   unfold getL
   split
   · exact same
   · rename_i o _
     split
     · exact put { K.ths[n] with text := lastL (K.ths[n].text ++ o.text) } 0 rfl
     · exact same
 rw [if_neg g4]
 by_cases g5 : c.kind = 5
 · rw [if_pos g5]
   refine put (levelL K.ths[n] c.c c.n).1 0 ?_
   unfold levelL
   split
   · split <;> rfl
   · rfl
 rw [if_neg g5]
 by_cases g7 : c.kind = 7
 · rw [if_pos g7]
   obtain ⟨k, hk⟩ := Qdk (th := K.ths[n]) K.ths[n].mails
   exact put (takeL K.ths[n] K.ths[n].mails).1 k hk
 rw [if_neg g7]
 by_cases g9 : c.kind = 9
 · rw [if_pos g9]
   exact put { K.ths[n] with text := lastL c.text } 0 rfl
 rw [if_neg g9]
 by_cases g10 : c.kind = 10
 · rw [if_pos g10]; exact same
 rw [if_neg g10]; exact same
theorem deliverL_mails (K : Ker) (t : Int) (m : Mal) (u : Int) : thrOf (deliverL K t m) u = thrOf K u ∨
 (u = t ∧ mailE m = 0 ∧ flowsL m.label (thrOf K u).label (thrOf K u).own = true ∧ (thrOf K u).mails.length < 6 ∧ thrOf (deliverL K t m) u = { thrOf K u with mails := (thrOf K u).mails ++ [m] }) := by
 unfold deliverL
 cases ht : getT K t with
 | none => exact .inl rfl
 | some th =>
  obtain ⟨n, rfl, hn, e⟩ := QV ht
  simp only
  rw [Qa1 hn]
  by_cases hu : u = n
  · rw [if_pos hu, hu, Qan hn, e]
    unfold boxL
    split
    · rename_i h
      exact .inr ⟨rfl, h.1, h.2.1, h.2.2, rfl⟩
    · exact .inl rfl
  · rw [if_neg hu]; exact .inl rfl
theorem QiR (K : Ker) (t : Int) (c : Cal) : (callL K t c).1.host = K.host := by
 unfold callL
 split
 · rfl
 · rename_i th hth
   unfold callT
   repeat' split
   all_goals first
    | rfl
    | (unfold categoryL; (repeat' split) <;> rfl)
    | (show (putL _ _ _).host = _; unfold putL; (repeat' split) <;> rfl)
    | (unfold getL; (repeat' split) <;> rfl)
theorem QeQ (K : Ker) (t : Int) (m : Mal) : (deliverL K t m).host = K.host := by
 unfold deliverL
 split <;> rfl
def HostC (C : Clu) : Prop := ∀ g : Nat, (C.ks g).host = g
theorem freshH : HostC freshClu := fun _ => rfl
theorem QmM {C : Clu} (h : HostC C) (a : Ac) : HostC (doC C a).1 := fun g => by
 rcases doC_ks C a g with e | ⟨_, _, _, _, _, e, _⟩ | ⟨t', m, e, _⟩
 · rw [e]; exact h g
 · rw [e, QiR]; exact h g
 · rw [e, QeQ]; exact h g
theorem Qje : ∀ (l : List Ac) {C : Clu} (_ : HostC C), HostC (playC C l)
 | [], _, h => h
 | a :: r, _, h => Qje r (QmM h a)
theorem QcI {K : Ker} {t : Int} {c : Cal} {m : Mal} (h : letterL K t c = (m, 0)) : m.host = K.host := by
 obtain ⟨th, _, e, _⟩ := QfM (K := K) (t := t) (c := c) (by rw [h])
 rw [h] at e
 rw [(Prod.mk.inj e).1]
 rfl
theorem Qfe {f : Frm} (h : frameE f = 0) (ha : f.ack = false) : f.mail.host = f.fr := by
 unfold frameE at h
 split at h
 · rw [ha] at h
   simp only [Bool.false_eq_true, if_false] at h
   unfold loadE at h
   split at h
   · split at h
     · assumption
     · cases h
   · rename_i h1; exact absurd h h1
 · cases h
theorem doC_trusted {C : Clu} (hg : GoodC C) (hh : HostC C) (a : Ac) (h : Nat) (h4 : h < 4) (t : Int) :
 (thrOf ((doC C a).1.ks h) t).mails.length ≤ (thrOf (C.ks h) t).mails.length ∨
 ∃ m : Mal, (thrOf ((doC C a).1.ks h) t).mails = (thrOf (C.ks h) t).mails ++ [m] ∧ flowsL m.label (thrOf ((doC C a).1.ks h) t).label (thrOf ((doC C a).1.ks h) t).own = true ∧ (m.host = (h : Int) ∨ mayB ((doC C a).1.certs h) m.host m (doC C a).1.now = true) := by
 rcases doC_ks C a h with e | ⟨k1, k2, k3, _, _, e, er⟩ | ⟨t', m, e, hf⟩
 · rw [e]; exact .inl (Nat.le_refl _)
 · have ht : 0 ≤ a.t ∧ a.t < 4 := of_decide_eq_true k3
   obtain ⟨n, hn⟩ : ∃ n : Nat, a.t = n := ⟨a.t.toNat, by omega⟩
   have hl : n < (C.ks h).ths.length := by rw [(hg.ks h h4).four]; omega
   rw [e, hn]
   obtain ⟨k, hk⟩ := Qdx hl a.call t
   rw [hk, List.length_drop]
   exact .inl (by omega)
 · rw [e]
   rcases deliverL_mails (C.ks h) t' m t with q | ⟨q1, q2, q3, q4, q5⟩
   · rw [q]; exact .inl (Nat.le_refl _)
   · refine .inr ⟨m, by rw [q5], by rw [q5]; exact q3, ?_⟩
     rcases hf with ⟨_, _, _, _, _, _, hl⟩ | ⟨f, f1, f2, f3, f4, f5, f6, _⟩
     · exact .inl ((QcI hl).trans (hh h))
     · refine .inr ?_
       rw [f5] at f6 ⊢
       rw [Qfe f1 f2]; exact f6
end Go.Proofs.Parclose
