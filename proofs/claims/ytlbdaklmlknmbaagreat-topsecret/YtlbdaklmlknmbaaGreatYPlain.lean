/- Plain facts on lists of levels: what At, named, Flows, Good, Same say of them; no program is named here. -/
import Derived.Lib.SlicesCompact
namespace Go.Proofs.Parclose
def atL (l : List (Int × Int)) (c : Int) : Int := match l with
 | [] => 1
 | x :: r => if x.1 = c then x.2 else atL r c
theorem QkS (l : List (Int × Int)) (c : Int) (h : ∀ j (hj : j < l.length), l[j].1 ≠ c) : atL l c = 1 := by
 induction l with
 | nil => rfl
 | cons x r ih =>
  have h0 := h 0 (by simp)
  simp only [List.getElem_cons_zero] at h0
  simp only [atL, if_neg h0]
  exact ih fun j hj => by have := h (j + 1) (by simp; omega); simpa using this
theorem QkR (l : List (Int × Int)) (c : Int) (k : Nat) (hk : k < l.length) (h : ∀ j (hj : j < k), l[j].1 ≠ c) (hc : l[k].1 = c) : atL l c = l[k].2 := by
 induction l generalizing k with
 | nil => simp at hk
 | cons x r ih =>
  cases k with
  | zero => simp only [List.getElem_cons_zero] at hc ⊢; simp only [atL, if_pos hc]
  | succ k =>
   have h0 := h 0 (by omega)
   simp only [List.getElem_cons_zero] at h0
   simp only [atL, if_neg h0, List.getElem_cons_succ]
   exact ih k (by simpa using hk) (fun j hj => by have := h (j + 1) (by omega); simpa using this) (by simpa using hc)
theorem Qc9 {l : List (Int × Int)} {c : Int} (h : c ∉ l.map (·.1)) : atL l c = 1 := by
 induction l with
 | nil => rfl
 | cons x r ih =>
  simp only [List.map_cons, List.mem_cons, not_or] at h
  simp only [atL, if_neg (Ne.symm h.1)]
  exact ih h.2
def catsL (a b : List (Int × Int)) : List Int := Lib.compact ((a.map (·.1) ++ b.map (·.1)).mergeSort fun x y => decide (x ≤ y))
theorem Qbw (d : Array Int) (m : Nat) (hm : m ≤ d.size) (x : Int) : x ∈ Lib.compactUpTo d m ↔ ∃ j, j < m ∧ d[j]! = x := by
 induction m with
 | zero => simp [Lib.compactUpTo]
 | succ m ih =>
  rw [Lib.compactUpTo_succ, List.mem_append, ih (by omega)]
  by_cases hk : Lib.keeps d m
  · simp only [hk, if_true, List.mem_singleton]
    constructor
    · rintro (⟨j, hj, e⟩ | e)
      · exact ⟨j, by omega, e⟩
      · exact ⟨m, by omega, e.symm⟩
    · rintro ⟨j, hj, e⟩
      by_cases h : j = m
      · subst h; exact Or.inr e.symm
      · exact Or.inl ⟨j, by omega, e⟩
  · have hk' : Lib.keeps d m = false := by simpa using hk
    simp only [hk', Bool.false_eq_true, if_false, List.not_mem_nil, or_false]
    have hz : ¬ (m = 0 ∨ d[m]! ≠ d[m - 1]!) := by simpa [Lib.keeps] using hk'
    constructor
    · rintro ⟨j, hj, e⟩; exact ⟨j, by omega, e⟩
    · rintro ⟨j, hj, e⟩
      by_cases h : j = m
      · subst h
        have h2 : d[j]! = d[j - 1]! := by
         by_cases g : d[j]! = d[j - 1]!
         · exact g
         · exact absurd (Or.inr g) hz
        have h1 : ¬ j = 0 := fun g => hz (Or.inl g)
        exact ⟨j - 1, by omega, by rw [← h2]; exact e⟩
      · exact ⟨j, by omega, e⟩
theorem Qc1 (zs : List Int) (x : Int) : x ∈ Lib.compact zs ↔ x ∈ zs := by
 unfold Lib.compact
 rw [Qbw _ _ (by simp)]
 constructor
 · rintro ⟨j, hj, e⟩
   rw [getElem!_pos _ j (by simpa using hj)] at e
   subst e
   simp
 · intro h
   obtain ⟨j, hj, e⟩ := List.mem_iff_getElem.1 h
   exact ⟨j, hj, by rw [getElem!_pos _ j (by simpa using hj)]; simpa using e⟩
theorem QcB (d : Array Int) (hd : ∀ i j, i ≤ j → j < d.size → d[i]! ≤ d[j]!) (m : Nat) (hm : m ≤ d.size) : (Lib.compactUpTo d m).Pairwise (· < ·) := by
 induction m with
 | zero => simp [Lib.compactUpTo]
 | succ m ih =>
  rw [Lib.compactUpTo_succ, List.pairwise_append]
  refine ⟨ih (by omega), by split <;> simp, ?_⟩
  intro x hx y hy
  obtain ⟨j, hj, e⟩ := (Qbw d m (by omega) x).1 hx
  by_cases hk : Lib.keeps d m
  · simp only [hk, if_true, List.mem_singleton] at hy
    subst hy
    have hz : m = 0 ∨ d[m]! ≠ d[m - 1]! := by simpa [Lib.keeps] using hk
    rcases hz with h0 | hne
    · omega
    · have h1 := hd j (m - 1) (by omega) (by omega)
      have h2 := hd (m - 1) m (by omega) (by omega)
      omega
  · simp [hk] at hy
theorem QiU (a b : List (Int × Int)) (c : Int) : c ∈ catsL a b ↔ c ∈ a.map (·.1) ∨ c ∈ b.map (·.1) := by
 unfold catsL
 rw [Qc1, List.mem_mergeSort, List.mem_append]
theorem Qcv (a b : List (Int × Int)) : (catsL a b).length ≤ a.length + b.length := by
 unfold catsL Lib.compact Lib.compactUpTo
 have h1 := List.length_filter_le (Lib.keeps ((a.map (·.1) ++ b.map (·.1)).mergeSort fun x y => decide (x ≤ y)).toArray) (List.range ((a.map (·.1) ++ b.map (·.1)).mergeSort fun x y => decide (x ≤ y)).length)
 simp at h1 ⊢
 omega
def hasB (own : List Int) (c : Int) : Bool := own.contains c
def flowsL (a b : List (Int × Int)) (own : List Int) : Bool := (catsL a b).all fun c => decide (atL a c ≤ atL b c) || own.contains c
theorem QdN (a b : List (Int × Int)) (own : List Int) : flowsL a b own = true ↔ ∀ c, c ∈ own ∨ atL a c ≤ atL b c := by
 unfold flowsL
 simp only [List.all_eq_true, Bool.or_eq_true, decide_eq_true_eq, List.contains_iff_mem]
 constructor
 · intro h c
   by_cases hc : c ∈ catsL a b
   · rcases h c hc with h1 | h1
     · exact Or.inr h1
     · exact Or.inl h1
   · rw [QiU, not_or] at hc
     rw [Qc9 hc.1, Qc9 hc.2]
     exact Or.inr (Int.le_refl _)
 · intro h c _
   rcases h c with h1 | h1
   · exact Or.inr h1
   · exact Or.inl h1
theorem Qdg {a b : List (Int × Int)} {own : List Int} {c : Int} (h1 : atL b c < atL a c) (h2 : hasB own c = false) : flowsL a b own = false := by
 cases hf : flowsL a b own with
 | false => rfl
 | true =>
  rcases (QdN a b own).1 hf c with h | h
  · simp [hasB, h] at h2
  · omega
theorem Qd3 {a b : List (Int × Int)} {own : List Int} (h : ∀ j (hj : j < (catsL a b).length), atL a (catsL a b)[j] ≤ atL b (catsL a b)[j] ∨ hasB own (catsL a b)[j] = true) : flowsL a b own = true := by
 unfold flowsL
 simp only [List.all_eq_true, Bool.or_eq_true, decide_eq_true_eq]
 intro c hc
 obtain ⟨j, hj, e⟩ := List.mem_iff_getElem.1 hc
 subst e
 exact h j hj
def goodL (l : List (Int × Int)) : Prop := l.length ≤ 8 ∧ (∀ x ∈ l, 0 ≤ x.1 ∧ x.1 < 80 ∧ 0 ≤ x.2 ∧ x.2 ≤ 3 ∧ x.2 ≠ 1) ∧ l.Pairwise (fun x y => x.1 < y.1)
def catB (c : Int) : Bool := decide (0 ≤ c ∧ c < 80)
def bndB (n : Int) : Bool := decide (0 ≤ n ∧ n ≤ 3)
def levB (x : Int × Int) : Bool := catB x.1 && bndB x.2 && !(x.2 == 1)
def goodB (l : List (Int × Int)) : Bool := decide (l.length ≤ 8 ∧ (∀ x ∈ l, 0 ≤ x.1 ∧ x.1 < 80 ∧ 0 ≤ x.2 ∧ x.2 ≤ 3 ∧ x.2 ≠ 1) ∧ l.Pairwise (fun x y => x.1 < y.1))
theorem QaB (l : List (Int × Int)) : goodB l = true ↔ goodL l := by unfold goodB goodL; exact decide_eq_true_iff
theorem Qfv (x : Int × Int) : levB x = true ↔ (0 ≤ x.1 ∧ x.1 < 80 ∧ 0 ≤ x.2 ∧ x.2 ≤ 3 ∧ x.2 ≠ 1) := by
 simp only [levB, catB, bndB, Bool.and_eq_true, decide_eq_true_eq, Bool.not_eq_true', beq_eq_false_iff_ne, ne_eq]
 constructor
 · rintro ⟨⟨⟨h1, h2⟩, h3, h4⟩, h5⟩; exact ⟨h1, h2, h3, h4, h5⟩
 · rintro ⟨h1, h2, h3, h4, h5⟩; exact ⟨⟨⟨h1, h2⟩, h3, h4⟩, h5⟩
theorem Qhu {l : List (Int × Int)} (h : 8 < l.length) : goodB l = false := by
 cases e : goodB l with
 | false => rfl
 | true => have := ((QaB l).1 e).1; omega
theorem Qi5 {l : List (Int × Int)} (k : Nat) (hk : k < l.length) (h : levB l[k] = false) : goodB l = false := by
 cases e : goodB l with
 | false => rfl
 | true =>
  have := (Qfv l[k]).2 (((QaB l).1 e).2.1 l[k] (List.getElem_mem hk))
  rw [h] at this
  cases this
theorem Qht {l : List (Int × Int)} (k : Nat) (hk : k + 1 < l.length) (h : l[k + 1].1 ≤ l[k].1) : goodB l = false := by
 cases e : goodB l with
 | false => rfl
 | true =>
  have := (List.pairwise_iff_getElem.1 ((QaB l).1 e).2.2) k (k + 1) (by omega) hk (by omega)
  omega
theorem Qdf (l : List (Int × Int)) (h : ∀ j (hj : j + 1 < l.length), l[j].1 < l[j + 1].1) : l.Pairwise (fun x y => x.1 < y.1) := by
 rw [List.pairwise_iff_getElem]
 intro i j hi hj hij
 induction j with
 | zero => omega
 | succ j ih =>
  have hs := h j hj
  by_cases e : i = j
  · subst e; exact hs
  · have := ih (by omega) (by omega); omega
theorem Qi6 {l : List (Int × Int)} (h8 : l.length ≤ 8) (h1 : ∀ j (hj : j < l.length), levB l[j] = true) (h2 : ∀ j (hj : j + 1 < l.length), l[j].1 < l[j + 1].1) : goodB l = true := by
 refine (QaB l).2 ⟨h8, fun x hx => ?_, Qdf l h2⟩
 obtain ⟨j, hj, e⟩ := List.mem_iff_getElem.1 hx
 subst e
 exact (Qfv _).1 (h1 j hj)
def sameB (a b : List (Int × Int)) : Bool := decide (a = b)
theorem QcH (a b : List (Int × Int)) : sameB a b = true ↔ a = b := decide_eq_true_iff
theorem QiC {a b : List (Int × Int)} (h : a.length ≠ b.length) : sameB a b = false := decide_eq_false fun e => h (by rw [e])
theorem Qg5 {a b : List (Int × Int)} (k : Nat) (hk : k < a.length) (hk' : k < b.length) (h : a[k] ≠ b[k]) : sameB a b = false := decide_eq_false fun e => h (by subst e; rfl)
theorem QiD {a b : List (Int × Int)} (hl : a.length = b.length) (h : ∀ j (hj : j < a.length) (hj' : j < b.length), a[j] = b[j]) : sameB a b = true := decide_eq_true (List.ext_getElem hl h)
structure Crt where
 c : Int
 b : Int
 h : Int
 u : Int
structure Mal where
 host : Int
 thread : Int
 label : List (Int × Int)
 grants : List Int
 text : List UInt8
structure Frm where
 fr : Int
 to : Int
 seq : Int
 ack : Bool
 thread : Int
 mail : Mal
 certs : List Crt
def zeroMal : Mal := ⟨0, 0, [], [], []⟩
def zeroFrm : Frm := ⟨0, 0, 0, false, 0, zeroMal, []⟩
def hostB (h : Int) : Bool := decide (0 ≤ h ∧ h < 4)
def timeB (n : Int) : Bool := decide (0 ≤ n ∧ n ≤ 1099511627776)
def twoB (a b : Int) : Bool := hostB a && hostB b && !(a == b)
def certB (x : Crt) : Bool := catB x.c && twoB x.b x.h && timeB x.u
def grantsB (l : List Int) : Bool := decide (l.length ≤ 8 ∧ (∀ x ∈ l, 0 ≤ x ∧ x < 80) ∧ l.Pairwise (· < ·))
def mailE (m : Mal) : Int := if hostB m.host && hostB m.thread && goodB m.label && grantsB m.grants then (if m.text.length ≤ 64 then 0 else 9) else 2
def emptyB (m : Mal) : Bool := m.host == 0 && m.thread == 0 && m.label.isEmpty && m.grants.isEmpty && m.text.isEmpty
def answerE (f : Frm) : Int := if f.thread == 0 && emptyB f.mail && f.certs.isEmpty then 0 else 1
def certsE (l : List Crt) : Int := if l.length ≤ 24 then (if l.all certB then 0 else 2) else 5
def loadE (f : Frm) : Int := if mailE f.mail = 0 then (if f.mail.host = f.fr then certsE f.certs else 1) else mailE f.mail
def headB (f : Frm) : Bool := twoB f.fr f.to && !(f.seq == 0) && timeB f.seq && hostB f.thread
def frameE (f : Frm) : Int := if headB f then (if f.ack then answerE f else loadE f) else 2
def byteL (n : Int) : UInt8 := UInt8.ofNat (n % 256).toNat
def timeL (n : Int) : List UInt8 := [byteL (n / 1099511627776), byteL (n / 4294967296), byteL (n / 16777216), byteL (n / 65536), byteL (n / 256), byteL n]
def headL (k : Int) (f : Frm) : List UInt8 := [byteL k, byteL f.fr, byteL f.to] ++ timeL f.seq
def levelsL (l : List (Int × Int)) : List UInt8 := l.flatMap fun x => [byteL x.1, byteL x.2]
def mailL (m : Mal) : List UInt8 := [byteL m.thread, byteL m.label.length] ++ levelsL m.label ++ [byteL m.grants.length] ++ m.grants.map byteL ++ [byteL m.text.length] ++ m.text
def certL (x : Crt) : List UInt8 := [byteL x.c, byteL x.b, byteL x.h] ++ timeL x.u
def certsL (l : List Crt) : List UInt8 := [byteL l.length] ++ l.flatMap certL
def encL (f : Frm) : List UInt8 := if f.ack then headL 1 f else headL 0 f ++ [byteL f.thread] ++ mailL f.mail ++ certsL f.certs
abbrev Tk := List UInt8 × Bool
def textT (n : Nat) (t : Tk) : List UInt8 × Tk := if t.1.length < n then ([], ([], true)) else (t.1.take n, (t.1.drop n, t.2))
def numL (l : List UInt8) : Int := l.foldl (fun n b => n * 256 + (b.toNat : Int)) 0
def numT (n : Nat) (t : Tk) : Int × Tk := (numL (textT n t).1, (textT n t).2)
def iterN {α : Type} (f : α → α) : Nat → α → α
 | 0, s => s
 | n + 1, s => f (iterN f n s)
def levStep (s : List (Int × Int) × Tk) : List (Int × Int) × Tk := (s.1 ++ [((numT 1 s.2).1, (numT 1 (numT 1 s.2).2).1)], (numT 1 (numT 1 s.2).2).2)
def grStep (s : List Int × Tk) : List Int × Tk := (s.1 ++ [(numT 1 s.2).1], (numT 1 s.2).2)
def crtT (t : Tk) : Crt × Tk :=
 (⟨(numT 1 t).1, (numT 1 (numT 1 t).2).1, (numT 1 (numT 1 (numT 1 t).2).2).1, (numT 6 (numT 1 (numT 1 (numT 1 t).2).2).2).1⟩, (numT 6 (numT 1 (numT 1 (numT 1 t).2).2).2).2)
def crStep (s : List Crt × Tk) : List Crt × Tk := (s.1 ++ [(crtT s.2).1], (crtT s.2).2)
def labT (t : Tk) : List (Int × Int) × Tk := iterN levStep (numT 1 t).1.toNat ([], (numT 1 t).2)
def grT (t : Tk) : List Int × Tk := iterN grStep (numT 1 t).1.toNat ([], (numT 1 t).2)
def txT (t : Tk) : List UInt8 × Tk := textT (numT 1 t).1.toNat (numT 1 t).2
def certsT (t : Tk) : List Crt × Tk := iterN crStep (numT 1 t).1.toNat ([], (numT 1 t).2)
def mailT (fr : Int) (t : Tk) : Mal × Tk :=
 (⟨fr, (numT 1 t).1, (labT (numT 1 t).2).1, (grT (labT (numT 1 t).2).2).1, (txT (grT (labT (numT 1 t).2).2).2).1⟩, (txT (grT (labT (numT 1 t).2).2).2).2)
def headT (t : Tk) : (Int × Int × Int × Int) × Tk :=
 (((numT 1 t).1, (numT 1 (numT 1 t).2).1, (numT 1 (numT 1 (numT 1 t).2).2).1, (numT 6 (numT 1 (numT 1 (numT 1 t).2).2).2).1), (numT 6 (numT 1 (numT 1 (numT 1 t).2).2).2).2)
def loadT (fr to seq : Int) (t : Tk) : Frm × Tk :=
 (⟨fr, to, seq, false, (numT 1 t).1, (mailT fr (numT 1 t).2).1, (certsT (mailT fr (numT 1 t).2).2).1⟩, (certsT (mailT fr (numT 1 t).2).2).2)
def frameT (t : Tk) : Frm × Tk :=
 if (headT t).1.1 = 1 then (⟨(headT t).1.2.1, (headT t).1.2.2.1, (headT t).1.2.2.2, true, 0, zeroMal, []⟩, (headT t).2)
 else if (headT t).1.1 = 0 then loadT (headT t).1.2.1 (headT t).1.2.2.1 (headT t).1.2.2.2 (headT t).2
 else (⟨(headT t).1.2.1, (headT t).1.2.2.1, (headT t).1.2.2.2, false, 0, zeroMal, []⟩, ([], true))
def doneB (t : Tk) : Bool := !t.2 && t.1.isEmpty
def decL (s : List UInt8) : Frm × Int :=
 if doneB (frameT (s, false)).2 then (if frameE (frameT (s, false)).1 = 0 then ((frameT (s, false)).1, 0) else (zeroFrm, frameE (frameT (s, false)).1)) else (zeroFrm, 1)
theorem Qap (b : UInt8) : (b.toNat : Int) < 256 := by have := b.toNat_lt; omega
theorem Qc8 (b : UInt8) : byteL (b.toNat : Int) = b := by
 unfold byteL
 have := b.toNat_lt
 rw [show ((b.toNat : Int) % 256).toNat = b.toNat by omega]
 simp
theorem QbA (n : Int) : ((byteL n).toNat : Int) = n % 256 := by
 unfold byteL
 rw [UInt8.toNat_ofNat']
 have : (n % 256).toNat < 2 ^ 8 := by omega
 rw [Nat.mod_eq_of_lt this]
 omega
theorem Qdn {n : Nat} {t : Tk} {x r : List UInt8} (h : textT n t = (x, (r, false))) : t = (x ++ r, false) ∧ x.length = n := by
 unfold textT at h
 split at h
 · cases h
 · rename_i hn
   obtain ⟨s, f⟩ := t
   simp only [Prod.mk.injEq] at h
   obtain ⟨rfl, rfl, rfl⟩ := h
   simp at hn
   exact ⟨by simp, by simp; omega⟩
theorem Qep (x r : List UInt8) : textT x.length (x ++ r, false) = (x, (r, false)) := by
 unfold textT
 rw [if_neg (by simp)]
 simp
theorem QdB {n : Nat} (x r : List UInt8) (h : x.length = n) : textT n (x ++ r, false) = (x, (r, false)) := by
 subst h
 exact Qep x r
theorem list1 {x : List UInt8} (h : x.length = 1) : ∃ b, x = [b] := by
 match x, h with
 | [b], _ => exact ⟨b, rfl⟩
theorem Qkb {t : Tk} {n : Int} {r : List UInt8} (h : numT 1 t = (n, (r, false))) : t = (byteL n :: r, false) ∧ 0 ≤ n ∧ n < 256 := by
 unfold numT at h
 simp only [Prod.mk.injEq] at h
 obtain ⟨h1, h2⟩ := h
 obtain ⟨e, hx⟩ := Qdn (n := 1) (t := t) (x := (textT 1 t).1) (r := r) (by rw [← h2])
 obtain ⟨b, hb⟩ := list1 hx
 rw [hb] at h1 e
 have hn : n = (b.toNat : Int) := by rw [← h1]; simp [numL]
 subst hn
 rw [Qc8]
 have := Qap b
 exact ⟨by simpa using e, by omega, by omega⟩
theorem Q6 (n : Int) (r : List UInt8) (h0 : 0 ≤ n) (h1 : n < 256) : numT 1 (byteL n :: r, false) = (n, (r, false)) := by
 unfold numT
 rw [show (byteL n :: r) = [byteL n] ++ r from rfl, QdB (n := 1) [byteL n] r rfl]
 simp [numL, QbA]
 omega
theorem list6 {x : List UInt8} (h : x.length = 6) : ∃ a b c d e f, x = [a, b, c, d, e, f] := by
 match x, h with
 | [a, b, c, d, e, f], _ => exact ⟨a, b, c, d, e, f, rfl⟩
theorem numL6 (a b c d e f : UInt8) : numL [a, b, c, d, e, f] = (((((a.toNat : Int) * 256 + b.toNat) * 256 + c.toNat) * 256 + d.toNat) * 256 + e.toNat) * 256 + f.toNat := by
 simp [numL]
theorem Qbg {n : Int} {b : UInt8} (h : n % 256 = (b.toNat : Int)) : byteL n = b := by
 rw [← Qc8 b]
 unfold byteL
 rw [h]
 have := Qap b
 rw [show ((b.toNat : Int) % 256) = b.toNat by omega]
theorem Qis (a b c d e f : UInt8) : timeL (numL [a, b, c, d, e, f]) = [a, b, c, d, e, f] := by
 rw [numL6]
 have h1 := Qap a
 have h2 := Qap b
 have h3 := Qap c
 have h4 := Qap d
 have h5 := Qap e
 have h6 := Qap f
 unfold timeL
 rw [Qbg (b := a) (by omega), Qbg (b := b) (by omega), Qbg (b := c) (by omega), Qbg (b := d) (by omega), Qbg (b := e) (by omega), Qbg (b := f) (by omega)]
theorem QiN (n : Int) (h0 : 0 ≤ n) (h1 : n < 281474976710656) : numL (timeL n) = n := by
 unfold timeL
 rw [numL6]
 simp only [QbA]
 omega
theorem Qka {t : Tk} {n : Int} {r : List UInt8} (h : numT 6 t = (n, (r, false))) : t = (timeL n ++ r, false) := by
 unfold numT at h
 simp only [Prod.mk.injEq] at h
 obtain ⟨h1, h2⟩ := h
 obtain ⟨e, hx⟩ := Qdn (n := 6) (t := t) (x := (textT 6 t).1) (r := r) (by rw [← h2])
 obtain ⟨a, b, c, d, e', f, hb⟩ := list6 hx
 rw [hb] at h1 e
 rw [← h1, Qis]
 exact e
theorem QeC (n : Int) (r : List UInt8) (h0 : 0 ≤ n) (h1 : n < 281474976710656) : numT 6 (timeL n ++ r, false) = (n, (r, false)) := by
 unfold numT
 rw [QdB (n := 6) (timeL n) r rfl]
 simp only [QiN n h0 h1]
theorem num1 {t : Tk} (h : (numT 1 t).2.2 = false) : t = (byteL (numT 1 t).1 :: (numT 1 t).2.1, false) ∧ 0 ≤ (numT 1 t).1 ∧ (numT 1 t).1 < 256 := Qkb (by rw [← h])
theorem num6 {t : Tk} (h : (numT 6 t).2.2 = false) : t = (timeL (numT 6 t).1 ++ (numT 6 t).2.1, false) := Qka (by rw [← h])
theorem text1 {n : Nat} {t : Tk} (h : (textT n t).2.2 = false) : t = ((textT n t).1 ++ (textT n t).2.1, false) ∧ (textT n t).1.length = n := Qdn (by rw [← h])
theorem QL {t : Tk} {x : List UInt8} (h : t = (x, false)) : t.2 = false := by rw [h]
theorem levs {n : Nat} {t : Tk} (h : (iterN levStep n ([], t)).2.2 = false) : t = (levelsL (iterN levStep n ([], t)).1 ++ (iterN levStep n ([], t)).2.1, false) ∧ (iterN levStep n ([], t)).1.length = n := by
 induction n with
 | zero => exact ⟨by simp only [iterN] at h ⊢; rw [← h]; rfl, rfl⟩
 | succ n ih =>
  simp only [iterN] at h ⊢
  generalize iterN levStep n ([], t) = s at h ih ⊢
  obtain ⟨l, t1⟩ := s
  simp only [levStep] at h ⊢
  obtain ⟨e2, _, _⟩ := num1 h
  obtain ⟨e1, _, _⟩ := num1 (QL e2)
  obtain ⟨e0, hl⟩ := ih (QL e1)
  simp only at e0 e1 e2 hl
  refine ⟨?_, by simp [hl]⟩
  rw [e0]
  have f1 := congrArg Prod.fst e1
  have f2 := congrArg Prod.fst e2
  simp only at f1 f2
  rw [f1, f2]
  simp [levelsL]
theorem grs {n : Nat} {t : Tk} (h : (iterN grStep n ([], t)).2.2 = false) : t = ((iterN grStep n ([], t)).1.map byteL ++ (iterN grStep n ([], t)).2.1, false) ∧ (iterN grStep n ([], t)).1.length = n := by
 induction n with
 | zero => exact ⟨by simp only [iterN] at h ⊢; rw [← h]; rfl, rfl⟩
 | succ n ih =>
  simp only [iterN] at h ⊢
  generalize iterN grStep n ([], t) = s at h ih ⊢
  obtain ⟨l, t1⟩ := s
  simp only [grStep] at h ⊢
  obtain ⟨e1, _, _⟩ := num1 h
  obtain ⟨e0, hl⟩ := ih (QL e1)
  simp only at e0 e1 hl
  refine ⟨?_, by simp [hl]⟩
  rw [e0]
  have f1 := congrArg Prod.fst e1
  simp only at f1
  rw [f1]
  simp
theorem crt1 {t : Tk} (h : (crtT t).2.2 = false) : t = (certL (crtT t).1 ++ (crtT t).2.1, false) := by
 simp only [crtT] at h ⊢
 have e4 := num6 h
 obtain ⟨e3, _, _⟩ := num1 (QL e4)
 obtain ⟨e2, _, _⟩ := num1 (QL e3)
 obtain ⟨e1, _, _⟩ := num1 (QL e2)
 have f4 := congrArg Prod.fst e4
 have f3 := congrArg Prod.fst e3
 have f2 := congrArg Prod.fst e2
 have f1 := congrArg Prod.fst e1
 simp only at f1 f2 f3 f4
 rw [Prod.ext_iff]
 refine ⟨?_, QL e1⟩
 simp only [certL]
 rw [f1, f2, f3]
 simp only [List.cons_append, List.nil_append, ← f4]
theorem crs {n : Nat} {t : Tk} (h : (iterN crStep n ([], t)).2.2 = false) : t = ((iterN crStep n ([], t)).1.flatMap certL ++ (iterN crStep n ([], t)).2.1, false) ∧ (iterN crStep n ([], t)).1.length = n := by
 induction n with
 | zero => exact ⟨by simp only [iterN] at h ⊢; rw [← h]; rfl, rfl⟩
 | succ n ih =>
  simp only [iterN] at h ⊢
  generalize iterN crStep n ([], t) = s at h ih ⊢
  obtain ⟨l, t1⟩ := s
  simp only [crStep] at h ⊢
  have e1 := crt1 h
  obtain ⟨e0, hl⟩ := ih (QL e1)
  simp only at e0 e1 hl
  refine ⟨?_, by simp [hl]⟩
  rw [e0]
  have f1 := congrArg Prod.fst e1
  simp only at f1
  rw [f1]
  simp
theorem counted {t : Tk} (h : (numT 1 t).2.2 = false) (n : Nat) (hn : n = (numT 1 t).1.toNat) : t = (byteL n :: (numT 1 t).2.1, false) := by
 obtain ⟨e, h0, h1⟩ := num1 h
 subst hn
 rw [show (((numT 1 t).1.toNat : Nat) : Int) = (numT 1 t).1 by omega]
 exact e
theorem lab1 {t : Tk} (h : (labT t).2.2 = false) : t = (byteL (labT t).1.length :: levelsL (labT t).1 ++ (labT t).2.1, false) := by
 unfold labT at h ⊢
 obtain ⟨e, hl⟩ := levs h
 have e1 := counted (QL e) _ hl
 have f := congrArg Prod.fst e
 simp only at f
 rw [List.cons_append, ← f]
 exact e1
theorem gr1 {t : Tk} (h : (grT t).2.2 = false) : t = (byteL (grT t).1.length :: (grT t).1.map byteL ++ (grT t).2.1, false) := by
 unfold grT at h ⊢
 obtain ⟨e, hl⟩ := grs h
 have e1 := counted (QL e) _ hl
 have f := congrArg Prod.fst e
 simp only at f
 rw [List.cons_append, ← f]
 exact e1
theorem tx1 {t : Tk} (h : (txT t).2.2 = false) : t = (byteL (txT t).1.length :: (txT t).1 ++ (txT t).2.1, false) := by
 unfold txT at h ⊢
 obtain ⟨e, hl⟩ := text1 h
 have e1 := counted (QL e) _ hl
 have f := congrArg Prod.fst e
 simp only at f
 rw [List.cons_append, ← f]
 exact e1
theorem certs1 {t : Tk} (h : (certsT t).2.2 = false) : t = (certsL (certsT t).1 ++ (certsT t).2.1, false) := by
 unfold certsT at h ⊢
 obtain ⟨e, hl⟩ := crs h
 have e1 := counted (QL e) _ hl
 have f := congrArg Prod.fst e
 simp only at f
 simp only [certsL, List.cons_append, List.nil_append]
 rw [← f]
 exact e1
theorem Qhg {t t1 t2 t3 t4 : Tk} {n : Int} {l : List (Int × Int)} {g : List Int} {x : List UInt8} (fr : Int) (e1 : t = (byteL n :: t1.1, false)) (e2 : t1 = (byteL l.length :: levelsL l ++ t2.1, false))
 (e3 : t2 = (byteL g.length :: g.map byteL ++ t3.1, false)) (e4 : t3 = (byteL x.length :: x ++ t4.1, false)) : t = (mailL ⟨fr, n, l, g, x⟩ ++ t4.1, false) := by
 subst e4
 subst e3
 subst e2
 subst e1
 simp [mailL]
theorem mail1 {fr : Int} {t : Tk} (h : (mailT fr t).2.2 = false) : t = (mailL (mailT fr t).1 ++ (mailT fr t).2.1, false) := by
 simp only [mailT] at h ⊢
 generalize hA : numT 1 t = A at h ⊢
 generalize hB : labT A.2 = B at h ⊢
 generalize hC : grT B.2 = C at h ⊢
 generalize hD : txT C.2 = D at h ⊢
 have e4 := tx1 (t := C.2) (by rw [hD]; exact h)
 rw [hD] at e4
 have e3 := gr1 (t := B.2) (by rw [hC]; exact QL e4)
 rw [hC] at e3
 have e2 := lab1 (t := A.2) (by rw [hB]; exact QL e3)
 rw [hB] at e2
 obtain ⟨e1, _, _⟩ := num1 (t := t) (by rw [hA]; exact QL e2)
 rw [hA] at e1
 exact Qhg fr e1 e2 e3 e4
theorem head1 {t : Tk} (h : (headT t).2.2 = false) : t = ([byteL (headT t).1.1, byteL (headT t).1.2.1, byteL (headT t).1.2.2.1] ++ timeL (headT t).1.2.2.2 ++ (headT t).2.1, false) ∧ 0 ≤ (headT t).1.1 := by
 simp only [headT] at h ⊢
 have e4 := num6 h
 obtain ⟨e3, _, _⟩ := num1 (QL e4)
 obtain ⟨e2, _, _⟩ := num1 (QL e3)
 obtain ⟨e1, h0, _⟩ := num1 (QL e2)
 have f4 := congrArg Prod.fst e4
 have f3 := congrArg Prod.fst e3
 have f2 := congrArg Prod.fst e2
 have f1 := congrArg Prod.fst e1
 simp only at f1 f2 f3 f4
 refine ⟨?_, h0⟩
 rw [Prod.ext_iff]
 refine ⟨?_, QL e1⟩
 simp only
 rw [f1, f2, f3]
 simp only [List.cons_append, List.nil_append, ← f4]
theorem Qhj {t t1 t2 t3 t4 : Tk} {fr to seq n : Int} {m : Mal} {cs : List Crt} (e1 : t = ([byteL 0, byteL fr, byteL to] ++ timeL seq ++ t1.1, false)) (e2 : t1 = (byteL n :: t2.1, false))
 (e3 : t2 = (mailL m ++ t3.1, false)) (e4 : t3 = (certsL cs ++ t4.1, false)) : t = (encL ⟨fr, to, seq, false, n, m, cs⟩ ++ t4.1, false) := by
 subst e4
 subst e3
 subst e2
 subst e1
 simp [encL, headL]
theorem frame1 {t : Tk} (h : (frameT t).2.2 = false) : t = (encL (frameT t).1 ++ (frameT t).2.1, false) := by
 unfold frameT at h ⊢
 by_cases h1 : (headT t).1.1 = 1
 · rw [if_pos h1] at h ⊢
   obtain ⟨e, _⟩ := head1 h
   rw [h1] at e
   simp only [encL, headL, if_true]
   exact e
 · rw [if_neg h1] at h ⊢
   by_cases h0 : (headT t).1.1 = 0
   · rw [if_pos h0] at h ⊢
     simp only [loadT] at h ⊢
     have e4 := certs1 h
     have e3 := mail1 (QL e4)
     obtain ⟨e2, _, _⟩ := num1 (QL e3)
     obtain ⟨e1, _⟩ := head1 (QL e2)
     rw [h0] at e1
     exact Qhj e1 e2 e3 e4
   · rw [if_neg h0] at h
     simp at h
structure Snt where
 f : Frm
 tries : Int
 due : Int
structure Lne where
 next : Int
 sent : List Snt
 high : Int
 seen : List Bool
def zeroLne : Lne := ⟨0, [], 0, [false, false, false, false, false, false, false, false]⟩
def triesB (s : Snt) : Bool := decide (1 ≤ s.tries ∧ s.tries ≤ 5 ∧ 0 ≤ s.due ∧ s.due ≤ 2199023255552)
def sentB (next : Int) (s : Snt) : Bool := decide (s.f.seq ≤ next) && triesB s
def rises (next : Int) : Int → List Snt → Bool
 | _, [] => true
 | n, s :: r => decide (n < s.f.seq) && sentB next s && rises next s.f.seq r
def headLn (l : Lne) : Bool := decide (0 ≤ l.next ∧ l.next < 1099511627776 ∧ 0 ≤ l.high ∧ l.high ≤ 1099511627776 ∧ l.sent.length ≤ 8)
def goodLn (l : Lne) : Bool := headLn l && rises l.next 0 l.sent
def shiftL (n : Nat) (s : List Bool) : List Bool := (List.replicate (min n 8) false ++ s).take 8
def takeLn (l : Lne) (q : Int) : Lne × Int :=
 if goodLn l && decide (1 ≤ q ∧ q ≤ 1099511627776) then
  if q ≤ l.high - 8 then (l, 11)
  else if l.high < q then ({ l with high := q, seen := (shiftL (q - l.high).toNat l.seen).set 0 true }, 0)
  else if l.seen[(l.high - q).toNat]? = some true then (l, 10)
  else ({ l with seen := l.seen.set (l.high - q).toNat true }, 0)
 else (l, 2)
def sendLn (l : Lne) (f : Frm) (now : Int) : Lne × Frm × Int :=
 if goodLn l && timeB now then
  if l.sent.length = 8 ∨ l.next = 1099511627775 then (l, zeroFrm, 5)
  else ({ l with next := l.next + 1, sent := l.sent ++ [⟨{ f with seq := l.next + 1 }, 1, now + 2⟩] }, { f with seq := l.next + 1 }, 0)
 else (l, zeroFrm, 2)
def ansLn (l : Lne) (q : Int) : Lne × Int :=
 if goodLn l then
  if l.sent.all (fun s => !(s.f.seq == q)) then (l, 4)
  else ({ l with sent := l.sent.filter (fun s => !(s.f.seq == q)) }, 0)
 else (l, 2)
def againS (now : Int) (s : Snt) : List Snt := if now < s.due then [s] else if s.tries = 5 then [] else [{ s with tries := s.tries + 1, due := now + 2 ^ (s.tries + 1).toNat }]
def againF (now : Int) (s : Snt) : List Frm := if now < s.due then [] else if s.tries = 5 then [] else [s.f]
def againLn (l : Lne) (now : Int) : Lne × List Frm × Int :=
 if goodLn l && timeB now then ({ l with sent := l.sent.flatMap (againS now) }, l.sent.flatMap (againF now), 0) else (l, [], 2)
theorem Qg6 (next n : Int) (l : List Snt) (k : Nat) (hk : k < l.length) : rises next n (l.drop k) = (decide (n < (l[k]).f.seq) && sentB next l[k] && rises next (l[k]).f.seq (l.drop (k + 1))) := by
 rw [List.drop_eq_getElem_cons hk]
 rfl
theorem Q5 (l : Lne) : headLn l = true ↔ 0 ≤ l.next ∧ l.next < 1099511627776 ∧ 0 ≤ l.high ∧ l.high ≤ 1099511627776 ∧ l.sent.length ≤ 8 := by simp [headLn]
theorem Qav {l : Lne} (h : goodLn l = true) : headLn l = true := by
 unfold goodLn at h
 simp only [Bool.and_eq_true] at h
 exact h.1
theorem Qaz {l : Lne} (h : goodLn l = true) : rises l.next 0 l.sent = true := by
 unfold goodLn at h
 simp only [Bool.and_eq_true] at h
 exact h.2
theorem QaO {next : Int} : ∀ {l : List Snt} {n : Int}, rises next n l = true → ∀ s ∈ l, n < s.f.seq ∧ s.f.seq ≤ next ∧ triesB s = true
 | [], _, _, s, h => by cases h
 | x :: r, n, h, s, hs => by
  simp only [rises, sentB, Bool.and_eq_true, decide_eq_true_eq] at h
  rcases List.mem_cons.1 hs with rfl | hm
  · exact ⟨h.1.1, h.1.2.1, h.1.2.2⟩
  · have := QaO h.2 s hm
    exact ⟨by omega, this.2⟩
theorem QiE {next : Int} : ∀ {l : List Snt} {n m : Int}, rises next n l = true → m ≤ n → rises next m l = true
 | [], _, _, _, _ => rfl
 | x :: r, n, m, h, hm => by
  simp only [rises, Bool.and_eq_true, decide_eq_true_eq] at h ⊢
  exact ⟨⟨by omega, h.1.2⟩, h.2⟩
theorem QdE {next : Int} : ∀ {l : List Snt} {n : Int} (_ : rises next n l = true) (i : Nat) (hi : i < l.length), l.filter (fun s => !(s.f.seq == (l[i]).f.seq)) = l.take i ++ l.drop (i + 1)
 | x :: r, n, h, 0, _ => by
  simp only [rises, Bool.and_eq_true] at h
  have hm := QaO h.2
  rw [List.filter_cons]
  simp only [List.getElem_cons_zero, beq_self_eq_true, Bool.not_true, Bool.false_eq_true, if_false, List.take_zero, List.nil_append, List.drop_succ_cons, List.drop_zero]
  rw [List.filter_eq_self]
  intro s hs
  have := (hm s hs).1
  simp
  omega
 | x :: r, n, h, i + 1, hi => by
  simp only [rises, Bool.and_eq_true] at h
  have hm := QaO h.2
  have hir : i < r.length := by simpa using hi
  have hne := (hm r[i] (List.getElem_mem hir)).1
  rw [List.filter_cons]
  simp only [List.getElem_cons_succ]
  rw [if_pos (by simp; omega), QdE h.2 i hir]
  simp
theorem QcX {next now : Int} (h0 : 0 ≤ now) (h1 : now ≤ 1099511627776) : ∀ {l : List Snt} {n : Int}, rises next n l = true → rises next n (l.flatMap (againS now)) = true
 | [], _, _ => rfl
 | x :: r, n, h => by
  simp only [rises, Bool.and_eq_true, decide_eq_true_eq] at h
  have ih := QcX (now := now) h0 h1 h.2
  obtain ⟨⟨h2, h3⟩, h4⟩ := h
  rw [List.flatMap_cons]
  by_cases hd : now < x.due
  · rw [show againS now x = [x] by unfold againS; rw [if_pos hd]]
    simp only [List.singleton_append, rises, Bool.and_eq_true, decide_eq_true_eq]
    exact ⟨⟨h2, h3⟩, ih⟩
  · by_cases ht : x.tries = 5
    · rw [show againS now x = [] by unfold againS; rw [if_neg hd, if_pos ht]]
      exact QiE ih (by omega)
    · rw [show againS now x = [{ x with tries := x.tries + 1, due := now + 2 ^ (x.tries + 1).toNat }] by unfold againS; rw [if_neg hd, if_neg ht]]
      simp only [sentB, triesB, Bool.and_eq_true, decide_eq_true_eq] at h3
      have hp : (2 : Int) ^ (x.tries + 1).toNat ≤ 32 ∧ (0 : Int) ≤ 2 ^ (x.tries + 1).toNat := by
       have h : x.tries = 1 ∨ x.tries = 2 ∨ x.tries = 3 ∨ x.tries = 4 := by omega
       rcases h with e | e | e | e <;> rw [e] <;> decide
      simp only [List.singleton_append, rises, sentB, triesB, Bool.and_eq_true, decide_eq_true_eq]
      exact ⟨⟨h2, h3.1, by omega, by omega, by omega, by omega⟩, ih⟩
theorem Qbv (now : Int) : ∀ l : List Snt, (l.flatMap (againS now)).length ≤ l.length
 | [] => Nat.le_refl _
 | x :: r => by
  have ih := Qbv now r
  have hx : (againS now x).length ≤ 1 := by
   unfold againS
   split
   · simp
   · split <;> simp
  simp only [List.flatMap_cons, List.length_append, List.length_cons]
  omega
theorem QbQ (l : Lne) (q : Int) (h : goodLn l = true) : goodLn (takeLn l q).1 = true := by
 have hh := Qav h
 have hr := Qaz h
 rw [Q5] at hh
 unfold takeLn
 split
 · rename_i hg
   simp only [Bool.and_eq_true, decide_eq_true_eq] at hg
   split
   · exact h
   · split
     · unfold goodLn
       rw [Bool.and_eq_true, Q5]
       exact ⟨⟨hh.1, hh.2.1, by show 0 ≤ q; omega, by show q ≤ _; omega, hh.2.2.2.2⟩, hr⟩
     · split
       · exact h
       · exact h
 · exact h
theorem QjX (l : Lne) (q : Int) (h : goodLn l = false) : takeLn l q = (l, 2) := by
 unfold takeLn
 rw [h]
 rfl
theorem Qb0 {s : List Bool} (hs : s.length = 8) (n : Nat) : (shiftL n s).length = 8 := by
 simp only [shiftL, List.length_take, List.length_append, List.length_replicate, hs]
 omega
theorem take_length (l : Lne) (q : Int) (h : l.seen.length = 8) : (takeLn l q).1.seen.length = 8 := by
 unfold takeLn
 split
 · split
   · exact h
   · split
     · simp [Qb0 h]
     · split
       · exact h
       · simpa using h
 · exact h
theorem Qb8 {s : List Bool} (n k : Nat) (hk : k < 8) : (shiftL n s)[k]? = if k < n then some false else s[k - n]? := by
 unfold shiftL
 rw [List.getElem?_take, if_pos hk]
 by_cases h : k < n
 · rw [if_pos h, List.getElem?_append_left (by simp; omega), List.getElem?_replicate, if_pos (by omega)]
 · rw [if_neg h, List.getElem?_append_right (by simp; omega), List.length_replicate, show min n 8 = n by omega]
def Came (l : Lne) (s : Int) : Prop := s ≤ l.high ∧ (s ≤ l.high - 8 ∨ l.seen[(l.high - s).toNat]? = some true)
theorem Qdk {l : Lne} {q : Int} (h8 : l.seen.length = 8) (h : (takeLn l q).2 = 0) : ¬ Came l q ∧ q ≤ (takeLn l q).1.high ∧ Came (takeLn l q).1 q := by
 unfold takeLn at h ⊢
 split at h
 · rename_i hg
   rw [if_pos hg]
   split at h
   · cases h
   · rename_i ho
     rw [if_neg ho]
     split at h
     · rename_i hh
       rw [if_pos hh]
       refine ⟨fun hc => ?_, Int.le_refl _, Int.le_refl _, Or.inr ?_⟩
       · unfold Came at hc; omega
       · simp [Qb0 h8]
     · rename_i hh
       rw [if_neg hh]
       split at h
       · cases h
       · rename_i hs
         rw [if_neg hs]
         refine ⟨fun hc => ?_, by show q ≤ l.high; omega, by show q ≤ l.high; omega, Or.inr ?_⟩
         · rcases hc.2 with h1 | h1
           · exact ho h1
           · exact hs h1
         · show (l.seen.set (l.high - q).toNat true)[(l.high - q).toNat]? = some true
           rw [List.getElem?_set_self (by omega)]
 · cases h
theorem Qer {l : Lne} {q s : Int} (h8 : l.seen.length = 8) (h : Came l s) : Came (takeLn l q).1 s := by
 unfold takeLn
 split
 · rename_i hg
   split
   · exact h
   · rename_i ho
     split
     · rename_i hh
       refine ⟨by show s ≤ q; have := h.1; omega, ?_⟩
       show s ≤ q - 8 ∨ ((shiftL (q - l.high).toNat l.seen).set 0 true)[(q - s).toNat]? = some true
       by_cases hs : s ≤ q - 8
       · exact Or.inl hs
       · right
         rcases h with ⟨h1, h2⟩
         rw [List.getElem?_set_ne (by omega), Qb8 _ _ (by omega), if_neg (by omega)]
         rcases h2 with h2 | h2
         · omega
         · rw [← h2]
           congr 1
           omega
     · split
       · exact h
       · rename_i hs
         refine ⟨h.1, ?_⟩
         rcases h.2 with h2 | h2
         · exact Or.inl h2
         · right
           show (l.seen.set (l.high - q).toNat true)[(l.high - s).toNat]? = some true
           rw [List.getElem?_set]
           split
           · rw [if_pos (by omega)]
           · exact h2
 · exact h
theorem QbE {α : Type} (f : α → α) (n : Nat) (s : α) : iterN f (n + 1) s = iterN f n (f s) := by
 induction n with
 | zero => rfl
 | succ n ih =>
  show f (iterN f (n + 1) s) = f (iterN f n (f s))
  rw [ih]
theorem Qkr (l : List (Int × Int)) (hl : ∀ x ∈ l, 0 ≤ x.1 ∧ x.1 < 80 ∧ 0 ≤ x.2 ∧ x.2 ≤ 3) (r : List UInt8) (acc : List (Int × Int)) : iterN levStep l.length (acc, (levelsL l ++ r, false)) = (acc ++ l, (r, false)) := by
 induction l generalizing acc with
 | nil => simp [iterN, levelsL]
 | cons x l ih =>
  obtain ⟨h1, h2, h3, h4⟩ := hl x (by simp)
  rw [List.length_cons, QbE]
  have e : levStep (acc, (levelsL (x :: l) ++ r, false)) = (acc ++ [x], (levelsL l ++ r, false)) := by
   have e0 : levelsL (x :: l) ++ r = byteL x.1 :: byteL x.2 :: (levelsL l ++ r) := by simp [levelsL]
   unfold levStep
   rw [e0]
   simp only
   rw [Q6 x.1 _ h1 (by omega)]
   simp only
   rw [Q6 x.2 _ h3 (by omega)]
  rw [e, ih (fun y hy => hl y (by simp [hy]))]
  simp
theorem Qlb (l : List Int) (hl : ∀ x ∈ l, 0 ≤ x ∧ x < 80) (r : List UInt8) (acc : List Int) : iterN grStep l.length (acc, (l.map byteL ++ r, false)) = (acc ++ l, (r, false)) := by
 induction l generalizing acc with
 | nil => simp [iterN]
 | cons x l ih =>
  obtain ⟨h1, h2⟩ := hl x (by simp)
  rw [List.length_cons, QbE]
  have e : grStep (acc, ((x :: l).map byteL ++ r, false)) = (acc ++ [x], (l.map byteL ++ r, false)) := by
   unfold grStep
   simp only [List.map_cons, List.cons_append]
   rw [Q6 x _ h1 (by omega)]
  rw [e, ih (fun y hy => hl y (by simp [hy]))]
  simp
theorem QcM (h : Int) : hostB h = true ↔ 0 ≤ h ∧ h < 4 := by unfold hostB; exact decide_eq_true_iff
theorem Qem (h : Int) : timeB h = true ↔ 0 ≤ h ∧ h ≤ 1099511627776 := by unfold timeB; exact decide_eq_true_iff
theorem Qdx (h : Int) : catB h = true ↔ 0 ≤ h ∧ h < 80 := by unfold catB; exact decide_eq_true_iff
theorem Qjv (x : Crt) : certB x = true ↔ (0 ≤ x.c ∧ x.c < 80) ∧ (0 ≤ x.b ∧ x.b < 4) ∧ (0 ≤ x.h ∧ x.h < 4) ∧ x.b ≠ x.h ∧ (0 ≤ x.u ∧ x.u ≤ 1099511627776) := by
 unfold certB twoB
 simp only [Bool.and_eq_true, QcM, Qem, Qdx, Bool.not_eq_true', beq_eq_false_iff_ne]
 constructor
 · rintro ⟨⟨h1, ⟨h2, h3⟩, h4⟩, h5⟩
   exact ⟨h1, h2, h3, h4, h5⟩
 · rintro ⟨h1, h2, h3, h4, h5⟩
   exact ⟨⟨h1, ⟨h2, h3⟩, h4⟩, h5⟩
theorem Qli (l : List Crt) (hl : ∀ x ∈ l, certB x = true) (r : List UInt8) (acc : List Crt) : iterN crStep l.length (acc, (l.flatMap certL ++ r, false)) = (acc ++ l, (r, false)) := by
 induction l generalizing acc with
 | nil => simp [iterN]
 | cons x l ih =>
  obtain ⟨h1, h2, h3, _, h5⟩ := (Qjv x).1 (hl x (by simp))
  rw [List.length_cons, QbE]
  have e : crStep (acc, ((x :: l).flatMap certL ++ r, false)) = (acc ++ [x], (l.flatMap certL ++ r, false)) := by
   have e0 : (x :: l).flatMap certL ++ r = byteL x.c :: byteL x.b :: byteL x.h :: (timeL x.u ++ (l.flatMap certL ++ r)) := by simp [certL]
   unfold crStep crtT
   rw [e0]
   simp only
   rw [Q6 x.c _ h1.1 (by omega)]
   simp only
   rw [Q6 x.b _ h2.1 (by omega)]
   simp only
   rw [Q6 x.h _ h3.1 (by omega)]
   simp only
   rw [QeC x.u _ h5.1 (by omega)]
  rw [e, ih (fun y hy => hl y (by simp [hy]))]
  simp
theorem QbU (n : Nat) (r : List UInt8) (h : n < 256) : numT 1 (byteL (n : Int) :: r, false) = ((n : Int), (r, false)) := Q6 n r (by omega) (by omega)
theorem Qla (l : List (Int × Int)) (hn : l.length < 256) (hl : ∀ x ∈ l, 0 ≤ x.1 ∧ x.1 < 80 ∧ 0 ≤ x.2 ∧ x.2 ≤ 3) (r : List UInt8) : labT (byteL l.length :: (levelsL l ++ r), false) = (l, (r, false)) := by
 unfold labT
 rw [QbU _ _ hn]
 simp only [Int.toNat_natCast]
 rw [Qkr l hl]
 simp
theorem Qlt (l : List Int) (hn : l.length < 256) (hl : ∀ x ∈ l, 0 ≤ x ∧ x < 80) (r : List UInt8) : grT (byteL l.length :: (l.map byteL ++ r), false) = (l, (r, false)) := by
 unfold grT
 rw [QbU _ _ hn]
 simp only [Int.toNat_natCast]
 rw [Qlb l hl]
 simp
theorem Qlq (x : List UInt8) (hn : x.length < 256) (r : List UInt8) : txT (byteL x.length :: (x ++ r), false) = (x, (r, false)) := by
 unfold txT
 rw [QbU _ _ hn]
 simp only [Int.toNat_natCast]
 rw [Qep]
theorem Qju (l : List Crt) (hn : l.length < 256) (hl : ∀ x ∈ l, certB x = true) (r : List UInt8) : certsT (certsL l ++ r, false) = (l, (r, false)) := by
 unfold certsT certsL
 rw [show [byteL (l.length : Int)] ++ l.flatMap certL ++ r = byteL (l.length : Int) :: (l.flatMap certL ++ r) by simp, QbU _ _ hn]
 simp only [Int.toNat_natCast]
 rw [Qli l hl]
 simp
theorem QbG (l : List Int) : grantsB l = true ↔ l.length ≤ 8 ∧ (∀ x ∈ l, 0 ≤ x ∧ x < 80) ∧ l.Pairwise (· < ·) := by unfold grantsB; exact decide_eq_true_iff
theorem QdJ {m : Mal} (h : mailE m = 0) : (0 ≤ m.host ∧ m.host < 4) ∧ (0 ≤ m.thread ∧ m.thread < 4) ∧ goodB m.label = true ∧ grantsB m.grants = true ∧ m.text.length ≤ 64 := by
 unfold mailE at h
 split at h
 · rename_i h1
   simp only [Bool.and_eq_true, QcM] at h1
   split at h
   · exact ⟨h1.1.1.1, h1.1.1.2, h1.1.2, h1.2, by assumption⟩
   · simp at h
 · simp at h
theorem Qkf (m : Mal) (h : mailE m = 0) (r : List UInt8) : mailT m.host (mailL m ++ r, false) = (m, (r, false)) := by
 obtain ⟨h1, h2, h3, h4, h5⟩ := QdJ h
 obtain ⟨g1, g2, _⟩ := of_decide_eq_true h3
 obtain ⟨k1, k2, _⟩ := (QbG _).1 h4
 have e : mailL m ++ r = byteL m.thread :: (byteL m.label.length :: (levelsL m.label ++ (byteL m.grants.length :: (m.grants.map byteL ++ (byteL m.text.length :: (m.text ++ r)))))) := by simp [mailL]
 rw [e]
 unfold mailT
 rw [Q6 _ _ h2.1 (by omega)]
 simp only
 rw [Qla _ (by omega) (fun x hx => ⟨(g2 x hx).1, (g2 x hx).2.1, (g2 x hx).2.2.1, (g2 x hx).2.2.2.1⟩)]
 simp only
 rw [Qlt _ (by omega) k2]
 simp only
 rw [Qlq _ (by omega)]
theorem QeH (f : Frm) : headB f = true ↔ (0 ≤ f.fr ∧ f.fr < 4) ∧ (0 ≤ f.to ∧ f.to < 4) ∧ f.fr ≠ f.to ∧ f.seq ≠ 0 ∧ (0 ≤ f.seq ∧ f.seq ≤ 1099511627776) ∧ (0 ≤ f.thread ∧ f.thread < 4) := by
 unfold headB twoB
 simp only [Bool.and_eq_true, QcM, Qem, Bool.not_eq_true', beq_eq_false_iff_ne]
 constructor
 · rintro ⟨⟨⟨⟨⟨h1, h2⟩, h3⟩, h4⟩, h5⟩, h6⟩
   exact ⟨h1, h2, h3, h4, h5, h6⟩
 · rintro ⟨h1, h2, h3, h4, h5, h6⟩
   exact ⟨⟨⟨⟨⟨h1, h2⟩, h3⟩, h4⟩, h5⟩, h6⟩
theorem Qfi {f : Frm} (h : answerE f = 0) : f.thread = 0 ∧ f.mail = zeroMal ∧ f.certs = [] := by
 unfold answerE at h
 split at h
 · rename_i h1
   obtain ⟨fr, to, seq, ack, th, ⟨mh, mt, ml, mg, mx⟩, cs⟩ := f
   simp only [emptyB, Bool.and_eq_true, beq_iff_eq, List.isEmpty_iff] at h1
   obtain ⟨⟨rfl, ⟨⟨⟨rfl, rfl⟩, rfl⟩, rfl⟩, rfl⟩, rfl⟩ := h1
   exact ⟨rfl, rfl, rfl⟩
 · simp at h
theorem Qc7 {l : List Crt} (h : certsE l = 0) : l.length ≤ 24 ∧ ∀ x ∈ l, certB x = true := by
 unfold certsE at h
 split at h
 · split at h
   · rename_i h1 h2
     exact ⟨h1, List.all_eq_true.1 h2⟩
   · simp at h
 · simp at h
theorem QdK {f : Frm} (h : loadE f = 0) : mailE f.mail = 0 ∧ f.mail.host = f.fr ∧ certsE f.certs = 0 := by
 unfold loadE at h
 split at h
 · split at h
   · exact ⟨by assumption, by assumption, h⟩
   · simp at h
 · exact absurd h (by assumption)
theorem Qfx (k : Int) (f : Frm) (hk : 0 ≤ k ∧ k < 256) (h : headB f = true) (r : List UInt8) : headT (headL k f ++ r, false) = ((k, f.fr, f.to, f.seq), (r, false)) := by
 obtain ⟨h1, h2, _, _, h5, _⟩ := (QeH f).1 h
 have e : headL k f ++ r = byteL k :: (byteL f.fr :: (byteL f.to :: (timeL f.seq ++ r))) := by simp [headL]
 rw [e]
 unfold headT
 rw [Q6 _ _ hk.1 hk.2]
 simp only
 rw [Q6 _ _ h1.1 (by omega)]
 simp only
 rw [Q6 _ _ h2.1 (by omega)]
 simp only
 rw [QeC _ _ h5.1 (by omega)]
theorem Qi9 (f : Frm) (h : frameE f = 0) (r : List UInt8) : frameT (encL f ++ r, false) = (f, (r, false)) := by
 unfold frameE at h
 split at h
 · rename_i hh
   have hb := (QeH f).1 hh
   cases ha : f.ack with
   | true =>
    rw [ha, if_pos rfl] at h
    obtain ⟨h1, h2, h3⟩ := Qfi h
    unfold encL
    rw [ha, if_pos rfl]
    unfold frameT
    rw [Qfx 1 f (by omega) hh]
    simp only [if_true]
    rw [← h1, ← h2, ← h3, ← ha]
   | false =>
    rw [ha, if_neg (by simp)] at h
    obtain ⟨h1, h2, h3⟩ := QdK h
    obtain ⟨k1, k2⟩ := Qc7 h3
    unfold encL
    rw [ha, if_neg (by simp), List.append_assoc, List.append_assoc, List.append_assoc]
    unfold frameT
    rw [Qfx 0 f (by omega) hh]
    simp only [show ((0 : Int) = 1) = False by simp, if_false, if_true]
    unfold loadT
    simp only [List.cons_append, List.nil_append]
    rw [Q6 _ _ hb.2.2.2.2.2.1 (by omega)]
    simp only
    rw [← h2, Qkf f.mail h1]
    simp only
    rw [Qju f.certs (by omega) k2]
    rw [h2, ← ha]
 · simp at h
theorem back (f : Frm) (h : frameE f = 0) : decL (encL f) = (f, 0) := by
 have e := Qi9 f h []
 rw [List.append_nil] at e
 unfold decL
 rw [e]
 simp [doneB, h]
theorem only {s : List UInt8} (h : (decL s).2 = 0) : encL (decL s).1 = s ∧ frameE (decL s).1 = 0 := by
 unfold decL at h ⊢
 by_cases hd : doneB (frameT (s, false)).2 = true
 · rw [if_pos hd] at h ⊢
   by_cases he : frameE (frameT (s, false)).1 = 0
   · rw [if_pos he]
     refine ⟨?_, he⟩
     simp only [doneB, Bool.and_eq_true, Bool.not_eq_true', List.isEmpty_iff] at hd
     have e := congrArg Prod.fst (frame1 hd.1)
     simp only [hd.2, List.append_nil] at e
     exact e.symm
   · rw [if_neg he] at h
     exact absurd h he
 · rw [if_neg hd] at h
   simp at h
def frontL (l : List (Int × Int)) (c : Int) : List (Int × Int) := l.filter fun x => decide (x.1 < c)
def behindL (l : List (Int × Int)) (c : Int) : List (Int × Int) := l.filter fun x => decide (c < x.1)
def newL (c n : Int) : List (Int × Int) := if n = 1 then [] else [(c, n)]
def setL (l : List (Int × Int)) (c n : Int) : List (Int × Int) := frontL l c ++ newL c n ++ behindL l c
theorem QgS {l : List (Int × Int)} {c : Int} {i : Nat} (h1 : ∀ m (_ : m < i) (hm : m < l.length), l[m].1 < c) (h2 : ∀ m (_ : i ≤ m) (hm : m < l.length), c ≤ l[m].1) : l.take i = frontL l c := by
 unfold frontL
 conv => rhs; rw [← List.take_append_drop i l]
 rw [List.filter_append, List.filter_eq_self.2, List.filter_eq_nil_iff.2]
 · simp
 · intro x hx
   obtain ⟨m, hm, e⟩ := List.mem_iff_getElem.1 hx
   rw [List.getElem_drop] at e
   have := h2 (i + m) (by omega) (by simp at hm; omega)
   subst e
   simpa using this
 · intro x hx
   obtain ⟨m, hm, e⟩ := List.mem_iff_getElem.1 hx
   rw [List.getElem_take] at e
   have := h1 m (by simp at hm; omega) (by simp at hm; omega)
   subst e
   simpa using this
theorem Qc4 {l : List (Int × Int)} {c : Int} {k : Nat} (h1 : ∀ m (_ : m < k) (hm : m < l.length), l[m].1 ≤ c) (h2 : ∀ m (_ : k ≤ m) (hm : m < l.length), c < l[m].1) : l.drop k = behindL l c := by
 unfold behindL
 conv => rhs; rw [← List.take_append_drop k l]
 rw [List.filter_append, List.filter_eq_nil_iff.2, List.filter_eq_self.2]
 · simp
 · intro x hx
   obtain ⟨m, hm, e⟩ := List.mem_iff_getElem.1 hx
   rw [List.getElem_drop] at e
   have := h2 (k + m) (by omega) (by simp at hm; omega)
   subst e
   simpa using this
 · intro x hx
   obtain ⟨m, hm, e⟩ := List.mem_iff_getElem.1 hx
   rw [List.getElem_take] at e
   have := h1 m (by simp at hm; omega) (by simp at hm; omega)
   subst e
   simpa using this
structure Spot (l : List (Int × Int)) (c : Int) (i : Nat) (f : Bool) : Prop where
 le : i ≤ l.length
 low : ∀ m (_ : m < i) (hm : m < l.length), l[m].1 < c
 high : ∀ m (_ : i ≤ m) (hm : m < l.length), c ≤ l[m].1
 yes : f = true → ∃ h : i < l.length, l[i].1 = c
 no : f = false → ∀ h : i < l.length, l[i].1 ≠ c
theorem Spot.front {l : List (Int × Int)} {c : Int} {i : Nat} {f : Bool} (s : Spot l c i f) : l.take i = frontL l c := QgS s.low s.high
theorem Spot.behind_yes {l : List (Int × Int)} {c : Int} {i : Nat} (s : Spot l c i true) (hr : l.Pairwise fun x y => x.1 < y.1) : l.drop (i + 1) = behindL l c := by
 obtain ⟨hi, e⟩ := s.yes rfl
 refine Qc4 (fun m h hm => ?_) (fun m h hm => ?_)
 · by_cases hmi : m = i
   · subst hmi; omega
   · have := s.low m (by omega) hm; omega
 · have := (List.pairwise_iff_getElem.1 hr) i m hi hm (by omega)
   omega
theorem Spot.behind_no {l : List (Int × Int)} {c : Int} {i : Nat} (s : Spot l c i false) (hr : l.Pairwise fun x y => x.1 < y.1) : l.drop i = behindL l c := by
 refine Qc4 (fun m h hm => ?_) (fun m h hm => ?_)
 · have := s.low m h hm; omega
 · by_cases hmi : m = i
   · subst hmi
     have h1 := s.high m (Nat.le_refl _) hm
     have h2 := s.no rfl hm
     omega
   · have h1 := s.high i (Nat.le_refl _) (by omega)
     have := (List.pairwise_iff_getElem.1 hr) i m (by omega) hm (by omega)
     omega
theorem QgZ {l : List (Int × Int)} (hr : l.Pairwise fun x y => x.1 < y.1) (c n : Int) : (setL l c n).Pairwise fun x y => x.1 < y.1 := by
 unfold setL
 have hf : ∀ x ∈ frontL l c, x.1 < c := fun x hx => by have := (List.mem_filter.1 hx).2; simpa using this
 have hb : ∀ x ∈ behindL l c, c < x.1 := fun x hx => by have := (List.mem_filter.1 hx).2; simpa using this
 have hn : ∀ x ∈ newL c n, x.1 = c := fun x hx => by
  unfold newL at hx
  by_cases h : n = 1
  · simp [h] at hx
  · simp only [h, if_false, List.mem_singleton] at hx; rw [hx]
 refine List.pairwise_append.2 ⟨List.pairwise_append.2 ⟨hr.filter _, ?_, ?_⟩, hr.filter _, ?_⟩
 · unfold newL; split <;> simp
 · intro x hx y hy; have := hf x hx; have := hn y hy; omega
 · intro x hx y hy
   have := hb y hy
   rcases List.mem_append.1 hx with hx | hx
   · have := hf x hx; omega
   · have := hn x hx; omega
theorem Qi3 {l : List (Int × Int)} (h : goodL l) {c n : Int} (hc : catB c = true) (hn : bndB n = true) (h8 : (setL l c n).length ≤ 8) : goodL (setL l c n) := by
 have hc' : 0 ≤ c ∧ c < 80 := of_decide_eq_true hc
 have hn' : 0 ≤ n ∧ n ≤ 3 := of_decide_eq_true hn
 refine ⟨h8, fun x hx => ?_, QgZ h.2.2 c n⟩
 unfold setL at hx
 rcases List.mem_append.1 hx with hx | hx
 · rcases List.mem_append.1 hx with hx | hx
   · exact h.2.1 x (List.mem_filter.1 hx).1
   · unfold newL at hx
     by_cases e : n = 1
     · simp [e] at hx
     · simp only [e, if_false, List.mem_singleton] at hx; rw [hx]; exact ⟨hc'.1, hc'.2, hn'.1, hn'.2, e⟩
 · exact h.2.1 x (List.mem_filter.1 hx).1
theorem Qef (l : List (Int × Int)) (c : Int) : (frontL l c).length ≤ l.length := List.length_filter_le _ _
theorem Qd9 (l : List (Int × Int)) (c : Int) : (behindL l c).length ≤ l.length := List.length_filter_le _ _
theorem QfR (c n : Int) : (newL c n).length ≤ 1 := by unfold newL; split <;> simp
def setB (l : List (Int × Int)) (c n : Int) : Bool := goodB l && catB c && bndB n
def setE (l : List (Int × Int)) (c n : Int) : Int := if setB l c n = false then 2 else if 8 < (setL l c n).length then 5 else 0
structure Obt where
 label : List (Int × Int)
 text : List UInt8
structure Thr where
 label : List (Int × Int)
 own : List Int
 text : List UInt8
 objs : List Obt
 mails : List Mal
structure Ker where
 host : Int
 made : Int
 ths : List Thr
structure Cal where
 kind : Int
 h : Int
 t : Int
 n : Int
 c : Int
 label : List (Int × Int)
 grants : List Int
 text : List UInt8
structure Rep where
 code : Int
 n : Int
 text : List UInt8
def zeroThr : Thr := ⟨[], [], [], [], []⟩
def freshKer (h : Int) : Ker := ⟨h, 0, [zeroThr, zeroThr, zeroThr, zeroThr]⟩
def code (e : Int) : Rep := ⟨e, 0, []⟩
def lastL (x : List UInt8) : List UInt8 := x.drop (x.length - 64)
theorem Qbi (x : List UInt8) : (lastL x).length ≤ 64 := by unfold lastL; rw [List.length_drop]; omega
theorem QbD {x : List UInt8} (h : x.length ≤ 64) : lastL x = x := by unfold lastL; rw [show x.length - 64 = 0 by omega]; rfl
def insL (l : List Int) (c : Int) : List Int := l.take (l.countP (· < c)) ++ c :: l.drop (l.countP (· < c))
def ownL (l : List Int) (c : Int) : Int × List Int := if l.contains c then (0, l) else if 8 ≤ l.length then (5, l) else (0, insL l c)
def mayL (th : Thr) (m : Mal) : Int := if mailE m = 0 then (if m.grants.all (th.own.contains ·) then (if flowsL th.label m.label th.own then 0 else 6) else 7) else mailE m
def getT (K : Ker) (t : Int) : Option Thr := if 0 ≤ t then K.ths[t.toNat]? else none
def setT (K : Ker) (t : Int) (th : Thr) : Ker := { K with ths := K.ths.set t.toNat th }
def letterM (K : Ker) (t : Int) (c : Cal) (th : Thr) : Mal := ⟨K.host, t, c.label, c.grants, lastL (th.text ++ c.text)⟩
def letterL (K : Ker) (t : Int) (c : Cal) : Mal × Int :=
 match getT K t with
 | none => (zeroMal, 4)
 | some th => if mayL th (letterM K t c th) = 0 then (letterM K t c th, 0) else (zeroMal, mayL th (letterM K t c th))
def boxL (th : Thr) (m : Mal) : Thr := if mailE m = 0 ∧ flowsL m.label th.label th.own = true ∧ th.mails.length < 6 then { th with mails := th.mails ++ [m] } else th
def deliverL (K : Ker) (t : Int) (m : Mal) : Ker :=
 match getT K t with
 | none => K
 | some th => setT K t (boxL th m)
def grantL : List Int → List Int → List Int
 | [], o => o
 | c :: r, o => if (ownL o c).1 = 0 then grantL r (ownL o c).2 else o
def readL (th : Thr) (m : Mal) : Thr := { th with text := lastL (th.text ++ m.text), own := grantL m.grants th.own }
def takeL (th : Thr) : List Mal → Thr × Rep
 | [] => ({ th with mails := [] }, code 4)
 | m :: r => if flowsL m.label th.label th.own then ({ readL th m with mails := r }, ⟨0, m.host * 4 + m.thread, []⟩) else takeL th r
def objectL (th : Thr) (l : List (Int × Int)) : Thr × Rep :=
 if goodB l then (if flowsL th.label l th.own then (if 4 ≤ th.objs.length then (th, code 5) else ({ th with objs := th.objs ++ [⟨l, []⟩] }, ⟨0, (th.objs.length : Int), []⟩)) else (th, code 6)) else (th, code 2)
def levelL (th : Thr) (c n : Int) : Thr × Int :=
 if setE th.label c n = 0 then (if flowsL th.label (setL th.label c n) th.own then ({ th with label := setL th.label c n }, 0) else (th, 6)) else (th, setE th.label c n)
def objAt (K : Ker) (t n : Int) : Option Obt :=
 match getT K t with
 | none => none
 | some th => if 0 ≤ n then th.objs[n.toNat]? else none
def putO (th : Thr) (n : Int) (x : List UInt8) : Thr := { th with objs := th.objs.modify n.toNat fun o => { o with text := x } }
def putL (K : Ker) (th : Thr) (c : Cal) : Ker :=
 match getT K c.t, objAt K c.t c.n with
 | some u, some o => if flowsL th.label o.label th.own then setT K c.t (putO u c.n (lastL (th.text ++ c.text))) else K
 | _, _ => K
def getL (K : Ker) (t : Int) (th : Thr) (c : Cal) : Ker × Rep :=
 match objAt K c.t c.n with
 | none => (K, code 4)
 | some o => if flowsL o.label th.label th.own then (setT K t { th with text := lastL (th.text ++ o.text) }, ⟨0, (o.text.length : Int), []⟩) else (K, code 4)
def categoryL (K : Ker) (t : Int) (th : Thr) : Ker × Rep :=
 if 20 ≤ K.made then (K, code 5)
 else if (ownL th.own (K.host * 20 + K.made)).1 = 0 then ({ setT K t { th with own := (ownL th.own (K.host * 20 + K.made)).2 } with made := K.made + 1 }, ⟨0, K.host * 20 + K.made, []⟩)
 else (K, code (ownL th.own (K.host * 20 + K.made)).1)
def callT (K : Ker) (t : Int) (th : Thr) (c : Cal) : Ker × Rep :=
 if 64 < c.text.length then (K, code 9)
 else if c.kind = 1 then categoryL K t th
 else if c.kind = 2 then (setT K t (objectL th c.label).1, (objectL th c.label).2)
 else if c.kind = 3 then (putL K th c, code 0)
 else if c.kind = 4 then getL K t th c
 else if c.kind = 5 then (setT K t (levelL th c.c c.n).1, code (levelL th c.c c.n).2)
 else if c.kind = 7 then (setT K t (takeL th th.mails).1, (takeL th th.mails).2)
 else if c.kind = 9 then (setT K t { th with text := lastL c.text }, code 0)
 else if c.kind = 10 then (K, ⟨0, 0, th.text⟩)
 else (K, code 3)
def callL (K : Ker) (t : Int) (c : Cal) : Ker × Rep :=
 match getT K t with
 | none => (K, code 4)
 | some th => callT K t th c
theorem Crt.ext4 {x y : Crt} (h1 : x.c = y.c) (h2 : x.b = y.b) (h3 : x.h = y.h) (h4 : x.u = y.u) : x = y := by
 cases x; cases y
 simp_all
instance : DecidableEq Crt := fun x y =>
 if h : x.c = y.c ∧ x.b = y.b ∧ x.h = y.h ∧ x.u = y.u then isTrue (Crt.ext4 h.1 h.2.1 h.2.2.1 h.2.2.2) else isFalse fun e => h (by subst e; exact ⟨rfl, rfl, rfl, rfl⟩)
def sameC (x y : Crt) : Bool := x.c == y.c && x.b == y.b && x.h == y.h && x.u == y.u
theorem Qex (x y : Crt) : sameC x y = true ↔ x = y := by
 unfold sameC
 simp only [Bool.and_eq_true, beq_iff_eq]
 constructor
 · rintro ⟨⟨⟨h1, h2⟩, h3⟩, h4⟩
   exact Crt.ext4 h1 h2 h3 h4
 · rintro rfl
   exact ⟨⟨⟨rfl, rfl⟩, rfl⟩, rfl⟩
def goodCs (l : List Crt) : Prop := l.length ≤ 24 ∧ (∀ x ∈ l, certB x = true) ∧ l.Nodup
instance (l : List Crt) : Decidable (goodCs l) := by unfold goodCs; infer_instance
def csB (l : List Crt) : Bool := decide (goodCs l)
theorem QkL {l : List Crt} (h : 24 < l.length) : csB l = false := decide_eq_false fun g => by have := g.1; omega
theorem Qlg {l : List Crt} {k : Nat} (hk : k < l.length) (h : certB l[k] = false) : csB l = false := decide_eq_false fun g => by
 have := g.2.1 l[k] (List.getElem_mem hk)
 rw [h] at this
 cases this
theorem Qjo {l : List Crt} {k : Nat} (hk : k < l.length) (h : l[k] ∈ l.take k) : csB l = false := decide_eq_false fun g => by
 obtain ⟨j, hj, e⟩ := List.mem_iff_getElem.1 h
 rw [List.length_take] at hj
 rw [List.getElem_take] at e
 exact List.pairwise_iff_getElem.1 g.2.2 j k (by omega) hk (by omega) e
theorem Qlh {l : List Crt} (h24 : l.length ≤ 24) (h1 : ∀ j (hj : j < l.length), certB l[j] = true) (h2 : ∀ j (hj : j < l.length), l[j] ∉ l.take j) : csB l = true := decide_eq_true ⟨h24, fun x hx => by
 obtain ⟨j, hj, rfl⟩ := List.mem_iff_getElem.1 hx
 exact h1 j hj, by
 rw [List.nodup_iff_pairwise_ne, List.pairwise_iff_getElem]
 intro i j hi hj hij e
 refine h2 j hj ?_
 rw [← e]
 exact List.mem_iff_getElem.2 ⟨i, by rw [List.length_take]; omega, by rw [List.getElem_take]⟩⟩
def addL (l : List Crt) (x : Crt) : List Crt × Int :=
 if goodCs l ∧ certB x = true then (if x ∈ l then (l, 0) else if 24 ≤ l.length then ([], 5) else (l ++ [x], 0)) else ([], 2)
inductive Reach (l : List Crt) (c now : Int) : Int → Prop
 | home : Reach l c now (c / 20)
 | step {x : Crt} : Reach l c now x.b → x ∈ l → x.c = c → now ≤ x.u → Reach l c now x.h
theorem Reach.more {l l' : List Crt} {c now h : Int} (hr : Reach l c now h) (hl : ∀ x ∈ l, x.c = c → now ≤ x.u → x ∈ l') : Reach l' c now h := by
 induction hr with
 | home => exact .home
 | step h1 h2 h3 h4 ih => exact .step ih (hl _ h2 h3 h4) h3 h4
def Trusts (l : List Crt) (c now h : Int) : Prop := catB c = true ∧ goodCs l ∧ Reach l c now h
open Classical in
noncomputable def trB (l : List Crt) (c now h : Int) : Bool := decide (Trusts l c now h)
theorem Qbn (l : List Crt) (c now h : Int) : trB l c now h = true ↔ Trusts l c now h := by unfold trB; exact @decide_eq_true_iff _ (_)
theorem Qir {l : List Crt} {c now h : Int} (hc : catB c = false) : trB l c now h = false := by
 rw [← Bool.not_eq_true, Qbn]
 rintro ⟨h1, _⟩
 rw [hc] at h1
 cases h1
theorem Qk1 {l : List Crt} {c now h : Int} (hc : csB l = false) : trB l c now h = false := by
 rw [← Bool.not_eq_true, Qbn]
 rintro ⟨_, h1, _⟩
 rw [show csB l = true from decide_eq_true h1] at hc
 cases hc
structure Work (l : List Crt) (c now : Int) (b : Int → Bool) (row : List Int) : Prop where
 home : b (c / 20) = true
 mark : ∀ h, 0 ≤ h → h < 4 → (b h = true ↔ h ∈ row)
 host : ∀ h ∈ row, 0 ≤ h ∧ h < 4
 once : row.Nodup
 real : ∀ h ∈ row, Reach l c now h
theorem QhM (row : List Int) (h2 : ∀ h ∈ row, 0 ≤ h ∧ h < 4) : row.length = row.count 0 + row.count 1 + row.count 2 + row.count 3 := by
 induction row with
 | nil => rfl
 | cons x r ih =>
  have h := ih fun y hy => h2 y (List.mem_cons_of_mem _ hy)
  have hx := h2 x List.mem_cons_self
  have : x = 0 ∨ x = 1 ∨ x = 2 ∨ x = 3 := by omega
  rcases this with rfl | rfl | rfl | rfl <;> simp <;> omega
theorem Qa7 {row : List Int} (h1 : row.Nodup) (a : Int) : row.count a ≤ 1 := by
 induction row with
 | nil => simp
 | cons x r ih =>
  have h := List.nodup_cons.1 h1
  have := ih h.2
  rw [List.count_cons]
  by_cases e : x = a
  · subst e
    have : r.count x = 0 := List.count_eq_zero.2 h.1
    simp [this]
  · simp [e]; omega
theorem Qhc {row : List Int} (h1 : row.Nodup) (h2 : ∀ h ∈ row, 0 ≤ h ∧ h < 4) : row.length ≤ 4 := by
 have h := QhM row h2
 have := Qa7 h1 0
 have := Qa7 h1 1
 have := Qa7 h1 2
 have := Qa7 h1 3
 omega
theorem Work.four {l : List Crt} {c now : Int} {b : Int → Bool} {row : List Int} (h : Work l c now b row) : row.length ≤ 4 := Qhc h.once h.host
def Asked (c now : Int) (b : Int → Bool) (h : Int) (x : Crt) : Prop := x.c = c → x.b = h → now ≤ x.u → b x.h = true
theorem Work.start {l : List Crt} {c now : Int} (hc : catB c = true) (b : Int → Bool) (hb : ∀ h, 0 ≤ h → h < 4 → b h = decide (h = c / 20)) : Work l c now b [c / 20] := by
 have hc' : 0 ≤ c ∧ c < 80 := of_decide_eq_true hc
 have h1 : 0 ≤ c / 20 ∧ c / 20 < 4 := by omega
 refine ⟨by rw [hb _ h1.1 h1.2]; simp, fun h g1 g2 => by rw [hb h g1 g2]; simp, fun h hh => ?_, by simp, fun h hh => ?_⟩
 · rw [List.mem_singleton.1 hh]; exact h1
 · rw [List.mem_singleton.1 hh]; exact .home
theorem Work.put {l : List Crt} {c now : Int} {b b' : Int → Bool} {row : List Int} (w : Work l c now b row) {x : Crt} (hx : x ∈ l) (hc : x.c = c) (hr : x.b ∈ row) (hu : now ≤ x.u) (hb : b x.h = false) (hh : 0 ≤ x.h ∧ x.h < 4)
 (hb' : ∀ h, 0 ≤ h → h < 4 → b' h = (b h || decide (h = x.h))) (hc2 : 0 ≤ c / 20 ∧ c / 20 < 4) : Work l c now b' (row ++ [x.h]) := by
 have hn : x.h ∉ row := fun h => by
  have := (w.mark x.h hh.1 hh.2).2 h
  rw [hb] at this
  cases this
 refine ⟨by rw [hb' _ hc2.1 hc2.2, w.home]; rfl, fun h g1 g2 => ?_, fun h hh' => ?_, ?_, fun h hh' => ?_⟩
 · rw [hb' h g1 g2, Bool.or_eq_true, decide_eq_true_iff, w.mark h g1 g2, List.mem_append, List.mem_singleton]
 · rcases List.mem_append.1 hh' with g | g
   · exact w.host h g
   · rw [List.mem_singleton.1 g]; exact hh
 · rw [List.nodup_append]
   refine ⟨w.once, by simp, fun a ha b hb2 => ?_⟩
   rw [List.mem_singleton.1 hb2]
   rintro rfl
   exact hn ha
 · rcases List.mem_append.1 hh' with g | g
   · exact w.real h g
   · rw [List.mem_singleton.1 g]; exact .step (w.real _ hr) hx hc hu
theorem Work.done {l : List Crt} {c now : Int} {b : Int → Bool} {row : List Int} (w : Work l c now b row) (hc : catB c = true) (hg : goodCs l) (ha : ∀ h ∈ row, ∀ x ∈ l, Asked c now b h x) (h : Int) (h1 : 0 ≤ h) (h2 : h < 4) : b h = trB l c now h := by
 have hc' : 0 ≤ c ∧ c < 80 := of_decide_eq_true hc
 have hall : ∀ g, Reach l c now g → (0 ≤ g ∧ g < 4) ∧ b g = true := by
  intro g hr
  induction hr with
  | home => exact ⟨by omega, w.home⟩
  | @step x _ hx hxc hxu ih =>
   have hcx := hg.2.1 x hx
   unfold certB twoB hostB at hcx
   simp only [Bool.and_eq_true, decide_eq_true_iff] at hcx
   exact ⟨hcx.1.2.1.2, ha x.b ((w.mark x.b ih.1.1 ih.1.2).1 ih.2) x hx hxc rfl hxu⟩
 cases hb : b h with
 | true => exact ((Qbn _ _ _ _).2 ⟨hc, hg, w.real h ((w.mark h h1 h2).1 hb)⟩).symm
 | false =>
  cases ht : trB l c now h with
  | false => rfl
  | true =>
   have := (hall h ((Qbn _ _ _ _).1 ht).2.2).2
   rw [hb] at this
   cases this
def namesL (m : Mal) : List Int := Lib.compact ((m.label.map (·.1) ++ m.grants).mergeSort fun x y => decide (x ≤ y))
theorem Qe1 (m : Mal) : (namesL m).Pairwise (· < ·) := by
 unfold namesL Lib.compact
 have hs := List.pairwise_mergeSort (le := fun x y : Int => decide (x ≤ y)) (by intro x y z; simp; omega) (by intro x y; simp; omega) (m.label.map (·.1) ++ m.grants)
 refine QcB _ ?_ _ (by simp)
 intro i j hij hj
 rw [getElem!_pos _ i (by omega), getElem!_pos _ j hj]
 by_cases e : i = j
 · subst e; omega
 · have := (List.pairwise_iff_getElem.1 hs) i j (by simp at hj ⊢; omega) (by simpa using hj) (by omega)
   simpa using this
theorem Qed (m : Mal) : (namesL m).length ≤ m.label.length + m.grants.length := by
 unfold namesL Lib.compact Lib.compactUpTo
 have h1 := List.length_filter_le (Lib.keeps ((m.label.map (·.1) ++ m.grants).mergeSort fun x y => decide (x ≤ y)).toArray) (List.range ((m.label.map (·.1) ++ m.grants).mergeSort fun x y => decide (x ≤ y)).length)
 simp at h1 ⊢
 exact h1
noncomputable def mayB (l : List Crt) (h : Int) (m : Mal) (now : Int) : Bool := hostB h && (namesL m).all fun c => trB l c now h
def showL (l : List Crt) (m : Mal) : List Crt := l.filter fun x => decide (x.c ∈ namesL m)
theorem Qfu (l : List Crt) (h : Int) (m : Mal) (now : Int) : mayB l h m now = true ↔ hostB h = true ∧ ∀ c ∈ namesL m, Trusts l c now h := by
 unfold mayB
 rw [Bool.and_eq_true, List.all_eq_true]
 simp only [Qbn]
structure Clu where
 now : Int
 acts : Nat
 ks : Nat → Ker
 certs : Nat → List Crt
 lines : Nat → Nat → Lne
 net : List (List UInt8)
structure Ac where
 kind : Int
 h : Int
 t : Int
 n : Int
 call : Cal
def freshClu : Clu := ⟨0, 0, fun h => freshKer h, fun _ => [], fun _ _ => zeroLne, []⟩
def kerC (C : Clu) (h : Int) : Ker := C.ks h.toNat
def crtC (C : Clu) (h : Int) : List Crt := C.certs h.toNat
def lineC (C : Clu) (a b : Int) : Lne := C.lines a.toNat b.toNat
def setK (C : Clu) (h : Int) (K : Ker) : Clu := { C with ks := fun g => if g = h.toNat then K else C.ks g }
def setC (C : Clu) (h : Int) (l : List Crt) : Clu := { C with certs := fun g => if g = h.toNat then l else C.certs g }
def setLi (C : Clu) (a b : Int) (l : Lne) : Clu := { C with lines := fun x y => if x = a.toNat ∧ y = b.toNat then l else C.lines x y }
def putC (C : Clu) (f : Frm) : Clu := if frameE f = 0 ∧ C.net.length < 60 then { C with net := C.net ++ [encL f] } else C
def addC (C : Clu) (h : Int) (x : Crt) : Clu × Int := if (addL (crtC C h) x).2 = 0 then (setC C h (addL (crtC C h) x).1, 0) else (C, (addL (crtC C h) x).2)
noncomputable def awayC (C : Clu) (fr to t : Int) (m : Mal) : Clu × Int :=
 if mayB (crtC C fr) to m C.now then
  let f : Frm := ⟨fr, to, 0, false, t, m, showL (crtC C fr) m⟩
  let s := sendLn (lineC C fr to) f C.now
  if s.2.2 = 0 then (putC (setLi C fr to s.1) s.2.1, 0) else (C, s.2.2)
 else (C, 8)
noncomputable def sendC (C : Clu) (h t : Int) (c : Cal) : Clu × Int :=
 if 64 < c.text.length then (C, 9)
 else if hostB c.h && hostB c.t then
  (if (letterL (kerC C h) t c).2 = 0 then
   (if c.h = h then (setK C h (deliverL (kerC C h) c.t (letterL (kerC C h) t c).1), 0) else awayC C h c.h c.t (letterL (kerC C h) t c).1)
  else (C, (letterL (kerC C h) t c).2))
 else (C, 4)
def certifyC (C : Clu) (h t : Int) (c : Cal) : Clu × Int :=
 if hostB c.h && !(c.h == h) && timeB c.n then
  (if (((getT (kerC C h) t).getD zeroThr).own.contains c.c) then addC C h ⟨c.c, h, c.h, c.n⟩ else (C, 7))
 else (C, 2)
noncomputable def callC (C : Clu) (h t : Int) (c : Cal) : Clu × Rep :=
 if hostB h && hostB t then
  (if c.kind = 6 then ((sendC C h t c).1, code (sendC C h t c).2)
  else if c.kind = 8 then ((certifyC C h t c).1, code (certifyC C h t c).2)
  else (setK C h (callL (kerC C h) t c).1, (callL (kerC C h) t c).2))
 else (C, code 4)
def takeC (C : Clu) : Int → List Crt → Clu
 | _, [] => C
 | h, x :: r => takeC (addC C h x).1 h r
noncomputable def acceptC (C : Clu) (f : Frm) : Clu :=
 let D := takeC C f.to f.certs
 if mayB (crtC D f.to) f.fr f.mail D.now then setK D f.to (deliverL (kerC D f.to) f.thread f.mail) else D
noncomputable def comeC (C : Clu) (s : List UInt8) : Clu :=
 if (decL s).2 = 0 then
  let f := (decL s).1
  if f.ack then setLi C f.to f.fr (ansLn (lineC C f.to f.fr) f.seq).1
  else
   let k := takeLn (lineC C f.fr f.to) f.seq
   let D := setLi C f.fr f.to k.1
   let E := if k.2 = 0 ∨ k.2 = 10 then putC D ⟨f.to, f.fr, f.seq, true, 0, zeroMal, []⟩ else D
   if k.2 = 0 then acceptC E f else E
 else C
noncomputable def moveC (C : Clu) (kind n : Int) : Clu × Rep :=
 if 0 ≤ n ∧ n < (C.net.length : Int) then
  let s := C.net.getD n.toNat []
  let D := if kind = 3 then C else { C with net := C.net.take n.toNat ++ C.net.drop (n.toNat + 1) }
  ((if kind = 4 then D else comeC D s), ⟨0, (s.length : Int), []⟩)
 else (C, code 4)
def againC (C : Clu) (a b : Int) : Clu × Nat :=
 let k := againLn (lineC C a b) C.now
 (k.2.1.foldl putC (setLi C a b k.1), k.2.1.length)
def tickC (C : Clu) (n : Int) : Clu × Rep :=
 if 1 ≤ n ∧ n ≤ 1099511627776 - C.now then
  let D := { C with now := C.now + n }
  let r := ([0, 1, 2, 3].flatMap fun a => [0, 1, 2, 3].map fun b => ((a : Int), (b : Int))).foldl (fun (s : Clu × Nat) ab => ((againC s.1 ab.1 ab.2).1, s.2 + (againC s.1 ab.1 ab.2).2)) (D, 0)
  (r.1, ⟨0, (r.2 : Int), []⟩)
 else (C, code 2)
noncomputable def doC (C : Clu) (a : Ac) : Clu × Rep :=
 if 300 ≤ C.acts then (C, code 5)
 else
  let D := { C with acts := C.acts + 1 }
  if a.kind = 1 then callC D a.h a.t a.call
  else if a.kind = 2 ∨ a.kind = 3 ∨ a.kind = 4 then moveC D a.kind a.n
  else if a.kind = 5 then tickC D a.n
  else (D, code 3)
theorem QkJ (C : Clu) (a : Ac) (h : 300 ≤ C.acts) : doC C a = (C, code 5) := by
 unfold doC
 rw [if_pos h]
theorem Qga {l : List Int} (hs : l.Pairwise (· < ·)) (c : Int) : (∀ x ∈ l.take (l.countP (· < c)), x < c) ∧ ∀ x ∈ l.drop (l.countP (· < c)), c ≤ x := by
 induction l with
 | nil => simp
 | cons a r ih =>
  have hr := (List.pairwise_cons.1 hs).2
  have ha := (List.pairwise_cons.1 hs).1
  by_cases h : a < c
  · rw [List.countP_cons_of_pos (by simpa using h), List.take_succ_cons, List.drop_succ_cons]
    obtain ⟨h1, h2⟩ := ih hr
    refine ⟨fun x hx => ?_, h2⟩
    rcases List.mem_cons.1 hx with rfl | hx
    · exact h
    · exact h1 x hx
  · have hz : r.countP (· < c) = 0 := by
     rw [List.countP_eq_zero]
     intro x hx
     have := ha x hx
     simp
     omega
    rw [List.countP_cons_of_neg (by simpa using h), hz]
    refine ⟨fun x hx => by simp at hx, fun x hx => ?_⟩
    rcases List.mem_cons.1 hx with rfl | hx
    · omega
    · have := ha x hx; omega
theorem Qf1 {l : List Int} (hs : l.Pairwise (· < ·)) {c : Int} (hc : l.contains c = false) : (insL l c).Pairwise (· < ·) := by
 obtain ⟨h1, h2⟩ := Qga hs c
 have hn : ∀ x ∈ l, x ≠ c := fun x hx e => by
  subst e
  have : l.contains x = true := by simpa using hx
  rw [hc] at this
  cases this
 unfold insL
 rw [List.pairwise_append]
 refine ⟨hs.sublist (List.take_sublist _ _), List.pairwise_cons.2 ⟨fun x hx => ?_, hs.sublist (List.drop_sublist _ _)⟩, fun x hx y hy => ?_⟩
 · have a := h2 x hx
   have b := hn x (List.mem_of_mem_drop hx)
   omega
 · rcases List.mem_cons.1 hy with rfl | hy
   · exact h1 x hx
   · have a := h1 x hx
     have b := h2 y hy
     omega
theorem Qkv (l : List Int) (c : Int) : (insL l c).length = l.length + 1 := by
 have : l.countP (· < c) ≤ l.length := List.countP_le_length
 unfold insL
 simp
 omega
theorem QbC {l : List Int} (hs : l.Pairwise (· < ·)) (c : Int) : (ownL l c).2.Pairwise (· < ·) := by
 unfold ownL
 split
 · exact hs
 · split
   · exact hs
   · exact Qf1 hs (by rename_i h _; simpa using h)
theorem Qdr {l : List Int} (h : l.length ≤ 8) (c : Int) : (ownL l c).2.length ≤ 8 := by
 unfold ownL
 split
 · exact h
 · split
   · exact h
   · show (insL l c).length ≤ 8
     rw [Qkv]
     omega
theorem QiK {l : List Int} {c : Int} (h : (ownL l c).1 ≠ 0) : (ownL l c).2 = l := by
 unfold ownL at h ⊢
 split
 · rfl
 · rename_i h1
   rw [if_neg h1] at h
   split
   · rfl
   · rename_i h2
     rw [if_neg h2] at h
     exact absurd rfl h
theorem Qa9 (c : Int) (r o : List Int) : grantL (c :: r) o = if (ownL o c).1 = 0 then grantL r (ownL o c).2 else o := rfl
structure GoodT (th : Thr) : Prop where
 sorted : th.own.Pairwise (· < ·)
 own : th.own.length ≤ 8
 text : th.text.length ≤ 64
 objs : th.objs.length ≤ 4
 obj : ∀ o ∈ th.objs, o.text.length ≤ 64 ∧ goodL o.label
 mails : th.mails.length ≤ 6
 mail : ∀ m ∈ th.mails, mailE m = 0
 label : goodL th.label
structure GoodK (K : Ker) : Prop where
 four : K.ths.length = 4
 host : 0 ≤ K.host ∧ K.host < 4
 made : 0 ≤ K.made ∧ K.made ≤ 20
 ths : ∀ th ∈ K.ths, GoodT th
theorem Qi4 : goodL [] := ⟨by simp, by simp, by simp⟩
theorem QcD : GoodT zeroThr := ⟨by simp [zeroThr], by simp [zeroThr], by simp [zeroThr], by simp [zeroThr], by simp [zeroThr], by simp [zeroThr], by simp [zeroThr], Qi4⟩
theorem Qhv {h : Int} (h0 : 0 ≤ h ∧ h < 4) : GoodK (freshKer h) := ⟨rfl, h0, ⟨by simp [freshKer], by simp [freshKer]⟩, fun th hth => by
 simp [freshKer] at hth
 rw [hth]
 exact QcD⟩
theorem Qhe {α : Type} {l : List α} {i : Nat} {a x : α} (h : x ∈ l.set i a) : x = a ∨ x ∈ l := by
 rcases List.mem_or_eq_of_mem_set h with h | h
 · exact Or.inr h
 · exact Or.inl h
theorem GoodK.set {K : Ker} (h : GoodK K) (i : Nat) {th : Thr} (ht : GoodT th) : GoodK { K with ths := K.ths.set i th } :=
 ⟨by simpa using h.four, h.host, h.made, fun x hx => (Qhe hx).elim (fun e => by rw [e]; exact ht) (h.ths x)⟩
theorem Qam {K : Ker} {t : Int} {th : Thr} (h : getT K t = some th) : ∃ n : Nat, t = n ∧ ∃ hn : n < K.ths.length, K.ths[n] = th := by
 unfold getT at h
 split at h
 · rename_i h0
   obtain ⟨hn, e⟩ := List.getElem?_eq_some_iff.1 h
   exact ⟨t.toNat, by omega, hn, e⟩
 · cases h
theorem QcP {K : Ker} (h4 : K.ths.length = 4) {t : Int} (h : getT K t = none) : ¬ (0 ≤ t ∧ t < 4) := by
 rintro ⟨h0, h1⟩
 unfold getT at h
 rw [if_pos h0, List.getElem?_eq_none_iff] at h
 omega
theorem Qfy {K : Ker} {n : Nat} (hn : n < K.ths.length) : getT K (n : Int) = some K.ths[n] := by
 unfold getT
 rw [if_pos (by omega), Int.toNat_natCast]
 exact List.getElem?_eq_getElem hn
theorem QaV (K : Ker) (n : Nat) (th : Thr) : setT K (n : Int) th = { K with ths := K.ths.set n th } := by
 unfold setT
 rw [Int.toNat_natCast]
theorem Qee (l : List Int) {o : List Int} (hs : o.Pairwise (· < ·)) : (grantL l o).Pairwise (· < ·) := by
 induction l generalizing o with
 | nil => exact hs
 | cons c r ih =>
  rw [Qa9]
  split
  · exact ih (QbC hs c)
  · exact hs
theorem Qhs (l : List Int) {o : List Int} (hl : o.length ≤ 8) : (grantL l o).length ≤ 8 := by
 induction l generalizing o with
 | nil => exact hl
 | cons c r ih =>
  rw [Qa9]
  split
  · exact ih (Qdr hl c)
  · exact hl
theorem QgW (ms : List Mal) {th : Thr} (h : GoodT th) (hl : ms.length ≤ 6) (hm : ∀ m ∈ ms, mailE m = 0) : GoodT (takeL th ms).1 := by
 induction ms with
 | nil => exact ⟨h.sorted, h.own, h.text, h.objs, h.obj, by simp [takeL], by simp [takeL], h.label⟩
 | cons m r ih =>
  unfold takeL
  split
  · exact ⟨Qee _ h.sorted, Qhs _ h.own, Qbi _, h.objs, h.obj, by simp at hl; show r.length ≤ 6; omega, fun x hx => hm x (List.mem_cons_of_mem _ hx), h.label⟩
  · exact ih (by simp at hl; omega) (fun x hx => hm x (List.mem_cons_of_mem _ hx))
theorem Qe0 {th : Thr} (h : GoodT th) (l : List (Int × Int)) : GoodT (objectL th l).1 := by
 unfold objectL
 split
 · rename_i hg
   split
   · split
     · exact h
     · rename_i hn
       refine ⟨h.sorted, h.own, h.text, by simp; omega, fun o ho => ?_, h.mails, h.mail, h.label⟩
       rcases List.mem_append.1 ho with ho | ho
       · exact h.obj o ho
       · rw [List.mem_singleton.1 ho]
         exact ⟨by simp, (QaB l).1 hg⟩
   · exact h
 · exact h
theorem QfW {th : Thr} (h : GoodT th) (c n : Int) : GoodT (levelL th c n).1 := by
 unfold levelL
 split
 · rename_i he
   split
   · refine ⟨h.sorted, h.own, h.text, h.objs, h.obj, h.mails, h.mail, ?_⟩
     show goodL (setL th.label c n)
     unfold setE at he
     split at he
     · cases he
     · rename_i hb
       split at he
       · cases he
       · rename_i h8
         have hb2 : setB th.label c n = true := by simpa using hb
         unfold setB at hb2
         simp only [Bool.and_eq_true] at hb2
         exact Qi3 h.label hb2.1.2 hb2.2 (by omega)
   · exact h
 · exact h
theorem QiF {th : Thr} (h : GoodT th) (n : Int) {x : List UInt8} (hx : x.length ≤ 64) : GoodT (putO th n x) := by
 refine ⟨h.sorted, h.own, h.text, by simpa [putO] using h.objs, fun o ho => ?_, h.mails, h.mail, h.label⟩
 unfold putO at ho
 simp only at ho
 obtain ⟨i, hi, e⟩ := List.mem_iff_getElem.1 ho
 rw [List.getElem_modify] at e
 have hi2 : i < th.objs.length := by simpa using hi
 have hold := h.obj th.objs[i] (List.getElem_mem hi2)
 split at e
 · rw [← e]; exact ⟨hx, hold.2⟩
 · rw [← e]; exact hold
theorem QjA {th : Thr} (h : GoodT th) (m : Mal) : GoodT (boxL th m) := by
 unfold boxL
 split
 · rename_i g
   refine ⟨h.sorted, h.own, h.text, h.objs, h.obj, by simp; omega, fun x hx => ?_, h.label⟩
   rcases List.mem_append.1 hx with hx | hx
   · exact h.mail x hx
   · rw [List.mem_singleton.1 hx]; exact g.1
 · exact h
theorem Qeo {th : Thr} (h : GoodT th) (x : List UInt8) : GoodT { th with text := lastL x } := ⟨h.sorted, h.own, Qbi _, h.objs, h.obj, h.mails, h.mail, h.label⟩
theorem QiG {K : Ker} (h : GoodK K) (th : Thr) (c : Cal) : GoodK (putL K th c) := by
 unfold putL
 split
 · rename_i u o hu _
   split
   · obtain ⟨n, _, hn, rfl⟩ := Qam hu
     exact h.set _ (QiF (h.ths _ (List.getElem_mem hn)) _ (Qbi _))
   · exact h
 · exact h
theorem Qi7 {K : Ker} (h : GoodK K) (t : Int) {th : Thr} (ht : GoodT th) (c : Cal) : GoodK (getL K t th c).1 := by
 unfold getL
 split
 · exact h
 · split
   · exact h.set _ (Qeo ht _)
   · exact h
theorem Qd7 {K : Ker} (h : GoodK K) (t : Int) {th : Thr} (ht : GoodT th) : GoodK (categoryL K t th).1 := by
 unfold categoryL
 split
 · exact h
 · rename_i hm
   split
   · have hk := h.set t.toNat (th := { th with own := (ownL th.own (K.host * 20 + K.made)).2 }) ⟨QbC ht.sorted _, Qdr ht.own _, ht.text, ht.objs, ht.obj, ht.mails, ht.mail, ht.label⟩
     have := h.made
     exact ⟨hk.four, hk.host, ⟨by show 0 ≤ K.made + 1; omega, by show K.made + 1 ≤ 20; omega⟩, hk.ths⟩
   · exact h
theorem QhY {K : Ker} (h : GoodK K) (t : Int) {th : Thr} (ht : GoodT th) (c : Cal) : GoodK (callT K t th c).1 := by
 unfold callT
 split
 · exact h
 · split
   · exact Qd7 h t ht
   · split
     · exact h.set _ (Qe0 ht _)
     · split
       · exact QiG h th c
       · split
         · exact Qi7 h t ht c
         · split
           · exact h.set _ (QfW ht _ _)
           · split
             · exact h.set _ (QgW _ ht ht.mails ht.mail)
             · split
               · exact h.set _ (Qeo ht _)
               · split
                 · exact h
                 · exact h
theorem QhZ {K : Ker} (h : GoodK K) (t : Int) (c : Cal) : GoodK (callL K t c).1 := by
 unfold callL
 split
 · exact h
 · rename_i th hth
   obtain ⟨n, _, hn, rfl⟩ := Qam hth
   exact QhY h t (h.ths _ (List.getElem_mem hn)) c
theorem Qb4 {K : Ker} (h : GoodK K) (t : Int) (m : Mal) : GoodK (deliverL K t m) := by
 unfold deliverL
 split
 · exact h
 · rename_i th hth
   obtain ⟨n, _, hn, rfl⟩ := Qam hth
   exact h.set _ (QjA (h.ths _ (List.getElem_mem hn)) m)
structure GoodC (C : Clu) : Prop where
 ks : ∀ h, h < 4 → GoodK (C.ks h)
 now : 0 ≤ C.now ∧ C.now ≤ 1099511627776
 acts : C.acts ≤ 300
 net : C.net.length ≤ 60
theorem Qba : GoodC freshClu := ⟨fun h hh => Qhv (by omega), by decide, by decide, by decide⟩
theorem GoodC.ker {C : Clu} (h : GoodC C) {a : Int} (ha : hostB a = true) : GoodK (kerC C a) := by
 have : 0 ≤ a ∧ a < 4 := of_decide_eq_true ha
 exact h.ks _ (by omega)
theorem QcG {C : Clu} (h : GoodC C) (a : Int) {K : Ker} (hK : GoodK K) : GoodC (setK C a K) :=
 ⟨fun g hg => by
  show GoodK (if g = a.toNat then K else C.ks g)
  split
  · exact hK
  · exact h.ks g hg, h.now, h.acts, h.net⟩
theorem QiA {C : Clu} (h : GoodC C) (a : Int) (l : List Crt) : GoodC (setC C a l) := ⟨h.ks, h.now, h.acts, h.net⟩
theorem Qaj {C : Clu} (h : GoodC C) (a b : Int) (l : Lne) : GoodC (setLi C a b l) := ⟨h.ks, h.now, h.acts, h.net⟩
theorem QbS {C : Clu} (h : GoodC C) (f : Frm) : GoodC (putC C f) := by
 unfold putC
 split
 · rename_i h1
   exact ⟨h.ks, h.now, h.acts, by show (C.net ++ [encL f]).length ≤ 60; simp; omega⟩
 · exact h
theorem QeQ {C : Clu} (h : GoodC C) (a : Int) (x : Crt) : GoodC (addC C a x).1 := by
 unfold addC
 split
 · exact QiA h _ _
 · exact h
theorem QaY : ∀ (l : List Crt) {C : Clu} (_ : GoodC C) (a : Int), GoodC (takeC C a l)
 | [], _, h, _ => h
 | x :: r, _, h, a => QaY r (QeQ h a x) a
theorem Qh5 {C : Clu} (h : GoodC C) (fr to t : Int) (m : Mal) : GoodC (awayC C fr to t m).1 := by
 unfold awayC
 split
 · dsimp only
   split
   · exact QbS (Qaj h _ _ _) _
   · exact h
 · exact h
theorem Qg2 {C : Clu} (h : GoodC C) (a t : Int) (c : Cal) (ha : hostB a = true) : GoodC (sendC C a t c).1 := by
 unfold sendC
 split
 · exact h
 · split
   · split
     · split
       · exact QcG h _ (Qb4 (h.ker ha) _ _)
       · exact Qh5 h _ _ _ _
     · exact h
   · exact h
theorem Qeg {C : Clu} (h : GoodC C) (a t : Int) (c : Cal) : GoodC (certifyC C a t c).1 := by
 unfold certifyC
 split
 · split
   · exact QeQ h _ _
   · exact h
 · exact h
theorem Qh1 {C : Clu} (h : GoodC C) (a t : Int) (c : Cal) : GoodC (callC C a t c).1 := by
 unfold callC
 split
 · rename_i h1
   have ha : hostB a = true := by
    rw [Bool.and_eq_true] at h1
    exact h1.1
   split
   · exact Qg2 h _ _ _ ha
   · split
     · exact Qeg h _ _ _
     · exact QcG h _ (QhZ (h.ker ha) _ _)
 · exact h
theorem Qc3 {f : Frm} (h : frameE f = 0) : hostB f.fr = true ∧ hostB f.to = true ∧ hostB f.thread = true := by
 unfold frameE at h
 split at h
 · rename_i h1
   unfold headB twoB at h1
   simp only [Bool.and_eq_true] at h1
   exact ⟨h1.1.1.1.1.1, h1.1.1.1.1.2, h1.2⟩
 · cases h
theorem QeN {s : List UInt8} (h : (decL s).2 = 0) : frameE (decL s).1 = 0 := by
 unfold decL at h ⊢
 split
 · rename_i h1
   rw [if_pos h1] at h
   split
   · rename_i h2
     exact h2
   · rename_i h2
     rw [if_neg h2] at h
     exact absurd h h2
 · rename_i h1
   rw [if_neg h1] at h
   cases h
theorem Qfk {C : Clu} (h : GoodC C) {f : Frm} (hf : hostB f.to = true) : GoodC (acceptC C f) := by
 unfold acceptC
 dsimp only
 split
 · exact QcG (QaY _ h _) _ (Qb4 ((QaY _ h _).ker hf) _ _)
 · exact QaY _ h _
theorem QhO {C : Clu} (h : GoodC C) (s : List UInt8) : GoodC (comeC C s) := by
 unfold comeC
 split
 · rename_i h1
   have hf := (Qc3 (QeN h1)).2.1
   dsimp only
   split
   · exact Qaj h _ _ _
   · have hE : ∀ (b : Prop) [Decidable b] (D : Clu) (g : Frm), GoodC D → GoodC (if b then putC D g else D) := fun b _ D g hD => by
      split
      · exact QbS hD _
      · exact hD
     split
     · exact Qfk (hE _ _ _ (Qaj h _ _ _)) hf
     · exact hE _ _ _ (Qaj h _ _ _)
 · exact h
theorem Qhd {C : Clu} (h : GoodC C) (kind n : Int) : GoodC (moveC C kind n).1 := by
 unfold moveC
 split
 · dsimp only
   have hD : ∀ (b : Prop) [Decidable b], GoodC (if b then C else { C with net := C.net.take n.toNat ++ C.net.drop (n.toNat + 1) }) := fun b _ => by
    split
    · exact h
    · exact ⟨h.ks, h.now, h.acts, by have := h.net; show (C.net.take n.toNat ++ C.net.drop (n.toNat + 1)).length ≤ 60; rw [List.length_append, List.length_take, List.length_drop]; omega⟩
   split
   · exact hD _
   · exact QhO (hD _) _
 · exact h
theorem Qa3 : ∀ (l : List Frm) {C : Clu} (_ : GoodC C), GoodC (l.foldl putC C)
 | [], _, h => h
 | f :: r, _, h => Qa3 r (QbS h f)
theorem QgC {C : Clu} (h : GoodC C) (a b : Int) : GoodC (againC C a b).1 := by
 unfold againC
 exact Qa3 _ (Qaj h _ _ _)
theorem QaG : ∀ (l : List (Int × Int)) (s : Clu × Nat) (_ : GoodC s.1), GoodC (l.foldl (fun (s : Clu × Nat) ab => ((againC s.1 ab.1 ab.2).1, s.2 + (againC s.1 ab.1 ab.2).2)) s).1
 | [], _, h => h
 | x :: r, s, h => by
  rw [List.foldl_cons]
  exact QaG r _ (QgC h _ _)
theorem QgQ {C : Clu} (h : GoodC C) (n : Int) : GoodC (tickC C n).1 := by
 unfold tickC
 split
 · dsimp only
   rename_i h1
   exact QaG _ _ ⟨h.ks, by have := h.now; show 0 ≤ C.now + n ∧ C.now + n ≤ 1099511627776; omega, h.acts, h.net⟩
 · exact h
theorem Qcl {C : Clu} (h : GoodC C) (a : Ac) : GoodC (doC C a).1 := by
 unfold doC
 split
 · exact h
 · dsimp only
   have hD : GoodC { C with acts := C.acts + 1 } := ⟨h.ks, h.now, by show C.acts + 1 ≤ 300; omega, h.net⟩
   split
   · exact Qh1 hD _ _ _
   · split
     · exact Qhd hD _ _
     · split
       · exact QgQ hD _
       · exact hD
def thrOf (K : Ker) (t : Int) : Thr := (getT K t).getD zeroThr
theorem Qiu {K : Ker} {n : Nat} (h : n < K.ths.length) : thrOf K n = K.ths[n] := by unfold thrOf; rw [Qfy h]; rfl
structure SelfStep (K : Ker) (th th2 : Thr) (c : Cal) (r : Rep) : Prop where
 label : th2.label = th.label ∨ (c.kind = 5 ∧ r.code = 0 ∧ flowsL th.label th2.label th.own = true)
 own : ∀ x ∈ th.own, x ∈ th2.own
 objs : th2.objs = th.objs ∨ ∃ o, th2.objs = th.objs ++ [o]
 text : th2.text = th.text ∨ c.kind = 9 ∨ (c.kind = 7 ∧ r.code = 0) ∨ (c.kind = 4 ∧ r.code = 0 ∧ th2.objs = th.objs ∧ ∃ o, objAt K c.t c.n = some o ∧ flowsL o.label th.label th.own = true)
theorem SelfStep.refl (K : Ker) (th : Thr) (c : Cal) (r : Rep) : SelfStep K th th c r := ⟨.inl rfl, fun _ h => h, .inl rfl, .inl rfl⟩
def firstN (q : Int) : Nat → List Snt → Int
 | _, [] => -1
 | k, s :: r => if s.f.seq = q then k else firstN q (k + 1) r
theorem firstN_or (q : Int) : ∀ (l : List Snt) (k : Nat), (firstN q k l = -1 ∧ ∀ s ∈ l, s.f.seq ≠ q) ∨ ∃ (i : Nat) (h : i < l.length), firstN q k l = ((k + i : Nat) : Int) ∧ (l[i]).f.seq = q
 | [], _ => Or.inl ⟨rfl, fun s hs => absurd hs (by simp)⟩
 | s :: r, k => by
  by_cases hs : s.f.seq = q
  · exact Or.inr ⟨0, by simp, by simp [firstN, hs], hs⟩
  · rcases firstN_or q r (k + 1) with ⟨h1, h2⟩ | ⟨i, hi, h1, h2⟩
    · refine Or.inl ⟨by simp [firstN, hs, h1], fun x hx => ?_⟩
      rcases List.mem_cons.1 hx with e | hx
      · rw [e]; exact hs
      · exact h2 x hx
    · refine Or.inr ⟨i + 1, by simpa using hi, ?_, by simpa using h2⟩
      simp only [firstN, hs, if_false]
      rw [h1]
      congr 1
      omega
theorem QkV {l : Lne} {q : Int} (hg : goodLn l = true) (h : ∀ s ∈ l.sent, s.f.seq ≠ q) : ansLn l q = (l, 4) := by
 unfold ansLn
 rw [if_pos hg, if_pos]
 rw [List.all_eq_true]
 intro s hs
 simpa using h s hs
theorem QkU {l : Lne} {q : Int} (hg : goodLn l = true) (i : Nat) (hi : i < l.sent.length) (h : (l.sent[i]).f.seq = q) : ansLn l q = ({ l with sent := l.sent.take i ++ l.sent.drop (i + 1) }, 0) := by
 unfold ansLn
 have hne : ¬ (l.sent.all (fun s => !(s.f.seq == q)) = true) := fun ha => by
  have := List.all_eq_true.1 ha _ (List.getElem_mem hi)
  simp [h] at this
 rw [if_pos hg, if_neg hne, ← h, QdE (Qaz hg) i hi]
theorem Qlm {l : Lne} {q : Int} (hg : goodLn l = false) : ansLn l q = (l, 2) := by
 unfold ansLn
 rw [hg]
 rfl
def pairsC : List (Int × Int) := [0, 1, 2, 3].flatMap fun a => [0, 1, 2, 3].map fun b => ((a : Int), (b : Int))
def stepT (s : Clu × Nat) (ab : Int × Int) : Clu × Nat := ((againC s.1 ab.1 ab.2).1, s.2 + (againC s.1 ab.1 ab.2).2)
def tickN (D : Clu) (k : Nat) : Clu × Nat := (pairsC.take k).foldl stepT (D, 0)
theorem Qg7 : ∀ i, i < 4 → ∀ j, j < 4 → pairsC.take (i * 4 + j + 1) = pairsC.take (i * 4 + j) ++ [((i : Int), (j : Int))] := by decide
theorem QgO (D : Clu) {i j : Nat} (hi : i < 4) (hj : j < 4) : tickN D (i * 4 + j + 1) = ((againC (tickN D (i * 4 + j)).1 i j).1, (tickN D (i * 4 + j)).2 + (againC (tickN D (i * 4 + j)).1 i j).2) := by
 unfold tickN
 rw [Qg7 i hi j hj, List.foldl_append]
 rfl
theorem QjT {C : Clu} {n : Int} (h1 : 1 ≤ n) (h2 : n ≤ 1099511627776 - C.now) : tickC C n = ((tickN { C with now := C.now + n } 16).1, ⟨0, ((tickN { C with now := C.now + n } 16).2 : Int), []⟩) := by
 unfold tickC
 rw [if_pos ⟨h1, h2⟩]
 rfl
theorem Qit {C : Clu} {n : Int} (h : ¬ (1 ≤ n ∧ n ≤ 1099511627776 - C.now)) : tickC C n = (C, code 2) := by
 unfold tickC
 rw [if_neg h]
theorem QgP {D : Clu} (h : GoodC D) (k : Nat) : GoodC (tickN D k).1 := QaG (pairsC.take k) (D, 0) h
def aliveA : Ac := ⟨1, 2, 0, 0, ⟨1, 0, 0, 0, 0, [], [], []⟩⟩
def aliveB : Ac := ⟨1, 2, 0, 0, ⟨6, 1, 3, 0, 0, [], [], [104, 105]⟩⟩
theorem Qlo : (doC freshClu aliveA).2.n = 40 := by rfl
def aliveM : Mal := ⟨2, 0, [], [], [104, 105]⟩
theorem Qcu : Lib.compact ([] : List Int) = [] := by
 refine List.eq_nil_iff_forall_not_mem.2 fun x hx => ?_
 rw [Qc1] at hx
 cases hx
theorem QgA : namesL aliveM = [] := by
 unfold namesL aliveM
 simp [Qcu]
theorem QgB (own : List Int) : flowsL [] [] own = true := by
 unfold flowsL catsL
 simp [Qcu]
theorem QjE : getT ((doC freshClu aliveA).1.ks 2) 0 = some ⟨[], [40], [], [], []⟩ := by rfl
theorem Qfj : letterL ((doC freshClu aliveA).1.ks 2) 0 aliveB.call = (aliveM, 0) := by
 unfold letterL
 rw [QjE]
 have hm : letterM ((doC freshClu aliveA).1.ks 2) 0 aliveB.call ⟨[], [40], [], [], []⟩ = aliveM := by rfl
 simp only [hm]
 have h0 : mayL ⟨[], [40], [], [], []⟩ aliveM = 0 := by
  unfold mayL
  rw [if_pos (by decide), if_pos (by rfl)]
  show (if flowsL [] [] [40] = true then (0 : Int) else 6) = 0
  rw [QgB]
  rfl
 rw [if_pos h0]
theorem QjG (l : List Crt) : mayB l 1 aliveM 0 = true := by
 unfold mayB
 rw [QgA]
 rfl
theorem Qh7 : showL [] aliveM = [] := rfl
theorem QjJ : (doC freshClu aliveA).1.certs 2 = [] := by rfl
theorem QjH : (doC freshClu aliveA).1.lines 2 1 = zeroLne := by rfl
theorem QjF : (doC freshClu aliveA).1.now = 0 := by rfl
theorem Qia : (doC freshClu aliveA).1.acts = 1 := by rfl
theorem Qh9 : (doC freshClu aliveA).1.net = [] := by rfl
def aliveF : Frm := ⟨2, 1, 0, false, 3, aliveM, []⟩
theorem Qh8 : sendLn zeroLne aliveF 0 = (⟨1, [⟨{ aliveF with seq := 1 }, 1, 2⟩], 0, zeroLne.seen⟩, { aliveF with seq := 1 }, 0) := by
 unfold sendLn
 rw [if_pos (by decide), if_neg (by decide)]
 rfl
theorem QjI : frameE { aliveF with seq := 1 } = 0 := by decide
theorem QjD : (doC (doC freshClu aliveA).1 aliveB).2.code = 0 ∧ (doC (doC freshClu aliveA).1 aliveB).1.net.length = 1 := by
 have h1 := Qfj
 have h2 := QjJ
 have h3 := QjH
 have h4 := QjF
 have h5 := Qia
 have h6 := Qh9
 generalize (doC freshClu aliveA).1 = C at *
 have e1 : doC C aliveB = callC { C with acts := C.acts + 1 } 2 0 aliveB.call := by
  unfold doC
  rw [if_neg (by omega)]
  rfl
 generalize hD : ({ C with acts := C.acts + 1 } : Clu) = D at e1
 have d1 : letterL (kerC D 2) 0 aliveB.call = (aliveM, 0) := by rw [← hD]; exact h1
 have d2 : crtC D 2 = [] := by rw [← hD]; exact h2
 have d3 : lineC D 2 1 = zeroLne := by rw [← hD]; exact h3
 have d4 : D.now = 0 := by rw [← hD]; exact h4
 have d6 : D.net = [] := by rw [← hD]; exact h6
 have e2 : callC D 2 0 aliveB.call = ((sendC D 2 0 aliveB.call).1, code (sendC D 2 0 aliveB.call).2) := by
  unfold callC
  rfl
 have e3 : sendC D 2 0 aliveB.call = awayC D 2 1 3 aliveM := by
  unfold sendC
  rw [if_neg (by decide), d1]
  rfl
 have e4 : awayC D 2 1 3 aliveM = (putC (setLi D 2 1 ⟨1, [⟨{ aliveF with seq := 1 }, 1, 2⟩], 0, zeroLne.seen⟩) { aliveF with seq := 1 }, 0) := by
  unfold awayC
  rw [d2, d3, d4, QjG, if_pos rfl]
  simp only [Qh7]
  show (if (sendLn zeroLne aliveF 0).2.2 = 0 then (putC (setLi D 2 1 (sendLn zeroLne aliveF 0).1) (sendLn zeroLne aliveF 0).2.1, (0 : Int)) else (D, (sendLn zeroLne aliveF 0).2.2)) = _
  simp only [Qh8, if_pos]
 rw [e1, e2, e3, e4]
 refine ⟨rfl, ?_⟩
 unfold putC
 rw [if_pos ⟨QjI, by show D.net.length < 60; rw [d6]; decide⟩]
 show (D.net ++ _).length = 1
 rw [d6]
 rfl
theorem Qft {m m' : Mal} (h1 : m.label = m'.label) (h2 : m.grants = m'.grants) : namesL m = namesL m' := by
 unfold namesL
 rw [h1, h2]
theorem QiV {l : List Crt} {h now : Int} {m m' : Mal} (h1 : m.label = m'.label) (h2 : m.grants = m'.grants) : mayB l h m now = mayB l h m' now := by
 unfold mayB
 rw [Qft h1 h2]
def MOwn (O : Int → Int → Int → Prop) (m : Mal) : Prop := ∀ g ∈ m.grants, O m.host m.thread g
def COwn (O : Int → Int → Int → Prop) (x : Crt) : Prop := 0 ≤ x.b ∧ x.b < 4 ∧ ∃ t : Nat, t < 4 ∧ O x.b t x.c
def FOwn (O : Int → Int → Int → Prop) (f : Frm) : Prop := MOwn O f.mail ∧ ∀ x ∈ f.certs, COwn O x
structure OwnC (O : Int → Int → Int → Prop) (C : Clu) : Prop where
 mails : ∀ (h : Nat) t, ∀ m ∈ (thrOf (C.ks h) t).mails, MOwn O m
 certs : ∀ (h : Nat), ∀ x ∈ C.certs h, COwn O x
 net : ∀ s ∈ C.net, ∃ f, frameE f = 0 ∧ s = encL f ∧ FOwn O f
 sent : ∀ (a b : Nat), ∀ s ∈ (C.lines a b).sent, FOwn O s.f
theorem MOwn.mono {O P : Int → Int → Int → Prop} (hp : ∀ h t c, O h t c → P h t c) {m : Mal} (h : MOwn O m) : MOwn P m := fun g hg => hp _ _ _ (h g hg)
theorem COwn.mono {O P : Int → Int → Int → Prop} (hp : ∀ h t c, O h t c → P h t c) {x : Crt} (h : COwn O x) : COwn P x := by
 obtain ⟨h0, h1, t, ht, e⟩ := h
 exact ⟨h0, h1, t, ht, hp _ _ _ e⟩
theorem FOwn.mono {O P : Int → Int → Int → Prop} (hp : ∀ h t c, O h t c → P h t c) {f : Frm} (h : FOwn O f) : FOwn P f := ⟨h.1.mono hp, fun x hx => (h.2 x hx).mono hp⟩
theorem OwnC.mono {O P : Int → Int → Int → Prop} (hp : ∀ h t c, O h t c → P h t c) {C : Clu} (h : OwnC O C) : OwnC P C :=
 ⟨fun a t m hm => (h.mails a t m hm).mono hp, fun a x hx => (h.certs a x hx).mono hp, fun s hs => by
  obtain ⟨f, h1, h2, h3⟩ := h.net s hs
  exact ⟨f, h1, h2, h3.mono hp⟩, fun a b s hs => (h.sent a b s hs).mono hp⟩
section
variable {O : Int → Int → Int → Prop}
end
theorem QjW {l : Lne} {q : Int} (hg : goodLn l = true) (hq : 1 ≤ q ∧ q ≤ 1099511627776) (ho : l.high - 8 < q) (hc : ¬ Came l q) : (takeLn l q).2 = 0 := by
 unfold takeLn
 rw [if_pos (by rw [hg]; simp only [Bool.true_and, decide_eq_true_eq]; exact hq), if_neg (by omega)]
 by_cases hh : l.high < q
 · rw [if_pos hh]
 · rw [if_neg hh, if_neg (fun h => hc ⟨by omega, Or.inr h⟩)]
theorem QgU {l : Lne} {q : Int} (h8 : l.seen.length = 8) (hg : goodLn l = true) (hq : 1 ≤ q ∧ q ≤ 1099511627776) (h : (takeLn l q).2 = 0) (ho : (takeLn l q).1.high - 8 < q) : (takeLn (takeLn l q).1 q).2 = 10 := by
 obtain ⟨_, _, h3⟩ := Qdk h8 h
 have hg' := QbQ l q hg
 generalize (takeLn l q).1 = m at *
 unfold takeLn
 rw [if_pos (by rw [hg']; simp only [Bool.true_and, decide_eq_true_eq]; exact hq), if_neg (by omega), if_neg (by have := h3.1; omega)]
 rcases h3.2 with h2 | h2
 · omega
 · rw [if_pos h2]
theorem Qeq {l : Lne} {q : Int} (h : (takeLn l q).2 = 0) : (takeLn l q).1.high = max l.high q := by
 unfold takeLn at h ⊢
 split at h
 · rename_i hg
   rw [if_pos hg]
   split at h
   · cases h
   · rename_i ho
     rw [if_neg ho]
     split at h
     · rename_i hh
       rw [if_pos hh]
       show q = _
       omega
     · rename_i hh
       rw [if_neg hh]
       split at h
       · cases h
       · rename_i hs
         rw [if_neg hs]
         show l.high = _
         omega
 · cases h
theorem take_only {l : Lne} {q s : Int} (h : Came (takeLn l q).1 s) (ho : (takeLn l q).1.high - 8 < s) : s = q ∨ Came l s := by
 unfold takeLn at h ho
 split at h
 · rename_i hg
   rw [if_pos hg] at ho
   split at h
   · exact Or.inr h
   · rename_i ho1
     rw [if_neg ho1] at ho
     split at h
     · rename_i hh
       rw [if_pos hh] at ho
       obtain ⟨h1, h2⟩ := h
       replace h1 : s ≤ q := h1
       replace ho : q - 8 < s := ho
       rcases h2 with h2 | h2
       · replace h2 : s ≤ q - 8 := h2
         omega
       · replace h2 : ((shiftL (q - l.high).toNat l.seen).set 0 true)[(q - s).toNat]? = some true := h2
         by_cases hs : s = q
         · exact Or.inl hs
         · rw [List.getElem?_set_ne (by omega), Qb8 _ _ (by omega)] at h2
           split at h2
           · cases h2
           · right
             refine ⟨by omega, Or.inr ?_⟩
             rw [← h2]
             congr 1
             omega
     · rename_i hh
       rw [if_neg hh] at ho
       split at h
       · exact Or.inr h
       · rename_i hs
         obtain ⟨h1, h2⟩ := h
         replace h1 : s ≤ l.high := h1
         rcases h2 with h2 | h2
         · exact Or.inr ⟨h1, Or.inl h2⟩
         · replace h2 : (l.seen.set (l.high - q).toNat true)[(l.high - s).toNat]? = some true := h2
           rw [List.getElem?_set] at h2
           split at h2
           · left; omega
           · exact Or.inr ⟨h1, Or.inr h2⟩
 · exact Or.inr h
structure Turn (l : Lne) (left : List Int) : Prop where
 good : goodLn l = true
 seen : l.seen.length = 8
 high : l.high ≤ 8
 nums : ∀ n ∈ left, 1 ≤ n ∧ n ≤ 8
 once : left.Nodup
 come : ∀ n, 1 ≤ n → n ≤ 8 → (n ∈ left ↔ ¬ Came l n)
theorem Turn.end {l : Lne} (h : Turn l []) : l.high = 8 := by
 have := (h.come 8 (by omega) (by omega)).2
 have hc : Came l 8 := Classical.byContradiction fun hn => by simpa using this hn
 have := hc.1
 have := h.high
 omega
theorem Turn.ok {l : Lne} {left : List Int} (h : Turn l left) (k : Nat) (hk : k < left.length) : (takeLn l left[k]).2 = 0 ∧ (takeLn (takeLn l left[k]).1 left[k]).2 = 10 := by
 have hm := List.getElem_mem hk
 have hn := h.nums _ hm
 have hh := h.high
 have h0 : (takeLn l left[k]).2 = 0 := QjW h.good ⟨by omega, by omega⟩ (by omega) ((h.come _ hn.1 hn.2).1 hm)
 exact ⟨h0, QgU h.seen h.good ⟨by omega, by omega⟩ h0 (by rw [Qeq h0]; omega)⟩
theorem Turn.step {l : Lne} {left : List Int} (h : Turn l left) (k : Nat) (hk : k < left.length) : Turn (takeLn l left[k]).1 (left.take k ++ left.drop (k + 1)) := by
 have hm := List.getElem_mem hk
 have hn := h.nums _ hm
 have hh := h.high
 have h0 := (h.ok k hk).1
 have hhi := Qeq h0
 have hsplit : left = left.take k ++ left[k] :: left.drop (k + 1) := by
  rw [← List.drop_eq_getElem_cons hk, List.take_append_drop]
 have hnd := h.once
 rw [hsplit] at hnd
 have hmem : ∀ n, n ∈ left.take k ++ left.drop (k + 1) ↔ n ∈ left ∧ n ≠ left[k] := by
  intro n
  have hd := List.nodup_append.1 hnd
  have hd2 := List.nodup_cons.1 hd.2.1
  constructor
  · intro hx
    rcases List.mem_append.1 hx with hx | hx
    · exact ⟨List.mem_of_mem_take hx, fun e => hd.2.2 n hx (left[k]) List.mem_cons_self e⟩
    · exact ⟨List.mem_of_mem_drop hx, fun e => hd2.1 (e ▸ hx)⟩
  · rintro ⟨hx, hne⟩
    rw [hsplit] at hx
    rcases List.mem_append.1 hx with hx | hx
    · exact List.mem_append.2 (Or.inl hx)
    · rcases List.mem_cons.1 hx with e | hx
      · exact absurd e hne
      · exact List.mem_append.2 (Or.inr hx)
 refine ⟨QbQ _ _ h.good, take_length _ _ h.seen, by rw [hhi]; omega, fun n hx => h.nums n ((hmem n).1 hx).1, ?_, fun n h1 h2 => ?_⟩
 · have hd := List.nodup_append.1 hnd
   have hd2 := List.nodup_cons.1 hd.2.1
   exact List.nodup_append.2 ⟨hd.1, hd2.2, fun a ha b hb => hd.2.2 a ha b (List.mem_cons_of_mem _ hb)⟩
 · rw [hmem, h.come n h1 h2]
   constructor
   · rintro ⟨hc, hne⟩ hx
     rcases take_only hx (by rw [hhi]; omega) with e | e
     · exact hne e
     · exact hc e
   · intro hc
     refine ⟨fun hx => hc (Qer h.seen hx), fun e => ?_⟩
     rw [e] at hc
     exact hc (Qdk h.seen h0).2.2
structure Once (l : Lne) (had : Int → Bool) : Prop where
 seen : l.seen.length = 8
 had : ∀ s, had s = true → goodLn l = true ∧ Came l s
theorem Once.ok {l : Lne} {had : Int → Bool} {q : Int} (h : Once l had) (h0 : (takeLn l q).2 = 0) : had q = false ∧ q ≤ (takeLn l q).1.high := by
 obtain ⟨h1, h2, _⟩ := Qdk h.seen h0
 refine ⟨?_, h2⟩
 cases e : had q with
 | false => rfl
 | true => exact absurd (h.had q e).2 h1
theorem Once.keep {l : Lne} {had : Int → Bool} {q : Int} (h : Once l had) : Once (takeLn l q).1 had :=
 ⟨take_length _ _ h.seen, fun s hs => ⟨QbQ _ _ (h.had s hs).1, Qer h.seen (h.had s hs).2⟩⟩
theorem QdY {l : Lne} {q : Int} (h : (takeLn l q).2 = 0) : goodLn l = true := by
 cases e : goodLn l with
 | true => rfl
 | false => rw [QjX l q e] at h; cases h
theorem Once.more {l : Lne} {had : Int → Bool} {q : Int} (h : Once l had) (h0 : (takeLn l q).2 = 0) : Once (takeLn l q).1 (fun s => if s = q then true else had s) := by
 refine ⟨take_length _ _ h.seen, fun s hs => ?_⟩
 by_cases e : s = q
 · subst e
   exact ⟨QbQ _ _ (QdY h0), (Qdk h.seen h0).2.2⟩
 · rw [if_neg e] at hs
   exact (h.keep (q := q)).had s hs
structure Tri (l : Lne) (g : Frm) (cnt : Int) (there : Bool) : Prop where
 good : goodLn l = true
 here : there = l.sent.any (fun s => s.f.seq == g.seq)
 same : ∀ s ∈ l.sent, s.f.seq = g.seq → s.f = g ∧ s.tries = cnt
 cnt : 1 ≤ cnt ∧ cnt ≤ 5
theorem Qcf {now q : Int} {l : List Snt} (h : ∀ s ∈ l, s.f.seq ≠ q) : (∀ s ∈ l.flatMap (againS now), s.f.seq ≠ q) ∧ ∀ x ∈ l.flatMap (againF now), x.seq ≠ q := by
 constructor
 · intro s hs
   obtain ⟨y, hy, hs⟩ := List.mem_flatMap.1 hs
   unfold againS at hs
   split at hs
   · rw [List.mem_singleton] at hs
     rw [hs]
     exact h y hy
   · split at hs
     · cases hs
     · rw [List.mem_singleton] at hs
       subst hs
       exact h y hy
 · intro x hx
   obtain ⟨y, hy, hs⟩ := List.mem_flatMap.1 hx
   unfold againF at hs
   split at hs
   · cases hs
   · split at hs
     · cases hs
     · rw [List.mem_singleton] at hs
       subst hs
       exact h _ hy
theorem QfO {next : Int} {l : List Snt} {n : Int} (h : rises next n l = true) {s : Snt} (hs : s ∈ l) : ∃ a b, l = a ++ s :: b ∧ (∀ x ∈ a, x.f.seq ≠ s.f.seq) ∧ ∀ x ∈ b, x.f.seq ≠ s.f.seq := by
 induction l generalizing n with
 | nil => cases hs
 | cons y r ih =>
  simp only [rises, Bool.and_eq_true, decide_eq_true_eq] at h
  have hm := QaO h.2
  rcases List.mem_cons.1 hs with e | hs'
  · subst e
    exact ⟨[], r, rfl, ⟨fun x hx => absurd hx (by simp), fun x hx => by have := hm x hx; omega⟩⟩
  · obtain ⟨a, b, e, h1, h2⟩ := ih h.2 hs'
    refine ⟨y :: a, b, by rw [e]; rfl, fun x hx => ?_, h2⟩
    rcases List.mem_cons.1 hx with e' | hx
    · have := hm s hs'
      rw [e']
      omega
    · exact h1 x hx
theorem QbJ {q : Int} {l : List Frm} (h : ∀ x ∈ l, x.seq ≠ q) : l.countP (fun x => x.seq == q) = 0 := by
 rw [List.countP_eq_zero]
 intro x hx
 have := h x hx
 simpa using this
theorem QkT {q : Int} {l : List Snt} (h : ∀ x ∈ l, x.f.seq ≠ q) : l.any (fun s => s.f.seq == q) = false := by
 rw [List.any_eq_false]
 intro x hx
 have := h x hx
 simpa using this
theorem Qib {l : Lne} {now : Int} (hg : goodLn l = true) (h0 : 0 ≤ now) (h1 : now ≤ 1099511627776) : goodLn { l with sent := l.sent.flatMap (againS now) } = true := by
 have hh := Qav hg
 rw [Q5] at hh
 unfold goodLn
 rw [Bool.and_eq_true, Q5]
 exact ⟨⟨hh.1, hh.2.1, hh.2.2.1, hh.2.2.2.1, Nat.le_trans (Qbv now l.sent) hh.2.2.2.2⟩, QcX h0 h1 (Qaz hg)⟩
theorem Tri.step {l : Lne} {g : Frm} {cnt : Int} {there : Bool} {now : Int} (h : Tri l g cnt there) (h0 : 0 ≤ now) (h1 : now ≤ 1099511627776) :
 (∀ x ∈ l.sent.flatMap (againF now), x.seq = g.seq → x = g ∧ there = true) ∧
  Tri { l with sent := l.sent.flatMap (againS now) } g (cnt + (l.sent.flatMap (againF now)).countP (fun x => x.seq == g.seq)) ((l.sent.flatMap (againS now)).any (fun s => s.f.seq == g.seq)) := by
 have hg := Qib h.good h0 h1
 have hr := Qaz h.good
 by_cases hx : ∃ s ∈ l.sent, s.f.seq = g.seq
 · obtain ⟨s, hs, he⟩ := hx
   obtain ⟨hf, ht⟩ := h.same s hs he
   have htr := (QaO hr s hs).2.2
   simp only [triesB, decide_eq_true_eq] at htr
   have hth : there = true := by
    rw [h.here, List.any_eq_true]
    exact ⟨s, hs, by simp [he]⟩
   obtain ⟨a, b, e, ha, hb⟩ := QfO hr hs
   rw [he] at ha hb
   obtain ⟨a1, a2⟩ := Qcf (now := now) ha
   obtain ⟨b1, b2⟩ := Qcf (now := now) hb
   have eS : l.sent.flatMap (againS now) = a.flatMap (againS now) ++ (againS now s ++ b.flatMap (againS now)) := by rw [e]; simp
   have eF : l.sent.flatMap (againF now) = a.flatMap (againF now) ++ (againF now s ++ b.flatMap (againF now)) := by rw [e]; simp
   have hcnt : (l.sent.flatMap (againF now)).countP (fun x => x.seq == g.seq) = (againF now s).countP (fun x => x.seq == g.seq) := by
    rw [eF, List.countP_append, List.countP_append, QbJ a2, QbJ b2]
    omega
   have hall : ∀ y ∈ l.sent.flatMap (againS now), y.f.seq = g.seq → y ∈ againS now s := by
    intro y hy hq
    rw [eS] at hy
    rcases List.mem_append.1 hy with hy | hy
    · exact absurd hq (a1 y hy)
    · rcases List.mem_append.1 hy with hy | hy
      · exact hy
      · exact absurd hq (b1 y hy)
   refine ⟨fun x hx hq => ?_, hg, rfl, ?_, ?_⟩
   · rw [eF] at hx
     rcases List.mem_append.1 hx with hx | hx
     · exact absurd hq (a2 x hx)
     · rcases List.mem_append.1 hx with hx | hx
       · unfold againF at hx
         split at hx
         · cases hx
         · split at hx
           · cases hx
           · rw [List.mem_singleton] at hx
             subst hx
             exact ⟨hf, hth⟩
       · exact absurd hq (b2 x hx)
   · intro y hy hq
     have hy' := hall y hy hq
     rw [hcnt]
     unfold againS at hy'
     unfold againF
     split at hy'
     · rename_i hd
       rw [List.mem_singleton] at hy'
       subst hy'
       rw [if_pos hd]
       exact ⟨hf, by simp [ht]⟩
     · rename_i hd
       split at hy'
       · cases hy'
       · rename_i h5
         rw [List.mem_singleton] at hy'
         subst hy'
         rw [if_neg hd, if_neg h5]
         exact ⟨hf, by simp [ht, he]⟩
   · rw [hcnt]
     unfold againF
     split
     · simpa using h.cnt
     · split
       · simpa using h.cnt
       · rename_i h5
         have := h.cnt
         simp only [List.countP_cons, List.countP_nil, he, beq_self_eq_true, if_true]
         omega
 · have hn : ∀ s ∈ l.sent, s.f.seq ≠ g.seq := fun s hs he => hx ⟨s, hs, he⟩
   obtain ⟨a1, a2⟩ := Qcf (now := now) hn
   refine ⟨fun x hx hq => absurd hq (a2 x hx), hg, rfl, fun y hy hq => absurd hq (a1 y hy), ?_⟩
   rw [QbJ a2]
   simpa using h.cnt
theorem Tri.end {l : Lne} {g : Frm} {cnt : Int} {there : Bool} (h : Tri l g cnt there) : (decide ((ansLn l g.seq).2 = 0) = there) ∧ ∀ s ∈ (ansLn l g.seq).1.sent, s.f.seq ≠ g.seq := by
 unfold ansLn
 rw [if_pos h.good]
 split
 · rename_i ha
   have hn : ∀ s ∈ l.sent, s.f.seq ≠ g.seq := fun s hs => by simpa using List.all_eq_true.1 ha s hs
   exact ⟨by rw [h.here, QkT hn]; rfl, hn⟩
 · rename_i ha
   refine ⟨?_, fun s hs => ?_⟩
   · rw [h.here]
     symm
     cases e : l.sent.any (fun s => s.f.seq == g.seq) with
     | true => rfl
     | false =>
      exfalso
      apply ha
      rw [List.all_eq_true]
      intro s hs
      have := List.any_eq_false.1 e s hs
      simpa using this
   · simpa using (List.mem_filter.1 hs).2
structure AgainR (C D : Clu) : Prop where
 head : ∀ a b, (D.lines a b).next = (C.lines a b).next ∧ (D.lines a b).high = (C.lines a b).high ∧ (D.lines a b).seen = (C.lines a b).seen
 sent : ∀ a b, ∀ s ∈ (D.lines a b).sent, ∃ s' ∈ (C.lines a b).sent, s.f = s'.f
 net : ∀ s ∈ D.net, s ∈ C.net ∨ ∃ a b, ∃ s' ∈ (C.lines a b).sent, s = encL s'.f ∧ frameE s'.f = 0
theorem AgainR.refl (C : Clu) : AgainR C C := ⟨fun _ _ => ⟨rfl, rfl, rfl⟩, fun _ _ s h => ⟨s, h, rfl⟩, fun _ h => .inl h⟩
theorem AgainR.trans {A B C : Clu} (h : AgainR A B) (k : AgainR B C) : AgainR A C := by
 refine ⟨fun a b => ⟨(k.head a b).1.trans (h.head a b).1, (k.head a b).2.1.trans (h.head a b).2.1, (k.head a b).2.2.trans (h.head a b).2.2⟩, fun a b s hs => ?_, fun s hs => ?_⟩
 · obtain ⟨s1, h1, e1⟩ := k.sent a b s hs
   obtain ⟨s2, h2, e2⟩ := h.sent a b s1 h1
   exact ⟨s2, h2, e1.trans e2⟩
 · rcases k.net s hs with e | ⟨a, b, s1, h1, e1, e3⟩
   · exact h.net s e
   · obtain ⟨s2, h2, e2⟩ := h.sent a b s1 h1
     exact .inr ⟨a, b, s2, h2, by rw [e1, e2], by rw [← e2]; exact e3⟩
def QuietM (C D : Clu) : Prop := D.lines = C.lines ∧ (∀ s ∈ D.net, s ∈ C.net) ∧ ∀ (g : Nat), g < 4 → ∀ t, ∃ k, (thrOf (D.ks g) t).mails = (thrOf (C.ks g) t).mails.drop k
theorem QuietM.same {C D : Clu} (h1 : D.lines = C.lines) (h2 : ∀ s ∈ D.net, s ∈ C.net) (h3 : D.ks = C.ks) : QuietM C D := ⟨h1, h2, fun g _ t => ⟨0, by rw [h3]; rfl⟩⟩
def All2 {α β : Type} (R : α → β → Prop) : List α → List β → Prop
 | [], [] => True
 | a :: l, b :: m => R a b ∧ All2 R l m
 | [], _ :: _ => False
 | _ :: _, [] => False
section
variable {α β γ δ : Type} {R : α → β → Prop} {S : γ → δ → Prop}
theorem All2.length : ∀ {l : List α} {m : List β}, All2 R l m → l.length = m.length
 | [], [], _ => rfl
 | _ :: _, _ :: _, h => by rw [List.length_cons, List.length_cons, All2.length h.2]
 | [], _ :: _, h => h.elim
 | _ :: _, [], h => h.elim
theorem All2.append : ∀ {l : List α} {m : List β} {l' : List α} {m' : List β}, All2 R l m → All2 R l' m' → All2 R (l ++ l') (m ++ m')
 | [], [], _, _, _, h => h
 | _ :: _, _ :: _, _, _, h, h' => ⟨h.1, All2.append h.2 h'⟩
 | [], _ :: _, _, _, h, _ => h.elim
 | _ :: _, [], _, _, h, _ => h.elim
theorem All2.get : ∀ {l : List α} {m : List β}, All2 R l m → ∀ i : Nat, (l[i]? = none ∧ m[i]? = none) ∨ ∃ x y, l[i]? = some x ∧ m[i]? = some y ∧ R x y
 | [], [], _, _ => .inl ⟨rfl, rfl⟩
 | a :: _, b :: _, h, 0 => .inr ⟨a, b, rfl, rfl, h.1⟩
 | _ :: _, _ :: _, h, i + 1 => by
  rw [List.getElem?_cons_succ, List.getElem?_cons_succ]
  exact All2.get h.2 i
 | [], _ :: _, h, _ => h.elim
 | _ :: _, [], h, _ => h.elim
theorem All2.set : ∀ {l : List α} {m : List β} {x : α} {y : β} (i : Nat), All2 R l m → R x y → All2 R (l.set i x) (m.set i y)
 | [], [], _, _, _, _, _ => trivial
 | _ :: _, _ :: _, _, _, 0, h, hx => ⟨hx, h.2⟩
 | _ :: _, _ :: _, _, _, i + 1, h, hx => ⟨h.1, All2.set i h.2 hx⟩
 | [], _ :: _, _, _, _, h, _ => h.elim
 | _ :: _, [], _, _, _, h, _ => h.elim
theorem All2.drop : ∀ {l : List α} {m : List β} (i : Nat), All2 R l m → All2 R (l.drop i) (m.drop i)
 | [], [], i, _ => by simp only [List.drop_nil]; trivial
 | _ :: _, _ :: _, 0, h => h
 | _ :: _, _ :: _, i + 1, h => All2.drop i h.2
 | [], _ :: _, _, h => h.elim
 | _ :: _, [], _, h => h.elim
theorem All2.take : ∀ {l : List α} {m : List β} (i : Nat), All2 R l m → All2 R (l.take i) (m.take i)
 | [], [], i, _ => by simp only [List.take_nil]; trivial
 | _ :: _, _ :: _, 0, _ => trivial
 | _ :: _, _ :: _, i + 1, h => ⟨h.1, All2.take i h.2⟩
 | [], _ :: _, _, h => h.elim
 | _ :: _, [], _, h => h.elim
theorem All2.modify {f : α → α} {g : β → β} : ∀ {l : List α} {m : List β} (i : Nat), All2 R l m → (∀ x y, l[i]? = some x → m[i]? = some y → R x y → R (f x) (g y)) → All2 R (l.modify i f) (m.modify i g)
 | [], [], i, _, _ => by simp only [List.modify_nil]; trivial
 | _ :: _, _ :: _, 0, h, hf => ⟨hf _ _ rfl rfl h.1, h.2⟩
 | _ :: _, _ :: _, i + 1, h, hf => ⟨h.1, All2.modify i h.2 (fun x y hx hy => hf x y (by rw [List.getElem?_cons_succ]; exact hx) (by rw [List.getElem?_cons_succ]; exact hy))⟩
 | [], _ :: _, _, h, _ => h.elim
 | _ :: _, [], _, h, _ => h.elim
theorem All2.filter {p : α → Bool} {q : β → Bool} (hp : ∀ x y, R x y → p x = q y) : ∀ {l : List α} {m : List β}, All2 R l m → All2 R (l.filter p) (m.filter q)
 | [], [], _ => trivial
 | a :: l, b :: m, h => by
  rw [List.filter_cons, List.filter_cons, hp a b h.1]
  split
  · exact ⟨h.1, All2.filter hp h.2⟩
  · exact All2.filter hp h.2
 | [], _ :: _, h => h.elim
 | _ :: _, [], h => h.elim
theorem All2.all {p : α → Bool} {q : β → Bool} (hp : ∀ x y, R x y → p x = q y) : ∀ {l : List α} {m : List β}, All2 R l m → l.all p = m.all q
 | [], [], _ => rfl
 | a :: l, b :: m, h => by rw [List.all_cons, List.all_cons, hp a b h.1, All2.all hp h.2]
 | [], _ :: _, h => h.elim
 | _ :: _, [], h => h.elim
theorem All2.flatMap {f : α → List γ} {g : β → List δ} (hf : ∀ x y, R x y → All2 S (f x) (g y)) : ∀ {l : List α} {m : List β}, All2 R l m → All2 S (l.flatMap f) (m.flatMap g)
 | [], [], _ => trivial
 | a :: l, b :: m, h => by
  rw [List.flatMap_cons, List.flatMap_cons]
  exact (hf a b h.1).append (All2.flatMap hf h.2)
 | [], _ :: _, h => h.elim
 | _ :: _, [], h => h.elim
end
section
variable (c : Int)
def TxR (b : Prop) (x y : List UInt8) : Prop := x.length = y.length ∧ (b → x = y)
def MalR (m n : Mal) : Prop := m.host = n.host ∧ m.thread = n.thread ∧ m.label = n.label ∧ m.grants = n.grants ∧ TxR (atL m.label c ≤ 1) m.text n.text
def FrmR (f g : Frm) : Prop := f.fr = g.fr ∧ f.to = g.to ∧ f.seq = g.seq ∧ f.ack = g.ack ∧ f.thread = g.thread ∧ f.certs = g.certs ∧ MalR c f.mail g.mail
def SntR (s t : Snt) : Prop := FrmR c s.f t.f ∧ s.tries = t.tries ∧ s.due = t.due
def LneR (l m : Lne) : Prop := l.next = m.next ∧ l.high = m.high ∧ l.seen = m.seen ∧ All2 (SntR c) l.sent m.sent
def ObtR (o p : Obt) : Prop := o.label = p.label ∧ TxR (atL o.label c ≤ 1) o.text p.text
def LowT (th : Thr) : Prop := atL th.label c ≤ 1 ∧ c ∉ th.own
def ThrR (x y : Thr) : Prop := x.label = y.label ∧ x.own = y.own ∧ TxR (LowT c x) x.text y.text ∧ All2 (ObtR c) x.objs y.objs ∧ All2 (MalR c) x.mails y.mails
def KerR (K L : Ker) : Prop := K.host = L.host ∧ K.made = L.made ∧ All2 (ThrR c) K.ths L.ths
def NetR (s t : List UInt8) : Prop := ∃ f g, frameE f = 0 ∧ s = encL f ∧ t = encL g ∧ FrmR c f g
structure CluR (C D : Clu) : Prop where
 now : C.now = D.now
 acts : C.acts = D.acts
 ks : ∀ g, KerR c (C.ks g) (D.ks g)
 certs : C.certs = D.certs
 lines : ∀ a b, LneR c (C.lines a b) (D.lines a b)
 net : All2 (NetR c) C.net D.net
def CalR (b : Prop) (x y : Cal) : Prop := x.kind = y.kind ∧ x.h = y.h ∧ x.t = y.t ∧ x.n = y.n ∧ x.c = y.c ∧ x.label = y.label ∧ x.grants = y.grants ∧ TxR b x.text y.text
def RepR (b : Prop) (r s : Rep) : Prop := r.code = s.code ∧ r.n = s.n ∧ (b → r.text = s.text)
end
theorem RepR.refl (b : Prop) (r : Rep) : RepR b r r := ⟨rfl, rfl, fun _ => rfl⟩
theorem TxR.refl (b : Prop) (x : List UInt8) : TxR b x x := ⟨rfl, fun _ => rfl⟩
theorem TxR.app {b : Prop} {x y x' y' : List UInt8} (h : TxR b x y) (h' : TxR b x' y') : TxR b (x ++ x') (y ++ y') := ⟨by rw [List.length_append, List.length_append, h.1, h'.1], fun e => by rw [h.2 e, h'.2 e]⟩
theorem TxR.last {b : Prop} {x y : List UInt8} (h : TxR b x y) : TxR b (lastL x) (lastL y) := ⟨by unfold lastL; rw [List.length_drop, List.length_drop, h.1], fun e => by rw [h.2 e]⟩
theorem TxR.imp {b b' : Prop} {x y : List UInt8} (h : TxR b x y) (hb : b' → b) : TxR b' x y := ⟨h.1, fun e => h.2 (hb e)⟩
section
variable {c : Int}
theorem MalR.zero : MalR c zeroMal zeroMal := ⟨rfl, rfl, rfl, rfl, TxR.refl _ _⟩
theorem MalR.mailE {m n : Mal} (h : MalR c m n) : mailE m = Parclose.mailE n := by
 obtain ⟨h1, h2, h3, h4, h5, _⟩ := h
 unfold Parclose.mailE
 rw [h1, h2, h3, h4, h5]
theorem MalR.names {m n : Mal} (h : MalR c m n) : namesL m = namesL n := Qft h.2.2.1 h.2.2.2.1
theorem MalR.may {m n : Mal} (h : MalR c m n) (l : List Crt) (x now : Int) : mayB l x m now = mayB l x n now := QiV h.2.2.1 h.2.2.2.1
theorem MalR.show {m n : Mal} (h : MalR c m n) (l : List Crt) : showL l m = showL l n := by unfold showL; rw [h.names]
theorem Qji {x y : List UInt8} (h : x.length = y.length) : x.isEmpty = y.isEmpty := by
 cases x with
 | nil =>
  cases y with
  | nil => rfl
  | cons => cases h
 | cons =>
  cases y with
  | nil => cases h
  | cons => rfl
theorem FrmR.frameE {f g : Frm} (h : FrmR c f g) : frameE f = Parclose.frameE g := by
 obtain ⟨h1, h2, h3, h4, h5, h6, hm⟩ := h
 have e := hm.mailE
 obtain ⟨g1, g2, g3, g4, g5, _⟩ := hm
 unfold Parclose.frameE headB answerE loadE emptyB
 rw [h1, h2, h3, h4, h5, h6, e, g1, g2, g3, g4, Qji g5]
theorem FrmR.encLen {f g : Frm} (h : FrmR c f g) : (encL f).length = (encL g).length := by
 obtain ⟨h1, h2, h3, h4, h5, h6, hm⟩ := h
 obtain ⟨g1, g2, g3, g4, g5, _⟩ := hm
 unfold encL headL mailL
 rw [h1, h2, h3, h4, h5, h6, g2, g3, g4, g5]
 split
 · rfl
 · simp only [List.length_append, g5]
theorem FrmR.seq {f g : Frm} (h : FrmR c f g) (q : Int) : FrmR c { f with seq := q } { g with seq := q } := ⟨h.1, h.2.1, rfl, h.2.2.2⟩
theorem FrmR.zero : FrmR c zeroFrm zeroFrm := ⟨rfl, rfl, rfl, rfl, rfl, rfl, MalR.zero⟩
theorem QeA {next : Int} : ∀ {l m : List Snt} (n : Int), All2 (SntR c) l m → rises next n l = rises next n m
 | [], [], _, _ => rfl
 | s :: l, t :: m, n, h => by
  obtain ⟨⟨hf, h1, h2⟩, h3⟩ := h
  unfold rises
  rw [QeA s.f.seq h3]
  unfold sentB triesB
  rw [hf.2.2.1, h1, h2]
 | [], _ :: _, _, h => h.elim
 | _ :: _, [], _, h => h.elim
theorem LneR.good {l m : Lne} (h : LneR c l m) : goodLn l = goodLn m := by
 obtain ⟨h1, h2, h3, h4⟩ := h
 unfold goodLn headLn
 rw [h1, h2, h4.length, QeA 0 h4]
theorem LneR.take {l m : Lne} (h : LneR c l m) (q : Int) : LneR c (takeLn l q).1 (takeLn m q).1 ∧ (takeLn l q).2 = (takeLn m q).2 := by
 have hg := h.good
 obtain ⟨h1, h2, h3, h4⟩ := h
 unfold takeLn
 rw [hg, h2, h3]
 split
 · split
   · exact ⟨⟨h1, h2, h3, h4⟩, rfl⟩
   · split
     · exact ⟨⟨h1, rfl, rfl, h4⟩, rfl⟩
     · split
       · exact ⟨⟨h1, h2, h3, h4⟩, rfl⟩
       · exact ⟨⟨h1, rfl, rfl, h4⟩, rfl⟩
 · exact ⟨⟨h1, h2, h3, h4⟩, rfl⟩
theorem LneR.send {l m : Lne} (h : LneR c l m) {f g : Frm} (hf : FrmR c f g) (now : Int) : LneR c (sendLn l f now).1 (sendLn m g now).1 ∧ FrmR c (sendLn l f now).2.1 (sendLn m g now).2.1 ∧ (sendLn l f now).2.2 = (sendLn m g now).2.2 := by
 have hg := h.good
 obtain ⟨h1, h2, h3, h4⟩ := h
 unfold sendLn
 rw [hg, h1, h4.length]
 split
 · split
   · exact ⟨⟨h1, h2, h3, h4⟩, FrmR.zero, rfl⟩
   · exact ⟨⟨rfl, h2, h3, h4.append ⟨⟨hf.seq _, rfl, rfl⟩, trivial⟩⟩, hf.seq _, rfl⟩
 · exact ⟨⟨h1, h2, h3, h4⟩, FrmR.zero, rfl⟩
theorem LneR.ans {l m : Lne} (h : LneR c l m) (q : Int) : LneR c (ansLn l q).1 (ansLn m q).1 := by
 have hg := h.good
 obtain ⟨h1, h2, h3, h4⟩ := h
 have hp : ∀ x y, SntR c x y → (!(x.f.seq == q)) = (!(y.f.seq == q)) := fun x y hxy => by rw [hxy.1.2.2.1]
 unfold ansLn
 rw [hg, h4.all hp]
 split
 · split
   · exact ⟨h1, h2, h3, h4⟩
   · exact ⟨h1, h2, h3, h4.filter hp⟩
 · exact ⟨h1, h2, h3, h4⟩
theorem LneR.again {l m : Lne} (h : LneR c l m) (now : Int) : LneR c (againLn l now).1 (againLn m now).1 ∧ All2 (FrmR c) (againLn l now).2.1 (againLn m now).2.1 := by
 have hg := h.good
 obtain ⟨h1, h2, h3, h4⟩ := h
 unfold againLn
 rw [hg]
 split
 · refine ⟨⟨h1, h2, h3, h4.flatMap fun x y hxy => ?_⟩, h4.flatMap fun x y hxy => ?_⟩
   · unfold againS
     rw [hxy.2.2, hxy.2.1]
     split
     · exact ⟨hxy, trivial⟩
     · split
       · trivial
       · exact ⟨⟨hxy.1, rfl, rfl⟩, trivial⟩
   · unfold againF
     rw [hxy.2.2, hxy.2.1]
     split
     · trivial
     · split
       · trivial
       · exact ⟨hxy.1, trivial⟩
 · exact ⟨⟨h1, h2, h3, h4⟩, trivial⟩
theorem Qbk {a b : List (Int × Int)} {own : List Int} (h : flowsL a b own = true) (hn : c ∉ own) (hb : atL b c ≤ 1) : atL a c ≤ 1 := by
 rcases (QdN _ _ _).1 h c with e | e
 · exact absurd (by simpa using e) hn
 · omega
theorem KerR.get {K L : Ker} (h : KerR c K L) (t : Int) : (getT K t = none ∧ getT L t = none) ∨ ∃ x y, getT K t = some x ∧ getT L t = some y ∧ ThrR c x y := by
 unfold getT
 split
 · exact h.2.2.get t.toNat
 · exact .inl ⟨rfl, rfl⟩
theorem KerR.set {K L : Ker} (h : KerR c K L) (t : Int) {x y : Thr} (hx : ThrR c x y) : KerR c (setT K t x) (setT L t y) := ⟨h.1, h.2.1, h.2.2.set _ hx⟩
theorem ThrR.low {x y : Thr} (h : ThrR c x y) : LowT c x ↔ LowT c y := by
 unfold LowT
 rw [h.1, h.2.1]
theorem ThrR.box {x y : Thr} (h : ThrR c x y) {m n : Mal} (hm : MalR c m n) : ThrR c (boxL x m) (boxL y n) := by
 have e : (mailE m = 0 ∧ flowsL m.label x.label x.own = true ∧ x.mails.length < 6) ↔ (mailE n = 0 ∧ flowsL n.label y.label y.own = true ∧ y.mails.length < 6) := by rw [hm.mailE, hm.2.2.1, h.1, h.2.1, h.2.2.2.2.length]
 unfold boxL
 by_cases hh : mailE m = 0 ∧ flowsL m.label x.label x.own = true ∧ x.mails.length < 6
 · rw [if_pos hh, if_pos (e.1 hh)]
   exact ⟨h.1, h.2.1, h.2.2.1, h.2.2.2.1, h.2.2.2.2.append ⟨hm, trivial⟩⟩
 · rw [if_neg hh, if_neg (fun g => hh (e.2 g))]
   exact h
theorem KerR.deliver {K L : Ker} (h : KerR c K L) (t : Int) {m n : Mal} (hm : MalR c m n) : KerR c (deliverL K t m) (deliverL L t n) := by
 unfold deliverL
 rcases h.get t with ⟨e1, e2⟩ | ⟨x, y, e1, e2, e3⟩
 · rw [e1, e2]; exact h
 · rw [e1, e2]; exact h.set t (e3.box hm)
theorem KerR.letter {K L : Ker} (h : KerR c K L) (t : Int) {x y : Cal} (hn : ∀ th, getT K t = some th → c ∉ th.own) (hc : CalR (∀ th, getT K t = some th → LowT c th) x y) :
 MalR c (letterL K t x).1 (letterL L t y).1 ∧ (letterL K t x).2 = (letterL L t y).2 := by
 obtain ⟨c1, c2, c3, c4, c5, c6, c7, c8⟩ := hc
 unfold letterL
 rcases h.get t with ⟨e1, e2⟩ | ⟨a, b, e1, e2, e3⟩
 · rw [e1, e2]; exact ⟨MalR.zero, rfl⟩
 · have hl : ∀ g : LowT c a, TxR (LowT c a) x.text y.text := fun _ => c8.imp fun g th hth => by rw [e1] at hth; cases hth; exact g
   have ht : TxR (LowT c a) x.text y.text := c8.imp fun g th hth => by rw [e1] at hth; cases hth; exact g
   rw [e1, e2]
   simp only
   have hm : mayL a (letterM K t x a) = mayL b (letterM L t y b) := by
    unfold mayL
    have hE : mailE (letterM K t x a) = mailE (letterM L t y b) := by
     unfold mailE letterM
     simp only
     rw [h.1, c6, c7, (e3.2.2.1.app ht).last.1]
    rw [hE]
    unfold letterM
    simp only
    rw [c6, c7, e3.1, e3.2.1]
   rw [hm]
   split
   · rename_i h0
     refine ⟨⟨h.1, rfl, c6, c7, ?_⟩, rfl⟩
     rw [← hm] at h0
     have hf : flowsL a.label x.label a.own = true := by
      unfold mayL at h0
      split at h0
      · split at h0
        · split at h0
          · assumption
          · cases h0
        · cases h0
      · rename_i h1; exact absurd h0 h1
     refine ((e3.2.2.1.app ht).last).imp fun hl => ⟨Qbk hf (hn a e1) hl, hn a e1⟩
   · exact ⟨MalR.zero, rfl⟩
theorem ThrR.take {x y : Thr} (hn : c ∉ x.own) : ∀ {ms ns : List Mal}, ThrR c { x with mails := ms } { y with mails := ns } → ThrR c (takeL x ms).1 (takeL y ns).1 ∧ (takeL x ms).2 = (takeL y ns).2
 | [], [], h => ⟨h, rfl⟩
 | m :: r, n :: s, h => by
  obtain ⟨h1, h2, h3, h4, h5, h6⟩ := h
  simp only at h1 h2
  have h3' : TxR (LowT c x) x.text y.text := h3
  unfold takeL
  rw [← h1, ← h2, ← h5.2.2.1]
  split
  · rename_i hf
    refine ⟨⟨h1, ?_, ?_, h4, h6⟩, by rw [h5.1, h5.2.1]⟩
    · show grantL m.grants x.own = grantL n.grants y.own
      rw [h5.2.2.2.1, h2]
    · show TxR (atL x.label c ≤ 1 ∧ c ∉ grantL m.grants x.own) (lastL (x.text ++ m.text)) (lastL (y.text ++ n.text))
      refine (TxR.app (b := LowT c x) h3' (h5.2.2.2.2.imp fun g => Qbk hf hn g.1)).last.imp fun g => ⟨g.1, hn⟩
  · exact ThrR.take hn ⟨h1, h2, h3, h4, h6⟩
 | [], _ :: _, h => h.2.2.2.2.elim
 | _ :: _, [], h => h.2.2.2.2.elim
theorem KerR.objAt {K L : Ker} (h : KerR c K L) (t n : Int) : (objAt K t n = none ∧ Parclose.objAt L t n = none) ∨ ∃ o p, Parclose.objAt K t n = some o ∧ Parclose.objAt L t n = some p ∧ ObtR c o p := by
 unfold Parclose.objAt
 rcases h.get t with ⟨e1, e2⟩ | ⟨a, b, e1, e2, e3⟩
 · rw [e1, e2]; exact .inl ⟨rfl, rfl⟩
 · rw [e1, e2]
   simp only
   split
   · exact e3.2.2.2.1.get n.toNat
   · exact .inl ⟨rfl, rfl⟩
theorem KerR.call {K L : Ker} (h : KerR c K L) (t : Int) {x y : Cal} (hn : ∀ th, getT K t = some th → c ∉ th.own) (hc : CalR (∀ th, getT K t = some th → LowT c th) x y) :
 KerR c (callL K t x).1 (callL L t y).1 ∧ RepR (∀ th, getT K t = some th → LowT c th) (callL K t x).2 (callL L t y).2 := by
 obtain ⟨c1, c2, c3, c4, c5, c6, c7, c8⟩ := hc
 unfold callL
 rcases h.get t with ⟨e1, e2⟩ | ⟨a, b, e1, e2, e3⟩
 · rw [e1, e2]; exact ⟨h, RepR.refl _ _⟩
 · have ht : TxR (LowT c a) x.text y.text := c8.imp fun g th hth => by rw [e1] at hth; cases hth; exact g
   have hna := hn a e1
   have hlow : (∀ th, getT K t = some th → LowT c th) → LowT c a := fun g => g a e1
   rw [e1, e2]
   simp only
   clear c8
   unfold callT
   rw [← c1, ← ht.1]
   have R0 : ∀ r, RepR (∀ th, some a = some th → LowT c th) r r := fun r => RepR.refl _ r
   have e4 := e3
   obtain ⟨h1, h2, h3, h4, h5⟩ := e4
   split
   · exact ⟨h, R0 _⟩
   split
   · unfold categoryL
     rw [← h.1, ← h.2.1, ← h2]
     split
     · exact ⟨h, R0 _⟩
     · split
       · refine ⟨⟨h.1, rfl, h.2.2.set _ ⟨h1, rfl, h3.imp fun g => ⟨g.1, hna⟩, h4, h5⟩⟩, R0 _⟩
       · exact ⟨h, R0 _⟩
   split
   · unfold objectL
     rw [← c6, ← h1, ← h2, ← h4.length]
     split
     · split
       · split
         · exact ⟨h.set t e3, R0 _⟩
         · exact ⟨h.set t ⟨rfl, rfl, h3, h4.append ⟨⟨rfl, TxR.refl _ _⟩, trivial⟩, h5⟩, R0 _⟩
       · exact ⟨h.set t e3, R0 _⟩
     · exact ⟨h.set t e3, R0 _⟩
   split
   · refine ⟨?_, R0 _⟩
     show KerR c (putL K a x) (putL L b y)
     unfold putL
     rw [← c3, ← c4]
     rcases h.get x.t with ⟨g1, g2⟩ | ⟨u, v, g1, g2, g3⟩
     · rw [g1, g2]; exact h
     · rcases h.objAt x.t x.n with ⟨q1, q2⟩ | ⟨o, p, q1, q2, q3⟩
       · rw [g1, g2, q1, q2]; exact h
       · rw [g1, g2, q1, q2]
         simp only
         rw [← h1, ← h2, ← q3.1]
         split
         · rename_i hf
           refine h.set x.t ⟨g3.1, g3.2.1, g3.2.2.1, ?_, g3.2.2.2.2⟩
           refine g3.2.2.2.1.modify _ fun o' p' ho' hp' hop => ⟨hop.1, ?_⟩
           refine (h3.app ht).last.imp fun g => ⟨?_, hna⟩
           unfold Parclose.objAt at q1
           rw [g1] at q1
           simp only at q1
           split at q1
           · rw [ho'] at q1
             cases q1
             exact Qbk hf hna g
           · cases q1
         · exact h
   split
   · unfold getL
     rw [← c3, ← c4]
     rcases h.objAt x.t x.n with ⟨q1, q2⟩ | ⟨o, p, q1, q2, q3⟩
     · rw [q1, q2]; exact ⟨h, R0 _⟩
     · rw [q1, q2]
       simp only
       rw [← h1, ← h2, ← q3.1, ← q3.2.1]
       split
       · rename_i hf
         exact ⟨h.set t ⟨rfl, rfl, (TxR.app (b := LowT c a) h3 (q3.2.imp fun g => Qbk hf hna g.1)).last, h4, h5⟩, R0 _⟩
       · exact ⟨h, R0 _⟩
   split
   · unfold levelL
     rw [← h1, ← h2, ← c5, ← c4]
     split
     · split
       · rename_i hf
         exact ⟨h.set t ⟨rfl, rfl, h3.imp fun g => ⟨Qbk hf hna g.1, hna⟩, h4, h5⟩, R0 _⟩
       · exact ⟨h.set t e3, R0 _⟩
     · exact ⟨h.set t e3, R0 _⟩
   split
   · have hT := ThrR.take (x := a) (y := b) hna (ms := a.mails) (ns := b.mails) e3
     exact ⟨h.set t hT.1, by rw [hT.2]; exact R0 _⟩
   split
   · exact ⟨h.set t ⟨h1, h2, ht.last, h4, h5⟩, R0 _⟩
   split
   · exact ⟨h, rfl, rfl, fun g => h3.2 (g a rfl)⟩
   · exact ⟨h, R0 _⟩
theorem CluR.ker {C D : Clu} (h : CluR c C D) (a : Int) : KerR c (kerC C a) (kerC D a) := h.ks _
theorem CluR.crt {C D : Clu} (h : CluR c C D) (a : Int) : crtC C a = crtC D a := by unfold crtC; rw [h.certs]
theorem CluR.setK {C D : Clu} (h : CluR c C D) (a : Int) {K L : Ker} (hk : KerR c K L) : CluR c (setK C a K) (Parclose.setK D a L) := by
 refine ⟨h.now, h.acts, fun g => ?_, h.certs, h.lines, h.net⟩
 show KerR c (if g = a.toNat then K else C.ks g) (if g = a.toNat then L else D.ks g)
 split
 · exact hk
 · exact h.ks g
theorem CluR.setLi {C D : Clu} (h : CluR c C D) (a b : Int) {l m : Lne} (hl : LneR c l m) : CluR c (setLi C a b l) (Parclose.setLi D a b m) := by
 refine ⟨h.now, h.acts, h.ks, h.certs, fun x y => ?_, h.net⟩
 show LneR c (if x = a.toNat ∧ y = b.toNat then l else C.lines x y) (if x = a.toNat ∧ y = b.toNat then m else D.lines x y)
 split
 · exact hl
 · exact h.lines x y
theorem CluR.put {C D : Clu} (h : CluR c C D) {f g : Frm} (hf : FrmR c f g) : CluR c (putC C f) (putC D g) := by
 unfold putC
 have e : (frameE f = 0 ∧ C.net.length < 60) ↔ (frameE g = 0 ∧ D.net.length < 60) := by rw [hf.frameE, h.net.length]
 by_cases hh : frameE f = 0 ∧ C.net.length < 60
 · rw [if_pos hh, if_pos (e.1 hh)]
   exact ⟨h.now, h.acts, h.ks, h.certs, h.lines, h.net.append ⟨⟨f, g, hh.1, rfl, rfl, hf⟩, trivial⟩⟩
 · rw [if_neg hh, if_neg (fun g => hh (e.2 g))]
   exact h
theorem CluR.add {C D : Clu} (h : CluR c C D) (a : Int) (x : Crt) : CluR c (addC C a x).1 (addC D a x).1 ∧ (addC C a x).2 = (addC D a x).2 := by
 unfold addC
 rw [h.crt]
 split
 · refine ⟨⟨h.now, h.acts, h.ks, ?_, h.lines, h.net⟩, rfl⟩
   unfold setC
   rw [h.certs]
 · exact ⟨h, rfl⟩
theorem CluR.takeC : ∀ (l : List Crt) {C D : Clu} (_ : CluR c C D) (a : Int), CluR c (takeC C a l) (Parclose.takeC D a l)
 | [], _, _, h, _ => h
 | x :: r, _, _, h, a => CluR.takeC r (h.add a x).1 a
theorem CluR.away {C D : Clu} (h : CluR c C D) (fr to t : Int) {m n : Mal} (hm : MalR c m n) : CluR c (awayC C fr to t m).1 (awayC D fr to t n).1 ∧ (awayC C fr to t m).2 = (awayC D fr to t n).2 := by
 unfold awayC
 rw [h.crt, h.now, hm.may, hm.show]
 split
 · dsimp only
   have hs := (h.lines fr.toNat to.toNat).send (f := ⟨fr, to, 0, false, t, m, showL (crtC D fr) n⟩) (g := ⟨fr, to, 0, false, t, n, showL (crtC D fr) n⟩) ⟨rfl, rfl, rfl, rfl, rfl, rfl, hm⟩ D.now
   unfold lineC
   rw [hs.2.2]
   split
   · exact ⟨(h.setLi fr to hs.1).put hs.2.1, rfl⟩
   · exact ⟨h, rfl⟩
 · exact ⟨h, rfl⟩
theorem CluR.send {C D : Clu} (h : CluR c C D) (a t : Int) {x y : Cal} (hn : ∀ th, getT (kerC C a) t = some th → c ∉ th.own) (hc : CalR (∀ th, getT (kerC C a) t = some th → LowT c th) x y) : CluR c (sendC C a t x).1 (sendC D a t y).1 ∧ (sendC C a t x).2 = (sendC D a t y).2 := by
 have hl := (h.ker a).letter t hn hc
 obtain ⟨c1, c2, c3, c4, c5, c6, c7, c8⟩ := hc
 unfold sendC
 rw [← c8.1, ← c2, ← c3, ← hl.2]
 split
 · exact ⟨h, rfl⟩
 · split
   · split
     · split
       · exact ⟨h.setK a ((h.ker a).deliver _ hl.1), rfl⟩
       · exact h.away _ _ _ hl.1
     · exact ⟨h, rfl⟩
   · exact ⟨h, rfl⟩
theorem CluR.certify {C D : Clu} (h : CluR c C D) (a t : Int) {x y : Cal} {b : Prop} (hc : CalR b x y) : CluR c (certifyC C a t x).1 (certifyC D a t y).1 ∧ (certifyC C a t x).2 = (certifyC D a t y).2 := by
 obtain ⟨c1, c2, c3, c4, c5, c6, c7, c8⟩ := hc
 have ho : ((getT (kerC C a) t).getD zeroThr).own = ((getT (kerC D a) t).getD zeroThr).own := by
  rcases (h.ker a).get t with ⟨e1, e2⟩ | ⟨u, v, e1, e2, e3⟩
  · rw [e1, e2]
  · rw [e1, e2]; exact e3.2.1
 unfold certifyC
 rw [← c2, ← c4, ← c5, ho]
 split
 · split
   · exact h.add _ _
   · exact ⟨h, rfl⟩
 · exact ⟨h, rfl⟩
def NotOwn (c : Int) (C : Clu) (a t : Int) : Prop := hostB a = true → ∀ th, getT (kerC C a) t = some th → c ∉ th.own
def IsLow (c : Int) (C : Clu) (a t : Int) : Prop := hostB a = true → ∀ th, getT (kerC C a) t = some th → LowT c th
theorem CluR.call {C D : Clu} (h : CluR c C D) (a t : Int) {x y : Cal} (hn : NotOwn c C a t) (hc : CalR (IsLow c C a t) x y) : CluR c (callC C a t x).1 (callC D a t y).1 ∧ RepR (IsLow c C a t) (callC C a t x).2 (callC D a t y).2 := by
 unfold callC
 rw [← hc.1]
 split
 · rename_i h1
   rw [Bool.and_eq_true] at h1
   have hc' : CalR (∀ th, getT (kerC C a) t = some th → LowT c th) x y := ⟨hc.1, hc.2.1, hc.2.2.1, hc.2.2.2.1, hc.2.2.2.2.1, hc.2.2.2.2.2.1, hc.2.2.2.2.2.2.1, hc.2.2.2.2.2.2.2.imp fun g _ => g⟩
   split
   · have hs := h.send a t (hn h1.1) hc'
     rw [hs.2]
     exact ⟨hs.1, RepR.refl _ _⟩
   · split
     · have hs := h.certify a t hc'
       rw [hs.2]
       exact ⟨hs.1, RepR.refl _ _⟩
     · have hs := (h.ker a).call t (hn h1.1) hc'
       exact ⟨h.setK a hs.1, hs.2.1, hs.2.2.1, fun g => hs.2.2.2 (g h1.1)⟩
 · exact ⟨h, RepR.refl _ _⟩
theorem CluR.accept {C D : Clu} (h : CluR c C D) {f g : Frm} (hf : FrmR c f g) : CluR c (acceptC C f) (acceptC D g) := by
 unfold acceptC
 dsimp only
 rw [← hf.2.1, ← hf.2.2.2.2.2.1, ← hf.1, ← hf.2.2.2.2.1]
 have hT := CluR.takeC f.certs h f.to
 generalize Parclose.takeC C f.to f.certs = C1 at *
 generalize Parclose.takeC D f.to f.certs = D1 at *
 rw [hT.crt, hT.now, hf.2.2.2.2.2.2.may]
 split
 · exact hT.setK _ ((hT.ker _).deliver _ hf.2.2.2.2.2.2)
 · exact hT
theorem CluR.come {C D : Clu} (h : CluR c C D) {s t : List UInt8} (hs : NetR c s t) : CluR c (comeC C s) (comeC D t) := by
 obtain ⟨f, g, h0, rfl, rfl, hf⟩ := hs
 have h0' : frameE g = 0 := by rw [← hf.frameE]; exact h0
 unfold comeC
 rw [back f h0, back g h0', if_pos rfl, if_pos rfl]
 dsimp only
 have hk := (h.lines f.fr.toNat f.to.toNat).take f.seq
 have ha := (h.lines f.to.toNat f.fr.toNat).ans f.seq
 rw [← hf.2.2.2.1, ← hf.1, ← hf.2.1, ← hf.2.2.1]
 unfold lineC
 split
 · exact h.setLi _ _ ha
 · rw [← hk.2]
   have hD := h.setLi f.fr f.to hk.1
   have hE : ∀ (b : Prop) [Decidable b] (C D : Clu) (u : Frm), CluR c C D → CluR c (if b then putC C u else C) (if b then putC D u else D) := fun b _ C D u hc => by
    split
    · exact hc.put ⟨rfl, rfl, rfl, rfl, rfl, rfl, rfl, rfl, rfl, rfl, TxR.refl _ _⟩
    · exact hc
   split
   · exact (hE _ _ _ _ hD).accept hf
   · exact hE _ _ _ _ hD
theorem NetR.len {s t : List UInt8} (h : NetR c s t) : s.length = t.length := by
 obtain ⟨f, g, _, rfl, rfl, hf⟩ := h
 exact hf.encLen
theorem CluR.move {C D : Clu} (h : CluR c C D) (kind n : Int) (b : Prop) : CluR c (moveC C kind n).1 (moveC D kind n).1 ∧ RepR b (moveC C kind n).2 (moveC D kind n).2 := by
 unfold moveC
 rw [h.net.length]
 split
 · rename_i h1
   dsimp only
   have hs : NetR c (C.net.getD n.toNat []) (D.net.getD n.toNat []) := by
    rw [List.getD_eq_getElem?_getD, List.getD_eq_getElem?_getD]
    rcases h.net.get n.toNat with ⟨e1, e2⟩ | ⟨x, y, e1, e2, e3⟩
    · rw [List.getElem?_eq_none_iff] at e2
      omega
    · rw [e1, e2]; exact e3
   have hD : ∀ (b : Prop) [Decidable b], CluR c (if b then C else { C with net := C.net.take n.toNat ++ C.net.drop (n.toNat + 1) }) (if b then D else { D with net := D.net.take n.toNat ++ D.net.drop (n.toNat + 1) }) := fun b _ => by
    split
    · exact h
    · exact ⟨h.now, h.acts, h.ks, h.certs, h.lines, (h.net.take _).append (h.net.drop _)⟩
   rw [hs.len]
   refine ⟨?_, RepR.refl _ _⟩
   split
   · exact hD _
   · exact (hD _).come hs
 · exact ⟨h, RepR.refl _ _⟩
theorem CluR.puts : ∀ {l m : List Frm} (_ : All2 (FrmR c) l m) {C D : Clu} (_ : CluR c C D), CluR c (l.foldl putC C) (m.foldl putC D)
 | [], [], _, _, _, h => h
 | _ :: _, _ :: _, hl, _, _, h => CluR.puts hl.2 (h.put hl.1)
 | [], _ :: _, hl, _, _, _ => hl.elim
 | _ :: _, [], hl, _, _, _ => hl.elim
theorem CluR.again {C D : Clu} (h : CluR c C D) (a b : Int) : CluR c (againC C a b).1 (againC D a b).1 ∧ (againC C a b).2 = (againC D a b).2 := by
 unfold againC
 have hl := (h.lines a.toNat b.toNat).again D.now
 dsimp only
 rw [h.now]
 unfold lineC
 exact ⟨CluR.puts hl.2 (h.setLi a b hl.1), hl.2.length⟩
theorem CluR.agains : ∀ (l : List (Int × Int)) (s t : Clu × Nat) (_ : CluR c s.1 t.1) (_ : s.2 = t.2), CluR c (l.foldl (fun (s : Clu × Nat) ab => ((againC s.1 ab.1 ab.2).1, s.2 + (againC s.1 ab.1 ab.2).2)) s).1 (l.foldl (fun (s : Clu × Nat) ab => ((againC s.1 ab.1 ab.2).1, s.2 + (againC s.1 ab.1 ab.2).2)) t).1 ∧ (l.foldl (fun (s : Clu × Nat) ab => ((againC s.1 ab.1 ab.2).1, s.2 + (againC s.1 ab.1 ab.2).2)) s).2 = (l.foldl (fun (s : Clu × Nat) ab => ((againC s.1 ab.1 ab.2).1, s.2 + (againC s.1 ab.1 ab.2).2)) t).2
 | [], _, _, h, e => ⟨h, e⟩
 | x :: r, s, t, h, e => by
  rw [List.foldl_cons, List.foldl_cons]
  have ha := h.again x.1 x.2
  exact CluR.agains r _ _ ha.1 (by show s.2 + _ = t.2 + _; rw [e, ha.2])
theorem CluR.tick {C D : Clu} (h : CluR c C D) (n : Int) (b : Prop) : CluR c (tickC C n).1 (tickC D n).1 ∧ RepR b (tickC C n).2 (tickC D n).2 := by
 unfold tickC
 rw [h.now]
 split
 · dsimp only
   have hr := CluR.agains ([0, 1, 2, 3].flatMap fun a => [0, 1, 2, 3].map fun b => ((a : Int), (b : Int))) ({ C with now := D.now + n }, 0) ({ D with now := D.now + n }, 0) ⟨rfl, h.acts, h.ks, h.certs, h.lines, h.net⟩ rfl
   rw [hr.2]
   exact ⟨hr.1, RepR.refl _ _⟩
 · exact ⟨h, RepR.refl _ _⟩
theorem QhI {C D : Clu} (h : CluR c C D) {a b : Ac} (hk : a.kind = b.kind) (hh : a.h = b.h) (ht : a.t = b.t) (hn : a.n = b.n) (ho : a.kind = 1 → NotOwn c C a.h a.t) (hc : CalR (a.kind = 1 → IsLow c C a.h a.t) a.call b.call) :
 CluR c (doC C a).1 (doC D b).1 ∧ RepR (a.kind = 1 → IsLow c C a.h a.t) (doC C a).2 (doC D b).2 := by
 unfold doC
 rw [← hk, ← hh, ← ht, ← hn, h.acts]
 split
 · exact ⟨h, RepR.refl _ _⟩
 · dsimp only
   have hD : CluR c { C with acts := D.acts + 1 } { D with acts := D.acts + 1 } := ⟨h.now, rfl, h.ks, h.certs, h.lines, h.net⟩
   split
   · rename_i k1
     have := hD.call a.h a.t (x := a.call) (y := b.call) (ho k1) ⟨hc.1, hc.2.1, hc.2.2.1, hc.2.2.2.1, hc.2.2.2.2.1, hc.2.2.2.2.2.1, hc.2.2.2.2.2.2.1, hc.2.2.2.2.2.2.2.imp fun g _ => g⟩
     exact ⟨this.1, this.2.1, this.2.2.1, fun g => this.2.2.2 (g k1)⟩
   · split
     · exact hD.move _ _ _
     · split
       · exact hD.tick _ _
       · exact ⟨hD, RepR.refl _ _⟩
theorem All2.refl {α : Type} {R : α → α → Prop} (hr : ∀ x, R x x) : ∀ l : List α, All2 R l l
 | [] => trivial
 | x :: l => ⟨hr x, All2.refl hr l⟩
theorem freshR : CluR c freshClu freshClu :=
 ⟨rfl, rfl, fun _ => ⟨rfl, rfl, All2.refl (fun _ => ⟨rfl, rfl, TxR.refl _ _, All2.refl (fun _ => ⟨rfl, TxR.refl _ _⟩) _, All2.refl (fun _ => ⟨rfl, rfl, rfl, rfl, TxR.refl _ _⟩) _⟩) _⟩, rfl, fun _ _ => ⟨rfl, rfl, rfl, trivial⟩, trivial⟩
end
end Go.Proofs.Parclose
