/- Plain facts on lists of levels: what At, named, Flows, Good, Same say of them; no program is named here. -/
import Derived.Lib.SlicesCompact
namespace Go.Proofs.Parclose
def atL (l : List (Int × Int)) (c : Int) : Int := match l with
 | [] => 1
 | x :: r => if x.1 = c then x.2 else atL r c
theorem Ql4 (l : List (Int × Int)) (c : Int) (h : ∀ j (hj : j < l.length), l[j].1 ≠ c) : atL l c = 1 := by
 induction l with
 | nil => rfl
 | cons x r ih =>
  have h0 := h 0 (by simp)
  simp only [List.getElem_cons_zero] at h0
  simp only [atL, if_neg h0]
  exact ih fun j hj => by have := h (j + 1) (by simp; omega); simpa using this
theorem Ql3 (l : List (Int × Int)) (c : Int) (k : Nat) (hk : k < l.length) (h : ∀ j (hj : j < k), l[j].1 ≠ c) (hc : l[k].1 = c) : atL l c = l[k].2 := by
 induction l generalizing k with
 | nil => simp at hk
 | cons x r ih =>
  cases k with
  | zero => simp only [List.getElem_cons_zero] at hc ⊢; simp only [atL, if_pos hc]
  | succ k =>
   have h0 := h 0 (by omega)
   simp only [List.getElem_cons_zero] at h0
   simp only [atL, if_neg h0, List.getElem_cons_succ]
   exact ih k (by simpa using hk) (fun j hj => by have := h (j + 1) (by omega); simpa using this) (by simpa using hc)
theorem QdA {l : List (Int × Int)} {c : Int} (h : c ∉ l.map (·.1)) : atL l c = 1 := by
 induction l with
 | nil => rfl
 | cons x r ih =>
  simp only [List.map_cons, List.mem_cons, not_or] at h
  simp only [atL, if_neg (Ne.symm h.1)]
  exact ih h.2
def catsL (a b : List (Int × Int)) : List Int := Lib.compact ((a.map (·.1) ++ b.map (·.1)).mergeSort fun x y => decide (x ≤ y))
theorem QbH (d : Array Int) (m : Nat) (hm : m ≤ d.size) (x : Int) : x ∈ Lib.compactUpTo d m ↔ ∃ j, j < m ∧ d[j]! = x := by
 induction m with
 | zero => simp [Lib.compactUpTo]
 | succ m ih =>
  rw [Lib.compactUpTo_succ, List.mem_append, ih (by omega)]
  by_cases hk : Lib.keeps d m
  · simp only [hk, if_true, List.mem_singleton]
    constructor
    · rintro (⟨j, hj, e⟩ | e)
      · exact ⟨j, by omega, e⟩
      · exact ⟨m, by omega, e.symm⟩
    · rintro ⟨j, hj, e⟩
      by_cases h : j = m
      · subst h; exact Or.inr e.symm
      · exact Or.inl ⟨j, by omega, e⟩
  · have hk' : Lib.keeps d m = false := by simpa using hk
    simp only [hk', Bool.false_eq_true, if_false, List.not_mem_nil, or_false]
    have hz : ¬ (m = 0 ∨ d[m]! ≠ d[m - 1]!) := by simpa [Lib.keeps] using hk'
    constructor
    · rintro ⟨j, hj, e⟩; exact ⟨j, by omega, e⟩
    · rintro ⟨j, hj, e⟩
      by_cases h : j = m
      · subst h
        have h2 : d[j]! = d[j - 1]! := by
         by_cases g : d[j]! = d[j - 1]!
         · exact g
         · exact absurd (Or.inr g) hz
        have h1 : ¬ j = 0 := fun g => hz (Or.inl g)
        exact ⟨j - 1, by omega, by rw [← h2]; exact e⟩
      · exact ⟨j, by omega, e⟩
theorem Qdr (zs : List Int) (x : Int) : x ∈ Lib.compact zs ↔ x ∈ zs := by
 unfold Lib.compact
 rw [QbH _ _ (by simp)]
 constructor
 · rintro ⟨j, hj, e⟩
   rw [getElem!_pos _ j (by simpa using hj)] at e
   subst e
   simp
 · intro h
   obtain ⟨j, hj, e⟩ := List.mem_iff_getElem.1 h
   exact ⟨j, hj, by rw [getElem!_pos _ j (by simpa using hj)]; simpa using e⟩
theorem QcY (d : Array Int) (hd : ∀ i j, i ≤ j → j < d.size → d[i]! ≤ d[j]!) (m : Nat) (hm : m ≤ d.size) : (Lib.compactUpTo d m).Pairwise (· < ·) := by
 induction m with
 | zero => simp [Lib.compactUpTo]
 | succ m ih =>
  rw [Lib.compactUpTo_succ, List.pairwise_append]
  refine ⟨ih (by omega), by split <;> simp, ?_⟩
  intro x hx y hy
  obtain ⟨j, hj, e⟩ := (QbH d m (by omega) x).1 hx
  by_cases hk : Lib.keeps d m
  · simp only [hk, if_true, List.mem_singleton] at hy
    subst hy
    have hz : m = 0 ∨ d[m]! ≠ d[m - 1]! := by simpa [Lib.keeps] using hk
    rcases hz with h0 | hne
    · omega
    · have h1 := hd j (m - 1) (by omega) (by omega)
      have h2 := hd (m - 1) m (by omega) (by omega)
      omega
  · simp [hk] at hy
theorem QjQ (a b : List (Int × Int)) (c : Int) : c ∈ catsL a b ↔ c ∈ a.map (·.1) ∨ c ∈ b.map (·.1) := by
 unfold catsL
 rw [Qdr, List.mem_mergeSort, List.mem_append]
theorem QcR (a b : List (Int × Int)) : (catsL a b).length ≤ a.length + b.length := by
 unfold catsL Lib.compact Lib.compactUpTo
 have h1 := List.length_filter_le (Lib.keeps ((a.map (·.1) ++ b.map (·.1)).mergeSort fun x y => decide (x ≤ y)).toArray) (List.range ((a.map (·.1) ++ b.map (·.1)).mergeSort fun x y => decide (x ≤ y)).length)
 simp at h1 ⊢
 omega
def hasB (own : List Int) (c : Int) : Bool := own.contains c
def flowsL (a b : List (Int × Int)) (own : List Int) : Bool := (catsL a b).all fun c => decide (atL a c ≤ atL b c) || own.contains c
theorem Qik (a b : List (Int × Int)) (own : List Int) : flowsL a b own = true ↔ ∀ c, c ∈ own ∨ atL a c ≤ atL b c := by
 unfold flowsL
 simp only [List.all_eq_true, Bool.or_eq_true, decide_eq_true_eq, List.contains_iff_mem]
 constructor
 · intro h c
   by_cases hc : c ∈ catsL a b
   · rcases h c hc with h1 | h1
     · exact Or.inr h1
     · exact Or.inl h1
   · rw [QjQ, not_or] at hc
     rw [QdA hc.1, QdA hc.2]
     exact Or.inr (Int.le_refl _)
 · intro h c _
   rcases h c with h1 | h1
   · exact Or.inr h1
   · exact Or.inl h1
theorem QdG {a b : List (Int × Int)} {own : List Int} {c : Int} (h1 : atL b c < atL a c) (h2 : hasB own c = false) : flowsL a b own = false := by
 cases hf : flowsL a b own with
 | false => rfl
 | true =>
  rcases (Qik a b own).1 hf c with h | h
  · simp [hasB, h] at h2
  · omega
theorem QeC {a b : List (Int × Int)} {own : List Int} (h : ∀ j (hj : j < (catsL a b).length), atL a (catsL a b)[j] ≤ atL b (catsL a b)[j] ∨ hasB own (catsL a b)[j] = true) : flowsL a b own = true := by
 unfold flowsL
 simp only [List.all_eq_true, Bool.or_eq_true, decide_eq_true_eq]
 intro c hc
 obtain ⟨j, hj, e⟩ := List.mem_iff_getElem.1 hc
 subst e
 exact h j hj
def goodL (l : List (Int × Int)) : Prop := l.length ≤ 8 ∧ (∀ x ∈ l, 0 ≤ x.1 ∧ x.1 < 80 ∧ 0 ≤ x.2 ∧ x.2 ≤ 3 ∧ x.2 ≠ 1) ∧ l.Pairwise (fun x y => x.1 < y.1)
def catB (c : Int) : Bool := decide (0 ≤ c ∧ c < 80)
def bndB (n : Int) : Bool := decide (0 ≤ n ∧ n ≤ 3)
def levB (x : Int × Int) : Bool := catB x.1 && bndB x.2 && !(x.2 == 1)
def goodB (l : List (Int × Int)) : Bool := decide (l.length ≤ 8 ∧ (∀ x ∈ l, 0 ≤ x.1 ∧ x.1 < 80 ∧ 0 ≤ x.2 ∧ x.2 ≤ 3 ∧ x.2 ≠ 1) ∧ l.Pairwise (fun x y => x.1 < y.1))
theorem QaC (l : List (Int × Int)) : goodB l = true ↔ goodL l := by unfold goodB goodL; exact decide_eq_true_iff
theorem Qf8 (x : Int × Int) : levB x = true ↔ (0 ≤ x.1 ∧ x.1 < 80 ∧ 0 ≤ x.2 ∧ x.2 ≤ 3 ∧ x.2 ≠ 1) := by
 simp only [levB, catB, bndB, Bool.and_eq_true, decide_eq_true_eq, Bool.not_eq_true', beq_eq_false_iff_ne, ne_eq]
 constructor
 · rintro ⟨⟨⟨h1, h2⟩, h3, h4⟩, h5⟩; exact ⟨h1, h2, h3, h4, h5⟩
 · rintro ⟨h1, h2, h3, h4, h5⟩; exact ⟨⟨⟨h1, h2⟩, h3, h4⟩, h5⟩
theorem Qih {l : List (Int × Int)} (h : 8 < l.length) : goodB l = false := by
 cases e : goodB l with
 | false => rfl
 | true => have := ((QaC l).1 e).1; omega
theorem Qj3 {l : List (Int × Int)} (k : Nat) (hk : k < l.length) (h : levB l[k] = false) : goodB l = false := by
 cases e : goodB l with
 | false => rfl
 | true =>
  have := (Qf8 l[k]).2 (((QaC l).1 e).2.1 l[k] (List.getElem_mem hk))
  rw [h] at this
  cases this
theorem Qig {l : List (Int × Int)} (k : Nat) (hk : k + 1 < l.length) (h : l[k + 1].1 ≤ l[k].1) : goodB l = false := by
 cases e : goodB l with
 | false => rfl
 | true =>
  have := (List.pairwise_iff_getElem.1 ((QaC l).1 e).2.2) k (k + 1) (by omega) hk (by omega)
  omega
theorem QdF (l : List (Int × Int)) (h : ∀ j (hj : j + 1 < l.length), l[j].1 < l[j + 1].1) : l.Pairwise (fun x y => x.1 < y.1) := by
 rw [List.pairwise_iff_getElem]
 intro i j hi hj hij
 induction j with
 | zero => omega
 | succ j ih =>
  have hs := h j hj
  by_cases e : i = j
  · subst e; exact hs
  · have := ih (by omega) (by omega); omega
theorem Qj4 {l : List (Int × Int)} (h8 : l.length ≤ 8) (h1 : ∀ j (hj : j < l.length), levB l[j] = true) (h2 : ∀ j (hj : j + 1 < l.length), l[j].1 < l[j + 1].1) : goodB l = true := by
 refine (QaC l).2 ⟨h8, fun x hx => ?_, QdF l h2⟩
 obtain ⟨j, hj, e⟩ := List.mem_iff_getElem.1 hx
 subst e
 exact (Qf8 _).1 (h1 j hj)
def sameB (a b : List (Int × Int)) : Bool := decide (a = b)
theorem Qc5 (a b : List (Int × Int)) : sameB a b = true ↔ a = b := decide_eq_true_iff
theorem Qjv {a b : List (Int × Int)} (h : a.length ≠ b.length) : sameB a b = false := decide_eq_false fun e => h (by rw [e])
theorem QhM {a b : List (Int × Int)} (k : Nat) (hk : k < a.length) (hk' : k < b.length) (h : a[k] ≠ b[k]) : sameB a b = false := decide_eq_false fun e => h (by subst e; rfl)
theorem Qjw {a b : List (Int × Int)} (hl : a.length = b.length) (h : ∀ j (hj : j < a.length) (hj' : j < b.length), a[j] = b[j]) : sameB a b = true := decide_eq_true (List.ext_getElem hl h)
structure Crt where
 c : Int
 b : Int
 h : Int
 u : Int
structure Mal where
 host : Int
 thread : Int
 label : List (Int × Int)
 grants : List Int
 text : List UInt8
structure Frm where
 fr : Int
 to : Int
 seq : Int
 ack : Bool
 thread : Int
 mail : Mal
 certs : List Crt
def zeroMal : Mal := ⟨0, 0, [], [], []⟩
def zeroFrm : Frm := ⟨0, 0, 0, false, 0, zeroMal, []⟩
def hostB (h : Int) : Bool := decide (0 ≤ h ∧ h < 4)
def timeB (n : Int) : Bool := decide (0 ≤ n ∧ n ≤ 1099511627776)
def twoB (a b : Int) : Bool := hostB a && hostB b && !(a == b)
def certB (x : Crt) : Bool := catB x.c && twoB x.b x.h && timeB x.u
def grantsB (l : List Int) : Bool := decide (l.length ≤ 8 ∧ (∀ x ∈ l, 0 ≤ x ∧ x < 80) ∧ l.Pairwise (· < ·))
def mailE (m : Mal) : Int := if hostB m.host && hostB m.thread && goodB m.label && grantsB m.grants then (if m.text.length ≤ 64 then 0 else 9) else 2
def emptyB (m : Mal) : Bool := m.host == 0 && m.thread == 0 && m.label.isEmpty && m.grants.isEmpty && m.text.isEmpty
def answerE (f : Frm) : Int := if f.thread == 0 && emptyB f.mail && f.certs.isEmpty then 0 else 1
def certsE (l : List Crt) : Int := if l.length ≤ 24 then (if l.all certB then 0 else 2) else 5
def loadE (f : Frm) : Int := if mailE f.mail = 0 then (if f.mail.host = f.fr then certsE f.certs else 1) else mailE f.mail
def headB (f : Frm) : Bool := twoB f.fr f.to && !(f.seq == 0) && timeB f.seq && hostB f.thread
def frameE (f : Frm) : Int := if headB f then (if f.ack then answerE f else loadE f) else 2
def byteL (n : Int) : UInt8 := UInt8.ofNat (n % 256).toNat
def timeL (n : Int) : List UInt8 := [byteL (n / 1099511627776), byteL (n / 4294967296), byteL (n / 16777216), byteL (n / 65536), byteL (n / 256), byteL n]
def headL (k : Int) (f : Frm) : List UInt8 := [byteL k, byteL f.fr, byteL f.to] ++ timeL f.seq
def levelsL (l : List (Int × Int)) : List UInt8 := l.flatMap fun x => [byteL x.1, byteL x.2]
def mailL (m : Mal) : List UInt8 := [byteL m.thread, byteL m.label.length] ++ levelsL m.label ++ [byteL m.grants.length] ++ m.grants.map byteL ++ [byteL m.text.length] ++ m.text
def certL (x : Crt) : List UInt8 := [byteL x.c, byteL x.b, byteL x.h] ++ timeL x.u
def certsL (l : List Crt) : List UInt8 := [byteL l.length] ++ l.flatMap certL
def encL (f : Frm) : List UInt8 := if f.ack then headL 1 f else headL 0 f ++ [byteL f.thread] ++ mailL f.mail ++ certsL f.certs
abbrev Tk := List UInt8 × Bool
def textT (n : Nat) (t : Tk) : List UInt8 × Tk := if t.1.length < n then ([], ([], true)) else (t.1.take n, (t.1.drop n, t.2))
def numL (l : List UInt8) : Int := l.foldl (fun n b => n * 256 + (b.toNat : Int)) 0
def numT (n : Nat) (t : Tk) : Int × Tk := (numL (textT n t).1, (textT n t).2)
def iterN {α : Type} (f : α → α) : Nat → α → α
 | 0, s => s
 | n + 1, s => f (iterN f n s)
def levStep (s : List (Int × Int) × Tk) : List (Int × Int) × Tk := (s.1 ++ [((numT 1 s.2).1, (numT 1 (numT 1 s.2).2).1)], (numT 1 (numT 1 s.2).2).2)
def grStep (s : List Int × Tk) : List Int × Tk := (s.1 ++ [(numT 1 s.2).1], (numT 1 s.2).2)
def crtT (t : Tk) : Crt × Tk :=
 (⟨(numT 1 t).1, (numT 1 (numT 1 t).2).1, (numT 1 (numT 1 (numT 1 t).2).2).1, (numT 6 (numT 1 (numT 1 (numT 1 t).2).2).2).1⟩, (numT 6 (numT 1 (numT 1 (numT 1 t).2).2).2).2)
def crStep (s : List Crt × Tk) : List Crt × Tk := (s.1 ++ [(crtT s.2).1], (crtT s.2).2)
def labT (t : Tk) : List (Int × Int) × Tk := iterN levStep (numT 1 t).1.toNat ([], (numT 1 t).2)
def grT (t : Tk) : List Int × Tk := iterN grStep (numT 1 t).1.toNat ([], (numT 1 t).2)
def txT (t : Tk) : List UInt8 × Tk := textT (numT 1 t).1.toNat (numT 1 t).2
def certsT (t : Tk) : List Crt × Tk := iterN crStep (numT 1 t).1.toNat ([], (numT 1 t).2)
def mailT (fr : Int) (t : Tk) : Mal × Tk :=
 (⟨fr, (numT 1 t).1, (labT (numT 1 t).2).1, (grT (labT (numT 1 t).2).2).1, (txT (grT (labT (numT 1 t).2).2).2).1⟩, (txT (grT (labT (numT 1 t).2).2).2).2)
def headT (t : Tk) : (Int × Int × Int × Int) × Tk :=
 (((numT 1 t).1, (numT 1 (numT 1 t).2).1, (numT 1 (numT 1 (numT 1 t).2).2).1, (numT 6 (numT 1 (numT 1 (numT 1 t).2).2).2).1), (numT 6 (numT 1 (numT 1 (numT 1 t).2).2).2).2)
def loadT (fr to seq : Int) (t : Tk) : Frm × Tk :=
 (⟨fr, to, seq, false, (numT 1 t).1, (mailT fr (numT 1 t).2).1, (certsT (mailT fr (numT 1 t).2).2).1⟩, (certsT (mailT fr (numT 1 t).2).2).2)
def frameT (t : Tk) : Frm × Tk :=
 if (headT t).1.1 = 1 then (⟨(headT t).1.2.1, (headT t).1.2.2.1, (headT t).1.2.2.2, true, 0, zeroMal, []⟩, (headT t).2)
 else if (headT t).1.1 = 0 then loadT (headT t).1.2.1 (headT t).1.2.2.1 (headT t).1.2.2.2 (headT t).2
 else (⟨(headT t).1.2.1, (headT t).1.2.2.1, (headT t).1.2.2.2, false, 0, zeroMal, []⟩, ([], true))
def doneB (t : Tk) : Bool := !t.2 && t.1.isEmpty
def decL (s : List UInt8) : Frm × Int :=
 if doneB (frameT (s, false)).2 then (if frameE (frameT (s, false)).1 = 0 then ((frameT (s, false)).1, 0) else (zeroFrm, frameE (frameT (s, false)).1)) else (zeroFrm, 1)
theorem Qar (b : UInt8) : (b.toNat : Int) < 256 := by have := b.toNat_lt; omega
theorem Qdz (b : UInt8) : byteL (b.toNat : Int) = b := by
 unfold byteL
 have := b.toNat_lt
 rw [show ((b.toNat : Int) % 256).toNat = b.toNat by omega]
 simp
theorem QbM (n : Int) : ((byteL n).toNat : Int) = n % 256 := by
 unfold byteL
 rw [UInt8.toNat_ofNat']
 have : (n % 256).toNat < 2 ^ 8 := by omega
 rw [Nat.mod_eq_of_lt this]
 omega
theorem QdM {n : Nat} {t : Tk} {x r : List UInt8} (h : textT n t = (x, (r, false))) : t = (x ++ r, false) ∧ x.length = n := by
 unfold textT at h
 split at h
 · cases h
 · rename_i hn
   obtain ⟨s, f⟩ := t
   simp only [Prod.mk.injEq] at h
   obtain ⟨rfl, rfl, rfl⟩ := h
   simp at hn
   exact ⟨by simp, by simp; omega⟩
theorem QeY (x r : List UInt8) : textT x.length (x ++ r, false) = (x, (r, false)) := by
 unfold textT
 rw [if_neg (by simp)]
 simp
theorem Qd1 {n : Nat} (x r : List UInt8) (h : x.length = n) : textT n (x ++ r, false) = (x, (r, false)) := by
 subst h
 exact QeY x r
theorem list1 {x : List UInt8} (h : x.length = 1) : ∃ b, x = [b] := by
 match x, h with
 | [b], _ => exact ⟨b, rfl⟩
theorem Qlk {t : Tk} {n : Int} {r : List UInt8} (h : numT 1 t = (n, (r, false))) : t = (byteL n :: r, false) ∧ 0 ≤ n ∧ n < 256 := by
 unfold numT at h
 simp only [Prod.mk.injEq] at h
 obtain ⟨h1, h2⟩ := h
 obtain ⟨e, hx⟩ := QdM (n := 1) (t := t) (x := (textT 1 t).1) (r := r) (by rw [← h2])
 obtain ⟨b, hb⟩ := list1 hx
 rw [hb] at h1 e
 have hn : n = (b.toNat : Int) := by rw [← h1]; simp [numL]
 subst hn
 rw [Qdz]
 have := Qar b
 exact ⟨by simpa using e, by omega, by omega⟩
theorem Q5 (n : Int) (r : List UInt8) (h0 : 0 ≤ n) (h1 : n < 256) : numT 1 (byteL n :: r, false) = (n, (r, false)) := by
 unfold numT
 rw [show (byteL n :: r) = [byteL n] ++ r from rfl, Qd1 (n := 1) [byteL n] r rfl]
 simp [numL, QbM]
 omega
theorem list6 {x : List UInt8} (h : x.length = 6) : ∃ a b c d e f, x = [a, b, c, d, e, f] := by
 match x, h with
 | [a, b, c, d, e, f], _ => exact ⟨a, b, c, d, e, f, rfl⟩
theorem numL6 (a b c d e f : UInt8) : numL [a, b, c, d, e, f] = (((((a.toNat : Int) * 256 + b.toNat) * 256 + c.toNat) * 256 + d.toNat) * 256 + e.toNat) * 256 + f.toNat := by
 simp [numL]
theorem Qbm {n : Int} {b : UInt8} (h : n % 256 = (b.toNat : Int)) : byteL n = b := by
 rw [← Qdz b]
 unfold byteL
 rw [h]
 have := Qar b
 rw [show ((b.toNat : Int) % 256) = b.toNat by omega]
theorem Qji (a b c d e f : UInt8) : timeL (numL [a, b, c, d, e, f]) = [a, b, c, d, e, f] := by
 rw [numL6]
 have h1 := Qar a
 have h2 := Qar b
 have h3 := Qar c
 have h4 := Qar d
 have h5 := Qar e
 have h6 := Qar f
 unfold timeL
 rw [Qbm (b := a) (by omega), Qbm (b := b) (by omega), Qbm (b := c) (by omega), Qbm (b := d) (by omega), Qbm (b := e) (by omega), Qbm (b := f) (by omega)]
theorem QjJ (n : Int) (h0 : 0 ≤ n) (h1 : n < 281474976710656) : numL (timeL n) = n := by
 unfold timeL
 rw [numL6]
 simp only [QbM]
 omega
theorem Qlj {t : Tk} {n : Int} {r : List UInt8} (h : numT 6 t = (n, (r, false))) : t = (timeL n ++ r, false) := by
 unfold numT at h
 simp only [Prod.mk.injEq] at h
 obtain ⟨h1, h2⟩ := h
 obtain ⟨e, hx⟩ := QdM (n := 6) (t := t) (x := (textT 6 t).1) (r := r) (by rw [← h2])
 obtain ⟨a, b, c, d, e', f, hb⟩ := list6 hx
 rw [hb] at h1 e
 rw [← h1, Qji]
 exact e
theorem Qe9 (n : Int) (r : List UInt8) (h0 : 0 ≤ n) (h1 : n < 281474976710656) : numT 6 (timeL n ++ r, false) = (n, (r, false)) := by
 unfold numT
 rw [Qd1 (n := 6) (timeL n) r rfl]
 simp only [QjJ n h0 h1]
theorem num1 {t : Tk} (h : (numT 1 t).2.2 = false) : t = (byteL (numT 1 t).1 :: (numT 1 t).2.1, false) ∧ 0 ≤ (numT 1 t).1 ∧ (numT 1 t).1 < 256 := Qlk (by rw [← h])
theorem num6 {t : Tk} (h : (numT 6 t).2.2 = false) : t = (timeL (numT 6 t).1 ++ (numT 6 t).2.1, false) := Qlj (by rw [← h])
theorem text1 {n : Nat} {t : Tk} (h : (textT n t).2.2 = false) : t = ((textT n t).1 ++ (textT n t).2.1, false) ∧ (textT n t).1.length = n := QdM (by rw [← h])
theorem QK {t : Tk} {x : List UInt8} (h : t = (x, false)) : t.2 = false := by rw [h]
theorem levs {n : Nat} {t : Tk} (h : (iterN levStep n ([], t)).2.2 = false) : t = (levelsL (iterN levStep n ([], t)).1 ++ (iterN levStep n ([], t)).2.1, false) ∧ (iterN levStep n ([], t)).1.length = n := by
 induction n with
 | zero => exact ⟨by simp only [iterN] at h ⊢; rw [← h]; rfl, rfl⟩
 | succ n ih =>
  simp only [iterN] at h ⊢
  generalize iterN levStep n ([], t) = s at h ih ⊢
  obtain ⟨l, t1⟩ := s
  simp only [levStep] at h ⊢
  obtain ⟨e2, _, _⟩ := num1 h
  obtain ⟨e1, _, _⟩ := num1 (QK e2)
  obtain ⟨e0, hl⟩ := ih (QK e1)
  simp only at e0 e1 e2 hl
  refine ⟨?_, by simp [hl]⟩
  rw [e0]
  have f1 := congrArg Prod.fst e1
  have f2 := congrArg Prod.fst e2
  simp only at f1 f2
  rw [f1, f2]
  simp [levelsL]
theorem grs {n : Nat} {t : Tk} (h : (iterN grStep n ([], t)).2.2 = false) : t = ((iterN grStep n ([], t)).1.map byteL ++ (iterN grStep n ([], t)).2.1, false) ∧ (iterN grStep n ([], t)).1.length = n := by
 induction n with
 | zero => exact ⟨by simp only [iterN] at h ⊢; rw [← h]; rfl, rfl⟩
 | succ n ih =>
  simp only [iterN] at h ⊢
  generalize iterN grStep n ([], t) = s at h ih ⊢
  obtain ⟨l, t1⟩ := s
  simp only [grStep] at h ⊢
  obtain ⟨e1, _, _⟩ := num1 h
  obtain ⟨e0, hl⟩ := ih (QK e1)
  simp only at e0 e1 hl
  refine ⟨?_, by simp [hl]⟩
  rw [e0]
  have f1 := congrArg Prod.fst e1
  simp only at f1
  rw [f1]
  simp
theorem crt1 {t : Tk} (h : (crtT t).2.2 = false) : t = (certL (crtT t).1 ++ (crtT t).2.1, false) := by
 simp only [crtT] at h ⊢
 have e4 := num6 h
 obtain ⟨e3, _, _⟩ := num1 (QK e4)
 obtain ⟨e2, _, _⟩ := num1 (QK e3)
 obtain ⟨e1, _, _⟩ := num1 (QK e2)
 have f4 := congrArg Prod.fst e4
 have f3 := congrArg Prod.fst e3
 have f2 := congrArg Prod.fst e2
 have f1 := congrArg Prod.fst e1
 simp only at f1 f2 f3 f4
 rw [Prod.ext_iff]
 refine ⟨?_, QK e1⟩
 simp only [certL]
 rw [f1, f2, f3]
 simp only [List.cons_append, List.nil_append, ← f4]
theorem crs {n : Nat} {t : Tk} (h : (iterN crStep n ([], t)).2.2 = false) : t = ((iterN crStep n ([], t)).1.flatMap certL ++ (iterN crStep n ([], t)).2.1, false) ∧ (iterN crStep n ([], t)).1.length = n := by
 induction n with
 | zero => exact ⟨by simp only [iterN] at h ⊢; rw [← h]; rfl, rfl⟩
 | succ n ih =>
  simp only [iterN] at h ⊢
  generalize iterN crStep n ([], t) = s at h ih ⊢
  obtain ⟨l, t1⟩ := s
  simp only [crStep] at h ⊢
  have e1 := crt1 h
  obtain ⟨e0, hl⟩ := ih (QK e1)
  simp only at e0 e1 hl
  refine ⟨?_, by simp [hl]⟩
  rw [e0]
  have f1 := congrArg Prod.fst e1
  simp only at f1
  rw [f1]
  simp
theorem counted {t : Tk} (h : (numT 1 t).2.2 = false) (n : Nat) (hn : n = (numT 1 t).1.toNat) : t = (byteL n :: (numT 1 t).2.1, false) := by
 obtain ⟨e, h0, h1⟩ := num1 h
 subst hn
 rw [show (((numT 1 t).1.toNat : Nat) : Int) = (numT 1 t).1 by omega]
 exact e
theorem lab1 {t : Tk} (h : (labT t).2.2 = false) : t = (byteL (labT t).1.length :: levelsL (labT t).1 ++ (labT t).2.1, false) := by
 unfold labT at h ⊢
 obtain ⟨e, hl⟩ := levs h
 have e1 := counted (QK e) _ hl
 have f := congrArg Prod.fst e
 simp only at f
 rw [List.cons_append, ← f]
 exact e1
theorem gr1 {t : Tk} (h : (grT t).2.2 = false) : t = (byteL (grT t).1.length :: (grT t).1.map byteL ++ (grT t).2.1, false) := by
 unfold grT at h ⊢
 obtain ⟨e, hl⟩ := grs h
 have e1 := counted (QK e) _ hl
 have f := congrArg Prod.fst e
 simp only at f
 rw [List.cons_append, ← f]
 exact e1
theorem tx1 {t : Tk} (h : (txT t).2.2 = false) : t = (byteL (txT t).1.length :: (txT t).1 ++ (txT t).2.1, false) := by
 unfold txT at h ⊢
 obtain ⟨e, hl⟩ := text1 h
 have e1 := counted (QK e) _ hl
 have f := congrArg Prod.fst e
 simp only at f
 rw [List.cons_append, ← f]
 exact e1
theorem certs1 {t : Tk} (h : (certsT t).2.2 = false) : t = (certsL (certsT t).1 ++ (certsT t).2.1, false) := by
 unfold certsT at h ⊢
 obtain ⟨e, hl⟩ := crs h
 have e1 := counted (QK e) _ hl
 have f := congrArg Prod.fst e
 simp only at f
 simp only [certsL, List.cons_append, List.nil_append]
 rw [← f]
 exact e1
theorem Qh2 {t t1 t2 t3 t4 : Tk} {n : Int} {l : List (Int × Int)} {g : List Int} {x : List UInt8} (fr : Int) (e1 : t = (byteL n :: t1.1, false)) (e2 : t1 = (byteL l.length :: levelsL l ++ t2.1, false))
 (e3 : t2 = (byteL g.length :: g.map byteL ++ t3.1, false)) (e4 : t3 = (byteL x.length :: x ++ t4.1, false)) : t = (mailL ⟨fr, n, l, g, x⟩ ++ t4.1, false) := by
 subst e4
 subst e3
 subst e2
 subst e1
 simp [mailL]
theorem mail1 {fr : Int} {t : Tk} (h : (mailT fr t).2.2 = false) : t = (mailL (mailT fr t).1 ++ (mailT fr t).2.1, false) := by
 simp only [mailT] at h ⊢
 generalize hA : numT 1 t = A at h ⊢
 generalize hB : labT A.2 = B at h ⊢
 generalize hC : grT B.2 = C at h ⊢
 generalize hD : txT C.2 = D at h ⊢
 have e4 := tx1 (t := C.2) (by rw [hD]; exact h)
 rw [hD] at e4
 have e3 := gr1 (t := B.2) (by rw [hC]; exact QK e4)
 rw [hC] at e3
 have e2 := lab1 (t := A.2) (by rw [hB]; exact QK e3)
 rw [hB] at e2
 obtain ⟨e1, _, _⟩ := num1 (t := t) (by rw [hA]; exact QK e2)
 rw [hA] at e1
 exact Qh2 fr e1 e2 e3 e4
theorem head1 {t : Tk} (h : (headT t).2.2 = false) : t = ([byteL (headT t).1.1, byteL (headT t).1.2.1, byteL (headT t).1.2.2.1] ++ timeL (headT t).1.2.2.2 ++ (headT t).2.1, false) ∧ 0 ≤ (headT t).1.1 := by
 simp only [headT] at h ⊢
 have e4 := num6 h
 obtain ⟨e3, _, _⟩ := num1 (QK e4)
 obtain ⟨e2, _, _⟩ := num1 (QK e3)
 obtain ⟨e1, h0, _⟩ := num1 (QK e2)
 have f4 := congrArg Prod.fst e4
 have f3 := congrArg Prod.fst e3
 have f2 := congrArg Prod.fst e2
 have f1 := congrArg Prod.fst e1
 simp only at f1 f2 f3 f4
 refine ⟨?_, h0⟩
 rw [Prod.ext_iff]
 refine ⟨?_, QK e1⟩
 simp only
 rw [f1, f2, f3]
 simp only [List.cons_append, List.nil_append, ← f4]
theorem Qh5 {t t1 t2 t3 t4 : Tk} {fr to seq n : Int} {m : Mal} {cs : List Crt} (e1 : t = ([byteL 0, byteL fr, byteL to] ++ timeL seq ++ t1.1, false)) (e2 : t1 = (byteL n :: t2.1, false))
 (e3 : t2 = (mailL m ++ t3.1, false)) (e4 : t3 = (certsL cs ++ t4.1, false)) : t = (encL ⟨fr, to, seq, false, n, m, cs⟩ ++ t4.1, false) := by
 subst e4
 subst e3
 subst e2
 subst e1
 simp [encL, headL]
theorem frame1 {t : Tk} (h : (frameT t).2.2 = false) : t = (encL (frameT t).1 ++ (frameT t).2.1, false) := by
 unfold frameT at h ⊢
 by_cases h1 : (headT t).1.1 = 1
 · rw [if_pos h1] at h ⊢
   obtain ⟨e, _⟩ := head1 h
   rw [h1] at e
   simp only [encL, headL, if_true]
   exact e
 · rw [if_neg h1] at h ⊢
   by_cases h0 : (headT t).1.1 = 0
   · rw [if_pos h0] at h ⊢
     simp only [loadT] at h ⊢
     have e4 := certs1 h
     have e3 := mail1 (QK e4)
     obtain ⟨e2, _, _⟩ := num1 (QK e3)
     obtain ⟨e1, _⟩ := head1 (QK e2)
     rw [h0] at e1
     exact Qh5 e1 e2 e3 e4
   · rw [if_neg h0] at h
     simp at h
structure Snt where
 f : Frm
 tries : Int
 due : Int
structure Lne where
 next : Int
 sent : List Snt
 high : Int
 seen : List Bool
def zeroLne : Lne := ⟨0, [], 0, [false, false, false, false, false, false, false, false]⟩
def triesB (s : Snt) : Bool := decide (1 ≤ s.tries ∧ s.tries ≤ 5 ∧ 0 ≤ s.due ∧ s.due ≤ 2199023255552)
def sentB (next : Int) (s : Snt) : Bool := decide (s.f.seq ≤ next) && triesB s
def rises (next : Int) : Int → List Snt → Bool
 | _, [] => true
 | n, s :: r => decide (n < s.f.seq) && sentB next s && rises next s.f.seq r
def headLn (l : Lne) : Bool := decide (0 ≤ l.next ∧ l.next < 1099511627776 ∧ 0 ≤ l.high ∧ l.high ≤ 1099511627776 ∧ l.sent.length ≤ 8)
def goodLn (l : Lne) : Bool := headLn l && rises l.next 0 l.sent
def shiftL (n : Nat) (s : List Bool) : List Bool := (List.replicate (min n 8) false ++ s).take 8
def takeLn (l : Lne) (q : Int) : Lne × Int :=
 if goodLn l && decide (1 ≤ q ∧ q ≤ 1099511627776) then
  if q ≤ l.high - 8 then (l, 11)
  else if l.high < q then ({ l with high := q, seen := (shiftL (q - l.high).toNat l.seen).set 0 true }, 0)
  else if l.seen[(l.high - q).toNat]? = some true then (l, 10)
  else ({ l with seen := l.seen.set (l.high - q).toNat true }, 0)
 else (l, 2)
def sendLn (l : Lne) (f : Frm) (now : Int) : Lne × Frm × Int :=
 if goodLn l && timeB now then
  if l.sent.length = 8 ∨ l.next = 1099511627775 then (l, zeroFrm, 5)
  else ({ l with next := l.next + 1, sent := l.sent ++ [⟨{ f with seq := l.next + 1 }, 1, now + 2⟩] }, { f with seq := l.next + 1 }, 0)
 else (l, zeroFrm, 2)
def ansLn (l : Lne) (q : Int) : Lne × Int :=
 if goodLn l then
  if l.sent.all (fun s => !(s.f.seq == q)) then (l, 4)
  else ({ l with sent := l.sent.filter (fun s => !(s.f.seq == q)) }, 0)
 else (l, 2)
def againS (now : Int) (s : Snt) : List Snt := if now < s.due then [s] else if s.tries = 5 then [] else [{ s with tries := s.tries + 1, due := now + 2 ^ (s.tries + 1).toNat }]
def againF (now : Int) (s : Snt) : List Frm := if now < s.due then [] else if s.tries = 5 then [] else [s.f]
def againLn (l : Lne) (now : Int) : Lne × List Frm × Int :=
 if goodLn l && timeB now then ({ l with sent := l.sent.flatMap (againS now) }, l.sent.flatMap (againF now), 0) else (l, [], 2)
theorem QhO (next n : Int) (l : List Snt) (k : Nat) (hk : k < l.length) : rises next n (l.drop k) = (decide (n < (l[k]).f.seq) && sentB next l[k] && rises next (l[k]).f.seq (l.drop (k + 1))) := by
 rw [List.drop_eq_getElem_cons hk]
 rfl
theorem QQ (l : Lne) : headLn l = true ↔ 0 ≤ l.next ∧ l.next < 1099511627776 ∧ 0 ≤ l.high ∧ l.high ≤ 1099511627776 ∧ l.sent.length ≤ 8 := by simp [headLn]
theorem Qaa {l : Lne} (h : goodLn l = true) : headLn l = true := by
 unfold goodLn at h
 simp only [Bool.and_eq_true] at h
 exact h.1
theorem Qap {l : Lne} (h : goodLn l = true) : rises l.next 0 l.sent = true := by
 unfold goodLn at h
 simp only [Bool.and_eq_true] at h
 exact h.2
theorem QaB {next : Int} : ∀ {l : List Snt} {n : Int}, rises next n l = true → ∀ s ∈ l, n < s.f.seq ∧ s.f.seq ≤ next ∧ triesB s = true
 | [], _, _, s, h => by cases h
 | x :: r, n, h, s, hs => by
  simp only [rises, sentB, Bool.and_eq_true, decide_eq_true_eq] at h
  rcases List.mem_cons.1 hs with rfl | hm
  · exact ⟨h.1.1, h.1.2.1, h.1.2.2⟩
  · have := QaB h.2 s hm
    exact ⟨by omega, this.2⟩
theorem Qjy {next : Int} : ∀ {l : List Snt} {n m : Int}, rises next n l = true → m ≤ n → rises next m l = true
 | [], _, _, _, _ => rfl
 | x :: r, n, m, h, hm => by
  simp only [rises, Bool.and_eq_true, decide_eq_true_eq] at h ⊢
  exact ⟨⟨by omega, h.1.2⟩, h.2⟩
theorem Qlb {next next' : Int} {s : Snt} (h : sentB next s = true) (hn : next ≤ next') : sentB next' s = true := by
 simp only [sentB, Bool.and_eq_true, decide_eq_true_eq] at h ⊢
 exact ⟨by omega, h.2⟩
theorem Qf4 {next next' : Int} (hn : next ≤ next') : ∀ {l : List Snt} {n : Int}, rises next n l = true → rises next' n l = true
 | [], _, _ => rfl
 | x :: r, n, h => by
  simp only [rises, Bool.and_eq_true] at h ⊢
  exact ⟨⟨h.1.1, Qlb h.1.2 hn⟩, Qf4 hn h.2⟩
theorem Qd6 {next : Int} {x : Snt} (hx : sentB next x = true) : ∀ {l : List Snt} {n : Int}, rises next n l = true → n < x.f.seq → (∀ s ∈ l, s.f.seq < x.f.seq) → rises next n (l ++ [x]) = true
 | [], n, _, h, _ => by simp [rises, hx, h]
 | y :: r, n, h, hn, hl => by
  simp only [rises, Bool.and_eq_true] at h
  simp only [List.cons_append, rises, Bool.and_eq_true]
  exact ⟨h.1, Qd6 hx h.2 (hl y (by simp)) (fun s hs => hl s (by simp [hs]))⟩
theorem Qd7 {next : Int} : ∀ {l : List Snt} {n : Int} (_ : rises next n l = true) (i : Nat) (hi : i < l.length), l.filter (fun s => !(s.f.seq == (l[i]).f.seq)) = l.take i ++ l.drop (i + 1)
 | x :: r, n, h, 0, _ => by
  simp only [rises, Bool.and_eq_true] at h
  have hm := QaB h.2
  rw [List.filter_cons]
  simp only [List.getElem_cons_zero, beq_self_eq_true, Bool.not_true, Bool.false_eq_true, if_false, List.take_zero, List.nil_append, List.drop_succ_cons, List.drop_zero]
  rw [List.filter_eq_self]
  intro s hs
  have := (hm s hs).1
  simp
  omega
 | x :: r, n, h, i + 1, hi => by
  simp only [rises, Bool.and_eq_true] at h
  have hm := QaB h.2
  have hir : i < r.length := by simpa using hi
  have hne := (hm r[i] (List.getElem_mem hir)).1
  rw [List.filter_cons]
  simp only [List.getElem_cons_succ]
  rw [if_pos (by simp; omega), Qd7 h.2 i hir]
  simp
theorem Qdm {next now : Int} (h0 : 0 ≤ now) (h1 : now ≤ 1099511627776) : ∀ {l : List Snt} {n : Int}, rises next n l = true → rises next n (l.flatMap (againS now)) = true
 | [], _, _ => rfl
 | x :: r, n, h => by
  simp only [rises, Bool.and_eq_true, decide_eq_true_eq] at h
  have ih := Qdm (now := now) h0 h1 h.2
  obtain ⟨⟨h2, h3⟩, h4⟩ := h
  rw [List.flatMap_cons]
  by_cases hd : now < x.due
  · rw [show againS now x = [x] by unfold againS; rw [if_pos hd]]
    simp only [List.singleton_append, rises, Bool.and_eq_true, decide_eq_true_eq]
    exact ⟨⟨h2, h3⟩, ih⟩
  · by_cases ht : x.tries = 5
    · rw [show againS now x = [] by unfold againS; rw [if_neg hd, if_pos ht]]
      exact Qjy ih (by omega)
    · rw [show againS now x = [{ x with tries := x.tries + 1, due := now + 2 ^ (x.tries + 1).toNat }] by unfold againS; rw [if_neg hd, if_neg ht]]
      simp only [sentB, triesB, Bool.and_eq_true, decide_eq_true_eq] at h3
      have hp : (2 : Int) ^ (x.tries + 1).toNat ≤ 32 ∧ (0 : Int) ≤ 2 ^ (x.tries + 1).toNat := by
       have h : x.tries = 1 ∨ x.tries = 2 ∨ x.tries = 3 ∨ x.tries = 4 := by omega
       rcases h with e | e | e | e <;> rw [e] <;> decide
      simp only [List.singleton_append, rises, sentB, triesB, Bool.and_eq_true, decide_eq_true_eq]
      exact ⟨⟨h2, h3.1, by omega, by omega, by omega, by omega⟩, ih⟩
theorem QbF (now : Int) : ∀ l : List Snt, (l.flatMap (againS now)).length ≤ l.length
 | [] => Nat.le_refl _
 | x :: r => by
  have ih := QbF now r
  have hx : (againS now x).length ≤ 1 := by
   unfold againS
   split
   · simp
   · split <;> simp
  simp only [List.flatMap_cons, List.length_append, List.length_cons]
  omega
theorem Qb4 (l : Lne) (q : Int) (h : goodLn l = true) : goodLn (takeLn l q).1 = true := by
 have hh := Qaa h
 have hr := Qap h
 rw [QQ] at hh
 unfold takeLn
 split
 · rename_i hg
   simp only [Bool.and_eq_true, decide_eq_true_eq] at hg
   split
   · exact h
   · split
     · unfold goodLn
       rw [Bool.and_eq_true, QQ]
       exact ⟨⟨hh.1, hh.2.1, by show 0 ≤ q; omega, by show q ≤ _; omega, hh.2.2.2.2⟩, hr⟩
     · split
       · exact h
       · exact h
 · exact h
theorem Qk4 (l : Lne) (q : Int) (h : goodLn l = false) : takeLn l q = (l, 2) := by
 unfold takeLn
 rw [h]
 rfl
theorem Qcg {s : List Bool} (hs : s.length = 8) (n : Nat) : (shiftL n s).length = 8 := by
 simp only [shiftL, List.length_take, List.length_append, List.length_replicate, hs]
 omega
theorem take_length (l : Lne) (q : Int) (h : l.seen.length = 8) : (takeLn l q).1.seen.length = 8 := by
 unfold takeLn
 split
 · split
   · exact h
   · split
     · simp [Qcg h]
     · split
       · exact h
       · simpa using h
 · exact h
theorem Qco {s : List Bool} (n k : Nat) (hk : k < 8) : (shiftL n s)[k]? = if k < n then some false else s[k - n]? := by
 unfold shiftL
 rw [List.getElem?_take, if_pos hk]
 by_cases h : k < n
 · rw [if_pos h, List.getElem?_append_left (by simp; omega), List.getElem?_replicate, if_pos (by omega)]
 · rw [if_neg h, List.getElem?_append_right (by simp; omega), List.length_replicate, show min n 8 = n by omega]
def Came (l : Lne) (s : Int) : Prop := s ≤ l.high ∧ (s ≤ l.high - 8 ∨ l.seen[(l.high - s).toNat]? = some true)
theorem Qb1 {l : Lne} {q : Int} (h8 : l.seen.length = 8) (h : (takeLn l q).2 = 0) : ¬ Came l q ∧ q ≤ (takeLn l q).1.high ∧ Came (takeLn l q).1 q := by
 unfold takeLn at h ⊢
 split at h
 · rename_i hg
   rw [if_pos hg]
   split at h
   · cases h
   · rename_i ho
     rw [if_neg ho]
     split at h
     · rename_i hh
       rw [if_pos hh]
       refine ⟨fun hc => ?_, Int.le_refl _, Int.le_refl _, Or.inr ?_⟩
       · unfold Came at hc; omega
       · simp [Qcg h8]
     · rename_i hh
       rw [if_neg hh]
       split at h
       · cases h
       · rename_i hs
         rw [if_neg hs]
         refine ⟨fun hc => ?_, by show q ≤ l.high; omega, by show q ≤ l.high; omega, Or.inr ?_⟩
         · rcases hc.2 with h1 | h1
           · exact ho h1
           · exact hs h1
         · show (l.seen.set (l.high - q).toNat true)[(l.high - q).toNat]? = some true
           rw [List.getElem?_set_self (by omega)]
 · cases h
theorem Qc2 {l : Lne} {q s : Int} (h8 : l.seen.length = 8) (h : Came l s) : Came (takeLn l q).1 s := by
 unfold takeLn
 split
 · rename_i hg
   split
   · exact h
   · rename_i ho
     split
     · rename_i hh
       refine ⟨by show s ≤ q; have := h.1; omega, ?_⟩
       show s ≤ q - 8 ∨ ((shiftL (q - l.high).toNat l.seen).set 0 true)[(q - s).toNat]? = some true
       by_cases hs : s ≤ q - 8
       · exact Or.inl hs
       · right
         rcases h with ⟨h1, h2⟩
         rw [List.getElem?_set_ne (by omega), Qco _ _ (by omega), if_neg (by omega)]
         rcases h2 with h2 | h2
         · omega
         · rw [← h2]
           congr 1
           omega
     · split
       · exact h
       · rename_i hs
         refine ⟨h.1, ?_⟩
         rcases h.2 with h2 | h2
         · exact Or.inl h2
         · right
           show (l.seen.set (l.high - q).toNat true)[(l.high - s).toNat]? = some true
           rw [List.getElem?_set]
           split
           · rw [if_pos (by omega)]
           · exact h2
 · exact h
theorem QbQ {α : Type} (f : α → α) (n : Nat) (s : α) : iterN f (n + 1) s = iterN f n (f s) := by
 induction n with
 | zero => rfl
 | succ n ih =>
  show f (iterN f (n + 1) s) = f (iterN f n (f s))
  rw [ih]
theorem Qlz (l : List (Int × Int)) (hl : ∀ x ∈ l, 0 ≤ x.1 ∧ x.1 < 80 ∧ 0 ≤ x.2 ∧ x.2 ≤ 3) (r : List UInt8) (acc : List (Int × Int)) : iterN levStep l.length (acc, (levelsL l ++ r, false)) = (acc ++ l, (r, false)) := by
 induction l generalizing acc with
 | nil => simp [iterN, levelsL]
 | cons x l ih =>
  obtain ⟨h1, h2, h3, h4⟩ := hl x (by simp)
  rw [List.length_cons, QbQ]
  have e : levStep (acc, (levelsL (x :: l) ++ r, false)) = (acc ++ [x], (levelsL l ++ r, false)) := by
   have e0 : levelsL (x :: l) ++ r = byteL x.1 :: byteL x.2 :: (levelsL l ++ r) := by simp [levelsL]
   unfold levStep
   rw [e0]
   simp only
   rw [Q5 x.1 _ h1 (by omega)]
   simp only
   rw [Q5 x.2 _ h3 (by omega)]
  rw [e, ih (fun y hy => hl y (by simp [hy]))]
  simp
theorem Qml (l : List Int) (hl : ∀ x ∈ l, 0 ≤ x ∧ x < 80) (r : List UInt8) (acc : List Int) : iterN grStep l.length (acc, (l.map byteL ++ r, false)) = (acc ++ l, (r, false)) := by
 induction l generalizing acc with
 | nil => simp [iterN]
 | cons x l ih =>
  obtain ⟨h1, h2⟩ := hl x (by simp)
  rw [List.length_cons, QbQ]
  have e : grStep (acc, ((x :: l).map byteL ++ r, false)) = (acc ++ [x], (l.map byteL ++ r, false)) := by
   unfold grStep
   simp only [List.map_cons, List.cons_append]
   rw [Q5 x _ h1 (by omega)]
  rw [e, ih (fun y hy => hl y (by simp [hy]))]
  simp
theorem Qda (h : Int) : hostB h = true ↔ 0 ≤ h ∧ h < 4 := by unfold hostB; exact decide_eq_true_iff
theorem QeW (h : Int) : timeB h = true ↔ 0 ≤ h ∧ h ≤ 1099511627776 := by unfold timeB; exact decide_eq_true_iff
theorem QdX (h : Int) : catB h = true ↔ 0 ≤ h ∧ h < 80 := by unfold catB; exact decide_eq_true_iff
theorem Qkw (x : Crt) : certB x = true ↔ (0 ≤ x.c ∧ x.c < 80) ∧ (0 ≤ x.b ∧ x.b < 4) ∧ (0 ≤ x.h ∧ x.h < 4) ∧ x.b ≠ x.h ∧ (0 ≤ x.u ∧ x.u ≤ 1099511627776) := by
 unfold certB twoB
 simp only [Bool.and_eq_true, Qda, QeW, QdX, Bool.not_eq_true', beq_eq_false_iff_ne]
 constructor
 · rintro ⟨⟨h1, ⟨h2, h3⟩, h4⟩, h5⟩
   exact ⟨h1, h2, h3, h4, h5⟩
 · rintro ⟨h1, h2, h3, h4, h5⟩
   exact ⟨⟨h1, ⟨h2, h3⟩, h4⟩, h5⟩
theorem Qms (l : List Crt) (hl : ∀ x ∈ l, certB x = true) (r : List UInt8) (acc : List Crt) : iterN crStep l.length (acc, (l.flatMap certL ++ r, false)) = (acc ++ l, (r, false)) := by
 induction l generalizing acc with
 | nil => simp [iterN]
 | cons x l ih =>
  obtain ⟨h1, h2, h3, _, h5⟩ := (Qkw x).1 (hl x (by simp))
  rw [List.length_cons, QbQ]
  have e : crStep (acc, ((x :: l).flatMap certL ++ r, false)) = (acc ++ [x], (l.flatMap certL ++ r, false)) := by
   have e0 : (x :: l).flatMap certL ++ r = byteL x.c :: byteL x.b :: byteL x.h :: (timeL x.u ++ (l.flatMap certL ++ r)) := by simp [certL]
   unfold crStep crtT
   rw [e0]
   simp only
   rw [Q5 x.c _ h1.1 (by omega)]
   simp only
   rw [Q5 x.b _ h2.1 (by omega)]
   simp only
   rw [Q5 x.h _ h3.1 (by omega)]
   simp only
   rw [Qe9 x.u _ h5.1 (by omega)]
  rw [e, ih (fun y hy => hl y (by simp [hy]))]
  simp
theorem Qb9 (n : Nat) (r : List UInt8) (h : n < 256) : numT 1 (byteL (n : Int) :: r, false) = ((n : Int), (r, false)) := Q5 n r (by omega) (by omega)
theorem Qmk (l : List (Int × Int)) (hn : l.length < 256) (hl : ∀ x ∈ l, 0 ≤ x.1 ∧ x.1 < 80 ∧ 0 ≤ x.2 ∧ x.2 ≤ 3) (r : List UInt8) : labT (byteL l.length :: (levelsL l ++ r), false) = (l, (r, false)) := by
 unfold labT
 rw [Qb9 _ _ hn]
 simp only [Int.toNat_natCast]
 rw [Qlz l hl]
 simp
theorem QmE (l : List Int) (hn : l.length < 256) (hl : ∀ x ∈ l, 0 ≤ x ∧ x < 80) (r : List UInt8) : grT (byteL l.length :: (l.map byteL ++ r), false) = (l, (r, false)) := by
 unfold grT
 rw [Qb9 _ _ hn]
 simp only [Int.toNat_natCast]
 rw [Qml l hl]
 simp
theorem QmB (x : List UInt8) (hn : x.length < 256) (r : List UInt8) : txT (byteL x.length :: (x ++ r), false) = (x, (r, false)) := by
 unfold txT
 rw [Qb9 _ _ hn]
 simp only [Int.toNat_natCast]
 rw [QeY]
theorem Qkv (l : List Crt) (hn : l.length < 256) (hl : ∀ x ∈ l, certB x = true) (r : List UInt8) : certsT (certsL l ++ r, false) = (l, (r, false)) := by
 unfold certsT certsL
 rw [show [byteL (l.length : Int)] ++ l.flatMap certL ++ r = byteL (l.length : Int) :: (l.flatMap certL ++ r) by simp, Qb9 _ _ hn]
 simp only [Int.toNat_natCast]
 rw [Qms l hl]
 simp
theorem QbS (l : List Int) : grantsB l = true ↔ l.length ≤ 8 ∧ (∀ x ∈ l, 0 ≤ x ∧ x < 80) ∧ l.Pairwise (· < ·) := by unfold grantsB; exact decide_eq_true_iff
theorem Qef {m : Mal} (h : mailE m = 0) : (0 ≤ m.host ∧ m.host < 4) ∧ (0 ≤ m.thread ∧ m.thread < 4) ∧ goodB m.label = true ∧ grantsB m.grants = true ∧ m.text.length ≤ 64 := by
 unfold mailE at h
 split at h
 · rename_i h1
   simp only [Bool.and_eq_true, Qda] at h1
   split at h
   · exact ⟨h1.1.1.1, h1.1.1.2, h1.1.2, h1.2, by assumption⟩
   · simp at h
 · simp at h
theorem Qlo (m : Mal) (h : mailE m = 0) (r : List UInt8) : mailT m.host (mailL m ++ r, false) = (m, (r, false)) := by
 obtain ⟨h1, h2, h3, h4, h5⟩ := Qef h
 obtain ⟨g1, g2, _⟩ := of_decide_eq_true h3
 obtain ⟨k1, k2, _⟩ := (QbS _).1 h4
 have e : mailL m ++ r = byteL m.thread :: (byteL m.label.length :: (levelsL m.label ++ (byteL m.grants.length :: (m.grants.map byteL ++ (byteL m.text.length :: (m.text ++ r)))))) := by simp [mailL]
 rw [e]
 unfold mailT
 rw [Q5 _ _ h2.1 (by omega)]
 simp only
 rw [Qmk _ (by omega) (fun x hx => ⟨(g2 x hx).1, (g2 x hx).2.1, (g2 x hx).2.2.1, (g2 x hx).2.2.2.1⟩)]
 simp only
 rw [QmE _ (by omega) k2]
 simp only
 rw [QmB _ (by omega)]
theorem Qff (f : Frm) : headB f = true ↔ (0 ≤ f.fr ∧ f.fr < 4) ∧ (0 ≤ f.to ∧ f.to < 4) ∧ f.fr ≠ f.to ∧ f.seq ≠ 0 ∧ (0 ≤ f.seq ∧ f.seq ≤ 1099511627776) ∧ (0 ≤ f.thread ∧ f.thread < 4) := by
 unfold headB twoB
 simp only [Bool.and_eq_true, Qda, QeW, Bool.not_eq_true', beq_eq_false_iff_ne]
 constructor
 · rintro ⟨⟨⟨⟨⟨h1, h2⟩, h3⟩, h4⟩, h5⟩, h6⟩
   exact ⟨h1, h2, h3, h4, h5, h6⟩
 · rintro ⟨h1, h2, h3, h4, h5, h6⟩
   exact ⟨⟨⟨⟨⟨h1, h2⟩, h3⟩, h4⟩, h5⟩, h6⟩
theorem QfT {f : Frm} (h : answerE f = 0) : f.thread = 0 ∧ f.mail = zeroMal ∧ f.certs = [] := by
 unfold answerE at h
 split at h
 · rename_i h1
   obtain ⟨fr, to, seq, ack, th, ⟨mh, mt, ml, mg, mx⟩, cs⟩ := f
   simp only [emptyB, Bool.and_eq_true, beq_iff_eq, List.isEmpty_iff] at h1
   obtain ⟨⟨rfl, ⟨⟨⟨rfl, rfl⟩, rfl⟩, rfl⟩, rfl⟩, rfl⟩ := h1
   exact ⟨rfl, rfl, rfl⟩
 · simp at h
theorem Qdy {l : List Crt} (h : certsE l = 0) : l.length ≤ 24 ∧ ∀ x ∈ l, certB x = true := by
 unfold certsE at h
 split at h
 · split at h
   · rename_i h1 h2
     exact ⟨h1, List.all_eq_true.1 h2⟩
   · simp at h
 · simp at h
theorem Qeg {f : Frm} (h : loadE f = 0) : mailE f.mail = 0 ∧ f.mail.host = f.fr ∧ certsE f.certs = 0 := by
 unfold loadE at h
 split at h
 · split at h
   · exact ⟨by assumption, by assumption, h⟩
   · simp at h
 · exact absurd h (by assumption)
theorem Qga (k : Int) (f : Frm) (hk : 0 ≤ k ∧ k < 256) (h : headB f = true) (r : List UInt8) : headT (headL k f ++ r, false) = ((k, f.fr, f.to, f.seq), (r, false)) := by
 obtain ⟨h1, h2, _, _, h5, _⟩ := (Qff f).1 h
 have e : headL k f ++ r = byteL k :: (byteL f.fr :: (byteL f.to :: (timeL f.seq ++ r))) := by simp [headL]
 rw [e]
 unfold headT
 rw [Q5 _ _ hk.1 hk.2]
 simp only
 rw [Q5 _ _ h1.1 (by omega)]
 simp only
 rw [Q5 _ _ h2.1 (by omega)]
 simp only
 rw [Qe9 _ _ h5.1 (by omega)]
theorem Qj9 (f : Frm) (h : frameE f = 0) (r : List UInt8) : frameT (encL f ++ r, false) = (f, (r, false)) := by
 unfold frameE at h
 split at h
 · rename_i hh
   have hb := (Qff f).1 hh
   cases ha : f.ack with
   | true =>
    rw [ha, if_pos rfl] at h
    obtain ⟨h1, h2, h3⟩ := QfT h
    unfold encL
    rw [ha, if_pos rfl]
    unfold frameT
    rw [Qga 1 f (by omega) hh]
    simp only [if_true]
    rw [← h1, ← h2, ← h3, ← ha]
   | false =>
    rw [ha, if_neg (by simp)] at h
    obtain ⟨h1, h2, h3⟩ := Qeg h
    obtain ⟨k1, k2⟩ := Qdy h3
    unfold encL
    rw [ha, if_neg (by simp), List.append_assoc, List.append_assoc, List.append_assoc]
    unfold frameT
    rw [Qga 0 f (by omega) hh]
    simp only [show ((0 : Int) = 1) = False by simp, if_false, if_true]
    unfold loadT
    simp only [List.cons_append, List.nil_append]
    rw [Q5 _ _ hb.2.2.2.2.2.1 (by omega)]
    simp only
    rw [← h2, Qlo f.mail h1]
    simp only
    rw [Qkv f.certs (by omega) k2]
    rw [h2, ← ha]
 · simp at h
theorem back (f : Frm) (h : frameE f = 0) : decL (encL f) = (f, 0) := by
 have e := Qj9 f h []
 rw [List.append_nil] at e
 unfold decL
 rw [e]
 simp [doneB, h]
theorem only {s : List UInt8} (h : (decL s).2 = 0) : encL (decL s).1 = s ∧ frameE (decL s).1 = 0 := by
 unfold decL at h ⊢
 by_cases hd : doneB (frameT (s, false)).2 = true
 · rw [if_pos hd] at h ⊢
   by_cases he : frameE (frameT (s, false)).1 = 0
   · rw [if_pos he]
     refine ⟨?_, he⟩
     simp only [doneB, Bool.and_eq_true, Bool.not_eq_true', List.isEmpty_iff] at hd
     have e := congrArg Prod.fst (frame1 hd.1)
     simp only [hd.2, List.append_nil] at e
     exact e.symm
   · rw [if_neg he] at h
     exact absurd h he
 · rw [if_neg hd] at h
   simp at h
def frontL (l : List (Int × Int)) (c : Int) : List (Int × Int) := l.filter fun x => decide (x.1 < c)
def behindL (l : List (Int × Int)) (c : Int) : List (Int × Int) := l.filter fun x => decide (c < x.1)
def newL (c n : Int) : List (Int × Int) := if n = 1 then [] else [(c, n)]
def setL (l : List (Int × Int)) (c n : Int) : List (Int × Int) := frontL l c ++ newL c n ++ behindL l c
theorem Qhz {l : List (Int × Int)} {c : Int} {i : Nat} (h1 : ∀ m (_ : m < i) (hm : m < l.length), l[m].1 < c) (h2 : ∀ m (_ : i ≤ m) (hm : m < l.length), c ≤ l[m].1) : l.take i = frontL l c := by
 unfold frontL
 conv => rhs; rw [← List.take_append_drop i l]
 rw [List.filter_append, List.filter_eq_self.2, List.filter_eq_nil_iff.2]
 · simp
 · intro x hx
   obtain ⟨m, hm, e⟩ := List.mem_iff_getElem.1 hx
   rw [List.getElem_drop] at e
   have := h2 (i + m) (by omega) (by simp at hm; omega)
   subst e
   simpa using this
 · intro x hx
   obtain ⟨m, hm, e⟩ := List.mem_iff_getElem.1 hx
   rw [List.getElem_take] at e
   have := h1 m (by simp at hm; omega) (by simp at hm; omega)
   subst e
   simpa using this
theorem Qdu {l : List (Int × Int)} {c : Int} {k : Nat} (h1 : ∀ m (_ : m < k) (hm : m < l.length), l[m].1 ≤ c) (h2 : ∀ m (_ : k ≤ m) (hm : m < l.length), c < l[m].1) : l.drop k = behindL l c := by
 unfold behindL
 conv => rhs; rw [← List.take_append_drop k l]
 rw [List.filter_append, List.filter_eq_nil_iff.2, List.filter_eq_self.2]
 · simp
 · intro x hx
   obtain ⟨m, hm, e⟩ := List.mem_iff_getElem.1 hx
   rw [List.getElem_drop] at e
   have := h2 (k + m) (by omega) (by simp at hm; omega)
   subst e
   simpa using this
 · intro x hx
   obtain ⟨m, hm, e⟩ := List.mem_iff_getElem.1 hx
   rw [List.getElem_take] at e
   have := h1 m (by simp at hm; omega) (by simp at hm; omega)
   subst e
   simpa using this
structure Spot (l : List (Int × Int)) (c : Int) (i : Nat) (f : Bool) : Prop where
 le : i ≤ l.length
 low : ∀ m (_ : m < i) (hm : m < l.length), l[m].1 < c
 high : ∀ m (_ : i ≤ m) (hm : m < l.length), c ≤ l[m].1
 yes : f = true → ∃ h : i < l.length, l[i].1 = c
 no : f = false → ∀ h : i < l.length, l[i].1 ≠ c
theorem Spot.front {l : List (Int × Int)} {c : Int} {i : Nat} {f : Bool} (s : Spot l c i f) : l.take i = frontL l c := Qhz s.low s.high
theorem Spot.behind_yes {l : List (Int × Int)} {c : Int} {i : Nat} (s : Spot l c i true) (hr : l.Pairwise fun x y => x.1 < y.1) : l.drop (i + 1) = behindL l c := by
 obtain ⟨hi, e⟩ := s.yes rfl
 refine Qdu (fun m h hm => ?_) (fun m h hm => ?_)
 · by_cases hmi : m = i
   · subst hmi; omega
   · have := s.low m (by omega) hm; omega
 · have := (List.pairwise_iff_getElem.1 hr) i m hi hm (by omega)
   omega
theorem Spot.behind_no {l : List (Int × Int)} {c : Int} {i : Nat} (s : Spot l c i false) (hr : l.Pairwise fun x y => x.1 < y.1) : l.drop i = behindL l c := by
 refine Qdu (fun m h hm => ?_) (fun m h hm => ?_)
 · have := s.low m h hm; omega
 · by_cases hmi : m = i
   · subst hmi
     have h1 := s.high m (Nat.le_refl _) hm
     have h2 := s.no rfl hm
     omega
   · have h1 := s.high i (Nat.le_refl _) (by omega)
     have := (List.pairwise_iff_getElem.1 hr) i m (by omega) hm (by omega)
     omega
theorem QhH {l : List (Int × Int)} (hr : l.Pairwise fun x y => x.1 < y.1) (c n : Int) : (setL l c n).Pairwise fun x y => x.1 < y.1 := by
 unfold setL
 have hf : ∀ x ∈ frontL l c, x.1 < c := fun x hx => by have := (List.mem_filter.1 hx).2; simpa using this
 have hb : ∀ x ∈ behindL l c, c < x.1 := fun x hx => by have := (List.mem_filter.1 hx).2; simpa using this
 have hn : ∀ x ∈ newL c n, x.1 = c := fun x hx => by
  unfold newL at hx
  by_cases h : n = 1
  · simp [h] at hx
  · simp only [h, if_false, List.mem_singleton] at hx; rw [hx]
 refine List.pairwise_append.2 ⟨List.pairwise_append.2 ⟨hr.filter _, ?_, ?_⟩, hr.filter _, ?_⟩
 · unfold newL; split <;> simp
 · intro x hx y hy; have := hf x hx; have := hn y hy; omega
 · intro x hx y hy
   have := hb y hy
   rcases List.mem_append.1 hx with hx | hx
   · have := hf x hx; omega
   · have := hn x hx; omega
theorem Qj1 {l : List (Int × Int)} (h : goodL l) {c n : Int} (hc : catB c = true) (hn : bndB n = true) (h8 : (setL l c n).length ≤ 8) : goodL (setL l c n) := by
 have hc' : 0 ≤ c ∧ c < 80 := of_decide_eq_true hc
 have hn' : 0 ≤ n ∧ n ≤ 3 := of_decide_eq_true hn
 refine ⟨h8, fun x hx => ?_, QhH h.2.2 c n⟩
 unfold setL at hx
 rcases List.mem_append.1 hx with hx | hx
 · rcases List.mem_append.1 hx with hx | hx
   · exact h.2.1 x (List.mem_filter.1 hx).1
   · unfold newL at hx
     by_cases e : n = 1
     · simp [e] at hx
     · simp only [e, if_false, List.mem_singleton] at hx; rw [hx]; exact ⟨hc'.1, hc'.2, hn'.1, hn'.2, e⟩
 · exact h.2.1 x (List.mem_filter.1 hx).1
theorem QeO (l : List (Int × Int)) (c : Int) : (frontL l c).length ≤ l.length := List.length_filter_le _ _
theorem QeI (l : List (Int × Int)) (c : Int) : (behindL l c).length ≤ l.length := List.length_filter_le _ _
theorem Qgu (c n : Int) : (newL c n).length ≤ 1 := by unfold newL; split <;> simp
def setB (l : List (Int × Int)) (c n : Int) : Bool := goodB l && catB c && bndB n
def setE (l : List (Int × Int)) (c n : Int) : Int := if setB l c n = false then 2 else if 8 < (setL l c n).length then 5 else 0
structure Obt where
 label : List (Int × Int)
 text : List UInt8
structure Thr where
 label : List (Int × Int)
 own : List Int
 text : List UInt8
 objs : List Obt
 mails : List Mal
structure Ker where
 host : Int
 made : Int
 ths : List Thr
structure Cal where
 kind : Int
 h : Int
 t : Int
 n : Int
 c : Int
 label : List (Int × Int)
 grants : List Int
 text : List UInt8
structure Rep where
 code : Int
 n : Int
 text : List UInt8
def zeroThr : Thr := ⟨[], [], [], [], []⟩
def freshKer (h : Int) : Ker := ⟨h, 0, [zeroThr, zeroThr, zeroThr, zeroThr]⟩
def code (e : Int) : Rep := ⟨e, 0, []⟩
def lastL (x : List UInt8) : List UInt8 := x.drop (x.length - 64)
theorem Qbr (x : List UInt8) : (lastL x).length ≤ 64 := by unfold lastL; rw [List.length_drop]; omega
theorem QbP {x : List UInt8} (h : x.length ≤ 64) : lastL x = x := by unfold lastL; rw [show x.length - 64 = 0 by omega]; rfl
def insL (l : List Int) (c : Int) : List Int := l.take (l.countP (· < c)) ++ c :: l.drop (l.countP (· < c))
def ownL (l : List Int) (c : Int) : Int × List Int := if l.contains c then (0, l) else if 8 ≤ l.length then (5, l) else (0, insL l c)
def mayL (th : Thr) (m : Mal) : Int := if mailE m = 0 then (if m.grants.all (th.own.contains ·) then (if flowsL th.label m.label th.own then 0 else 6) else 7) else mailE m
def getT (K : Ker) (t : Int) : Option Thr := if 0 ≤ t then K.ths[t.toNat]? else none
def setT (K : Ker) (t : Int) (th : Thr) : Ker := { K with ths := K.ths.set t.toNat th }
def letterM (K : Ker) (t : Int) (c : Cal) (th : Thr) : Mal := ⟨K.host, t, c.label, c.grants, lastL (th.text ++ c.text)⟩
def letterL (K : Ker) (t : Int) (c : Cal) : Mal × Int :=
 match getT K t with
 | none => (zeroMal, 4)
 | some th => if mayL th (letterM K t c th) = 0 then (letterM K t c th, 0) else (zeroMal, mayL th (letterM K t c th))
def boxL (th : Thr) (m : Mal) : Thr := if mailE m = 0 ∧ flowsL m.label th.label th.own = true ∧ th.mails.length < 6 then { th with mails := th.mails ++ [m] } else th
def deliverL (K : Ker) (t : Int) (m : Mal) : Ker :=
 match getT K t with
 | none => K
 | some th => setT K t (boxL th m)
def grantL : List Int → List Int → List Int
 | [], o => o
 | c :: r, o => if (ownL o c).1 = 0 then grantL r (ownL o c).2 else o
def readL (th : Thr) (m : Mal) : Thr := { th with text := lastL (th.text ++ m.text), own := grantL m.grants th.own }
def takeL (th : Thr) : List Mal → Thr × Rep
 | [] => ({ th with mails := [] }, code 4)
 | m :: r => if flowsL m.label th.label th.own then ({ readL th m with mails := r }, ⟨0, m.host * 4 + m.thread, []⟩) else takeL th r
def objectL (th : Thr) (l : List (Int × Int)) : Thr × Rep :=
 if goodB l then (if flowsL th.label l th.own then (if 4 ≤ th.objs.length then (th, code 5) else ({ th with objs := th.objs ++ [⟨l, []⟩] }, ⟨0, (th.objs.length : Int), []⟩)) else (th, code 6)) else (th, code 2)
def levelL (th : Thr) (c n : Int) : Thr × Int :=
 if setE th.label c n = 0 then (if flowsL th.label (setL th.label c n) th.own then ({ th with label := setL th.label c n }, 0) else (th, 6)) else (th, setE th.label c n)
def objAt (K : Ker) (t n : Int) : Option Obt :=
 match getT K t with
 | none => none
 | some th => if 0 ≤ n then th.objs[n.toNat]? else none
def putO (th : Thr) (n : Int) (x : List UInt8) : Thr := { th with objs := th.objs.modify n.toNat fun o => { o with text := x } }
def putL (K : Ker) (th : Thr) (c : Cal) : Ker :=
 match getT K c.t, objAt K c.t c.n with
 | some u, some o => if flowsL th.label o.label th.own then setT K c.t (putO u c.n (lastL (th.text ++ c.text))) else K
 | _, _ => K
def getL (K : Ker) (t : Int) (th : Thr) (c : Cal) : Ker × Rep :=
 match objAt K c.t c.n with
 | none => (K, code 4)
 | some o => if flowsL o.label th.label th.own then (setT K t { th with text := lastL (th.text ++ o.text) }, ⟨0, (o.text.length : Int), []⟩) else (K, code 4)
def categoryL (K : Ker) (t : Int) (th : Thr) : Ker × Rep :=
 if 20 ≤ K.made then (K, code 5)
 else if (ownL th.own (K.host * 20 + K.made)).1 = 0 then ({ setT K t { th with own := (ownL th.own (K.host * 20 + K.made)).2 } with made := K.made + 1 }, ⟨0, K.host * 20 + K.made, []⟩)
 else (K, code (ownL th.own (K.host * 20 + K.made)).1)
def callT (K : Ker) (t : Int) (th : Thr) (c : Cal) : Ker × Rep :=
 if 64 < c.text.length then (K, code 9)
 else if c.kind = 1 then categoryL K t th
 else if c.kind = 2 then (setT K t (objectL th c.label).1, (objectL th c.label).2)
 else if c.kind = 3 then (putL K th c, code 0)
 else if c.kind = 4 then getL K t th c
 else if c.kind = 5 then (setT K t (levelL th c.c c.n).1, code (levelL th c.c c.n).2)
 else if c.kind = 7 then (setT K t (takeL th th.mails).1, (takeL th th.mails).2)
 else if c.kind = 9 then (setT K t { th with text := lastL c.text }, code 0)
 else if c.kind = 10 then (K, ⟨0, 0, th.text⟩)
 else (K, code 3)
def callL (K : Ker) (t : Int) (c : Cal) : Ker × Rep :=
 match getT K t with
 | none => (K, code 4)
 | some th => callT K t th c
theorem Crt.ext4 {x y : Crt} (h1 : x.c = y.c) (h2 : x.b = y.b) (h3 : x.h = y.h) (h4 : x.u = y.u) : x = y := by
 cases x; cases y
 simp_all
instance : DecidableEq Crt := fun x y =>
 if h : x.c = y.c ∧ x.b = y.b ∧ x.h = y.h ∧ x.u = y.u then isTrue (Crt.ext4 h.1 h.2.1 h.2.2.1 h.2.2.2) else isFalse fun e => h (by subst e; exact ⟨rfl, rfl, rfl, rfl⟩)
def sameC (x y : Crt) : Bool := x.c == y.c && x.b == y.b && x.h == y.h && x.u == y.u
theorem Qe5 (x y : Crt) : sameC x y = true ↔ x = y := by
 unfold sameC
 simp only [Bool.and_eq_true, beq_iff_eq]
 constructor
 · rintro ⟨⟨⟨h1, h2⟩, h3⟩, h4⟩
   exact Crt.ext4 h1 h2 h3 h4
 · rintro rfl
   exact ⟨⟨⟨rfl, rfl⟩, rfl⟩, rfl⟩
def goodCs (l : List Crt) : Prop := l.length ≤ 24 ∧ (∀ x ∈ l, certB x = true) ∧ l.Nodup
instance (l : List Crt) : Decidable (goodCs l) := by unfold goodCs; infer_instance
def csB (l : List Crt) : Bool := decide (goodCs l)
theorem QlV {l : List Crt} (h : 24 < l.length) : csB l = false := decide_eq_false fun g => by have := g.1; omega
theorem Qmq {l : List Crt} {k : Nat} (hk : k < l.length) (h : certB l[k] = false) : csB l = false := decide_eq_false fun g => by
 have := g.2.1 l[k] (List.getElem_mem hk)
 rw [h] at this
 cases this
theorem Qko {l : List Crt} {k : Nat} (hk : k < l.length) (h : l[k] ∈ l.take k) : csB l = false := decide_eq_false fun g => by
 obtain ⟨j, hj, e⟩ := List.mem_iff_getElem.1 h
 rw [List.length_take] at hj
 rw [List.getElem_take] at e
 exact List.pairwise_iff_getElem.1 g.2.2 j k (by omega) hk (by omega) e
theorem Qmr {l : List Crt} (h24 : l.length ≤ 24) (h1 : ∀ j (hj : j < l.length), certB l[j] = true) (h2 : ∀ j (hj : j < l.length), l[j] ∉ l.take j) : csB l = true := decide_eq_true ⟨h24, fun x hx => by
 obtain ⟨j, hj, rfl⟩ := List.mem_iff_getElem.1 hx
 exact h1 j hj, by
 rw [List.nodup_iff_pairwise_ne, List.pairwise_iff_getElem]
 intro i j hi hj hij e
 refine h2 j hj ?_
 rw [← e]
 exact List.mem_iff_getElem.2 ⟨i, by rw [List.length_take]; omega, by rw [List.getElem_take]⟩⟩
def addL (l : List Crt) (x : Crt) : List Crt × Int :=
 if goodCs l ∧ certB x = true then (if x ∈ l then (l, 0) else if 24 ≤ l.length then ([], 5) else (l ++ [x], 0)) else ([], 2)
inductive Reach (l : List Crt) (c now : Int) : Int → Prop
 | home : Reach l c now (c / 20)
 | step {x : Crt} : Reach l c now x.b → x ∈ l → x.c = c → now ≤ x.u → Reach l c now x.h
theorem Reach.more {l l' : List Crt} {c now h : Int} (hr : Reach l c now h) (hl : ∀ x ∈ l, x.c = c → now ≤ x.u → x ∈ l') : Reach l' c now h := by
 induction hr with
 | home => exact .home
 | step h1 h2 h3 h4 ih => exact .step ih (hl _ h2 h3 h4) h3 h4
def Trusts (l : List Crt) (c now h : Int) : Prop := catB c = true ∧ goodCs l ∧ Reach l c now h
open Classical in
noncomputable def trB (l : List Crt) (c now h : Int) : Bool := decide (Trusts l c now h)
theorem Qbv (l : List Crt) (c now h : Int) : trB l c now h = true ↔ Trusts l c now h := by unfold trB; exact @decide_eq_true_iff _ (_)
theorem Qjh {l : List Crt} {c now h : Int} (hc : catB c = false) : trB l c now h = false := by
 rw [← Bool.not_eq_true, Qbv]
 rintro ⟨h1, _⟩
 rw [hc] at h1
 cases h1
theorem Qmd {l : List Crt} {c now h : Int} (hc : csB l = false) : trB l c now h = false := by
 rw [← Bool.not_eq_true, Qbv]
 rintro ⟨_, h1, _⟩
 rw [show csB l = true from decide_eq_true h1] at hc
 cases hc
structure Work (l : List Crt) (c now : Int) (b : Int → Bool) (row : List Int) : Prop where
 home : b (c / 20) = true
 mark : ∀ h, 0 ≤ h → h < 4 → (b h = true ↔ h ∈ row)
 host : ∀ h ∈ row, 0 ≤ h ∧ h < 4
 once : row.Nodup
 real : ∀ h ∈ row, Reach l c now h
theorem QiA (row : List Int) (h2 : ∀ h ∈ row, 0 ≤ h ∧ h < 4) : row.length = row.count 0 + row.count 1 + row.count 2 + row.count 3 := by
 induction row with
 | nil => rfl
 | cons x r ih =>
  have h := ih fun y hy => h2 y (List.mem_cons_of_mem _ hy)
  have hx := h2 x List.mem_cons_self
  have : x = 0 ∨ x = 1 ∨ x = 2 ∨ x = 3 := by omega
  rcases this with rfl | rfl | rfl | rfl <;> simp <;> omega
theorem Qbb {row : List Int} (h1 : row.Nodup) (a : Int) : row.count a ≤ 1 := by
 induction row with
 | nil => simp
 | cons x r ih =>
  have h := List.nodup_cons.1 h1
  have := ih h.2
  rw [List.count_cons]
  by_cases e : x = a
  · subst e
    have : r.count x = 0 := List.count_eq_zero.2 h.1
    simp [this]
  · simp [e]; omega
theorem QhY {row : List Int} (h1 : row.Nodup) (h2 : ∀ h ∈ row, 0 ≤ h ∧ h < 4) : row.length ≤ 4 := by
 have h := QiA row h2
 have := Qbb h1 0
 have := Qbb h1 1
 have := Qbb h1 2
 have := Qbb h1 3
 omega
theorem Work.four {l : List Crt} {c now : Int} {b : Int → Bool} {row : List Int} (h : Work l c now b row) : row.length ≤ 4 := QhY h.once h.host
def Asked (c now : Int) (b : Int → Bool) (h : Int) (x : Crt) : Prop := x.c = c → x.b = h → now ≤ x.u → b x.h = true
theorem Work.start {l : List Crt} {c now : Int} (hc : catB c = true) (b : Int → Bool) (hb : ∀ h, 0 ≤ h → h < 4 → b h = decide (h = c / 20)) : Work l c now b [c / 20] := by
 have hc' : 0 ≤ c ∧ c < 80 := of_decide_eq_true hc
 have h1 : 0 ≤ c / 20 ∧ c / 20 < 4 := by omega
 refine ⟨by rw [hb _ h1.1 h1.2]; simp, fun h g1 g2 => by rw [hb h g1 g2]; simp, fun h hh => ?_, by simp, fun h hh => ?_⟩
 · rw [List.mem_singleton.1 hh]; exact h1
 · rw [List.mem_singleton.1 hh]; exact .home
theorem Work.put {l : List Crt} {c now : Int} {b b' : Int → Bool} {row : List Int} (w : Work l c now b row) {x : Crt} (hx : x ∈ l) (hc : x.c = c) (hr : x.b ∈ row) (hu : now ≤ x.u) (hb : b x.h = false) (hh : 0 ≤ x.h ∧ x.h < 4)
 (hb' : ∀ h, 0 ≤ h → h < 4 → b' h = (b h || decide (h = x.h))) (hc2 : 0 ≤ c / 20 ∧ c / 20 < 4) : Work l c now b' (row ++ [x.h]) := by
 have hn : x.h ∉ row := fun h => by
  have := (w.mark x.h hh.1 hh.2).2 h
  rw [hb] at this
  cases this
 refine ⟨by rw [hb' _ hc2.1 hc2.2, w.home]; rfl, fun h g1 g2 => ?_, fun h hh' => ?_, ?_, fun h hh' => ?_⟩
 · rw [hb' h g1 g2, Bool.or_eq_true, decide_eq_true_iff, w.mark h g1 g2, List.mem_append, List.mem_singleton]
 · rcases List.mem_append.1 hh' with g | g
   · exact w.host h g
   · rw [List.mem_singleton.1 g]; exact hh
 · rw [List.nodup_append]
   refine ⟨w.once, by simp, fun a ha b hb2 => ?_⟩
   rw [List.mem_singleton.1 hb2]
   rintro rfl
   exact hn ha
 · rcases List.mem_append.1 hh' with g | g
   · exact w.real h g
   · rw [List.mem_singleton.1 g]; exact .step (w.real _ hr) hx hc hu
theorem Work.done {l : List Crt} {c now : Int} {b : Int → Bool} {row : List Int} (w : Work l c now b row) (hc : catB c = true) (hg : goodCs l) (ha : ∀ h ∈ row, ∀ x ∈ l, Asked c now b h x) (h : Int) (h1 : 0 ≤ h) (h2 : h < 4) : b h = trB l c now h := by
 have hc' : 0 ≤ c ∧ c < 80 := of_decide_eq_true hc
 have hall : ∀ g, Reach l c now g → (0 ≤ g ∧ g < 4) ∧ b g = true := by
  intro g hr
  induction hr with
  | home => exact ⟨by omega, w.home⟩
  | @step x _ hx hxc hxu ih =>
   have hcx := hg.2.1 x hx
   unfold certB twoB hostB at hcx
   simp only [Bool.and_eq_true, decide_eq_true_iff] at hcx
   exact ⟨hcx.1.2.1.2, ha x.b ((w.mark x.b ih.1.1 ih.1.2).1 ih.2) x hx hxc rfl hxu⟩
 cases hb : b h with
 | true => exact ((Qbv _ _ _ _).2 ⟨hc, hg, w.real h ((w.mark h h1 h2).1 hb)⟩).symm
 | false =>
  cases ht : trB l c now h with
  | false => rfl
  | true =>
   have := (hall h ((Qbv _ _ _ _).1 ht).2.2).2
   rw [hb] at this
   cases this
def namesL (m : Mal) : List Int := Lib.compact ((m.label.map (·.1) ++ m.grants).mergeSort fun x y => decide (x ≤ y))
theorem QfB (m : Mal) : (namesL m).Pairwise (· < ·) := by
 unfold namesL Lib.compact
 have hs := List.pairwise_mergeSort (le := fun x y : Int => decide (x ≤ y)) (by intro x y z; simp; omega) (by intro x y; simp; omega) (m.label.map (·.1) ++ m.grants)
 refine QcY _ ?_ _ (by simp)
 intro i j hij hj
 rw [getElem!_pos _ i (by omega), getElem!_pos _ j hj]
 by_cases e : i = j
 · subst e; omega
 · have := (List.pairwise_iff_getElem.1 hs) i j (by simp at hj ⊢; omega) (by simpa using hj) (by omega)
   simpa using this
theorem QeM (m : Mal) : (namesL m).length ≤ m.label.length + m.grants.length := by
 unfold namesL Lib.compact Lib.compactUpTo
 have h1 := List.length_filter_le (Lib.keeps ((m.label.map (·.1) ++ m.grants).mergeSort fun x y => decide (x ≤ y)).toArray) (List.range ((m.label.map (·.1) ++ m.grants).mergeSort fun x y => decide (x ≤ y)).length)
 simp at h1 ⊢
 exact h1
noncomputable def mayB (l : List Crt) (h : Int) (m : Mal) (now : Int) : Bool := hostB h && (namesL m).all fun c => trB l c now h
def showL (l : List Crt) (m : Mal) : List Crt := l.filter fun x => decide (x.c ∈ namesL m)
theorem Qf7 (l : List Crt) (h : Int) (m : Mal) (now : Int) : mayB l h m now = true ↔ hostB h = true ∧ ∀ c ∈ namesL m, Trusts l c now h := by
 unfold mayB
 rw [Bool.and_eq_true, List.all_eq_true]
 simp only [Qbv]
structure Clu where
 now : Int
 acts : Nat
 ks : Nat → Ker
 certs : Nat → List Crt
 lines : Nat → Nat → Lne
 net : List (List UInt8)
structure Ac where
 kind : Int
 h : Int
 t : Int
 n : Int
 call : Cal
def freshClu : Clu := ⟨0, 0, fun h => freshKer h, fun _ => [], fun _ _ => zeroLne, []⟩
def kerC (C : Clu) (h : Int) : Ker := C.ks h.toNat
def crtC (C : Clu) (h : Int) : List Crt := C.certs h.toNat
def lineC (C : Clu) (a b : Int) : Lne := C.lines a.toNat b.toNat
def setK (C : Clu) (h : Int) (K : Ker) : Clu := { C with ks := fun g => if g = h.toNat then K else C.ks g }
def setC (C : Clu) (h : Int) (l : List Crt) : Clu := { C with certs := fun g => if g = h.toNat then l else C.certs g }
def setLi (C : Clu) (a b : Int) (l : Lne) : Clu := { C with lines := fun x y => if x = a.toNat ∧ y = b.toNat then l else C.lines x y }
def putC (C : Clu) (f : Frm) : Clu := if frameE f = 0 ∧ C.net.length < 60 then { C with net := C.net ++ [encL f] } else C
def addC (C : Clu) (h : Int) (x : Crt) : Clu × Int := if (addL (crtC C h) x).2 = 0 then (setC C h (addL (crtC C h) x).1, 0) else (C, (addL (crtC C h) x).2)
noncomputable def awayC (C : Clu) (fr to t : Int) (m : Mal) : Clu × Int :=
 if mayB (crtC C fr) to m C.now then
  let f : Frm := ⟨fr, to, 0, false, t, m, showL (crtC C fr) m⟩
  let s := sendLn (lineC C fr to) f C.now
  if s.2.2 = 0 then (putC (setLi C fr to s.1) s.2.1, 0) else (C, s.2.2)
 else (C, 8)
noncomputable def sendC (C : Clu) (h t : Int) (c : Cal) : Clu × Int :=
 if 64 < c.text.length then (C, 9)
 else if hostB c.h && hostB c.t then
  (if (letterL (kerC C h) t c).2 = 0 then
   (if c.h = h then (setK C h (deliverL (kerC C h) c.t (letterL (kerC C h) t c).1), 0) else awayC C h c.h c.t (letterL (kerC C h) t c).1)
  else (C, (letterL (kerC C h) t c).2))
 else (C, 4)
def certifyC (C : Clu) (h t : Int) (c : Cal) : Clu × Int :=
 if hostB c.h && !(c.h == h) && timeB c.n then
  (if (((getT (kerC C h) t).getD zeroThr).own.contains c.c) then addC C h ⟨c.c, h, c.h, c.n⟩ else (C, 7))
 else (C, 2)
noncomputable def callC (C : Clu) (h t : Int) (c : Cal) : Clu × Rep :=
 if hostB h && hostB t then
  (if c.kind = 6 then ((sendC C h t c).1, code (sendC C h t c).2)
  else if c.kind = 8 then ((certifyC C h t c).1, code (certifyC C h t c).2)
  else (setK C h (callL (kerC C h) t c).1, (callL (kerC C h) t c).2))
 else (C, code 4)
def takeC (C : Clu) : Int → List Crt → Clu
 | _, [] => C
 | h, x :: r => takeC (addC C h x).1 h r
noncomputable def acceptC (C : Clu) (f : Frm) : Clu :=
 let D := takeC C f.to f.certs
 if mayB (crtC D f.to) f.fr f.mail D.now then setK D f.to (deliverL (kerC D f.to) f.thread f.mail) else D
noncomputable def comeC (C : Clu) (s : List UInt8) : Clu :=
 if (decL s).2 = 0 then
  let f := (decL s).1
  if f.ack then setLi C f.to f.fr (ansLn (lineC C f.to f.fr) f.seq).1
  else
   let k := takeLn (lineC C f.fr f.to) f.seq
   let D := setLi C f.fr f.to k.1
   let E := if k.2 = 0 ∨ k.2 = 10 then putC D ⟨f.to, f.fr, f.seq, true, 0, zeroMal, []⟩ else D
   if k.2 = 0 then acceptC E f else E
 else C
noncomputable def moveC (C : Clu) (kind n : Int) : Clu × Rep :=
 if 0 ≤ n ∧ n < (C.net.length : Int) then
  let s := C.net.getD n.toNat []
  let D := if kind = 3 then C else { C with net := C.net.take n.toNat ++ C.net.drop (n.toNat + 1) }
  ((if kind = 4 then D else comeC D s), ⟨0, (s.length : Int), []⟩)
 else (C, code 4)
def againC (C : Clu) (a b : Int) : Clu × Nat :=
 let k := againLn (lineC C a b) C.now
 (k.2.1.foldl putC (setLi C a b k.1), k.2.1.length)
def tickC (C : Clu) (n : Int) : Clu × Rep :=
 if 1 ≤ n ∧ n ≤ 1099511627776 - C.now then
  let D := { C with now := C.now + n }
  let r := ([0, 1, 2, 3].flatMap fun a => [0, 1, 2, 3].map fun b => ((a : Int), (b : Int))).foldl (fun (s : Clu × Nat) ab => ((againC s.1 ab.1 ab.2).1, s.2 + (againC s.1 ab.1 ab.2).2)) (D, 0)
  (r.1, ⟨0, (r.2 : Int), []⟩)
 else (C, code 2)
noncomputable def doC (C : Clu) (a : Ac) : Clu × Rep :=
 if 300 ≤ C.acts then (C, code 5)
 else
  let D := { C with acts := C.acts + 1 }
  if a.kind = 1 then callC D a.h a.t a.call
  else if a.kind = 2 ∨ a.kind = 3 ∨ a.kind = 4 then moveC D a.kind a.n
  else if a.kind = 5 then tickC D a.n
  else (D, code 3)
noncomputable def playC : Clu → List Ac → Clu
 | C, [] => C
 | C, a :: r => playC (doC C a).1 r
theorem QlT (C : Clu) (a : Ac) (h : 300 ≤ C.acts) : doC C a = (C, code 5) := by
 unfold doC
 rw [if_pos h]
theorem QgO {l : List Int} (hs : l.Pairwise (· < ·)) (c : Int) : (∀ x ∈ l.take (l.countP (· < c)), x < c) ∧ ∀ x ∈ l.drop (l.countP (· < c)), c ≤ x := by
 induction l with
 | nil => simp
 | cons a r ih =>
  have hr := (List.pairwise_cons.1 hs).2
  have ha := (List.pairwise_cons.1 hs).1
  by_cases h : a < c
  · rw [List.countP_cons_of_pos (by simpa using h), List.take_succ_cons, List.drop_succ_cons]
    obtain ⟨h1, h2⟩ := ih hr
    refine ⟨fun x hx => ?_, h2⟩
    rcases List.mem_cons.1 hx with rfl | hx
    · exact h
    · exact h1 x hx
  · have hz : r.countP (· < c) = 0 := by
     rw [List.countP_eq_zero]
     intro x hx
     have := ha x hx
     simp
     omega
    rw [List.countP_cons_of_neg (by simpa using h), hz]
    refine ⟨fun x hx => by simp at hx, fun x hx => ?_⟩
    rcases List.mem_cons.1 hx with rfl | hx
    · omega
    · have := ha x hx; omega
theorem QgE {l : List Int} (hs : l.Pairwise (· < ·)) {c : Int} (hc : l.contains c = false) : (insL l c).Pairwise (· < ·) := by
 obtain ⟨h1, h2⟩ := QgO hs c
 have hn : ∀ x ∈ l, x ≠ c := fun x hx e => by
  subst e
  have : l.contains x = true := by simpa using hx
  rw [hc] at this
  cases this
 unfold insL
 rw [List.pairwise_append]
 refine ⟨hs.sublist (List.take_sublist _ _), List.pairwise_cons.2 ⟨fun x hx => ?_, hs.sublist (List.drop_sublist _ _)⟩, fun x hx y hy => ?_⟩
 · have a := h2 x hx
   have b := hn x (List.mem_of_mem_drop hx)
   omega
 · rcases List.mem_cons.1 hy with rfl | hy
   · exact h1 x hx
   · have a := h1 x hx
     have b := h2 y hy
     omega
theorem QlD (l : List Int) (c : Int) : (insL l c).length = l.length + 1 := by
 have : l.countP (· < c) ≤ l.length := List.countP_le_length
 unfold insL
 simp
 omega
theorem QbO {l : List Int} (hs : l.Pairwise (· < ·)) (c : Int) : (ownL l c).2.Pairwise (· < ·) := by
 unfold ownL
 split
 · exact hs
 · split
   · exact hs
   · exact QgE hs (by rename_i h _; simpa using h)
theorem QdS {l : List Int} (h : l.length ≤ 8) (c : Int) : (ownL l c).2.length ≤ 8 := by
 unfold ownL
 split
 · exact h
 · split
   · exact h
   · show (insL l c).length ≤ 8
     rw [QlD]
     omega
theorem QjG {l : List Int} {c : Int} (h : (ownL l c).1 ≠ 0) : (ownL l c).2 = l := by
 unfold ownL at h ⊢
 split
 · rfl
 · rename_i h1
   rw [if_neg h1] at h
   split
   · rfl
   · rename_i h2
     rw [if_neg h2] at h
     exact absurd rfl h
theorem Qbd (c : Int) (r o : List Int) : grantL (c :: r) o = if (ownL o c).1 = 0 then grantL r (ownL o c).2 else o := rfl
structure GoodT (th : Thr) : Prop where
 sorted : th.own.Pairwise (· < ·)
 own : th.own.length ≤ 8
 text : th.text.length ≤ 64
 objs : th.objs.length ≤ 4
 obj : ∀ o ∈ th.objs, o.text.length ≤ 64 ∧ goodL o.label
 mails : th.mails.length ≤ 6
 mail : ∀ m ∈ th.mails, mailE m = 0
 label : goodL th.label
structure GoodK (K : Ker) : Prop where
 four : K.ths.length = 4
 host : 0 ≤ K.host ∧ K.host < 4
 made : 0 ≤ K.made ∧ K.made ≤ 20
 ths : ∀ th ∈ K.ths, GoodT th
theorem Qj2 : goodL [] := ⟨by simp, by simp, by simp⟩
theorem Qc0 : GoodT zeroThr := ⟨by simp [zeroThr], by simp [zeroThr], by simp [zeroThr], by simp [zeroThr], by simp [zeroThr], by simp [zeroThr], by simp [zeroThr], Qj2⟩
theorem Qij {h : Int} (h0 : 0 ≤ h ∧ h < 4) : GoodK (freshKer h) := ⟨rfl, h0, ⟨by simp [freshKer], by simp [freshKer]⟩, fun th hth => by
 simp [freshKer] at hth
 rw [hth]
 exact Qc0⟩
theorem Qh0 {α : Type} {l : List α} {i : Nat} {a x : α} (h : x ∈ l.set i a) : x = a ∨ x ∈ l := by
 rcases List.mem_or_eq_of_mem_set h with h | h
 · exact Or.inr h
 · exact Or.inl h
theorem GoodK.set {K : Ker} (h : GoodK K) (i : Nat) {th : Thr} (ht : GoodT th) : GoodK { K with ths := K.ths.set i th } :=
 ⟨by simpa using h.four, h.host, h.made, fun x hx => (Qh0 hx).elim (fun e => by rw [e]; exact ht) (h.ths x)⟩
theorem Q9 {K : Ker} {t : Int} {th : Thr} (h : getT K t = some th) : ∃ n : Nat, t = n ∧ ∃ hn : n < K.ths.length, K.ths[n] = th := by
 unfold getT at h
 split at h
 · rename_i h0
   obtain ⟨hn, e⟩ := List.getElem?_eq_some_iff.1 h
   exact ⟨t.toNat, by omega, hn, e⟩
 · cases h
theorem Qdd {K : Ker} (h4 : K.ths.length = 4) {t : Int} (h : getT K t = none) : ¬ (0 ≤ t ∧ t < 4) := by
 rintro ⟨h0, h1⟩
 unfold getT at h
 rw [if_pos h0, List.getElem?_eq_none_iff] at h
 omega
theorem QcF {K : Ker} {n : Nat} (hn : n < K.ths.length) : getT K (n : Int) = some K.ths[n] := by
 unfold getT
 rw [if_pos (by omega), Int.toNat_natCast]
 exact List.getElem?_eq_getElem hn
theorem QaZ (K : Ker) (n : Nat) (th : Thr) : setT K (n : Int) th = { K with ths := K.ths.set n th } := by
 unfold setT
 rw [Int.toNat_natCast]
theorem QeN (l : List Int) {o : List Int} (hs : o.Pairwise (· < ·)) : (grantL l o).Pairwise (· < ·) := by
 induction l generalizing o with
 | nil => exact hs
 | cons c r ih =>
  rw [Qbd]
  split
  · exact ih (QbO hs c)
  · exact hs
theorem Qif (l : List Int) {o : List Int} (hl : o.length ≤ 8) : (grantL l o).length ≤ 8 := by
 induction l generalizing o with
 | nil => exact hl
 | cons c r ih =>
  rw [Qbd]
  split
  · exact ih (QdS hl c)
  · exact hl
theorem QhD (ms : List Mal) {th : Thr} (h : GoodT th) (hl : ms.length ≤ 6) (hm : ∀ m ∈ ms, mailE m = 0) : GoodT (takeL th ms).1 := by
 induction ms with
 | nil => exact ⟨h.sorted, h.own, h.text, h.objs, h.obj, by simp [takeL], by simp [takeL], h.label⟩
 | cons m r ih =>
  unfold takeL
  split
  · exact ⟨QeN _ h.sorted, Qif _ h.own, Qbr _, h.objs, h.obj, by simp at hl; show r.length ≤ 6; omega, fun x hx => hm x (List.mem_cons_of_mem _ hx), h.label⟩
  · exact ih (by simp at hl; omega) (fun x hx => hm x (List.mem_cons_of_mem _ hx))
theorem QfA {th : Thr} (h : GoodT th) (l : List (Int × Int)) : GoodT (objectL th l).1 := by
 unfold objectL
 split
 · rename_i hg
   split
   · split
     · exact h
     · rename_i hn
       refine ⟨h.sorted, h.own, h.text, by simp; omega, fun o ho => ?_, h.mails, h.mail, h.label⟩
       rcases List.mem_append.1 ho with ho | ho
       · exact h.obj o ho
       · rw [List.mem_singleton.1 ho]
         exact ⟨by simp, (QaC l).1 hg⟩
   · exact h
 · exact h
theorem Qgz {th : Thr} (h : GoodT th) (c n : Int) : GoodT (levelL th c n).1 := by
 unfold levelL
 split
 · rename_i he
   split
   · refine ⟨h.sorted, h.own, h.text, h.objs, h.obj, h.mails, h.mail, ?_⟩
     show goodL (setL th.label c n)
     unfold setE at he
     split at he
     · cases he
     · rename_i hb
       split at he
       · cases he
       · rename_i h8
         have hb2 : setB th.label c n = true := by simpa using hb
         unfold setB at hb2
         simp only [Bool.and_eq_true] at hb2
         exact Qj1 h.label hb2.1.2 hb2.2 (by omega)
   · exact h
 · exact h
theorem QjA {th : Thr} (h : GoodT th) (n : Int) {x : List UInt8} (hx : x.length ≤ 64) : GoodT (putO th n x) := by
 refine ⟨h.sorted, h.own, h.text, by simpa [putO] using h.objs, fun o ho => ?_, h.mails, h.mail, h.label⟩
 unfold putO at ho
 simp only at ho
 obtain ⟨i, hi, e⟩ := List.mem_iff_getElem.1 ho
 rw [List.getElem_modify] at e
 have hi2 : i < th.objs.length := by simpa using hi
 have hold := h.obj th.objs[i] (List.getElem_mem hi2)
 split at e
 · rw [← e]; exact ⟨hx, hold.2⟩
 · rw [← e]; exact hold
theorem QkD {th : Thr} (h : GoodT th) (m : Mal) : GoodT (boxL th m) := by
 unfold boxL
 split
 · rename_i g
   refine ⟨h.sorted, h.own, h.text, h.objs, h.obj, by simp; omega, fun x hx => ?_, h.label⟩
   rcases List.mem_append.1 hx with hx | hx
   · exact h.mail x hx
   · rw [List.mem_singleton.1 hx]; exact g.1
 · exact h
theorem QeX {th : Thr} (h : GoodT th) (x : List UInt8) : GoodT { th with text := lastL x } := ⟨h.sorted, h.own, Qbr _, h.objs, h.obj, h.mails, h.mail, h.label⟩
theorem QjB {K : Ker} (h : GoodK K) (th : Thr) (c : Cal) : GoodK (putL K th c) := by
 unfold putL
 split
 · rename_i u o hu _
   split
   · obtain ⟨n, _, hn, rfl⟩ := Q9 hu
     exact h.set _ (QjA (h.ths _ (List.getElem_mem hn)) _ (Qbr _))
   · exact h
 · exact h
theorem Qj5 {K : Ker} (h : GoodK K) (t : Int) {th : Thr} (ht : GoodT th) (c : Cal) : GoodK (getL K t th c).1 := by
 unfold getL
 split
 · exact h
 · split
   · exact h.set _ (QeX ht _)
   · exact h
theorem QeG {K : Ker} (h : GoodK K) (t : Int) {th : Thr} (ht : GoodT th) : GoodK (categoryL K t th).1 := by
 unfold categoryL
 split
 · exact h
 · rename_i hm
   split
   · have hk := h.set t.toNat (th := { th with own := (ownL th.own (K.host * 20 + K.made)).2 }) ⟨QbO ht.sorted _, QdS ht.own _, ht.text, ht.objs, ht.obj, ht.mails, ht.mail, ht.label⟩
     have := h.made
     exact ⟨hk.four, hk.host, ⟨by show 0 ≤ K.made + 1; omega, by show K.made + 1 ≤ 20; omega⟩, hk.ths⟩
   · exact h
theorem QiM {K : Ker} (h : GoodK K) (t : Int) {th : Thr} (ht : GoodT th) (c : Cal) : GoodK (callT K t th c).1 := by
 unfold callT
 split
 · exact h
 · split
   · exact QeG h t ht
   · split
     · exact h.set _ (QfA ht _)
     · split
       · exact QjB h th c
       · split
         · exact Qj5 h t ht c
         · split
           · exact h.set _ (Qgz ht _ _)
           · split
             · exact h.set _ (QhD _ ht ht.mails ht.mail)
             · split
               · exact h.set _ (QeX ht _)
               · split
                 · exact h
                 · exact h
theorem QiO {K : Ker} (h : GoodK K) (t : Int) (c : Cal) : GoodK (callL K t c).1 := by
 unfold callL
 split
 · exact h
 · rename_i th hth
   obtain ⟨n, _, hn, rfl⟩ := Q9 hth
   exact QiM h t (h.ths _ (List.getElem_mem hn)) c
theorem Qck {K : Ker} (h : GoodK K) (t : Int) (m : Mal) : GoodK (deliverL K t m) := by
 unfold deliverL
 split
 · exact h
 · rename_i th hth
   obtain ⟨n, _, hn, rfl⟩ := Q9 hth
   exact h.set _ (QkD (h.ths _ (List.getElem_mem hn)) m)
structure GoodC (C : Clu) : Prop where
 ks : ∀ h, h < 4 → GoodK (C.ks h)
 now : 0 ≤ C.now ∧ C.now ≤ 1099511627776
 acts : C.acts ≤ 300
 net : C.net.length ≤ 60
theorem QaN : GoodC freshClu := ⟨fun h hh => Qij (by omega), by decide, by decide, by decide⟩
theorem GoodC.ker {C : Clu} (h : GoodC C) {a : Int} (ha : hostB a = true) : GoodK (kerC C a) := by
 have : 0 ≤ a ∧ a < 4 := of_decide_eq_true ha
 exact h.ks _ (by omega)
theorem Qc4 {C : Clu} (h : GoodC C) (a : Int) {K : Ker} (hK : GoodK K) : GoodC (setK C a K) :=
 ⟨fun g hg => by
  show GoodK (if g = a.toNat then K else C.ks g)
  split
  · exact hK
  · exact h.ks g hg, h.now, h.acts, h.net⟩
theorem Qjs {C : Clu} (h : GoodC C) (a : Int) (l : List Crt) : GoodC (setC C a l) := ⟨h.ks, h.now, h.acts, h.net⟩
theorem Qaj {C : Clu} (h : GoodC C) (a b : Int) (l : Lne) : GoodC (setLi C a b l) := ⟨h.ks, h.now, h.acts, h.net⟩
theorem Qb7 {C : Clu} (h : GoodC C) (f : Frm) : GoodC (putC C f) := by
 unfold putC
 split
 · rename_i h1
   exact ⟨h.ks, h.now, h.acts, by show (C.net ++ [encL f]).length ≤ 60; simp; omega⟩
 · exact h
theorem Qfo {C : Clu} (h : GoodC C) (a : Int) (x : Crt) : GoodC (addC C a x).1 := by
 unfold addC
 split
 · exact Qjs h _ _
 · exact h
theorem Qa2 : ∀ (l : List Crt) {C : Clu} (_ : GoodC C) (a : Int), GoodC (takeC C a l)
 | [], _, h, _ => h
 | x :: r, _, h, a => Qa2 r (Qfo h a x) a
theorem QiU {C : Clu} (h : GoodC C) (fr to t : Int) (m : Mal) : GoodC (awayC C fr to t m).1 := by
 unfold awayC
 split
 · dsimp only
   split
   · exact Qb7 (Qaj h _ _ _) _
   · exact h
 · exact h
theorem QhK {C : Clu} (h : GoodC C) (a t : Int) (c : Cal) (ha : hostB a = true) : GoodC (sendC C a t c).1 := by
 unfold sendC
 split
 · exact h
 · split
   · split
     · split
       · exact Qc4 h _ (Qck (h.ker ha) _ _)
       · exact QiU h _ _ _ _
     · exact h
   · exact h
theorem QeQ {C : Clu} (h : GoodC C) (a t : Int) (c : Cal) : GoodC (certifyC C a t c).1 := by
 unfold certifyC
 split
 · split
   · exact Qfo h _ _
   · exact h
 · exact h
theorem QiQ {C : Clu} (h : GoodC C) (a t : Int) (c : Cal) : GoodC (callC C a t c).1 := by
 unfold callC
 split
 · rename_i h1
   have ha : hostB a = true := by
    rw [Bool.and_eq_true] at h1
    exact h1.1
   split
   · exact QhK h _ _ _ ha
   · split
     · exact QeQ h _ _ _
     · exact Qc4 h _ (QiO (h.ker ha) _ _)
 · exact h
theorem Qab {f : Frm} (h : frameE f = 0) : hostB f.fr = true ∧ hostB f.to = true ∧ hostB f.thread = true := by
 unfold frameE at h
 split at h
 · rename_i h1
   unfold headB twoB at h1
   simp only [Bool.and_eq_true] at h1
   exact ⟨h1.1.1.1.1.1, h1.1.1.1.1.2, h1.2⟩
 · cases h
theorem Qcd {s : List UInt8} (h : (decL s).2 = 0) : frameE (decL s).1 = 0 := by
 unfold decL at h ⊢
 split
 · rename_i h1
   rw [if_pos h1] at h
   split
   · rename_i h2
     exact h2
   · rename_i h2
     rw [if_neg h2] at h
     exact absurd h h2
 · rename_i h1
   rw [if_neg h1] at h
   cases h
theorem QfW {C : Clu} (h : GoodC C) {f : Frm} (hf : hostB f.to = true) : GoodC (acceptC C f) := by
 unfold acceptC
 dsimp only
 split
 · exact Qc4 (Qa2 _ h _) _ (Qck ((Qa2 _ h _).ker hf) _ _)
 · exact Qa2 _ h _
theorem QiC {C : Clu} (h : GoodC C) (s : List UInt8) : GoodC (comeC C s) := by
 unfold comeC
 split
 · rename_i h1
   have hf := (Qab (Qcd h1)).2.1
   dsimp only
   split
   · exact Qaj h _ _ _
   · have hE : ∀ (b : Prop) [Decidable b] (D : Clu) (g : Frm), GoodC D → GoodC (if b then putC D g else D) := fun b _ D g hD => by
      split
      · exact Qb7 hD _
      · exact hD
     split
     · exact QfW (hE _ _ _ (Qaj h _ _ _)) hf
     · exact hE _ _ _ (Qaj h _ _ _)
 · exact h
theorem QhZ {C : Clu} (h : GoodC C) (kind n : Int) : GoodC (moveC C kind n).1 := by
 unfold moveC
 split
 · dsimp only
   have hD : ∀ (b : Prop) [Decidable b], GoodC (if b then C else { C with net := C.net.take n.toNat ++ C.net.drop (n.toNat + 1) }) := fun b _ => by
    split
    · exact h
    · exact ⟨h.ks, h.now, h.acts, by have := h.net; show (C.net.take n.toNat ++ C.net.drop (n.toNat + 1)).length ≤ 60; rw [List.length_append, List.length_take, List.length_drop]; omega⟩
   split
   · exact hD _
   · exact QiC (hD _) _
 · exact h
theorem Qa7 : ∀ (l : List Frm) {C : Clu} (_ : GoodC C), GoodC (l.foldl putC C)
 | [], _, h => h
 | f :: r, _, h => Qa7 r (Qb7 h f)
theorem Qhj {C : Clu} (h : GoodC C) (a b : Int) : GoodC (againC C a b).1 := by
 unfold againC
 exact Qa7 _ (Qaj h _ _ _)
theorem QaH : ∀ (l : List (Int × Int)) (s : Clu × Nat) (_ : GoodC s.1), GoodC (l.foldl (fun (s : Clu × Nat) ab => ((againC s.1 ab.1 ab.2).1, s.2 + (againC s.1 ab.1 ab.2).2)) s).1
 | [], _, h => h
 | x :: r, s, h => by
  rw [List.foldl_cons]
  exact QaH r _ (Qhj h _ _)
theorem Qhx {C : Clu} (h : GoodC C) (n : Int) : GoodC (tickC C n).1 := by
 unfold tickC
 split
 · dsimp only
   rename_i h1
   exact QaH _ _ ⟨h.ks, by have := h.now; show 0 ≤ C.now + n ∧ C.now + n ≤ 1099511627776; omega, h.acts, h.net⟩
 · exact h
theorem QaL {C : Clu} (h : GoodC C) (a : Ac) : GoodC (doC C a).1 := by
 unfold doC
 split
 · exact h
 · dsimp only
   have hD : GoodC { C with acts := C.acts + 1 } := ⟨h.ks, h.now, by show C.acts + 1 ≤ 300; omega, h.net⟩
   split
   · exact QiQ hD _ _ _
   · split
     · exact QhZ hD _ _
     · split
       · exact Qhx hD _
       · exact hD
def thrOf (K : Ker) (t : Int) : Thr := (getT K t).getD zeroThr
theorem Qbp {K : Ker} {n : Nat} (h : n < K.ths.length) : thrOf K n = K.ths[n] := by unfold thrOf; rw [QcF h]; rfl
theorem QlI {K K' : Ker} {i : Nat} (hi : i < K.ths.length) {th : Thr} (h : K'.ths = K.ths.set i th) (u : Int) : getT K' u = if u = i then some th else getT K u := by
 unfold getT
 by_cases h0 : 0 ≤ u
 · rw [if_pos h0, if_pos h0, h]
   by_cases e : u = i
   · subst e
     rw [if_pos rfl, Int.toNat_natCast, List.getElem?_set_self hi]
   · rw [if_neg e, List.getElem?_set_ne (by omega)]
 · rw [if_neg h0, if_neg h0, if_neg (by omega)]
theorem Qjk {K K' : Ker} {i : Nat} (hi : i < K.ths.length) {th : Thr} (h : K'.ths = K.ths.set i th) (u : Int) : thrOf K' u = if u = i then th else thrOf K u := by
 unfold thrOf
 rw [QlI hi h]
 split <;> rfl
structure SelfStep (K : Ker) (th th2 : Thr) (c : Cal) (r : Rep) : Prop where
 label : th2.label = th.label ∨ (c.kind = 5 ∧ r.code = 0 ∧ flowsL th.label th2.label th.own = true)
 own : ∀ x ∈ th.own, x ∈ th2.own
 objs : th2.objs = th.objs ∨ ∃ o, th2.objs = th.objs ++ [o]
 text : th2.text = th.text ∨ c.kind = 9 ∨ (c.kind = 7 ∧ r.code = 0) ∨ (c.kind = 4 ∧ r.code = 0 ∧ th2.objs = th.objs ∧ ∃ o, objAt K c.t c.n = some o ∧ flowsL o.label th.label th.own = true)
theorem SelfStep.refl (K : Ker) (th : Thr) (c : Cal) (r : Rep) : SelfStep K th th c r := ⟨.inl rfl, fun _ h => h, .inl rfl, .inl rfl⟩
def firstN (q : Int) : Nat → List Snt → Int
 | _, [] => -1
 | k, s :: r => if s.f.seq = q then k else firstN q (k + 1) r
theorem firstN_or (q : Int) : ∀ (l : List Snt) (k : Nat), (firstN q k l = -1 ∧ ∀ s ∈ l, s.f.seq ≠ q) ∨ ∃ (i : Nat) (h : i < l.length), firstN q k l = ((k + i : Nat) : Int) ∧ (l[i]).f.seq = q
 | [], _ => Or.inl ⟨rfl, fun s hs => absurd hs (by simp)⟩
 | s :: r, k => by
  by_cases hs : s.f.seq = q
  · exact Or.inr ⟨0, by simp, by simp [firstN, hs], hs⟩
  · rcases firstN_or q r (k + 1) with ⟨h1, h2⟩ | ⟨i, hi, h1, h2⟩
    · refine Or.inl ⟨by simp [firstN, hs, h1], fun x hx => ?_⟩
      rcases List.mem_cons.1 hx with e | hx
      · rw [e]; exact hs
      · exact h2 x hx
    · refine Or.inr ⟨i + 1, by simpa using hi, ?_, by simpa using h2⟩
      simp only [firstN, hs, if_false]
      rw [h1]
      congr 1
      omega
theorem Ql8 {l : Lne} {q : Int} (hg : goodLn l = true) (h : ∀ s ∈ l.sent, s.f.seq ≠ q) : ansLn l q = (l, 4) := by
 unfold ansLn
 rw [if_pos hg, if_pos]
 rw [List.all_eq_true]
 intro s hs
 simpa using h s hs
theorem Ql6 {l : Lne} {q : Int} (hg : goodLn l = true) (i : Nat) (hi : i < l.sent.length) (h : (l.sent[i]).f.seq = q) : ansLn l q = ({ l with sent := l.sent.take i ++ l.sent.drop (i + 1) }, 0) := by
 unfold ansLn
 have hne : ¬ (l.sent.all (fun s => !(s.f.seq == q)) = true) := fun ha => by
  have := List.all_eq_true.1 ha _ (List.getElem_mem hi)
  simp [h] at this
 rw [if_pos hg, if_neg hne, ← h, Qd7 (Qap hg) i hi]
theorem Qmw {l : Lne} {q : Int} (hg : goodLn l = false) : ansLn l q = (l, 2) := by
 unfold ansLn
 rw [hg]
 rfl
def pairsC : List (Int × Int) := [0, 1, 2, 3].flatMap fun a => [0, 1, 2, 3].map fun b => ((a : Int), (b : Int))
def stepT (s : Clu × Nat) (ab : Int × Int) : Clu × Nat := ((againC s.1 ab.1 ab.2).1, s.2 + (againC s.1 ab.1 ab.2).2)
def tickN (D : Clu) (k : Nat) : Clu × Nat := (pairsC.take k).foldl stepT (D, 0)
theorem QhS : ∀ i, i < 4 → ∀ j, j < 4 → pairsC.take (i * 4 + j + 1) = pairsC.take (i * 4 + j) ++ [((i : Int), (j : Int))] := by decide
theorem Qhv (D : Clu) {i j : Nat} (hi : i < 4) (hj : j < 4) : tickN D (i * 4 + j + 1) = ((againC (tickN D (i * 4 + j)).1 i j).1, (tickN D (i * 4 + j)).2 + (againC (tickN D (i * 4 + j)).1 i j).2) := by
 unfold tickN
 rw [QhS i hi j hj, List.foldl_append]
 rfl
theorem Qk1 {C : Clu} {n : Int} (h1 : 1 ≤ n) (h2 : n ≤ 1099511627776 - C.now) : tickC C n = ((tickN { C with now := C.now + n } 16).1, ⟨0, ((tickN { C with now := C.now + n } 16).2 : Int), []⟩) := by
 unfold tickC
 rw [if_pos ⟨h1, h2⟩]
 rfl
theorem Qjj {C : Clu} {n : Int} (h : ¬ (1 ≤ n ∧ n ≤ 1099511627776 - C.now)) : tickC C n = (C, code 2) := by
 unfold tickC
 rw [if_neg h]
theorem Qhw {D : Clu} (h : GoodC D) (k : Nat) : GoodC (tickN D k).1 := QaH (pairsC.take k) (D, 0) h
def aliveA : Ac := ⟨1, 2, 0, 0, ⟨1, 0, 0, 0, 0, [], [], []⟩⟩
def aliveB : Ac := ⟨1, 2, 0, 0, ⟨6, 1, 3, 0, 0, [], [], [104, 105]⟩⟩
theorem Qmy : (doC freshClu aliveA).2.n = 40 := by rfl
def aliveM : Mal := ⟨2, 0, [], [], [104, 105]⟩
theorem QcQ : Lib.compact ([] : List Int) = [] := by
 refine List.eq_nil_iff_forall_not_mem.2 fun x hx => ?_
 rw [Qdr] at hx
 cases hx
theorem Qhg : namesL aliveM = [] := by
 unfold namesL aliveM
 simp [QcQ]
theorem Qhh (own : List Int) : flowsL [] [] own = true := by
 unfold flowsL catsL
 simp [QcQ]
theorem QkH : getT ((doC freshClu aliveA).1.ks 2) 0 = some ⟨[], [40], [], [], []⟩ := by rfl
theorem QfU : letterL ((doC freshClu aliveA).1.ks 2) 0 aliveB.call = (aliveM, 0) := by
 unfold letterL
 rw [QkH]
 have hm : letterM ((doC freshClu aliveA).1.ks 2) 0 aliveB.call ⟨[], [40], [], [], []⟩ = aliveM := by rfl
 simp only [hm]
 have h0 : mayL ⟨[], [40], [], [], []⟩ aliveM = 0 := by
  unfold mayL
  rw [if_pos (by decide), if_pos (by rfl)]
  show (if flowsL [] [] [40] = true then (0 : Int) else 6) = 0
  rw [Qhh]
  rfl
 rw [if_pos h0]
theorem QkJ (l : List Crt) : mayB l 1 aliveM 0 = true := by
 unfold mayB
 rw [Qhg]
 rfl
theorem QiW : showL [] aliveM = [] := rfl
theorem QkM : (doC freshClu aliveA).1.certs 2 = [] := by rfl
theorem QkK : (doC freshClu aliveA).1.lines 2 1 = zeroLne := by rfl
theorem QkI : (doC freshClu aliveA).1.now = 0 := by rfl
theorem QiZ : (doC freshClu aliveA).1.acts = 1 := by rfl
theorem QiY : (doC freshClu aliveA).1.net = [] := by rfl
def aliveF : Frm := ⟨2, 1, 0, false, 3, aliveM, []⟩
theorem QiX : sendLn zeroLne aliveF 0 = (⟨1, [⟨{ aliveF with seq := 1 }, 1, 2⟩], 0, zeroLne.seen⟩, { aliveF with seq := 1 }, 0) := by
 unfold sendLn
 rw [if_pos (by decide), if_neg (by decide)]
 rfl
theorem QkL : frameE { aliveF with seq := 1 } = 0 := by decide
theorem QkG : (doC (doC freshClu aliveA).1 aliveB).2.code = 0 ∧ (doC (doC freshClu aliveA).1 aliveB).1.net.length = 1 := by
 have h1 := QfU
 have h2 := QkM
 have h3 := QkK
 have h4 := QkI
 have h5 := QiZ
 have h6 := QiY
 generalize (doC freshClu aliveA).1 = C at *
 have e1 : doC C aliveB = callC { C with acts := C.acts + 1 } 2 0 aliveB.call := by
  unfold doC
  rw [if_neg (by omega)]
  rfl
 generalize hD : ({ C with acts := C.acts + 1 } : Clu) = D at e1
 have d1 : letterL (kerC D 2) 0 aliveB.call = (aliveM, 0) := by rw [← hD]; exact h1
 have d2 : crtC D 2 = [] := by rw [← hD]; exact h2
 have d3 : lineC D 2 1 = zeroLne := by rw [← hD]; exact h3
 have d4 : D.now = 0 := by rw [← hD]; exact h4
 have d6 : D.net = [] := by rw [← hD]; exact h6
 have e2 : callC D 2 0 aliveB.call = ((sendC D 2 0 aliveB.call).1, code (sendC D 2 0 aliveB.call).2) := by
  unfold callC
  rfl
 have e3 : sendC D 2 0 aliveB.call = awayC D 2 1 3 aliveM := by
  unfold sendC
  rw [if_neg (by decide), d1]
  rfl
 have e4 : awayC D 2 1 3 aliveM = (putC (setLi D 2 1 ⟨1, [⟨{ aliveF with seq := 1 }, 1, 2⟩], 0, zeroLne.seen⟩) { aliveF with seq := 1 }, 0) := by
  unfold awayC
  rw [d2, d3, d4, QkJ, if_pos rfl]
  simp only [QiW]
  show (if (sendLn zeroLne aliveF 0).2.2 = 0 then (putC (setLi D 2 1 (sendLn zeroLne aliveF 0).1) (sendLn zeroLne aliveF 0).2.1, (0 : Int)) else (D, (sendLn zeroLne aliveF 0).2.2)) = _
  simp only [QiX, if_pos]
 rw [e1, e2, e3, e4]
 refine ⟨rfl, ?_⟩
 unfold putC
 rw [if_pos ⟨QkL, by show D.net.length < 60; rw [d6]; decide⟩]
 show (D.net ++ _).length = 1
 rw [d6]
 rfl
theorem Qbz (C : Clu) (f : Frm) : (putC C f).ks = C.ks ∧ (putC C f).certs = C.certs ∧ (putC C f).now = C.now := by
 unfold putC
 split <;> exact ⟨rfl, rfl, rfl⟩
theorem QcM {K : Ker} {t : Int} {c : Cal} (h : (letterL K t c).2 = 0) : ∃ th, getT K t = some th ∧ letterL K t c = (letterM K t c th, 0) ∧ mailE (letterM K t c th) = 0 ∧ (∀ g ∈ c.grants, g ∈ th.own) ∧ flowsL th.label c.label th.own = true := by
 unfold letterL at h ⊢
 cases hth : getT K t with
 | none =>
  rw [hth] at h
  cases h
 | some th =>
  rw [hth] at h
  simp only at h ⊢
  by_cases h1 : mayL th (letterM K t c th) = 0
  · rw [if_pos h1]
    refine ⟨th, rfl, rfl, ?_⟩
    unfold mayL at h1
    by_cases h2 : mailE (letterM K t c th) = 0
    · rw [if_pos h2] at h1
      by_cases h3 : (letterM K t c th).grants.all (th.own.contains ·) = true
      · rw [if_pos h3] at h1
        by_cases h4 : flowsL th.label (letterM K t c th).label th.own = true
        · exact ⟨h2, fun g hg => by have := List.all_eq_true.1 h3 g hg; simpa using this, h4⟩
        · rw [if_neg h4] at h1
          cases h1
      · rw [if_neg h3] at h1
        cases h1
    · rw [if_neg h2] at h1
      exact absurd h1 h2
  · rw [if_neg h1] at h
    exact absurd h h1
theorem Qfs (C : Clu) (h : Int) (x : Crt) : (addC C h x).1.ks = C.ks ∧ (addC C h x).1.now = C.now := by unfold addC; split <;> exact ⟨rfl, rfl⟩
theorem QdN : ∀ (l : List Crt) (C : Clu) (h : Int), (takeC C h l).ks = C.ks ∧ (takeC C h l).now = C.now
 | [], _, _ => ⟨rfl, rfl⟩
 | x :: r, C, h => by
  have h1 := QdN r (addC C h x).1 h
  have h2 := Qfs C h x
  exact ⟨h1.1.trans h2.1, h1.2.trans h2.2⟩
theorem Ql2 (C : Clu) (fr to t : Int) (m : Mal) : (awayC C fr to t m).1.ks = C.ks := by
 unfold awayC
 split
 · dsimp only
   split
   · exact (Qbz _ _).1
   · rfl
 · rfl
theorem Qha (C : Clu) (h t : Int) (c : Cal) : (certifyC C h t c).1.ks = C.ks := by
 unfold certifyC
 split
 · split
   · exact (Qfs _ _ _).1
   · rfl
 · rfl
theorem QcN : ∀ (l : List Frm) (C : Clu), (l.foldl putC C).ks = C.ks
 | [], _ => rfl
 | f :: r, C => by rw [List.foldl_cons, QcN r, (Qbz _ _).1]
theorem QkO (C : Clu) (a b : Int) : (againC C a b).1.ks = C.ks := by
 unfold againC
 dsimp only
 rw [QcN]
 rfl
theorem QbZ : ∀ (l : List (Int × Int)) (s : Clu × Nat), (l.foldl (fun (s : Clu × Nat) ab => ((againC s.1 ab.1 ab.2).1, s.2 + (againC s.1 ab.1 ab.2).2)) s).1.ks = s.1.ks
 | [], _ => rfl
 | x :: r, s => by rw [List.foldl_cons, QbZ r]; exact QkO _ _ _
theorem QdL (C : Clu) (n : Int) : (tickC C n).1.ks = C.ks := by
 unfold tickC
 split
 · dsimp only
   rw [QbZ]
 · rfl
def FromHere (C : Clu) (a : Ac) (r : Rep) (g : Nat) (t : Int) (m : Mal) : Prop := a.kind = 1 ∧ a.h = g ∧ a.call.kind = 6 ∧ a.call.h = g ∧ t = a.call.t ∧ r.code = 0 ∧ letterL (C.ks g) a.t a.call = (m, 0)
def FromFar (C D : Clu) (g : Nat) (t : Int) (m : Mal) : Prop := ∃ f : Frm, frameE f = 0 ∧ f.ack = false ∧ f.to = g ∧ t = f.thread ∧ m = f.mail ∧ mayB (D.certs g) f.fr m D.now = true ∧ (∃ s ∈ C.net, (decL s) = (f, 0)) ∧ (takeLn (C.lines f.fr.toNat g) f.seq).2 = 0
def KMove (C D : Clu) (a : Ac) (r : Rep) (g : Nat) : Prop :=
 D.ks g = C.ks g ∨ (a.kind = 1 ∧ a.h = g ∧ hostB a.t = true ∧ a.call.kind ≠ 6 ∧ a.call.kind ≠ 8 ∧ D.ks g = (callL (C.ks g) a.t a.call).1 ∧ r = (callL (C.ks g) a.t a.call).2) ∨
  ∃ t m, D.ks g = deliverL (C.ks g) t m ∧ (FromHere C a r g t m ∨ FromFar C D g t m)
theorem Qb2 {C : Clu} {h : Int} {K : Ker} {g : Nat} : (setK C h K).ks g = if g = h.toNat then K else C.ks g := rfl
theorem doC_ks (C : Clu) (a : Ac) (g : Nat) : KMove C (doC C a).1 a (doC C a).2 g := by
 unfold doC
 by_cases h3 : 300 ≤ C.acts
 · rw [if_pos h3]; exact .inl rfl
 rw [if_neg h3]
 dsimp only
 by_cases k1 : a.kind = 1
 · rw [if_pos k1]
   unfold callC
   by_cases h4 : (hostB a.h && hostB a.t) = true
   · rw [if_pos h4]
     rw [Bool.and_eq_true] at h4
     have hh : 0 ≤ a.h ∧ a.h < 4 := of_decide_eq_true h4.1
     by_cases k6 : a.call.kind = 6
     · rw [if_pos k6]
       unfold sendC
       by_cases g1 : 64 < a.call.text.length
       · rw [if_pos g1]; exact .inl rfl
       rw [if_neg g1]
       by_cases g2 : (hostB a.call.h && hostB a.call.t) = true
       · rw [if_pos g2]
         by_cases g3 : (letterL (kerC { C with acts := C.acts + 1 } a.h) a.t a.call).2 = 0
         · rw [if_pos g3]
           by_cases g4 : a.call.h = a.h
           · rw [if_pos g4]
             by_cases e : g = a.h.toNat
             · refine .inr (.inr ⟨a.call.t, (letterL (C.ks g) a.t a.call).1, ?_, .inl ⟨k1, by omega, k6, by omega, rfl, rfl, ?_⟩⟩)
               · rw [Qb2, if_pos e, e]
                 rfl
               · rw [e]
                 exact Prod.ext rfl g3
             · exact .inl (by rw [Qb2, if_neg e])
           · rw [if_neg g4]
             exact .inl (by show (awayC _ _ _ _ _).1.ks g = _; rw [Ql2])
         · rw [if_neg g3]; exact .inl rfl
       · rw [if_neg g2]; exact .inl rfl
     · rw [if_neg k6]
       by_cases k8 : a.call.kind = 8
       · rw [if_pos k8]
         exact .inl (by show (certifyC _ _ _ _).1.ks g = _; rw [Qha])
       · rw [if_neg k8]
         by_cases e : g = a.h.toNat
         · refine .inr (.inl ⟨k1, by omega, h4.2, k6, k8, ?_, ?_⟩)
           · rw [Qb2, if_pos e, e]
             rfl
           · rw [e]
             rfl
         · exact .inl (by rw [Qb2, if_neg e])
   · rw [if_neg h4]; exact .inl rfl
 · rw [if_neg k1]
   by_cases k2 : a.kind = 2 ∨ a.kind = 3 ∨ a.kind = 4
   · rw [if_pos k2]
     unfold moveC
     by_cases h5 : 0 ≤ a.n ∧ a.n < ((C.net.length : Nat) : Int)
     · rw [if_pos h5]
       dsimp only
       have hmem : C.net.getD a.n.toNat [] ∈ C.net := by
        rw [List.getD_eq_getElem?_getD, List.getElem?_eq_getElem (by omega)]
        exact List.getElem_mem _
       generalize C.net.getD a.n.toNat [] = s at *
       have hB : ∀ (b : Prop) [Decidable b] (x : List (List UInt8)), (if b then ({ C with acts := C.acts + 1 } : Clu) else { C with acts := C.acts + 1, net := x }).ks = C.ks ∧ (if b then ({ C with acts := C.acts + 1 } : Clu) else { C with acts := C.acts + 1, net := x }).lines = C.lines := fun b _ x => by split <;> exact ⟨rfl, rfl⟩
       by_cases k4 : a.kind = 4
       · rw [if_pos k4]
         exact .inl (by rw [(hB _ _).1])
       · rw [if_neg k4]
         have hD := hB (a.kind = 3) (C.net.take a.n.toNat ++ C.net.drop (a.n.toNat + 1))
         generalize (if a.kind = 3 then ({ C with acts := C.acts + 1 } : Clu) else { C with acts := C.acts + 1, net := C.net.take a.n.toNat ++ C.net.drop (a.n.toNat + 1) }) = D0 at *
         unfold comeC
         by_cases h6 : (decL s).2 = 0
         · rw [if_pos h6]
           dsimp only
           have hfe := Qcd h6
           have hds : decL s = ((decL s).1, 0) := Prod.ext rfl h6
           generalize (decL s).1 = f at *
           by_cases hk : f.ack = true
           · rw [if_pos hk]
             exact .inl (by show D0.ks g = _; rw [hD.1])
           · rw [if_neg hk]
             generalize hE : (if (takeLn (lineC D0 f.fr f.to) f.seq).2 = 0 ∨ (takeLn (lineC D0 f.fr f.to) f.seq).2 = 10 then putC (setLi D0 f.fr f.to (takeLn (lineC D0 f.fr f.to) f.seq).1) ⟨f.to, f.fr, f.seq, true, 0, zeroMal, []⟩ else setLi D0 f.fr f.to (takeLn (lineC D0 f.fr f.to) f.seq).1) = E
             have hEk : E.ks = C.ks := by
              rw [← hE]
              split
              · rw [(Qbz _ _).1]; exact hD.1
              · exact hD.1
             by_cases h7 : (takeLn (lineC D0 f.fr f.to) f.seq).2 = 0
             · rw [if_pos h7]
               unfold acceptC
               dsimp only
               have hTk := QdN f.certs E f.to
               generalize takeC E f.to f.certs = T at *
               by_cases h8 : mayB (crtC T f.to) f.fr f.mail T.now = true
               · rw [if_pos h8]
                 by_cases e : g = f.to.toNat
                 · have hto : 0 ≤ f.to ∧ f.to < 4 := of_decide_eq_true (Qab hfe).2.1
                   refine .inr (.inr ⟨f.thread, f.mail, ?_, .inr ⟨f, hfe, by simpa using hk, by omega, rfl, rfl, ?_, ⟨s, hmem, hds⟩, ?_⟩⟩)
                   · rw [Qb2, if_pos e]
                     unfold kerC
                     rw [hTk.1, hEk, e]
                   · rw [e]; exact h8
                   · rw [e, ← hD.2]; exact h7
                 · exact .inl (by rw [Qb2, if_neg e, hTk.1, hEk])
               · rw [if_neg h8]
                 exact .inl (by rw [hTk.1, hEk])
             · rw [if_neg h7]
               exact .inl (by rw [hEk])
         · rw [if_neg h6]
           exact .inl (by rw [hD.1])
     · rw [if_neg h5]; exact .inl rfl
   · rw [if_neg k2]
     by_cases k5 : a.kind = 5
     · rw [if_pos k5]
       exact .inl (by rw [QdL])
     · rw [if_neg k5]; exact .inl rfl
theorem QcD {K : Ker} {n : Nat} (hn : n < K.ths.length) (th : Thr) (u : Int) : thrOf (setT K n th) u = if u = n then th else thrOf K u := Qjk hn (by unfold setT; rw [Int.toNat_natCast]) u
theorem Qdl {th : Thr} : ∀ (ms : List Mal), ∃ k, (takeL th ms).1.mails = ms.drop k
 | [] => ⟨0, rfl⟩
 | m :: r => by
  rw [takeL]
  split
  · exact ⟨1, rfl⟩
  · obtain ⟨k, e⟩ := Qdl (th := th) r
    exact ⟨k + 1, e⟩
theorem Qhb {K : Ker} {n : Nat} (hn : n < K.ths.length) (c : Cal) (u : Int) : ∃ k, (thrOf (callL K n c).1 u).mails = (thrOf K u).mails.drop k := by
 have e : callL K n c = callT K n K.ths[n] c := by unfold callL; rw [QcF hn]
 have hT : thrOf K n = K.ths[n] := Qbp hn
 have same : ∃ k, (thrOf K u).mails = (thrOf K u).mails.drop k := ⟨0, rfl⟩
 have put : ∀ (th2 : Thr) (k : Nat), th2.mails = K.ths[n].mails.drop k → ∃ k, (thrOf (setT K n th2) u).mails = (thrOf K u).mails.drop k := fun th2 k h => by
  rw [QcD hn]
  split
  · rename_i hu
    rw [hu, hT]; exact ⟨k, h⟩
  · exact same
 rw [e]
 unfold callT
 by_cases g0 : 64 < c.text.length
 · rw [if_pos g0]; exact same
 rw [if_neg g0]
 by_cases g1 : c.kind = 1
 · rw [if_pos g1]
   unfold categoryL
   split
   · exact same
   · split
     · exact put { K.ths[n] with own := (ownL K.ths[n].own (K.host * 20 + K.made)).2 } 0 rfl
     · exact same
 rw [if_neg g1]
 by_cases g2 : c.kind = 2
 · rw [if_pos g2]
   refine put (objectL K.ths[n] c.label).1 0 ?_
   unfold objectL
   split
   · split
     · split <;> rfl
     · rfl
   · rfl
 rw [if_neg g2]
 by_cases g3 : c.kind = 3
 · rw [if_pos g3]
   show ∃ k, (thrOf (putL K K.ths[n] c) u).mails = _
   unfold putL
   split
   · rename_i v o hv ho
     split
     · obtain ⟨k, hk, hk2, hk3⟩ := Q9 hv
       rw [hk, QcD hk2]
       split
       · rename_i hu
         rw [hu, Qbp hk2, hk3]
         exact ⟨0, rfl⟩
       · exact same
     · exact same
   · exact same
 rw [if_neg g3]
 by_cases g4 : c.kind = 4
 · rw [if_pos g4]
   unfold getL
   split
   · exact same
   · rename_i o _
     split
     · exact put { K.ths[n] with text := lastL (K.ths[n].text ++ o.text) } 0 rfl
     · exact same
 rw [if_neg g4]
 by_cases g5 : c.kind = 5
 · rw [if_pos g5]
   refine put (levelL K.ths[n] c.c c.n).1 0 ?_
   unfold levelL
   split
   · split <;> rfl
   · rfl
 rw [if_neg g5]
 by_cases g7 : c.kind = 7
 · rw [if_pos g7]
   obtain ⟨k, hk⟩ := Qdl (th := K.ths[n]) K.ths[n].mails
   exact put (takeL K.ths[n] K.ths[n].mails).1 k hk
 rw [if_neg g7]
 by_cases g9 : c.kind = 9
 · rw [if_pos g9]
   exact put { K.ths[n] with text := lastL c.text } 0 rfl
 rw [if_neg g9]
 by_cases g10 : c.kind = 10
 · rw [if_pos g10]; exact same
 rw [if_neg g10]; exact same
theorem deliverL_mails (K : Ker) (t : Int) (m : Mal) (u : Int) : thrOf (deliverL K t m) u = thrOf K u ∨
 (u = t ∧ mailE m = 0 ∧ flowsL m.label (thrOf K u).label (thrOf K u).own = true ∧ (thrOf K u).mails.length < 6 ∧ thrOf (deliverL K t m) u = { thrOf K u with mails := (thrOf K u).mails ++ [m] }) := by
 unfold deliverL
 cases ht : getT K t with
 | none => exact .inl rfl
 | some th =>
  obtain ⟨n, rfl, hn, e⟩ := Q9 ht
  simp only
  rw [QcD hn]
  by_cases hu : u = n
  · rw [if_pos hu, hu, Qbp hn, e]
    unfold boxL
    split
    · rename_i h
      exact .inr ⟨rfl, h.1, h.2.1, h.2.2, rfl⟩
    · exact .inl rfl
  · rw [if_neg hu]; exact .inl rfl
theorem QiN (K : Ker) (t : Int) (c : Cal) : (callL K t c).1.host = K.host := by
 unfold callL
 split
 · rfl
 · rename_i th hth
   unfold callT
   repeat' split
   all_goals first
    | rfl
    | (unfold categoryL; (repeat' split) <;> rfl)
    | (show (putL _ _ _).host = _; unfold putL; (repeat' split) <;> rfl)
    | (unfold getL; (repeat' split) <;> rfl)
theorem QeP (K : Ker) (t : Int) (m : Mal) : (deliverL K t m).host = K.host := by
 unfold deliverL
 split <;> rfl
def HostC (C : Clu) : Prop := ∀ g : Nat, (C.ks g).host = g
theorem freshH : HostC freshClu := fun _ => rfl
theorem QmA {C : Clu} (h : HostC C) (a : Ac) : HostC (doC C a).1 := fun g => by
 rcases doC_ks C a g with e | ⟨_, _, _, _, _, e, _⟩ | ⟨t', m, e, _⟩
 · rw [e]; exact h g
 · rw [e, QiN]; exact h g
 · rw [e, QeP]; exact h g
theorem Qi7 : ∀ (l : List Ac) {C : Clu} (_ : HostC C), HostC (playC C l)
 | [], _, h => h
 | a :: r, _, h => Qi7 r (QmA h a)
theorem QfD {K : Ker} {t : Int} {c : Cal} {m : Mal} (h : letterL K t c = (m, 0)) : m.host = K.host := by
 obtain ⟨th, _, e, _⟩ := QcM (K := K) (t := t) (c := c) (by rw [h])
 rw [h] at e
 rw [(Prod.mk.inj e).1]
 rfl
theorem QjU {f : Frm} (h : frameE f = 0) (ha : f.ack = false) : f.mail.host = f.fr := by
 unfold frameE at h
 split at h
 · rw [ha] at h
   simp only [Bool.false_eq_true, if_false] at h
   unfold loadE at h
   split at h
   · split at h
     · assumption
     · cases h
   · rename_i h1; exact absurd h h1
 · cases h
def MOwn (O : Int → Int → Int → Prop) (m : Mal) : Prop := ∀ g ∈ m.grants, O m.host m.thread g
def COwn (O : Int → Int → Int → Prop) (x : Crt) : Prop := 0 ≤ x.b ∧ x.b < 4 ∧ ∃ t : Nat, t < 4 ∧ O x.b t x.c
def FOwn (O : Int → Int → Int → Prop) (f : Frm) : Prop := MOwn O f.mail ∧ ∀ x ∈ f.certs, COwn O x
structure OwnC (O : Int → Int → Int → Prop) (C : Clu) : Prop where
 mails : ∀ (h : Nat) t, ∀ m ∈ (thrOf (C.ks h) t).mails, MOwn O m
 certs : ∀ (h : Nat), ∀ x ∈ C.certs h, COwn O x
 net : ∀ s ∈ C.net, ∃ f, frameE f = 0 ∧ s = encL f ∧ FOwn O f
 sent : ∀ (a b : Nat), ∀ s ∈ (C.lines a b).sent, FOwn O s.f
theorem MOwn.mono {O P : Int → Int → Int → Prop} (hp : ∀ h t c, O h t c → P h t c) {m : Mal} (h : MOwn O m) : MOwn P m := fun g hg => hp _ _ _ (h g hg)
theorem COwn.mono {O P : Int → Int → Int → Prop} (hp : ∀ h t c, O h t c → P h t c) {x : Crt} (h : COwn O x) : COwn P x := by
 obtain ⟨h0, h1, t, ht, e⟩ := h
 exact ⟨h0, h1, t, ht, hp _ _ _ e⟩
theorem FOwn.mono {O P : Int → Int → Int → Prop} (hp : ∀ h t c, O h t c → P h t c) {f : Frm} (h : FOwn O f) : FOwn P f := ⟨h.1.mono hp, fun x hx => (h.2 x hx).mono hp⟩
theorem OwnC.mono {O P : Int → Int → Int → Prop} (hp : ∀ h t c, O h t c → P h t c) {C : Clu} (h : OwnC O C) : OwnC P C :=
 ⟨fun a t m hm => (h.mails a t m hm).mono hp, fun a x hx => (h.certs a x hx).mono hp, fun s hs => by
  obtain ⟨f, h1, h2, h3⟩ := h.net s hs
  exact ⟨f, h1, h2, h3.mono hp⟩, fun a b s hs => (h.sent a b s hs).mono hp⟩
section
variable {O : Int → Int → Int → Prop}
theorem Qjm (l : Lne) (q : Int) : (takeLn l q).1.sent = l.sent := by
 unfold takeLn
 (repeat' split) <;> rfl
theorem Ql7 (l : Lne) (q : Int) : ∀ s ∈ (ansLn l q).1.sent, s ∈ l.sent := fun s hs => by
 unfold ansLn at hs
 split at hs
 · split at hs
   · exact hs
   · exact (List.mem_filter.1 hs).1
 · exact hs
theorem Qi0 (l : Lne) (now : Int) : (∀ s ∈ (againLn l now).1.sent, ∃ s' ∈ l.sent, s.f = s'.f) ∧ ∀ f ∈ (againLn l now).2.1, ∃ s' ∈ l.sent, f = s'.f := by
 unfold againLn
 split
 · refine ⟨fun s hs => ?_, fun f hf => ?_⟩
   · obtain ⟨s', h1, h2⟩ := List.mem_flatMap.1 hs
     refine ⟨s', h1, ?_⟩
     unfold againS at h2
     split at h2
     · rw [List.mem_singleton.1 h2]
     · split at h2
       · cases h2
       · rw [List.mem_singleton.1 h2]
   · obtain ⟨s', h1, h2⟩ := List.mem_flatMap.1 hf
     refine ⟨s', h1, ?_⟩
     unfold againF at h2
     split at h2
     · cases h2
     · split at h2
       · cases h2
       · exact List.mem_singleton.1 h2
 · exact ⟨fun s hs => ⟨s, hs, rfl⟩, fun _ h => by cases h⟩
end
theorem Qk3 {l : Lne} {q : Int} (hg : goodLn l = true) (hq : 1 ≤ q ∧ q ≤ 1099511627776) (ho : l.high - 8 < q) (hc : ¬ Came l q) : (takeLn l q).2 = 0 := by
 unfold takeLn
 rw [if_pos (by rw [hg]; simp only [Bool.true_and, decide_eq_true_eq]; exact hq), if_neg (by omega)]
 by_cases hh : l.high < q
 · rw [if_pos hh]
 · rw [if_neg hh, if_neg (fun h => hc ⟨by omega, Or.inr h⟩)]
theorem QhB {l : Lne} {q : Int} (h8 : l.seen.length = 8) (hg : goodLn l = true) (hq : 1 ≤ q ∧ q ≤ 1099511627776) (h : (takeLn l q).2 = 0) (ho : (takeLn l q).1.high - 8 < q) : (takeLn (takeLn l q).1 q).2 = 10 := by
 obtain ⟨_, _, h3⟩ := Qb1 h8 h
 have hg' := Qb4 l q hg
 generalize (takeLn l q).1 = m at *
 unfold takeLn
 rw [if_pos (by rw [hg']; simp only [Bool.true_and, decide_eq_true_eq]; exact hq), if_neg (by omega), if_neg (by have := h3.1; omega)]
 rcases h3.2 with h2 | h2
 · omega
 · rw [if_pos h2]
theorem QeZ {l : Lne} {q : Int} (h : (takeLn l q).2 = 0) : (takeLn l q).1.high = max l.high q := by
 unfold takeLn at h ⊢
 split at h
 · rename_i hg
   rw [if_pos hg]
   split at h
   · cases h
   · rename_i ho
     rw [if_neg ho]
     split at h
     · rename_i hh
       rw [if_pos hh]
       show q = _
       omega
     · rename_i hh
       rw [if_neg hh]
       split at h
       · cases h
       · rename_i hs
         rw [if_neg hs]
         show l.high = _
         omega
 · cases h
theorem take_only {l : Lne} {q s : Int} (h : Came (takeLn l q).1 s) (ho : (takeLn l q).1.high - 8 < s) : s = q ∨ Came l s := by
 unfold takeLn at h ho
 split at h
 · rename_i hg
   rw [if_pos hg] at ho
   split at h
   · exact Or.inr h
   · rename_i ho1
     rw [if_neg ho1] at ho
     split at h
     · rename_i hh
       rw [if_pos hh] at ho
       obtain ⟨h1, h2⟩ := h
       replace h1 : s ≤ q := h1
       replace ho : q - 8 < s := ho
       rcases h2 with h2 | h2
       · replace h2 : s ≤ q - 8 := h2
         omega
       · replace h2 : ((shiftL (q - l.high).toNat l.seen).set 0 true)[(q - s).toNat]? = some true := h2
         by_cases hs : s = q
         · exact Or.inl hs
         · rw [List.getElem?_set_ne (by omega), Qco _ _ (by omega)] at h2
           split at h2
           · cases h2
           · right
             refine ⟨by omega, Or.inr ?_⟩
             rw [← h2]
             congr 1
             omega
     · rename_i hh
       rw [if_neg hh] at ho
       split at h
       · exact Or.inr h
       · rename_i hs
         obtain ⟨h1, h2⟩ := h
         replace h1 : s ≤ l.high := h1
         rcases h2 with h2 | h2
         · exact Or.inr ⟨h1, Or.inl h2⟩
         · replace h2 : (l.seen.set (l.high - q).toNat true)[(l.high - s).toNat]? = some true := h2
           rw [List.getElem?_set] at h2
           split at h2
           · left; omega
           · exact Or.inr ⟨h1, Or.inr h2⟩
 · exact Or.inr h
structure Turn (l : Lne) (left : List Int) : Prop where
 good : goodLn l = true
 seen : l.seen.length = 8
 high : l.high ≤ 8
 nums : ∀ n ∈ left, 1 ≤ n ∧ n ≤ 8
 once : left.Nodup
 come : ∀ n, 1 ≤ n → n ≤ 8 → (n ∈ left ↔ ¬ Came l n)
theorem Turn.end {l : Lne} (h : Turn l []) : l.high = 8 := by
 have := (h.come 8 (by omega) (by omega)).2
 have hc : Came l 8 := Classical.byContradiction fun hn => by simpa using this hn
 have := hc.1
 have := h.high
 omega
theorem Turn.ok {l : Lne} {left : List Int} (h : Turn l left) (k : Nat) (hk : k < left.length) : (takeLn l left[k]).2 = 0 ∧ (takeLn (takeLn l left[k]).1 left[k]).2 = 10 := by
 have hm := List.getElem_mem hk
 have hn := h.nums _ hm
 have hh := h.high
 have h0 : (takeLn l left[k]).2 = 0 := Qk3 h.good ⟨by omega, by omega⟩ (by omega) ((h.come _ hn.1 hn.2).1 hm)
 exact ⟨h0, QhB h.seen h.good ⟨by omega, by omega⟩ h0 (by rw [QeZ h0]; omega)⟩
theorem Turn.step {l : Lne} {left : List Int} (h : Turn l left) (k : Nat) (hk : k < left.length) : Turn (takeLn l left[k]).1 (left.take k ++ left.drop (k + 1)) := by
 have hm := List.getElem_mem hk
 have hn := h.nums _ hm
 have hh := h.high
 have h0 := (h.ok k hk).1
 have hhi := QeZ h0
 have hsplit : left = left.take k ++ left[k] :: left.drop (k + 1) := by
  rw [← List.drop_eq_getElem_cons hk, List.take_append_drop]
 have hnd := h.once
 rw [hsplit] at hnd
 have hmem : ∀ n, n ∈ left.take k ++ left.drop (k + 1) ↔ n ∈ left ∧ n ≠ left[k] := by
  intro n
  have hd := List.nodup_append.1 hnd
  have hd2 := List.nodup_cons.1 hd.2.1
  constructor
  · intro hx
    rcases List.mem_append.1 hx with hx | hx
    · exact ⟨List.mem_of_mem_take hx, fun e => hd.2.2 n hx (left[k]) List.mem_cons_self e⟩
    · exact ⟨List.mem_of_mem_drop hx, fun e => hd2.1 (e ▸ hx)⟩
  · rintro ⟨hx, hne⟩
    rw [hsplit] at hx
    rcases List.mem_append.1 hx with hx | hx
    · exact List.mem_append.2 (Or.inl hx)
    · rcases List.mem_cons.1 hx with e | hx
      · exact absurd e hne
      · exact List.mem_append.2 (Or.inr hx)
 refine ⟨Qb4 _ _ h.good, take_length _ _ h.seen, by rw [hhi]; omega, fun n hx => h.nums n ((hmem n).1 hx).1, ?_, fun n h1 h2 => ?_⟩
 · have hd := List.nodup_append.1 hnd
   have hd2 := List.nodup_cons.1 hd.2.1
   exact List.nodup_append.2 ⟨hd.1, hd2.2, fun a ha b hb => hd.2.2 a ha b (List.mem_cons_of_mem _ hb)⟩
 · rw [hmem, h.come n h1 h2]
   constructor
   · rintro ⟨hc, hne⟩ hx
     rcases take_only hx (by rw [hhi]; omega) with e | e
     · exact hne e
     · exact hc e
   · intro hc
     refine ⟨fun hx => hc (Qc2 h.seen hx), fun e => ?_⟩
     rw [e] at hc
     exact hc (Qb1 h.seen h0).2.2
structure Once (l : Lne) (had : Int → Bool) : Prop where
 seen : l.seen.length = 8
 had : ∀ s, had s = true → goodLn l = true ∧ Came l s
theorem Once.ok {l : Lne} {had : Int → Bool} {q : Int} (h : Once l had) (h0 : (takeLn l q).2 = 0) : had q = false ∧ q ≤ (takeLn l q).1.high := by
 obtain ⟨h1, h2, _⟩ := Qb1 h.seen h0
 refine ⟨?_, h2⟩
 cases e : had q with
 | false => rfl
 | true => exact absurd (h.had q e).2 h1
theorem Once.keep {l : Lne} {had : Int → Bool} {q : Int} (h : Once l had) : Once (takeLn l q).1 had :=
 ⟨take_length _ _ h.seen, fun s hs => ⟨Qb4 _ _ (h.had s hs).1, Qc2 h.seen (h.had s hs).2⟩⟩
theorem Qex {l : Lne} {q : Int} (h : (takeLn l q).2 = 0) : goodLn l = true := by
 cases e : goodLn l with
 | true => rfl
 | false => rw [Qk4 l q e] at h; cases h
theorem Once.more {l : Lne} {had : Int → Bool} {q : Int} (h : Once l had) (h0 : (takeLn l q).2 = 0) : Once (takeLn l q).1 (fun s => if s = q then true else had s) := by
 refine ⟨take_length _ _ h.seen, fun s hs => ?_⟩
 by_cases e : s = q
 · subst e
   exact ⟨Qb4 _ _ (Qex h0), (Qb1 h.seen h0).2.2⟩
 · rw [if_neg e] at hs
   exact (h.keep (q := q)).had s hs
structure Tri (l : Lne) (g : Frm) (cnt : Int) (there : Bool) : Prop where
 good : goodLn l = true
 here : there = l.sent.any (fun s => s.f.seq == g.seq)
 same : ∀ s ∈ l.sent, s.f.seq = g.seq → s.f = g ∧ s.tries = cnt
 cnt : 1 ≤ cnt ∧ cnt ≤ 5
theorem Qe4 {l : Lne} {f : Frm} {now : Int} (h : (sendLn l f now).2.2 = 0) : (sendLn l f now).1 = { l with next := l.next + 1, sent := l.sent ++ [⟨{ f with seq := l.next + 1 }, 1, now + 2⟩] } ∧ (sendLn l f now).2.1 = { f with seq := l.next + 1 } ∧ goodLn l = true ∧ timeB now = true ∧ l.sent.length ≠ 8 ∧ l.next ≠ 1099511627775 := by
 unfold sendLn at h ⊢
 split at h
 · rename_i hg
   rw [if_pos hg]
   rw [Bool.and_eq_true] at hg
   split at h
   · cases h
   · rename_i hn
     rw [if_neg hn]
     exact ⟨rfl, rfl, hg.1, hg.2, fun e => hn (Or.inl e), fun e => hn (Or.inr e)⟩
 · cases h
theorem Qcx {now q : Int} {l : List Snt} (h : ∀ s ∈ l, s.f.seq ≠ q) : (∀ s ∈ l.flatMap (againS now), s.f.seq ≠ q) ∧ ∀ x ∈ l.flatMap (againF now), x.seq ≠ q := by
 constructor
 · intro s hs
   obtain ⟨y, hy, hs⟩ := List.mem_flatMap.1 hs
   unfold againS at hs
   split at hs
   · rw [List.mem_singleton] at hs
     rw [hs]
     exact h y hy
   · split at hs
     · cases hs
     · rw [List.mem_singleton] at hs
       subst hs
       exact h y hy
 · intro x hx
   obtain ⟨y, hy, hs⟩ := List.mem_flatMap.1 hx
   unfold againF at hs
   split at hs
   · cases hs
   · split at hs
     · cases hs
     · rw [List.mem_singleton] at hs
       subst hs
       exact h _ hy
theorem Qgq {next : Int} {l : List Snt} {n : Int} (h : rises next n l = true) {s : Snt} (hs : s ∈ l) : ∃ a b, l = a ++ s :: b ∧ (∀ x ∈ a, x.f.seq ≠ s.f.seq) ∧ ∀ x ∈ b, x.f.seq ≠ s.f.seq := by
 induction l generalizing n with
 | nil => cases hs
 | cons y r ih =>
  simp only [rises, Bool.and_eq_true, decide_eq_true_eq] at h
  have hm := QaB h.2
  rcases List.mem_cons.1 hs with e | hs'
  · subst e
    exact ⟨[], r, rfl, ⟨fun x hx => absurd hx (by simp), fun x hx => by have := hm x hx; omega⟩⟩
  · obtain ⟨a, b, e, h1, h2⟩ := ih h.2 hs'
    refine ⟨y :: a, b, by rw [e]; rfl, fun x hx => ?_, h2⟩
    rcases List.mem_cons.1 hx with e' | hx
    · have := hm s hs'
      rw [e']
      omega
    · exact h1 x hx
theorem QbU {q : Int} {l : List Frm} (h : ∀ x ∈ l, x.seq ≠ q) : l.countP (fun x => x.seq == q) = 0 := by
 rw [List.countP_eq_zero]
 intro x hx
 have := h x hx
 simpa using this
theorem Ql5 {q : Int} {l : List Snt} (h : ∀ x ∈ l, x.f.seq ≠ q) : l.any (fun s => s.f.seq == q) = false := by
 rw [List.any_eq_false]
 intro x hx
 have := h x hx
 simpa using this
theorem Qer {l : Lne} {now : Int} (hg : goodLn l = true) (h0 : 0 ≤ now) (h1 : now ≤ 1099511627776) : goodLn { l with sent := l.sent.flatMap (againS now) } = true := by
 have hh := Qaa hg
 rw [QQ] at hh
 unfold goodLn
 rw [Bool.and_eq_true, QQ]
 exact ⟨⟨hh.1, hh.2.1, hh.2.2.1, hh.2.2.2.1, Nat.le_trans (QbF now l.sent) hh.2.2.2.2⟩, Qdm h0 h1 (Qap hg)⟩
theorem Tri.step {l : Lne} {g : Frm} {cnt : Int} {there : Bool} {now : Int} (h : Tri l g cnt there) (h0 : 0 ≤ now) (h1 : now ≤ 1099511627776) :
 (∀ x ∈ l.sent.flatMap (againF now), x.seq = g.seq → x = g ∧ there = true) ∧
  Tri { l with sent := l.sent.flatMap (againS now) } g (cnt + (l.sent.flatMap (againF now)).countP (fun x => x.seq == g.seq)) ((l.sent.flatMap (againS now)).any (fun s => s.f.seq == g.seq)) := by
 have hg := Qer h.good h0 h1
 have hr := Qap h.good
 by_cases hx : ∃ s ∈ l.sent, s.f.seq = g.seq
 · obtain ⟨s, hs, he⟩ := hx
   obtain ⟨hf, ht⟩ := h.same s hs he
   have htr := (QaB hr s hs).2.2
   simp only [triesB, decide_eq_true_eq] at htr
   have hth : there = true := by
    rw [h.here, List.any_eq_true]
    exact ⟨s, hs, by simp [he]⟩
   obtain ⟨a, b, e, ha, hb⟩ := Qgq hr hs
   rw [he] at ha hb
   obtain ⟨a1, a2⟩ := Qcx (now := now) ha
   obtain ⟨b1, b2⟩ := Qcx (now := now) hb
   have eS : l.sent.flatMap (againS now) = a.flatMap (againS now) ++ (againS now s ++ b.flatMap (againS now)) := by rw [e]; simp
   have eF : l.sent.flatMap (againF now) = a.flatMap (againF now) ++ (againF now s ++ b.flatMap (againF now)) := by rw [e]; simp
   have hcnt : (l.sent.flatMap (againF now)).countP (fun x => x.seq == g.seq) = (againF now s).countP (fun x => x.seq == g.seq) := by
    rw [eF, List.countP_append, List.countP_append, QbU a2, QbU b2]
    omega
   have hall : ∀ y ∈ l.sent.flatMap (againS now), y.f.seq = g.seq → y ∈ againS now s := by
    intro y hy hq
    rw [eS] at hy
    rcases List.mem_append.1 hy with hy | hy
    · exact absurd hq (a1 y hy)
    · rcases List.mem_append.1 hy with hy | hy
      · exact hy
      · exact absurd hq (b1 y hy)
   refine ⟨fun x hx hq => ?_, hg, rfl, ?_, ?_⟩
   · rw [eF] at hx
     rcases List.mem_append.1 hx with hx | hx
     · exact absurd hq (a2 x hx)
     · rcases List.mem_append.1 hx with hx | hx
       · unfold againF at hx
         split at hx
         · cases hx
         · split at hx
           · cases hx
           · rw [List.mem_singleton] at hx
             subst hx
             exact ⟨hf, hth⟩
       · exact absurd hq (b2 x hx)
   · intro y hy hq
     have hy' := hall y hy hq
     rw [hcnt]
     unfold againS at hy'
     unfold againF
     split at hy'
     · rename_i hd
       rw [List.mem_singleton] at hy'
       subst hy'
       rw [if_pos hd]
       exact ⟨hf, by simp [ht]⟩
     · rename_i hd
       split at hy'
       · cases hy'
       · rename_i h5
         rw [List.mem_singleton] at hy'
         subst hy'
         rw [if_neg hd, if_neg h5]
         exact ⟨hf, by simp [ht, he]⟩
   · rw [hcnt]
     unfold againF
     split
     · simpa using h.cnt
     · split
       · simpa using h.cnt
       · rename_i h5
         have := h.cnt
         simp only [List.countP_cons, List.countP_nil, he, beq_self_eq_true, if_true]
         omega
 · have hn : ∀ s ∈ l.sent, s.f.seq ≠ g.seq := fun s hs he => hx ⟨s, hs, he⟩
   obtain ⟨a1, a2⟩ := Qcx (now := now) hn
   refine ⟨fun x hx hq => absurd hq (a2 x hx), hg, rfl, fun y hy hq => absurd hq (a1 y hy), ?_⟩
   rw [QbU a2]
   simpa using h.cnt
theorem Tri.end {l : Lne} {g : Frm} {cnt : Int} {there : Bool} (h : Tri l g cnt there) : (decide ((ansLn l g.seq).2 = 0) = there) ∧ ∀ s ∈ (ansLn l g.seq).1.sent, s.f.seq ≠ g.seq := by
 unfold ansLn
 rw [if_pos h.good]
 split
 · rename_i ha
   have hn : ∀ s ∈ l.sent, s.f.seq ≠ g.seq := fun s hs => by simpa using List.all_eq_true.1 ha s hs
   exact ⟨by rw [h.here, Ql5 hn]; rfl, hn⟩
 · rename_i ha
   refine ⟨?_, fun s hs => ?_⟩
   · rw [h.here]
     symm
     cases e : l.sent.any (fun s => s.f.seq == g.seq) with
     | true => rfl
     | false =>
      exfalso
      apply ha
      rw [List.all_eq_true]
      intro s hs
      have := List.any_eq_false.1 e s hs
      simpa using this
   · simpa using (List.mem_filter.1 hs).2
def SendA (a : Ac) (r : Rep) : Prop := a.kind = 1 ∧ a.call.kind = 6 ∧ r.code = 0
structure AgainR (C D : Clu) : Prop where
 head : ∀ a b, (D.lines a b).next = (C.lines a b).next ∧ (D.lines a b).high = (C.lines a b).high ∧ (D.lines a b).seen = (C.lines a b).seen
 sent : ∀ a b, ∀ s ∈ (D.lines a b).sent, ∃ s' ∈ (C.lines a b).sent, s.f = s'.f
 net : ∀ s ∈ D.net, s ∈ C.net ∨ ∃ a b, ∃ s' ∈ (C.lines a b).sent, s = encL s'.f ∧ frameE s'.f = 0
theorem AgainR.refl (C : Clu) : AgainR C C := ⟨fun _ _ => ⟨rfl, rfl, rfl⟩, fun _ _ s h => ⟨s, h, rfl⟩, fun _ h => .inl h⟩
theorem AgainR.trans {A B C : Clu} (h : AgainR A B) (k : AgainR B C) : AgainR A C := by
 refine ⟨fun a b => ⟨(k.head a b).1.trans (h.head a b).1, (k.head a b).2.1.trans (h.head a b).2.1, (k.head a b).2.2.trans (h.head a b).2.2⟩, fun a b s hs => ?_, fun s hs => ?_⟩
 · obtain ⟨s1, h1, e1⟩ := k.sent a b s hs
   obtain ⟨s2, h2, e2⟩ := h.sent a b s1 h1
   exact ⟨s2, h2, e1.trans e2⟩
 · rcases k.net s hs with e | ⟨a, b, s1, h1, e1, e3⟩
   · exact h.net s e
   · obtain ⟨s2, h2, e2⟩ := h.sent a b s1 h1
     exact .inr ⟨a, b, s2, h2, by rw [e1, e2], by rw [← e2]; exact e3⟩
theorem QhQ {C0 C : Clu} (h : AgainR C0 C) {f : Frm} (hf : ∃ a b, ∃ s ∈ (C0.lines a b).sent, f = s.f) : AgainR C0 (putC C f) := by
 unfold putC
 split
 · rename_i h1
   refine ⟨h.head, h.sent, fun s hs => ?_⟩
   rcases List.mem_append.1 hs with e | e
   · exact h.net s e
   · obtain ⟨a, b, s', h2, h3⟩ := hf
     exact .inr ⟨a, b, s', h2, by rw [List.mem_singleton.1 e, h3], by rw [← h3]; exact h1.1⟩
 · exact h
theorem QbI {C0 : Clu} : ∀ (l : List Frm) {C : Clu} (_ : AgainR C0 C) (_ : ∀ f ∈ l, ∃ a b, ∃ s ∈ (C0.lines a b).sent, f = s.f), AgainR C0 (l.foldl putC C)
 | [], _, h, _ => h
 | f :: r, _, h, hl => QbI r (QhQ h (hl f (by simp))) (fun g hg => hl g (List.mem_cons_of_mem _ hg))
theorem Qi1 (l : Lne) (now : Int) : (againLn l now).1.next = l.next ∧ (againLn l now).1.high = l.high ∧ (againLn l now).1.seen = l.seen := by
 unfold againLn
 split <;> exact ⟨rfl, rfl, rfl⟩
theorem QfV (C : Clu) (a b : Int) : AgainR C (againC C a b).1 := by
 unfold againC
 obtain ⟨h1, h2⟩ := Qi0 (lineC C a b) C.now
 obtain ⟨g1, g2, g3⟩ := Qi1 (lineC C a b) C.now
 refine QbI _ ⟨fun x y => ?_, fun x y => ?_, fun s hs => .inl hs⟩ fun f hf => ?_
 · show (if x = a.toNat ∧ y = b.toNat then (againLn (lineC C a b) C.now).1 else C.lines x y).next = _ ∧ (if x = a.toNat ∧ y = b.toNat then (againLn (lineC C a b) C.now).1 else C.lines x y).high = _ ∧ (if x = a.toNat ∧ y = b.toNat then (againLn (lineC C a b) C.now).1 else C.lines x y).seen = _
   split
   · rename_i e
     rw [e.1, e.2]; exact ⟨g1, g2, g3⟩
   · exact ⟨rfl, rfl, rfl⟩
 · show ∀ s ∈ (if x = a.toNat ∧ y = b.toNat then (againLn (lineC C a b) C.now).1 else C.lines x y).sent, _
   split
   · rename_i e
     rw [e.1, e.2]; exact h1
   · exact fun s hs => ⟨s, hs, rfl⟩
 · obtain ⟨s', e1, e2⟩ := h2 f hf
   exact ⟨a.toNat, b.toNat, s', e1, e2⟩
theorem Qbe : ∀ (l : List (Int × Int)) (s : Clu × Nat), AgainR s.1 (l.foldl (fun (s : Clu × Nat) ab => ((againC s.1 ab.1 ab.2).1, s.2 + (againC s.1 ab.1 ab.2).2)) s).1
 | [], _ => AgainR.refl _
 | x :: r, s => by
  rw [List.foldl_cons]
  exact (QfV s.1 x.1 x.2).trans (Qbe r ((againC s.1 x.1 x.2).1, s.2 + (againC s.1 x.1 x.2).2))
def QuietM (C D : Clu) : Prop := D.lines = C.lines ∧ (∀ s ∈ D.net, s ∈ C.net) ∧ ∀ (g : Nat), g < 4 → ∀ t, ∃ k, (thrOf (D.ks g) t).mails = (thrOf (C.ks g) t).mails.drop k
def HereM (C D : Clu) (a : Ac) (r : Rep) : Prop := ∃ m : Mal, SendA a r ∧ hostB a.h = true ∧ a.call.h = a.h ∧ m.host = (kerC C a.h).host ∧ D.lines = C.lines ∧ (∀ s ∈ D.net, s ∈ C.net) ∧ D.ks = (setK C a.h (deliverL (kerC C a.h) a.call.t m)).ks
def AwayM (C D : Clu) (a : Ac) (r : Rep) : Prop := ∃ (f : Frm) (x : Snt), SendA a r ∧ hostB a.h = true ∧ hostB a.call.h = true ∧ a.call.h ≠ a.h ∧ f.fr = a.h ∧ f.to = a.call.h ∧ f.thread = a.call.t ∧ f.ack = false ∧ f.seq = (lineC C a.h a.call.h).next + 1 ∧ x.f = f ∧ D.ks = C.ks ∧ D.lines = (setLi C a.h a.call.h { lineC C a.h a.call.h with next := (lineC C a.h a.call.h).next + 1, sent := (lineC C a.h a.call.h).sent ++ [x] }).lines ∧ ∀ s ∈ D.net, s ∈ C.net ∨ (s = encL f ∧ frameE f = 0)
def AckM (C D : Clu) : Prop := ∃ f : Frm, D.ks = C.ks ∧ D.lines = (setLi C f.to f.fr (ansLn (lineC C f.to f.fr) f.seq).1).lines ∧ ∀ s ∈ D.net, s ∈ C.net
def ComeM (C D : Clu) : Prop := ∃ (f : Frm) (s : List UInt8), s ∈ C.net ∧ decL s = (f, 0) ∧ frameE f = 0 ∧ f.ack = false ∧ D.lines = (setLi C f.fr f.to (takeLn (lineC C f.fr f.to) f.seq).1).lines ∧ (∀ s ∈ D.net, s ∈ C.net ∨ ∃ g, g.ack = true ∧ frameE g = 0 ∧ s = encL g) ∧ (D.ks = C.ks ∨ ((takeLn (lineC C f.fr f.to) f.seq).2 = 0 ∧ D.ks = (setK C f.to (deliverL (kerC C f.to) f.thread f.mail)).ks))
def JMove (C D : Clu) (a : Ac) (r : Rep) : Prop := QuietM C D ∨ HereM C D a r ∨ AwayM C D a r ∨ AckM C D ∨ ComeM C D ∨ (D.ks = C.ks ∧ AgainR C D)
theorem QuietM.same {C D : Clu} (h1 : D.lines = C.lines) (h2 : ∀ s ∈ D.net, s ∈ C.net) (h3 : D.ks = C.ks) : QuietM C D := ⟨h1, h2, fun g _ t => ⟨0, by rw [h3]; rfl⟩⟩
theorem Qdi (C : Clu) (h : Int) (x : Crt) : (addC C h x).1.lines = C.lines ∧ (addC C h x).1.net = C.net := by unfold addC; split <;> exact ⟨rfl, rfl⟩
theorem Qd4 : ∀ (l : List Crt) (C : Clu) (h : Int), (takeC C h l).lines = C.lines ∧ (takeC C h l).net = C.net
 | [], _, _ => ⟨rfl, rfl⟩
 | x :: r, C, h => by
  have h1 := Qd4 r (addC C h x).1 h
  have h2 := Qdi C h x
  exact ⟨h1.1.trans h2.1, h1.2.trans h2.2⟩
theorem Qb6 (C : Clu) (f : Frm) : (putC C f).ks = C.ks ∧ (putC C f).lines = C.lines ∧ ∀ s ∈ (putC C f).net, s ∈ C.net ∨ (s = encL f ∧ frameE f = 0) := by
 unfold putC
 split
 · rename_i h1
   refine ⟨rfl, rfl, fun s hs => ?_⟩
   rcases List.mem_append.1 hs with e | e
   · exact .inl e
   · exact .inr ⟨List.mem_singleton.1 e, h1.1⟩
 · exact ⟨rfl, rfl, fun _ h => .inl h⟩
theorem Qki {C : Clu} (hg : GoodC C) (a : Ac) : JMove C (doC C a).1 a (doC C a).2 := by
 unfold doC
 by_cases h3 : 300 ≤ C.acts
 · rw [if_pos h3]; exact .inl (.same rfl (fun _ h => h) rfl)
 rw [if_neg h3]
 dsimp only
 by_cases k1 : a.kind = 1
 · rw [if_pos k1]
   unfold callC
   by_cases h4 : (hostB a.h && hostB a.t) = true
   · rw [if_pos h4]
     rw [Bool.and_eq_true] at h4
     have hh : 0 ≤ a.h ∧ a.h < 4 := of_decide_eq_true h4.1
     have ht : 0 ≤ a.t ∧ a.t < 4 := of_decide_eq_true h4.2
     by_cases k6 : a.call.kind = 6
     · rw [if_pos k6]
       unfold sendC
       by_cases g1 : 64 < a.call.text.length
       · rw [if_pos g1]; exact .inl (.same rfl (fun _ h => h) rfl)
       rw [if_neg g1]
       by_cases g2 : (hostB a.call.h && hostB a.call.t) = true
       · rw [if_pos g2]
         rw [Bool.and_eq_true] at g2
         by_cases g3 : (letterL (kerC { C with acts := C.acts + 1 } a.h) a.t a.call).2 = 0
         · rw [if_pos g3]
           by_cases g4 : a.call.h = a.h
           · rw [if_pos g4]
             exact .inr (.inl ⟨(letterL (kerC C a.h) a.t a.call).1, ⟨k1, k6, rfl⟩, h4.1, g4, QfD (c := a.call) (t := a.t) (Prod.ext rfl g3), rfl, fun _ h => h, rfl⟩)
           · rw [if_neg g4]
             unfold awayC
             split
             · dsimp only
               split
               · rename_i h5
                 obtain ⟨e1, e2, _⟩ := Qe4 h5
                 obtain ⟨q1, q2, q3⟩ := Qb6 (setLi { C with acts := C.acts + 1 } a.h a.call.h (sendLn (lineC { C with acts := C.acts + 1 } a.h a.call.h) ⟨a.h, a.call.h, 0, false, a.call.t, (letterL (kerC { C with acts := C.acts + 1 } a.h) a.t a.call).1, showL (crtC { C with acts := C.acts + 1 } a.h) (letterL (kerC { C with acts := C.acts + 1 } a.h) a.t a.call).1⟩ C.now).1) (sendLn (lineC { C with acts := C.acts + 1 } a.h a.call.h) ⟨a.h, a.call.h, 0, false, a.call.t, (letterL (kerC { C with acts := C.acts + 1 } a.h) a.t a.call).1, showL (crtC { C with acts := C.acts + 1 } a.h) (letterL (kerC { C with acts := C.acts + 1 } a.h) a.t a.call).1⟩ C.now).2.1
                 refine .inr (.inr (.inl ⟨_, _, ⟨k1, k6, rfl⟩, h4.1, g2.1, g4, ?_, ?_, ?_, ?_, ?_, ?_, q1.trans rfl, q2.trans (by rw [e1]; rfl), q3⟩))
                 all_goals first | rfl | (rw [e2]; done) | rw [e2]
                 all_goals rfl
               · exact .inl (.same rfl (fun _ h => h) rfl)
             · exact .inl (.same rfl (fun _ h => h) rfl)
         · rw [if_neg g3]; exact .inl (.same rfl (fun _ h => h) rfl)
       · rw [if_neg g2]; exact .inl (.same rfl (fun _ h => h) rfl)
     · rw [if_neg k6]
       by_cases k8 : a.call.kind = 8
       · rw [if_pos k8]
         left
         unfold certifyC
         split
         · split
           · exact .same (Qdi _ _ _).1 (fun s hs => by rw [show (_ : Clu).net = _ from (Qdi _ _ _).2] at hs; exact hs) (Qfs _ _ _).1
           · exact .same rfl (fun _ h => h) rfl
         · exact .same rfl (fun _ h => h) rfl
       · rw [if_neg k8]
         refine .inl ⟨rfl, fun _ h => h, fun g hg4 t => ?_⟩
         show ∃ k, (thrOf (if g = a.h.toNat then (callL (C.ks a.h.toNat) a.t a.call).1 else C.ks g) t).mails = _
         split
         · rename_i e
           have hn : a.t.toNat < (C.ks g).ths.length := by rw [(hg.ks g hg4).four]; omega
           have := Qhb hn a.call t
           rw [show ((a.t.toNat : Nat) : Int) = a.t by omega] at this
           rw [← e]; exact this
         · exact ⟨0, rfl⟩
   · rw [if_neg h4]; exact .inl (.same rfl (fun _ h => h) rfl)
 · rw [if_neg k1]
   by_cases k2 : a.kind = 2 ∨ a.kind = 3 ∨ a.kind = 4
   · rw [if_pos k2]
     unfold moveC
     by_cases h5 : 0 ≤ a.n ∧ a.n < ((C.net.length : Nat) : Int)
     · rw [if_pos h5]
       dsimp only
       have hmem : C.net.getD a.n.toNat [] ∈ C.net := by
        rw [List.getD_eq_getElem?_getD, List.getElem?_eq_getElem (by omega)]
        exact List.getElem_mem _
       generalize C.net.getD a.n.toNat [] = s at *
       have hD : ∀ (b : Prop) [Decidable b], (if b then ({ C with acts := C.acts + 1 } : Clu) else { C with acts := C.acts + 1, net := C.net.take a.n.toNat ++ C.net.drop (a.n.toNat + 1) }).ks = C.ks ∧ (if b then ({ C with acts := C.acts + 1 } : Clu) else { C with acts := C.acts + 1, net := C.net.take a.n.toNat ++ C.net.drop (a.n.toNat + 1) }).lines = C.lines ∧ ∀ s ∈ (if b then ({ C with acts := C.acts + 1 } : Clu) else { C with acts := C.acts + 1, net := C.net.take a.n.toNat ++ C.net.drop (a.n.toNat + 1) }).net, s ∈ C.net := fun b _ => by
        split
        · exact ⟨rfl, rfl, fun _ h => h⟩
        · refine ⟨rfl, rfl, fun s hs => ?_⟩
          rcases List.mem_append.1 hs with e | e
          · exact List.mem_of_mem_take e
          · exact List.mem_of_mem_drop e
       by_cases k4 : a.kind = 4
       · rw [if_pos k4]
         obtain ⟨q1, q2, q3⟩ := hD (a.kind = 3)
         exact .inl (.same q2 q3 q1)
       · rw [if_neg k4]
         have hD0 := hD (a.kind = 3)
         generalize (if a.kind = 3 then ({ C with acts := C.acts + 1 } : Clu) else { C with acts := C.acts + 1, net := C.net.take a.n.toNat ++ C.net.drop (a.n.toNat + 1) }) = D0 at *
         obtain ⟨q1, q2, q3⟩ := hD0
         have hlin : ∀ x y, lineC D0 x y = lineC C x y := fun x y => by unfold lineC; rw [q2]
         have hset : ∀ x y l, (setLi D0 x y l).lines = (setLi C x y l).lines := fun x y l => by unfold setLi; simp only [q2]
         unfold comeC
         by_cases h6 : (decL s).2 = 0
         · rw [if_pos h6]
           dsimp only
           have hfe := Qcd h6
           have hds : decL s = ((decL s).1, 0) := Prod.ext rfl h6
           generalize (decL s).1 = f at *
           by_cases hk : f.ack = true
           · rw [if_pos hk]
             refine .inr (.inr (.inr (.inl ⟨f, q1, ?_, q3⟩)))
             rw [hset, hlin]
           · rw [if_neg hk]
             have hE : ∀ (b : Prop) [Decidable b], (if b then putC (setLi D0 f.fr f.to (takeLn (lineC D0 f.fr f.to) f.seq).1) ⟨f.to, f.fr, f.seq, true, 0, zeroMal, []⟩ else setLi D0 f.fr f.to (takeLn (lineC D0 f.fr f.to) f.seq).1).ks = C.ks ∧ (if b then putC (setLi D0 f.fr f.to (takeLn (lineC D0 f.fr f.to) f.seq).1) ⟨f.to, f.fr, f.seq, true, 0, zeroMal, []⟩ else setLi D0 f.fr f.to (takeLn (lineC D0 f.fr f.to) f.seq).1).lines = (setLi C f.fr f.to (takeLn (lineC C f.fr f.to) f.seq).1).lines ∧ ∀ s ∈ (if b then putC (setLi D0 f.fr f.to (takeLn (lineC D0 f.fr f.to) f.seq).1) ⟨f.to, f.fr, f.seq, true, 0, zeroMal, []⟩ else setLi D0 f.fr f.to (takeLn (lineC D0 f.fr f.to) f.seq).1).net, s ∈ C.net ∨ ∃ g, g.ack = true ∧ frameE g = 0 ∧ s = encL g := fun b _ => by
              split
              · obtain ⟨p1, p2, p3⟩ := Qb6 (setLi D0 f.fr f.to (takeLn (lineC D0 f.fr f.to) f.seq).1) ⟨f.to, f.fr, f.seq, true, 0, zeroMal, []⟩
                refine ⟨p1.trans q1, p2.trans (by rw [hset, hlin]), fun x hx => ?_⟩
                rcases p3 x hx with e | ⟨e, e2⟩
                · exact .inl (q3 x e)
                · exact .inr ⟨_, rfl, e2, e⟩
              · exact ⟨q1, by rw [hset, hlin], fun x hx => .inl (q3 x hx)⟩
             have hE0 := hE ((takeLn (lineC D0 f.fr f.to) f.seq).2 = 0 ∨ (takeLn (lineC D0 f.fr f.to) f.seq).2 = 10)
             rw [hlin] at hE0 ⊢
             generalize (if (takeLn (lineC C f.fr f.to) f.seq).2 = 0 ∨ (takeLn (lineC C f.fr f.to) f.seq).2 = 10 then putC (setLi D0 f.fr f.to (takeLn (lineC C f.fr f.to) f.seq).1) ⟨f.to, f.fr, f.seq, true, 0, zeroMal, []⟩ else setLi D0 f.fr f.to (takeLn (lineC C f.fr f.to) f.seq).1) = E at *
             obtain ⟨p1, p2, p3⟩ := hE0
             refine .inr (.inr (.inr (.inr (.inl ⟨f, s, hmem, hds, hfe, by simpa using hk, ?_⟩))))
             by_cases h7 : (takeLn (lineC C f.fr f.to) f.seq).2 = 0
             · rw [if_pos h7]
               unfold acceptC
               dsimp only
               have hTk := QdN f.certs E f.to
               have hTs := Qd4 f.certs E f.to
               generalize takeC E f.to f.certs = T at *
               split
               · refine ⟨hTs.1.trans p2, fun x hx => p3 x (by rw [show (setK T _ _).net = E.net from hTs.2] at hx; exact hx), .inr ⟨h7, ?_⟩⟩
                 unfold setK kerC
                 simp only [hTk.1, p1]
               · exact ⟨hTs.1.trans p2, fun x hx => p3 x (by rw [hTs.2] at hx; exact hx), .inl (hTk.1.trans p1)⟩
             · rw [if_neg h7]
               exact ⟨p2, p3, .inl p1⟩
         · rw [if_neg h6]
           exact .inl (.same q2 q3 q1)
     · rw [if_neg h5]; exact .inl (.same rfl (fun _ h => h) rfl)
   · rw [if_neg k2]
     by_cases k5 : a.kind = 5
     · rw [if_pos k5]
       refine .inr (.inr (.inr (.inr (.inr ⟨QdL _ _, ?_⟩))))
       unfold tickC
       split
       · dsimp only
         have := Qbe ([0, 1, 2, 3].flatMap fun a => [0, 1, 2, 3].map fun b => ((a : Int), (b : Int))) (({ C with acts := C.acts + 1, now := C.now + a.n } : Clu), 0)
         exact ⟨this.head, this.sent, this.net⟩
       · exact ⟨(AgainR.refl C).head, (AgainR.refl C).sent, (AgainR.refl C).net⟩
     · rw [if_neg k5]; exact .inl (.same rfl (fun _ h => h) rfl)
def cnt (n : Nat) (p : Int → Bool) : Nat := (List.range n).countP fun (i : Nat) => p ((i : Int) + 1)
theorem Qbk (n : Nat) (p : Int → Bool) : cnt (n + 1) p = cnt n p + if p ((n : Int) + 1) = true then 1 else 0 := by
 unfold cnt
 rw [List.range_succ, List.countP_append, List.countP_singleton]
theorem QcZ {n : Nat} {p q : Int → Bool} (h : ∀ s : Int, 1 ≤ s → s ≤ n → p s = true → q s = true) : cnt n p ≤ cnt n q := by
 induction n with
 | zero => exact Nat.le_refl _
 | succ n ih =>
  rw [Qbk, Qbk]
  have h1 := ih (fun s h0 h1 => h s h0 (by omega))
  by_cases e : p ((n : Int) + 1) = true
  · rw [if_pos e, if_pos (h _ (by omega) (by omega) e)]; omega
  · rw [if_neg e]
    split <;> omega
theorem Qkt {n m : Nat} (h : n ≤ m) (p : Int → Bool) : cnt n p ≤ cnt m p := by
 induction h with
 | refl => exact Nat.le_refl _
 | step _ ih => rw [Qbk]; omega
theorem QlZ {n : Nat} {p q : Int → Bool} {x : Int} (h : ∀ s : Int, 1 ≤ s → s ≤ n → p s = true → q s = true) (h1 : 1 ≤ x) (h2 : x ≤ n) (hp : p x = false) (hq : q x = true) : cnt n p + 1 ≤ cnt n q := by
 induction n with
 | zero => omega
 | succ n ih =>
  rw [Qbk, Qbk]
  by_cases e : x = (n : Int) + 1
  · have := QcZ (n := n) (p := p) (q := q) (fun s h0 h1 => h s h0 (by omega))
    rw [← e, hp, hq]
    simp
    omega
  · have := ih (fun s h0 h1 => h s h0 (by omega)) (by omega)
    by_cases g : p ((n : Int) + 1) = true
    · rw [if_pos g, if_pos (h _ (by omega) (by omega) g)]; omega
    · rw [if_neg g]
      split <;> omega
def FOk (C : Clu) (T : Nat → Nat → Int → Int) (f : Frm) : Prop := 1 ≤ f.seq ∧ f.seq ≤ (C.lines f.fr.toNat f.to.toNat).next ∧ f.thread = T f.fr.toNat f.to.toNat f.seq
structure OnC (C : Clu) (T : Nat → Nat → Int → Int) (had : Nat → Nat → Int → Bool) (snt cam : Nat → Nat → Nat → Nat) : Prop where
 seen : ∀ a b, (C.lines a b).seen.length = 8
 hadc : ∀ a b s, had a b s = true → Came (C.lines a b) s
 next : ∀ a b, 0 ≤ (C.lines a b).next
 net : ∀ s ∈ C.net, ∃ f, frameE f = 0 ∧ s = encL f ∧ (f.ack = false → FOk C T f)
 sent : ∀ a b : Nat, ∀ s ∈ (C.lines a b).sent, s.f.fr = (a : Int) ∧ s.f.to = (b : Int) ∧ FOk C T s.f
 up : ∀ a b t : Nat, a ≠ b → cnt (C.lines a b).next.toNat (fun s => decide (T a b s = (t : Int))) ≤ snt a b t
 down : ∀ a b t : Nat, b < 4 → a ≠ b → cam a b t ≤ cnt (C.lines a b).next.toNat (fun s => had a b s && decide (T a b s = (t : Int)))
 here : ∀ a t : Nat, a < 4 → cam a a t ≤ snt a a t
theorem OnC.le {C : Clu} {T : Nat → Nat → Int → Int} {had : Nat → Nat → Int → Bool} {snt cam : Nat → Nat → Nat → Nat} (h : OnC C T had snt cam) (a b t : Nat) (hb : b < 4) : cam a b t ≤ snt a b t := by
 by_cases e : a = b
 · subst e; exact h.here a t hb
 · refine Nat.le_trans (h.down a b t hb e) (Nat.le_trans (QcZ fun s _ _ hs => ?_) (h.up a b t e))
   rw [Bool.and_eq_true] at hs
   exact hs.2
def grew (C D : Clu) (h t : Nat) : Prop := (thrOf (C.ks h) t).mails.length < (thrOf (D.ks h) t).mails.length
instance (C D : Clu) (h t : Nat) : Decidable (grew C D h t) := by unfold grew; infer_instance
def lastM (D : Clu) (h t : Nat) : Mal := (thrOf (D.ks h) t).mails.getLastD zeroMal
def camN (C D : Clu) (cam : Nat → Nat → Nat → Nat) : Nat → Nat → Nat → Nat := fun a h t => if grew C D h t ∧ (lastM D h t).host = (a : Int) then cam a h t + 1 else cam a h t
instance (a : Ac) (r : Rep) : Decidable (SendA a r) := by unfold SendA; infer_instance
def sntN (a : Ac) (r : Rep) (snt : Nat → Nat → Nat → Nat) : Nat → Nat → Nat → Nat := fun x y t => if SendA a r ∧ (x : Int) = a.h ∧ (y : Int) = a.call.h ∧ (t : Int) = a.call.t then snt x y t + 1 else snt x y t
theorem Qal (a : Ac) (r : Rep) (snt : Nat → Nat → Nat → Nat) (x y t : Nat) : snt x y t ≤ sntN a r snt x y t := by unfold sntN; split <;> omega
theorem Qan {C D : Clu} {cam : Nat → Nat → Nat → Nat} {a h t : Nat} (hk : ¬ grew C D h t) : camN C D cam a h t = cam a h t := by unfold camN; rw [if_neg (fun e => hk e.1)]
theorem QaK {C D : Clu} (hk : D.ks = C.ks) (h t : Nat) : ¬ grew C D h t := by unfold grew; rw [hk]; omega
theorem Qh9 {D : Clu} {h t : Nat} {l : List Mal} {m : Mal} (e : (thrOf (D.ks h) t).mails = l ++ [m]) : lastM D h t = m := by
 unfold lastM
 rw [e, List.getLastD_eq_getLast?, List.getLast?_append]
 rfl
theorem QaQ {C D : Clu} {x t' : Int} {m : Mal} (hx : hostB x = true) (hk : D.ks = (setK C x (deliverL (kerC C x) t' m)).ks) {h t : Nat} (hg : grew C D h t) : (h : Int) = x ∧ (t : Int) = t' ∧ lastM D h t = m ∧ (thrOf (D.ks h) t).mails = (thrOf (C.ks h) t).mails ++ [m] := by
 have x4 : 0 ≤ x ∧ x < 4 := of_decide_eq_true hx
 have e : D.ks h = if h = x.toNat then deliverL (kerC C x) t' m else C.ks h := by rw [hk]; rfl
 by_cases h1 : h = x.toNat
 · rw [if_pos h1] at e
   rcases deliverL_mails (kerC C x) t' m t with q | ⟨q1, _, _, _, q⟩
   · refine absurd hg ?_
     unfold grew
     rw [e, q, h1]
     exact Nat.lt_irrefl _
   · have hm : (thrOf (D.ks h) t).mails = (thrOf (C.ks h) t).mails ++ [m] := by rw [e, q, h1]; rfl
     exact ⟨by omega, q1, Qh9 hm, hm⟩
 · rw [if_neg h1] at e
   refine absurd hg ?_
   unfold grew
   rw [e]
   exact Nat.lt_irrefl _
section
variable {C D : Clu} {T : Nat → Nat → Int → Int} {had : Nat → Nat → Int → Bool} {snt cam : Nat → Nat → Nat → Nat} {a : Ac} {r : Rep}
theorem FOk.lines (h : D.lines = C.lines) {f : Frm} (hf : FOk C T f) : FOk D T f := by unfold FOk at hf ⊢; rw [h]; exact hf
theorem FOk.next (h : ∀ a b, (D.lines a b).next = (C.lines a b).next) {f : Frm} (hf : FOk C T f) : FOk D T f := by unfold FOk at hf ⊢; rw [h]; exact hf
theorem QkW {g : Frm} (h : g.ack = true) : g.ack = false → FOk D T g := fun e => by rw [h] at e; cases e
theorem OnC.heads (h : OnC C T had snt cam) (h1 : ∀ a b, (D.lines a b).next = (C.lines a b).next ∧ (D.lines a b).high = (C.lines a b).high ∧ (D.lines a b).seen = (C.lines a b).seen) (h2 : ∀ a b, ∀ s ∈ (D.lines a b).sent, ∃ s' ∈ (C.lines a b).sent, s.f = s'.f)
 (h3 : ∀ s ∈ D.net, s ∈ C.net ∨ (∃ g, g.ack = true ∧ frameE g = 0 ∧ s = encL g) ∨ ∃ a b, ∃ s' ∈ (C.lines a b).sent, s = encL s'.f ∧ frameE s'.f = 0) {snt' cam' : Nat → Nat → Nat → Nat} (h4 : ∀ a b t, snt a b t ≤ snt' a b t) (h5 : ∀ a b t, b < 4 → a ≠ b → cam' a b t ≤ cam a b t) (h6 : ∀ a t, a < 4 → cam' a a t ≤ snt' a a t) : OnC D T had snt' cam' := by
 refine ⟨fun a b => by rw [(h1 a b).2.2]; exact h.seen a b, fun a b s hs => ?_, fun a b => by rw [(h1 a b).1]; exact h.next a b, fun s hs => ?_, fun a b s hs => ?_, fun a b t hn => ?_, fun a b t hb hn => ?_, h6⟩
 · have := h.hadc a b s hs
   unfold Came at this ⊢
   rw [(h1 a b).2.1, (h1 a b).2.2]; exact this
 · rcases h3 s hs with e | ⟨g, g1, g2, g3⟩ | ⟨x, y, s', e1, e2, e3⟩
   · obtain ⟨f, f1, f2, f3⟩ := h.net s e
     exact ⟨f, f1, f2, fun e => (f3 e).next fun a b => (h1 a b).1⟩
   · exact ⟨g, g2, g3, QkW g1⟩
   · exact ⟨s'.f, e3, e2, fun _ => (h.sent x y s' e1).2.2.next fun a b => (h1 a b).1⟩
 · obtain ⟨s', e1, e2⟩ := h2 a b s hs
   rw [e2]
   exact ⟨(h.sent a b s' e1).1, (h.sent a b s' e1).2.1, (h.sent a b s' e1).2.2.next fun a b => (h1 a b).1⟩
 · rw [(h1 a b).1]; exact Nat.le_trans (h.up a b t hn) (h4 a b t)
 · rw [(h1 a b).1]; exact Nat.le_trans (h5 a b t hb hn) (h.down a b t hb hn)
theorem Qd2 (l : Lne) (q : Int) : (takeLn l q).1.next = l.next := by
 unfold takeLn
 (repeat' split) <;> rfl
theorem Qfn (l : Lne) (q : Int) : (ansLn l q).1.next = l.next ∧ (ansLn l q).1.high = l.high ∧ (ansLn l q).1.seen = l.seen := by
 unfold ansLn
 (repeat' split) <;> exact ⟨rfl, rfl, rfl⟩
theorem Qj8 {f : Frm} (h : frameE f = 0) : f.fr ≠ f.to := by
 unfold frameE at h
 split at h
 · rename_i h1
   unfold headB twoB at h1
   simp only [Bool.and_eq_true] at h1
   have := h1.1.1.1.2
   simpa using this
 · cases h
theorem Qli (h : OnC C T had snt cam) (hh : HostC C) (hm : JMove C D a r) : ∃ T' had', OnC D T' had' (sntN a r snt) (camN C D cam) := by
 rcases hm with ⟨q1, q2, q3⟩ | ⟨m, q1, q2, q3, q4, q5, q6, q7⟩ | ⟨f, x, q1, q2, q3, q4, q5, q6, q7, q8, q9, q10, q11, q12, q13⟩ | ⟨f, q1, q2, q3⟩ | ⟨f, s, q1, q2, q3, q4, q5, q6, q7⟩ | ⟨q1, q2⟩
 · refine ⟨T, had, h.heads (fun a b => by rw [q1]; exact ⟨rfl, rfl, rfl⟩) (fun a b s hs => ⟨s, by rw [← q1]; exact hs, rfl⟩) (fun s hs => .inl (q2 s hs)) (Qal a r snt) (fun x y t hy _ => ?_) (fun x t hx => ?_)⟩
   all_goals
    rw [Qan]
    first | exact Nat.le_refl _ | exact Nat.le_trans (h.here x t hx) (Qal a r snt x x t) | skip
    unfold grew
   · obtain ⟨k, e⟩ := q3 y hy t
     rw [e, List.length_drop]; omega
   · obtain ⟨k, e⟩ := q3 x hx t
     rw [e, List.length_drop]; omega
 · have h4 : 0 ≤ a.h ∧ a.h < 4 := of_decide_eq_true q2
   have hmh : m.host = a.h := by rw [q4, show (kerC C a.h).host = ((a.h.toNat : Nat) : Int) from hh _]; omega
   refine ⟨T, had, h.heads (fun a b => by rw [q5]; exact ⟨rfl, rfl, rfl⟩) (fun a b s hs => ⟨s, by rw [← q5]; exact hs, rfl⟩) (fun s hs => .inl (q6 s hs)) (Qal a r snt) (fun x y t hy hxy => ?_) (fun x t hx => ?_)⟩
   · unfold camN
     rw [if_neg]
     · exact Nat.le_refl _
     · rintro ⟨e1, e2⟩
       obtain ⟨g1, g2, g3, _⟩ := QaQ q2 q7 e1
       rw [g3, hmh] at e2
       omega
   · unfold camN
     split
     · rename_i e
       obtain ⟨g1, g2, g3, _⟩ := QaQ q2 q7 e.1
       have := h.here x t hx
       unfold sntN
       rw [if_pos ⟨q1, g1, by omega, g2⟩]
       omega
     · exact Nat.le_trans (h.here x t hx) (Qal a r snt x x t)
 · have h4 : 0 ≤ a.h ∧ a.h < 4 := of_decide_eq_true q2
   have c4 : 0 ≤ a.call.h ∧ a.call.h < 4 := of_decide_eq_true q3
   generalize hL : lineC C a.h a.call.h = L at *
   have hL' : C.lines a.h.toNat a.call.h.toNat = L := hL
   have hl : ∀ u v, D.lines u v = if u = a.h.toNat ∧ v = a.call.h.toNat then { L with next := L.next + 1, sent := L.sent ++ [x] } else C.lines u v := fun u v => by rw [q12]; rfl
   have hn0 : 0 ≤ L.next := by rw [← hL']; exact h.next _ _
   refine ⟨fun u v s => if u = a.h.toNat ∧ v = a.call.h.toNat ∧ s = L.next + 1 then a.call.t else T u v s, had, ?_⟩
   have hT : ∀ u v s, s ≤ (C.lines u v).next → (if u = a.h.toNat ∧ v = a.call.h.toNat ∧ s = L.next + 1 then a.call.t else T u v s) = T u v s := fun u v s hs => by
    rw [if_neg]
    rintro ⟨e1, e2, e3⟩
    rw [e1, e2, hL'] at hs
    omega
   have hN : ∀ u v, (C.lines u v).next ≤ (D.lines u v).next := fun u v => by
    rw [hl]
    split
    · rename_i e
      rw [e.1, e.2, hL']
      show L.next ≤ L.next + 1
      omega
    · exact Int.le_refl _
   have hok : ∀ g : Frm, FOk C T g → FOk D (fun u v s => if u = a.h.toNat ∧ v = a.call.h.toNat ∧ s = L.next + 1 then a.call.t else T u v s) g := fun g hg => by
    refine ⟨hg.1, Int.le_trans hg.2.1 (hN _ _), ?_⟩
    show g.thread = if _ then _ else _
    rw [hT _ _ _ hg.2.1]
    exact hg.2.2
   have hfok : FOk D (fun u v s => if u = a.h.toNat ∧ v = a.call.h.toNat ∧ s = L.next + 1 then a.call.t else T u v s) f := by
    unfold FOk
    rw [q5, q6, hl, if_pos ⟨rfl, rfl⟩, q9, q7]
    exact ⟨by omega, Int.le_refl _, by simp⟩
   refine ⟨fun u v => ?_, fun u v s hs => ?_, fun u v => Int.le_trans (h.next u v) (hN u v), fun s hs => ?_, fun u v s hs => ?_, fun u v t huv => ?_, fun u v t hv huv => ?_, fun u t hu => ?_⟩
   · rw [hl]
     split
     · rw [← hL']; exact h.seen _ _
     · exact h.seen u v
   · have := h.hadc u v s hs
     rw [hl]
     split
     · rename_i e
       rw [e.1, e.2, hL'] at this
       exact this
     · exact this
   · rcases q13 s hs with e | ⟨e1, e2⟩
     · obtain ⟨g, g1, g2, g3⟩ := h.net s e
       exact ⟨g, g1, g2, fun e => hok g (g3 e)⟩
     · exact ⟨f, e2, e1, fun _ => hfok⟩
   · rw [hl] at hs
     split at hs
     · rename_i e
       rcases List.mem_append.1 hs with e3 | e3
       · have := h.sent u v s (by rw [e.1, e.2, hL']; exact e3)
         exact ⟨this.1, this.2.1, hok _ this.2.2⟩
       · rw [List.mem_singleton.1 e3, q10, q5, q6]
         exact ⟨by omega, by omega, hfok⟩
     · have := h.sent u v s hs
       exact ⟨this.1, this.2.1, hok _ this.2.2⟩
   · have hup := h.up u v t huv
     rw [hl]
     by_cases e : u = a.h.toNat ∧ v = a.call.h.toNat
     · rw [if_pos e]
       show cnt (L.next + 1).toNat _ ≤ _
       rw [e.1, e.2, hL'] at hup
       rw [show (L.next + 1).toNat = L.next.toNat + 1 by omega, Qbk, show ((L.next.toNat : Nat) : Int) = L.next by omega]
       have h1 : cnt L.next.toNat (fun s => decide ((if u = a.h.toNat ∧ v = a.call.h.toNat ∧ s = L.next + 1 then a.call.t else T u v s) = (t : Int))) ≤ snt u v t := by
        rw [e.1, e.2]
        refine Nat.le_trans (QcZ fun s s1 s2 hs => ?_) hup
        rw [if_neg (by omega)] at hs
        exact hs
       unfold sntN
       by_cases e2 : a.call.t = (t : Int)
       · rw [if_pos (c := SendA a r ∧ _) ⟨q1, by omega, by omega, e2.symm⟩]
         have hi : ∀ b : Bool, (if b = true then 1 else 0 : Nat) ≤ 1 := fun b => by cases b <;> simp
         exact Nat.add_le_add h1 (hi _)
       · rw [if_neg (c := SendA a r ∧ _) (fun g => e2 g.2.2.2.symm)]
         rw [if_neg]
         · omega
         · simp only [e.1, e.2, and_self, if_true, decide_eq_true_eq]
           exact e2
     · rw [if_neg e]
       refine Nat.le_trans (QcZ fun s s1 s2 hs => ?_) (Nat.le_trans hup (Qal a r snt u v t))
       have := h.next u v
       rw [hT u v s (by omega)] at hs
       exact hs
   · rw [Qan (QaK q11 v t)]
     refine Nat.le_trans (h.down u v t hv huv) (Nat.le_trans (QcZ fun s s1 s2 hs => ?_) (Qkt (n := (C.lines u v).next.toNat) (by have := hN u v; omega) _))
     have := h.next u v
     rw [hT u v s (by omega)]
     exact hs
   · rw [Qan (QaK q11 u t)]; exact Nat.le_trans (h.here u t hu) (Qal a r snt u u t)
 · have hl : ∀ x y, D.lines x y = if x = f.to.toNat ∧ y = f.fr.toNat then (ansLn (lineC C f.to f.fr) f.seq).1 else C.lines x y := fun x y => by rw [q2]; rfl
   refine ⟨T, had, h.heads (fun a b => ?_) (fun a b s hs => ?_) (fun s hs => .inl (q3 s hs)) (Qal a r snt) (fun x y t hy hxy => ?_) (fun x t hx => ?_)⟩
   · rw [hl]
     split
     · rename_i e
       rw [e.1, e.2]; exact Qfn _ _
     · exact ⟨rfl, rfl, rfl⟩
   · rw [hl] at hs
     split at hs
     · rename_i e
       rw [e.1, e.2]; exact ⟨s, Ql7 _ _ s hs, rfl⟩
     · exact ⟨s, hs, rfl⟩
   · rw [Qan (QaK q1 y t)]; exact Nat.le_refl _
   · rw [Qan (QaK q1 x t)]; exact Nat.le_trans (h.here x t hx) (Qal a r snt x x t)
 · have f4 : 0 ≤ f.to ∧ f.to < 4 := of_decide_eq_true (Qab q3).2.1
   have r4 : 0 ≤ f.fr ∧ f.fr < 4 := of_decide_eq_true (Qab q3).1
   have hto := (Qab q3).2.1
   have htwo := Qj8 q3
   obtain ⟨f', e1, e2, e3⟩ := h.net s q1
   rw [e2, back f' e1] at q2
   obtain ⟨rfl, _⟩ := Prod.mk.inj q2
   have hok := e3 q4
   have hmh := QjU q3 q4
   clear e1 e3 q2
   generalize hL : lineC C f'.fr f'.to = L at *
   have hL' : C.lines f'.fr.toNat f'.to.toNat = L := hL
   have hl : ∀ u v, D.lines u v = if u = f'.fr.toNat ∧ v = f'.to.toNat then (takeLn L f'.seq).1 else C.lines u v := fun u v => by rw [q5]; rfl
   have hN : ∀ u v, (D.lines u v).next = (C.lines u v).next := fun u v => by
    rw [hl]
    split
    · rename_i e
      rw [e.1, e.2, hL', Qd2]
    · rfl
   have hq : ∀ hd : Nat → Nat → Int → Bool, (∀ u v s, hd u v s = true → had u v s = true ∨ (u = f'.fr.toNat ∧ v = f'.to.toNat ∧ s = f'.seq ∧ (takeLn L f'.seq).2 = 0)) → (∀ u v s, had u v s = true → hd u v s = true) → (∀ u v t, v < 4 → u ≠ v → camN C D cam u v t ≤ cnt (C.lines u v).next.toNat (fun s => hd u v s && decide (T u v s = (t : Int)))) → (∀ u t, u < 4 → camN C D cam u u t ≤ sntN a r snt u u t) → OnC D T hd (sntN a r snt) (camN C D cam) := fun hd g1 g2 g3 g4 => by
    refine ⟨fun u v => ?_, fun u v s hs => ?_, fun u v => by rw [hN]; exact h.next u v, fun s hs => ?_, fun u v s hs => ?_, fun u v t huv => ?_, fun u v t hv huv => by rw [hN]; exact g3 u v t hv huv, g4⟩
    · rw [hl]
      split
      · rw [← hL']; exact take_length _ _ (h.seen _ _)
      · exact h.seen u v
    · rw [hl]
      rcases g1 u v s hs with e | ⟨e4, e5, e6, e7⟩
      · have := h.hadc u v s e
        split
        · rename_i e8
          rw [e8.1, e8.2, hL'] at this
          exact Qc2 (by rw [← hL']; exact h.seen _ _) this
        · exact this
      · rw [if_pos ⟨e4, e5⟩, e6]
        exact (Qb1 (by rw [← hL']; exact h.seen _ _) e7).2.2
    · rcases q6 s hs with e | ⟨g, g1, g2, g3⟩
      · obtain ⟨g, g1, g2, g3⟩ := h.net s e
        exact ⟨g, g1, g2, fun e => (g3 e).next hN⟩
      · exact ⟨g, g2, g3, QkW g1⟩
    · rw [hl] at hs
      split at hs
      · rename_i e
        rw [Qjm] at hs
        have := h.sent u v s (by rw [e.1, e.2, hL']; exact hs)
        exact ⟨this.1, this.2.1, this.2.2.next hN⟩
      · have := h.sent u v s hs
        exact ⟨this.1, this.2.1, this.2.2.next hN⟩
    · rw [hN]; exact Nat.le_trans (h.up u v t huv) (Qal a r snt u v t)
   rcases q7 with q7 | ⟨q7, q8⟩
   · refine ⟨T, had, hq had (fun _ _ _ e => .inl e) (fun _ _ _ e => e) (fun u v t hv huv => ?_) (fun u t hu => ?_)⟩
     · rw [Qan (QaK q7 v t)]; exact h.down u v t hv huv
     · rw [Qan (QaK q7 u t)]; exact Nat.le_trans (h.here u t hu) (Qal a r snt u u t)
   · have hfalse : had f'.fr.toNat f'.to.toNat f'.seq = false := by
      cases e : had f'.fr.toNat f'.to.toNat f'.seq with
      | false => rfl
      | true =>
       have := h.hadc _ _ _ e
       rw [hL'] at this
       exact absurd this (Qb1 (by rw [← hL']; exact h.seen _ _) q7).1
     refine ⟨T, fun u v s => had u v s || decide (u = f'.fr.toNat ∧ v = f'.to.toNat ∧ s = f'.seq), hq _ (fun u v s e => ?_) (fun u v s e => by rw [Bool.or_eq_true]; exact .inl e) (fun u v t hv huv => ?_) (fun u t hu => ?_)⟩
     · rw [Bool.or_eq_true] at e
       rcases e with e | e
       · exact .inl e
       · obtain ⟨e1, e2, e3⟩ := of_decide_eq_true e
         exact .inr ⟨e1, e2, e3, q7⟩
     · have hd := h.down u v t hv huv
       unfold camN
       split
       · rename_i e
         obtain ⟨g1, g2, g3, _⟩ := QaQ hto q8 e.1
         have e2 := e.2
         rw [g3, hmh] at e2
         have hu : u = f'.fr.toNat := by omega
         have hv' : v = f'.to.toNat := by omega
         refine Nat.le_trans (Nat.add_le_add_right hd 1) (QlZ (x := f'.seq) (fun s s1 s2 hs => ?_) hok.1 ?_ ?_ ?_)
         · rw [Bool.and_eq_true] at hs ⊢
           exact ⟨by rw [Bool.or_eq_true]; exact .inl hs.1, hs.2⟩
         · have := hok.2.1
           have := h.next u v
           rw [hu, hv'] at this ⊢
           omega
         · rw [hu, hv', hfalse]; rfl
         · rw [hu, hv']
           simp only [and_self, decide_true, Bool.or_true, Bool.true_and]
           rw [← hok.2.2]
           exact decide_eq_true g2.symm
       · refine Nat.le_trans hd (QcZ fun s s1 s2 hs => ?_)
         rw [Bool.and_eq_true] at hs ⊢
         exact ⟨by rw [Bool.or_eq_true]; exact .inl hs.1, hs.2⟩
     · unfold camN
       rw [if_neg]
       · exact Nat.le_trans (h.here u t hu) (Qal a r snt u u t)
       · rintro ⟨e1, e2⟩
         obtain ⟨g1, g2, g3, _⟩ := QaQ hto q8 e1
         rw [g3, hmh] at e2
         omega
 · refine ⟨T, had, h.heads q2.head q2.sent (fun s hs => (q2.net s hs).imp id .inr) (Qal a r snt) (fun x y t hy hxy => ?_) (fun x t hx => ?_)⟩
   · rw [Qan (QaK q1 y t)]; exact Nat.le_refl _
   · rw [Qan (QaK q1 x t)]; exact Nat.le_trans (h.here x t hx) (Qal a r snt x x t)
end
def HighI (C : Clu) : Prop := (∃ T had snt cam, OnC C T had snt cam) ∧ ∀ a b, (C.lines a b).high ≤ (C.lines a b).next
theorem take_high2 (l : Lne) (q : Int) : (takeLn l q).1.high = l.high ∨ (takeLn l q).1.high = q := by
 unfold takeLn
 (repeat' split) <;> first | exact .inl rfl | exact .inr rfl
theorem Qj7 : OnC freshClu (fun _ _ _ => 0) (fun _ _ _ => false) (fun _ _ _ => 0) (fun _ _ _ => 0) := ⟨fun _ _ => rfl, fun _ _ _ h => (by cases h), fun _ _ => Int.le_refl _, fun _ h => (by cases h), fun _ _ _ h => (by cases h), fun _ _ _ _ => Nat.le_refl _, fun _ _ _ _ _ => Nat.zero_le _, fun _ _ _ => Nat.le_refl _⟩
theorem Qii : HighI freshClu := ⟨⟨_, _, _, _, Qj7⟩, fun _ _ => Int.le_refl _⟩
theorem QjY {C : Clu} (h : HighI C) (hg : GoodC C) (hh : HostC C) (a : Ac) : HighI (doC C a).1 := by
 obtain ⟨⟨T, had, snt, cam, hon⟩, hl⟩ := h
 have hm := Qki hg a
 obtain ⟨T', had', hon'⟩ := Qli hon hh hm
 refine ⟨⟨T', had', _, _, hon'⟩, fun x y => ?_⟩
 rcases hm with ⟨q1, _⟩ | ⟨m, _, _, _, _, q5, _⟩ | ⟨f, s, _, _, _, _, _, _, _, _, _, _, _, q12, _⟩ | ⟨f, _, q2, _⟩ | ⟨f, s, q1, q2, q3, q4, q5, _⟩ | ⟨_, q2⟩
 · rw [q1]; exact hl x y
 · rw [q5]; exact hl x y
 · rw [q12]
   show (if x = a.h.toNat ∧ y = a.call.h.toNat then _ else C.lines x y).high ≤ (if x = a.h.toNat ∧ y = a.call.h.toNat then _ else C.lines x y).next
   split
   · have := hl a.h.toNat a.call.h.toNat
     show (lineC C a.h a.call.h).high ≤ (lineC C a.h a.call.h).next + 1
     unfold lineC
     omega
   · exact hl x y
 · rw [q2]
   show (if x = f.to.toNat ∧ y = f.fr.toNat then _ else C.lines x y).high ≤ (if x = f.to.toNat ∧ y = f.fr.toNat then _ else C.lines x y).next
   split
   · obtain ⟨g1, g2, _⟩ := Qfn (lineC C f.to f.fr) f.seq
     rw [g1, g2]; exact hl _ _
   · exact hl x y
 · obtain ⟨f', e1, e2, e3⟩ := hon.net s q1
   rw [e2, back f' e1] at q2
   obtain ⟨rfl, _⟩ := Prod.mk.inj q2
   have hok := (e3 q4).2.1
   rw [q5]
   show (if x = f'.fr.toNat ∧ y = f'.to.toNat then _ else C.lines x y).high ≤ (if x = f'.fr.toNat ∧ y = f'.to.toNat then _ else C.lines x y).next
   split
   · rw [Qd2]
     rcases take_high2 (lineC C f'.fr f'.to) f'.seq with e | e
     · rw [e]; exact hl _ _
     · rw [e]; exact hok
   · exact hl x y
 · rw [(q2.head x y).1, (q2.head x y).2.1]; exact hl x y
theorem Qea : ∀ (l : List Ac) {C : Clu} (_ : HighI C) (_ : GoodC C) (_ : HostC C), HighI (playC C l)
 | [], _, h, _, _ => h
 | a :: r, _, h, hg, hh => Qea r (QjY h hg hh a) (QaL hg a) (QmA hh a)
structure Emp (C D : Clu) : Prop where
 ks : D.ks = C.ks
 certs : D.certs = C.certs
 lines : D.lines = C.lines
 now : D.now = C.now
theorem Emp.refl (C : Clu) : Emp C C := ⟨rfl, rfl, rfl, rfl⟩
theorem Emp.trans {A B C : Clu} (h : Emp A B) (k : Emp B C) : Emp A C := ⟨k.ks.trans h.ks, k.certs.trans h.certs, k.lines.trans h.lines, k.now.trans h.now⟩
def zeroCal : Cal := ⟨0, 0, 0, 0, 0, [], [], []⟩
def dropA : Ac := ⟨4, 0, 0, 0, zeroCal⟩
theorem QlP (C : Clu) : Emp C (doC C dropA).1 ∧ ((doC C dropA).2.code = 0 → 0 < C.net.length → (doC C dropA).1.net = C.net.drop 1) := by
 unfold doC
 split
 · exact ⟨Emp.refl C, fun h => by cases h⟩
 · dsimp only
   rw [if_neg (show ¬ dropA.kind = 1 by decide), if_pos (show dropA.kind = 2 ∨ dropA.kind = 3 ∨ dropA.kind = 4 by decide)]
   unfold moveC
   split
   · dsimp only
     rw [if_pos (show dropA.kind = 4 by decide), if_neg (show ¬ dropA.kind = 3 by decide)]
     exact ⟨⟨rfl, rfl, rfl, rfl⟩, fun _ _ => by simp [dropA]⟩
   · rename_i h1
     refine ⟨⟨rfl, rfl, rfl, rfl⟩, fun _ h0 => absurd ⟨Int.le_refl 0, ?_⟩ h1⟩
     show (0 : Int) < ((C.net.length : Nat) : Int)
     omega
structure Arr (C : Clu) (f : Frm) (i : Nat) : Prop where
 good : goodLn (lineC C f.fr f.to) = true
 snt : ∃ s ∈ (lineC C f.fr f.to).sent, s.f = f ∧ s.tries = (i : Int) + 1 ∧ s.due = C.now + 2 ^ (i + 1)
 high : (lineC C f.fr f.to).high < f.seq
theorem Arr.emp {C D : Clu} {f : Frm} {i : Nat} (h : Arr C f i) (e : Emp C D) : Arr D f i := by
 have hl : ∀ a b, lineC D a b = lineC C a b := fun a b => by unfold lineC; rw [e.lines]
 exact ⟨by rw [hl]; exact h.good, by rw [hl, e.now]; exact h.snt, by rw [hl]; exact h.high⟩
def tickA (n : Int) : Ac := ⟨5, 0, 0, n, zeroCal⟩
theorem Qlf (C : Clu) (f : Frm) : ∃ x, (putC C f).net = C.net ++ x := by
 unfold putC
 split
 · exact ⟨_, rfl⟩
 · exact ⟨[], by simp⟩
theorem QdR : ∀ (l : List Frm) (C : Clu), ∃ x, (l.foldl putC C).net = C.net ++ x
 | [], C => ⟨[], by simp⟩
 | f :: r, C => by
  obtain ⟨x, hx⟩ := Qlf C f
  obtain ⟨y, hy⟩ := QdR r (putC C f)
  exact ⟨x ++ y, by rw [List.foldl_cons, hy, hx, List.append_assoc]⟩
theorem Qcq : ∀ (l : List Frm) (C : Clu), (l.foldl putC C).lines = C.lines ∧ (l.foldl putC C).now = C.now
 | [], _ => ⟨rfl, rfl⟩
 | f :: r, C => by
  have h1 := Qcq r (putC C f)
  have h2 := Qb6 C f
  have h3 := Qbz C f
  exact ⟨by rw [List.foldl_cons]; exact h1.1.trans h2.2.1, by rw [List.foldl_cons]; exact h1.2.trans h3.2.2⟩
def There (C : Clu) (f : Frm) : Prop := encL f ∈ C.net ∨ 60 ≤ C.net.length
theorem There.more {C D : Clu} {f : Frm} (h : There C f) (e : ∃ x, D.net = C.net ++ x) : There D f := by
 obtain ⟨x, e⟩ := e
 unfold There
 rw [e]
 rcases h with h | h
 · exact .inl (List.mem_append_left _ h)
 · exact .inr (by rw [List.length_append]; omega)
theorem QhP (C : Clu) {f : Frm} (hf : frameE f = 0) : There (putC C f) f := by
 unfold There putC
 by_cases h : C.net.length < 60
 · rw [if_pos ⟨hf, h⟩]
   exact .inl (List.mem_append_right _ (List.mem_singleton.2 rfl))
 · rw [if_neg (fun e => h e.2)]
   exact .inr (by omega)
theorem Qd8 {f : Frm} (hf : frameE f = 0) : ∀ (l : List Frm) (C : Clu), f ∈ l → There (l.foldl putC C) f
 | g :: r, C, h => by
  rw [List.foldl_cons]
  rcases List.mem_cons.1 h with e | e
  · rw [← e]
    exact (QhP C hf).more (QdR r _)
  · exact Qd8 hf r _ e
theorem Qhi {C : Clu} {a b x y : Int} (h : ¬ (x.toNat = a.toNat ∧ y.toNat = b.toNat)) : lineC (againC C a b).1 x y = lineC C x y ∧ (againC C a b).1.now = C.now ∧ ∃ z, (againC C a b).1.net = C.net ++ z := by
 unfold againC
 dsimp only
 obtain ⟨h1, h2⟩ := Qcq (againLn (lineC C a b) C.now).2.1 (setLi C a b (againLn (lineC C a b) C.now).1)
 refine ⟨?_, h2, QdR _ _⟩
 show (_ : Clu).lines x.toNat y.toNat = _
 rw [h1]
 show (if x.toNat = a.toNat ∧ y.toNat = b.toNat then _ else C.lines x.toNat y.toNat) = _
 rw [if_neg h]
 rfl
theorem QbE {x y : Int} : ∀ (l : List (Int × Int)) (s : Clu × Nat) (_ : ∀ p ∈ l, ¬ (x.toNat = p.1.toNat ∧ y.toNat = p.2.toNat)), lineC (l.foldl (fun (s : Clu × Nat) ab => ((againC s.1 ab.1 ab.2).1, s.2 + (againC s.1 ab.1 ab.2).2)) s).1 x y = lineC s.1 x y ∧ (l.foldl (fun (s : Clu × Nat) ab => ((againC s.1 ab.1 ab.2).1, s.2 + (againC s.1 ab.1 ab.2).2)) s).1.now = s.1.now ∧ ∃ z, (l.foldl (fun (s : Clu × Nat) ab => ((againC s.1 ab.1 ab.2).1, s.2 + (againC s.1 ab.1 ab.2).2)) s).1.net = s.1.net ++ z
 | [], _, _ => ⟨rfl, rfl, [], by simp⟩
 | p :: r, s, h => by
  rw [List.foldl_cons]
  obtain ⟨g1, g2, z, g3⟩ := QbE r ((againC s.1 p.1 p.2).1, s.2 + (againC s.1 p.1 p.2).2) (fun q hq => h q (List.mem_cons_of_mem _ hq))
  obtain ⟨k1, k2, z', k3⟩ := Qhi (C := s.1) (h p (by simp))
  exact ⟨g1.trans k1, g2.trans k2, z' ++ z, by rw [g3, k3, List.append_assoc]⟩
theorem QkN {C : Clu} {f : Frm} {i : Nat} (hf : frameE f = 0) (hg : goodLn (lineC C f.fr f.to) = true) (hn : 0 ≤ C.now ∧ C.now ≤ 1099511627776) (hs : ∃ s ∈ (lineC C f.fr f.to).sent, s.f = f ∧ s.tries = (i : Int) + 1 ∧ s.due ≤ C.now) (hi : i < 4) (hh : (lineC C f.fr f.to).high < f.seq) :
 Arr (againC C f.fr f.to).1 f (i + 1) ∧ There (againC C f.fr f.to).1 f := by
 obtain ⟨s, h1, h2, h3, h4⟩ := hs
 have ht : timeB C.now = true := decide_eq_true hn
 have e : againLn (lineC C f.fr f.to) C.now = ({ lineC C f.fr f.to with sent := (lineC C f.fr f.to).sent.flatMap (againS C.now) }, (lineC C f.fr f.to).sent.flatMap (againF C.now), 0) := by
  unfold againLn
  rw [if_pos (by rw [hg, ht]; rfl)]
 have hS : againS C.now s = [{ s with tries := s.tries + 1, due := C.now + 2 ^ (s.tries + 1).toNat }] := by
  unfold againS
  rw [if_neg (by omega), if_neg (by omega)]
 have hF : againF C.now s = [s.f] := by
  unfold againF
  rw [if_neg (by omega), if_neg (by omega)]
 have hl := Qcq (againLn (lineC C f.fr f.to) C.now).2.1 (setLi C f.fr f.to (againLn (lineC C f.fr f.to) C.now).1)
 have hline : lineC (againC C f.fr f.to).1 f.fr f.to = { lineC C f.fr f.to with sent := (lineC C f.fr f.to).sent.flatMap (againS C.now) } := by
  unfold againC
  dsimp only
  show (_ : Clu).lines f.fr.toNat f.to.toNat = _
  rw [hl.1]
  show (if f.fr.toNat = f.fr.toNat ∧ f.to.toNat = f.to.toNat then _ else C.lines f.fr.toNat f.to.toNat) = _
  rw [if_pos ⟨rfl, rfl⟩, e]
 have hnow : (againC C f.fr f.to).1.now = C.now := by unfold againC; exact hl.2
 refine ⟨⟨?_, ⟨{ s with tries := s.tries + 1, due := C.now + 2 ^ (s.tries + 1).toNat }, ?_, h2, ?_, ?_⟩, ?_⟩, ?_⟩
 · rw [hline]; exact Qer hg hn.1 hn.2
 · rw [hline]
   exact List.mem_flatMap.2 ⟨s, h1, by rw [hS]; exact List.mem_singleton.2 rfl⟩
 · show s.tries + 1 = ((i + 1 : Nat) : Int) + 1
   rw [h3]; omega
 · rw [hnow]
   show C.now + 2 ^ (s.tries + 1).toNat = C.now + 2 ^ (i + 1 + 1)
   rw [h3, show ((i : Int) + 1 + 1).toNat = i + 1 + 1 by omega]
 · rw [hline]; exact hh
 · unfold againC
   dsimp only
   refine Qd8 hf _ _ ?_
   rw [e]
   exact List.mem_flatMap.2 ⟨s, h1, by rw [hF, h2]; exact List.mem_singleton.2 rfl⟩
theorem QjE {a b : Int} (ha : hostB a = true) (hb : hostB b = true) : (a, b) ∈ ([0, 1, 2, 3].flatMap fun a => [0, 1, 2, 3].map fun b => ((a : Int), (b : Int))) := by
 have h1 : 0 ≤ a ∧ a < 4 := of_decide_eq_true ha
 have h2 : 0 ≤ b ∧ b < 4 := of_decide_eq_true hb
 have a4 : a = 0 ∨ a = 1 ∨ a = 2 ∨ a = 3 := by omega
 have b4 : b = 0 ∨ b = 1 ∨ b = 2 ∨ b = 3 := by omega
 rcases a4 with rfl | rfl | rfl | rfl <;> rcases b4 with rfl | rfl | rfl | rfl <;> decide
theorem Qgs : ([0, 1, 2, 3].flatMap fun a => [0, 1, 2, 3].map fun b => ((a : Int), (b : Int))).Nodup := by decide
theorem QhT : ∀ p ∈ ([0, 1, 2, 3].flatMap fun a => [0, 1, 2, 3].map fun b => ((a : Int), (b : Int))), 0 ≤ p.1 ∧ 0 ≤ p.2 := by decide
theorem Qk0 {C : Clu} {f : Frm} {i : Nat} (hg : GoodC C) (hf : frameE f = 0) (h : Arr C f i) (hi : i < 4) (hc : (doC C (tickA (2 ^ (i + 1)))).2.code = 0) : Arr (doC C (tickA (2 ^ (i + 1)))).1 f (i + 1) ∧ There (doC C (tickA (2 ^ (i + 1)))).1 f ∧ (doC C (tickA (2 ^ (i + 1)))).1.ks = C.ks := by
 obtain ⟨hfr, hto, _⟩ := Qab hf
 have f1 : 0 ≤ f.fr ∧ f.fr < 4 := of_decide_eq_true hfr
 have f2 : 0 ≤ f.to ∧ f.to < 4 := of_decide_eq_true hto
 unfold doC at hc ⊢
 by_cases h3 : 300 ≤ C.acts
 · rw [if_pos h3] at hc; cases hc
 rw [if_neg h3] at hc ⊢
 dsimp only at hc ⊢
 rw [if_neg (show ¬ (tickA (2 ^ (i + 1))).kind = 1 by show ¬ (5 : Int) = 1; decide), if_neg (show ¬ ((tickA (2 ^ (i + 1))).kind = 2 ∨ (tickA (2 ^ (i + 1))).kind = 3 ∨ (tickA (2 ^ (i + 1))).kind = 4) by show ¬ ((5 : Int) = 2 ∨ (5 : Int) = 3 ∨ (5 : Int) = 4); decide), if_pos (show (tickA (2 ^ (i + 1))).kind = 5 from rfl)] at hc ⊢
 refine ⟨?_, ?_, QdL _ _⟩ <;> unfold tickC at hc ⊢
 all_goals
  by_cases h4 : 1 ≤ (tickA (2 ^ (i + 1))).n ∧ (tickA (2 ^ (i + 1))).n ≤ 1099511627776 - C.now
  · rw [if_pos h4]
    dsimp only
    obtain ⟨l1, l2, hl⟩ := List.append_of_mem (QjE hfr hto)
    have hnd := Qgs
    have hph := QhT
    rw [hl] at hnd hph ⊢
    rw [List.foldl_append, List.foldl_cons]
    have hne : ∀ p, p ∈ l1 ∨ p ∈ l2 → ¬ (f.fr.toNat = p.1.toNat ∧ f.to.toNat = p.2.toNat) := fun p hp e => by
     have hpp := hph p (by simp only [List.mem_append, List.mem_cons]; rcases hp with hp | hp <;> simp [hp])
     have : p = (f.fr, f.to) := Prod.ext (by show p.1 = f.fr; omega) (by show p.2 = f.to; omega)
     rw [List.nodup_append] at hnd
     rcases hp with hp | hp
     · exact hnd.2.2 p hp (f.fr, f.to) (by simp) this
     · have := (List.nodup_cons.1 hnd.2.1).1
       rw [← ‹p = (f.fr, f.to)›] at this
       exact this hp
    have hp := QbE (x := f.fr) (y := f.to) l1 (({ C with acts := C.acts + 1, now := C.now + (tickA (2 ^ (i + 1))).n } : Clu), 0) (fun p hp => hne p (.inl hp))
    generalize List.foldl _ (({ C with acts := C.acts + 1, now := C.now + (tickA (2 ^ (i + 1))).n } : Clu), 0) l1 = s1 at hp ⊢
    obtain ⟨p1, p2, _⟩ := hp
    have p1' : lineC s1.1 f.fr f.to = lineC C f.fr f.to := p1
    have p2' : s1.1.now = C.now + 2 ^ (i + 1) := p2
    have hgn := hg.now
    have h4b : (2 : Int) ^ (i + 1) ≤ 1099511627776 - C.now := h4.2
    have h4a : (1 : Int) ≤ 2 ^ (i + 1) := h4.1
    obtain ⟨q1, q2⟩ := QkN (C := s1.1) (i := i) hf (by rw [p1']; exact h.good) (by rw [p2']; omega) (by
     rw [p1', p2']
     obtain ⟨s, g1, g2, g3, g4⟩ := h.snt
     exact ⟨s, g1, g2, g3, by omega⟩) hi (by rw [p1']; exact h.high)
    have hq := QbE (x := f.fr) (y := f.to) l2 ((againC s1.1 f.fr f.to).1, s1.2 + (againC s1.1 f.fr f.to).2) (fun p hp => hne p (.inr hp))
    generalize List.foldl _ ((againC s1.1 f.fr f.to).1, s1.2 + (againC s1.1 f.fr f.to).2) l2 = s2 at hq ⊢
    obtain ⟨r1, r2, r3⟩ := hq
    first
     | exact q2.more r3
     | exact ⟨by rw [r1]; exact q1.good, by rw [r1, r2]; exact q1.snt, by rw [r1]; exact q1.high⟩
  · rw [if_neg h4] at hc; cases hc
def sendA (h t to u : Int) (text : List UInt8) : Ac := ⟨1, h, t, 0, ⟨6, to, u, 0, 0, [], [], text⟩⟩
theorem Qdq {m : Mal} (h1 : m.label = []) (h2 : m.grants = []) : namesL m = [] := by
 unfold namesL
 rw [h1, h2]
 simp [Lib.compact]
 rfl
theorem Qfa {l : List Crt} {x now : Int} {m : Mal} (h1 : m.label = []) (h2 : m.grants = []) (hx : hostB x = true) : mayB l x m now = true := by
 unfold mayB
 rw [Qdq h1 h2, hx]
 rfl
theorem QhG {l : List Crt} {m : Mal} (h1 : m.label = []) (h2 : m.grants = []) : showL l m = [] := by
 unfold showL
 rw [Qdq h1 h2]
 induction l with
 | nil => rfl
 | cons x r ih => rw [List.filter_cons, if_neg (by simp), ih]
theorem Qgp {l : Lne} {f : Frm} {now : Int} (hg : goodLn l = true) (h8 : l.sent.length ≠ 8) (hn : l.next ≠ 1099511627775) (h0 : 0 ≤ now) (h1 : now ≤ 1099511627776) (hf : f.seq = l.next + 1) : goodLn { l with next := l.next + 1, sent := l.sent ++ [⟨f, 1, now + 2⟩] } = true := by
 have hh := (QQ l).1 (Qaa hg)
 have hr := Qap hg
 unfold goodLn
 rw [Bool.and_eq_true]
 refine ⟨(QQ _).2 ⟨?_, ?_, hh.2.2.1, hh.2.2.2.1, ?_⟩, Qd6 ?_ (Qf4 (show l.next ≤ l.next + 1 by omega) hr) ?_ fun s hs => ?_⟩
 · show 0 ≤ l.next + 1; omega
 · show l.next + 1 < 1099511627776; omega
 · show (l.sent ++ [_]).length ≤ 8
   rw [List.length_append]
   show l.sent.length + 1 ≤ 8
   omega
 · unfold sentB triesB
   rw [Bool.and_eq_true]
   refine ⟨decide_eq_true ?_, decide_eq_true ⟨?_, ?_, ?_, ?_⟩⟩
   · show f.seq ≤ l.next + 1; omega
   · show (1 : Int) ≤ 1; omega
   · show (1 : Int) ≤ 5; omega
   · show 0 ≤ now + 2; omega
   · show now + 2 ≤ 2199023255552; omega
 · show 0 < f.seq; omega
 · have := (QaB hr s hs).2.1
   show s.f.seq < f.seq
   omega
structure SentF (C D : Clu) (f : Frm) (h t to u : Int) : Prop where
 good : frameE f = 0
 ack : f.ack = false
 fr : f.fr = h
 dst : f.to = to
 thr : f.thread = u
 certs : f.certs = []
 host : f.mail.host = h
 mthr : f.mail.thread = t
 label : f.mail.label = []
 grants : f.mail.grants = []
 net : D.net = [encL f]
 ks : D.ks = C.ks
 arr : Arr D f 0
theorem Qlc {C : Clu} (hg : GoodC C) (hh : HostC C) (hi : ∀ a b, (C.lines a b).high ≤ (C.lines a b).next) {h t to u : Int} (h1 : hostB h = true) (h2 : hostB t = true) (h3 : hostB to = true) (h4 : hostB u = true) (hne : to ≠ h) {text : List UInt8} (htx : ¬ 64 < text.length) (hnet : C.net = []) :
 ((doC C (sendA h t to u text)).2.code ≠ 0 → (doC C (sendA h t to u text)).1.net = []) ∧ ((doC C (sendA h t to u text)).2.code = 0 → ∃ f, SentF C (doC C (sendA h t to u text)).1 f h t to u) := by
 have a1 : 0 ≤ h ∧ h < 4 := of_decide_eq_true h1
 have a3 : 0 ≤ to ∧ to < 4 := of_decide_eq_true h3
 unfold doC
 by_cases h300 : 300 ≤ C.acts
 · rw [if_pos h300]
   exact ⟨fun _ => hnet, fun e => by cases e⟩
 rw [if_neg h300]
 dsimp only
 rw [if_pos (show (sendA h t to u text).kind = 1 from rfl)]
 unfold callC
 rw [if_pos (show (hostB (sendA h t to u text).h && hostB (sendA h t to u text).t) = true by show (hostB h && hostB t) = true; rw [h1, h2]; rfl), if_pos (show (sendA h t to u text).call.kind = 6 from rfl)]
 show ((sendC { C with acts := C.acts + 1 } h t (sendA h t to u text).call).2 ≠ 0 → (sendC { C with acts := C.acts + 1 } h t (sendA h t to u text).call).1.net = []) ∧ ((sendC { C with acts := C.acts + 1 } h t (sendA h t to u text).call).2 = 0 → ∃ f, SentF C (sendC { C with acts := C.acts + 1 } h t (sendA h t to u text).call).1 f h t to u)
 unfold sendC
 rw [if_neg (show ¬ 64 < (sendA h t to u text).call.text.length from htx), if_pos (show (hostB (sendA h t to u text).call.h && hostB (sendA h t to u text).call.t) = true by show (hostB to && hostB u) = true; rw [h3, h4]; rfl)]
 by_cases g3 : (letterL (kerC { C with acts := C.acts + 1 } h) t (sendA h t to u text).call).2 = 0
 · rw [if_pos g3, if_neg (show ¬ (sendA h t to u text).call.h = h from hne)]
   obtain ⟨th, e1, e2, e3, _, _⟩ := QcM g3
   rw [e2]
   have hm1 : (letterM (kerC { C with acts := C.acts + 1 } h) t (sendA h t to u text).call th).label = [] := rfl
   have hm2 : (letterM (kerC { C with acts := C.acts + 1 } h) t (sendA h t to u text).call th).grants = [] := rfl
   have hm3 : (letterM (kerC { C with acts := C.acts + 1 } h) t (sendA h t to u text).call th).host = h := by
    show (kerC C h).host = h
    rw [show (kerC C h).host = ((h.toNat : Nat) : Int) from hh _]
    omega
   have hm4 : (letterM (kerC { C with acts := C.acts + 1 } h) t (sendA h t to u text).call th).thread = t := rfl
   generalize letterM (kerC { C with acts := C.acts + 1 } h) t (sendA h t to u text).call th = m at *
   show ((awayC { C with acts := C.acts + 1 } h to u m).2 ≠ 0 → (awayC { C with acts := C.acts + 1 } h to u m).1.net = []) ∧ ((awayC { C with acts := C.acts + 1 } h to u m).2 = 0 → ∃ f, SentF C (awayC { C with acts := C.acts + 1 } h to u m).1 f h t to u)
   unfold awayC
   rw [if_pos (Qfa hm1 hm2 h3), QhG hm1 hm2]
   dsimp only
   by_cases g5 : (sendLn (lineC { C with acts := C.acts + 1 } h to) ⟨h, to, 0, false, u, m, []⟩ C.now).2.2 = 0
   · rw [if_pos g5]
     refine ⟨fun e => absurd rfl e, fun _ => ?_⟩
     obtain ⟨q1, q2, q3, q4, q5, q6⟩ := Qe4 g5
     rw [q1, q2]
     clear q1 q2 g5 g3 e2 e1
     have hL : lineC { C with acts := C.acts + 1 } h to = lineC C h to := rfl
     rw [hL] at q3 q5 q6 ⊢
     have hhi : (lineC C h to).high ≤ (lineC C h to).next := hi _ _
     have hhd := (QQ _).1 (Qaa q3)
     have hnow : 0 ≤ C.now ∧ C.now ≤ 1099511627776 := hg.now
     generalize lineC C h to = L at *
     have hfe : frameE ⟨h, to, L.next + 1, false, u, m, []⟩ = 0 := by
      unfold frameE headB twoB
      have s1 : (!(h == to)) = true := by
       have : ¬ h = to := fun e => hne e.symm
       simpa using this
      have s2 : (!(L.next + 1 == 0)) = true := by
       have : ¬ L.next + 1 = 0 := by omega
       simpa using this
      have s3 : timeB (L.next + 1) = true := decide_eq_true ⟨by omega, by omega⟩
      simp only [h1, h3, h4, s1, s2, s3, Bool.and_self, if_true, Bool.false_eq_true, if_false]
      unfold loadE
      rw [if_pos e3, if_pos hm3]
      rfl
     have hput : putC (setLi { C with acts := C.acts + 1 } h to { L with next := L.next + 1, sent := L.sent ++ [⟨⟨h, to, L.next + 1, false, u, m, []⟩, 1, C.now + 2⟩] }) ⟨h, to, L.next + 1, false, u, m, []⟩ = { setLi { C with acts := C.acts + 1 } h to { L with next := L.next + 1, sent := L.sent ++ [⟨⟨h, to, L.next + 1, false, u, m, []⟩, 1, C.now + 2⟩] } with net := [encL ⟨h, to, L.next + 1, false, u, m, []⟩] } := by
      unfold putC
      have hz : (setLi { C with acts := C.acts + 1 } h to { L with next := L.next + 1, sent := L.sent ++ [⟨⟨h, to, L.next + 1, false, u, m, []⟩, 1, C.now + 2⟩] }).net = [] := hnet
      rw [if_pos ⟨hfe, by rw [hz]; decide⟩, hz]
      rfl
     rw [hput]
     have hline : lineC { setLi { C with acts := C.acts + 1 } h to { L with next := L.next + 1, sent := L.sent ++ [⟨⟨h, to, L.next + 1, false, u, m, []⟩, 1, C.now + 2⟩] } with net := [encL ⟨h, to, L.next + 1, false, u, m, []⟩] } h to = { L with next := L.next + 1, sent := L.sent ++ [⟨⟨h, to, L.next + 1, false, u, m, []⟩, 1, C.now + 2⟩] } := by
      show (if h.toNat = h.toNat ∧ to.toNat = to.toNat then _ else _) = _
      rw [if_pos ⟨rfl, rfl⟩]
     refine ⟨⟨h, to, L.next + 1, false, u, m, []⟩, hfe, rfl, rfl, rfl, rfl, rfl, hm3, hm4, hm1, hm2, rfl, rfl, ?_, ?_, ?_⟩
     · rw [hline]
       exact Qgp q3 q5 q6 hnow.1 hnow.2 rfl
     · rw [hline]
       exact ⟨_, List.mem_append_right _ (List.mem_singleton.2 rfl), rfl, rfl, rfl⟩
     · rw [hline]
       show L.high < L.next + 1
       omega
   · rw [if_neg g5]
     exact ⟨fun _ => hnet, fun e => absurd e g5⟩
 · rw [if_neg g3]
   exact ⟨fun _ => hnet, fun e => absurd e g3⟩
def comeA (k : Int) : Ac := ⟨2, 0, 0, k, zeroCal⟩
theorem QlX {C : Clu} {f : Frm} {i k : Nat} (hf : frameE f = 0) (ha : f.ack = false) (hc : f.certs = []) (hl : f.mail.label = []) (hgr : f.mail.grants = []) (h : Arr C f i) (hk : C.net[k]? = some (encL f)) :
 ((doC C (comeA k)).2.code = 0 ∧ (doC C (comeA k)).1.ks = (setK C f.to (deliverL (kerC C f.to) f.thread f.mail)).ks) ∨ (doC C (comeA k)).2.code = 5 := by
 obtain ⟨hlt, hk2⟩ := List.getElem?_eq_some_iff.1 hk
 unfold doC
 by_cases h300 : 300 ≤ C.acts
 · rw [if_pos h300]; exact .inr rfl
 rw [if_neg h300]
 dsimp only
 rw [if_neg (show ¬ (comeA k).kind = 1 by show ¬ (2 : Int) = 1; decide), if_pos (show (comeA k).kind = 2 ∨ (comeA k).kind = 3 ∨ (comeA k).kind = 4 from .inl rfl)]
 unfold moveC
 rw [if_pos (show 0 ≤ (comeA k).n ∧ (comeA k).n < ((C.net.length : Nat) : Int) by show 0 ≤ (k : Int) ∧ (k : Int) < (C.net.length : Int); omega)]
 dsimp only
 refine .inl ⟨rfl, ?_⟩
 rw [if_neg (show ¬ (comeA k).kind = 4 by show ¬ (2 : Int) = 4; decide), if_neg (show ¬ (comeA k).kind = 3 by show ¬ (2 : Int) = 3; decide)]
 have hs : C.net.getD (comeA k).n.toNat [] = encL f := by
  show C.net.getD ((k : Int)).toNat [] = _
  rw [Int.toNat_natCast, List.getD_eq_getElem?_getD, hk]
  rfl
 rw [hs]
 generalize hD : ({ C with acts := C.acts + 1, net := C.net.take (comeA k).n.toNat ++ C.net.drop ((comeA k).n.toNat + 1) } : Clu) = D
 have d1 : D.ks = C.ks := by rw [← hD]
 have d2 : ∀ a b, lineC D a b = lineC C a b := fun a b => by rw [← hD]; rfl
 clear hD
 have hseq : 1 ≤ f.seq ∧ f.seq ≤ 1099511627776 := by
  unfold frameE at hf
  split at hf
  · rename_i hb
    unfold headB at hb
    simp only [Bool.and_eq_true] at hb
    have t1 : 0 ≤ f.seq ∧ f.seq ≤ 1099511627776 := of_decide_eq_true hb.1.2
    have t2 : ¬ f.seq = 0 := by simpa using hb.1.1.2
    omega
  · cases hf
 have htk : (takeLn (lineC D f.fr f.to) f.seq).2 = 0 := by
  rw [d2]
  unfold takeLn
  have hh := h.high
  rw [if_pos (by rw [h.good, decide_eq_true hseq]; rfl), if_neg (by omega), if_pos hh]
 unfold comeC
 rw [back f hf, if_pos rfl]
 dsimp only
 rw [if_neg (by rw [ha]; decide), if_pos htk, if_pos (.inl htk)]
 generalize hE : putC (setLi D f.fr f.to (takeLn (lineC D f.fr f.to) f.seq).1) ⟨f.to, f.fr, f.seq, true, 0, zeroMal, []⟩ = E
 have e1 : E.ks = C.ks := by rw [← hE, (Qb6 _ _).1]; exact d1
 unfold acceptC
 rw [hc]
 dsimp only
 show (if mayB (crtC E f.to) f.fr f.mail E.now then setK E f.to (deliverL (kerC E f.to) f.thread f.mail) else E).ks = _
 rw [if_pos (Qfa hl hgr (Qab hf).1)]
 unfold setK kerC
 simp only [e1]
theorem QgN {K : Ker} (h4 : K.ths.length = 4) {u : Int} (hu : hostB u = true) (m : Mal) : thrOf (deliverL K u m) u = boxL (thrOf K u) m := by
 have a : 0 ≤ u ∧ u < 4 := of_decide_eq_true hu
 obtain ⟨n, rfl⟩ : ∃ n : Nat, u = n := ⟨u.toNat, by omega⟩
 have hn : n < K.ths.length := by omega
 unfold deliverL
 rw [QcF hn]
 show thrOf (setT K n _) n = _
 rw [QcD hn, if_pos rfl, Qbp hn]
end Go.Proofs.Parclose
