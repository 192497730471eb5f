/- Plain facts on lists of levels: what At, named, Flows, Good, Same say of them; no program is named here. -/
import Derived.Lib.SlicesCompact
namespace Go.Proofs.Parclose
def atL (l : List (Int × Int)) (c : Int) : Int := match l with
 | [] => 1
 | x :: r => if x.1 = c then x.2 else atL r c
theorem Qkk (l : List (Int × Int)) (c : Int) (h : ∀ j (hj : j < l.length), l[j].1 ≠ c) : atL l c = 1 := by
 induction l with
 | nil => rfl
 | cons x r ih =>
  have h0 := h 0 (by simp)
  simp only [List.getElem_cons_zero] at h0
  simp only [atL, if_neg h0]
  exact ih fun j hj => by have := h (j + 1) (by simp; omega); simpa using this
theorem Qkj (l : List (Int × Int)) (c : Int) (k : Nat) (hk : k < l.length) (h : ∀ j (hj : j < k), l[j].1 ≠ c) (hc : l[k].1 = c) : atL l c = l[k].2 := by
 induction l generalizing k with
 | nil => simp at hk
 | cons x r ih =>
  cases k with
  | zero => simp only [List.getElem_cons_zero] at hc ⊢; simp only [atL, if_pos hc]
  | succ k =>
   have h0 := h 0 (by omega)
   simp only [List.getElem_cons_zero] at h0
   simp only [atL, if_neg h0, List.getElem_cons_succ]
   exact ih k (by simpa using hk) (fun j hj => by have := h (j + 1) (by omega); simpa using this) (by simpa using hc)
theorem QcY {l : List (Int × Int)} {c : Int} (h : c ∉ l.map (·.1)) : atL l c = 1 := by
 induction l with
 | nil => rfl
 | cons x r ih =>
  simp only [List.map_cons, List.mem_cons, not_or] at h
  simp only [atL, if_neg (Ne.symm h.1)]
  exact ih h.2
def catsL (a b : List (Int × Int)) : List Int := Lib.compact ((a.map (·.1) ++ b.map (·.1)).mergeSort fun x y => decide (x ≤ y))
theorem Qbr (d : Array Int) (m : Nat) (hm : m ≤ d.size) (x : Int) : x ∈ Lib.compactUpTo d m ↔ ∃ j, j < m ∧ d[j]! = x := by
 induction m with
 | zero => simp [Lib.compactUpTo]
 | succ m ih =>
  rw [Lib.compactUpTo_succ, List.mem_append, ih (by omega)]
  by_cases hk : Lib.keeps d m
  · simp only [hk, if_true, List.mem_singleton]
    constructor
    · rintro (⟨j, hj, e⟩ | e)
      · exact ⟨j, by omega, e⟩
      · exact ⟨m, by omega, e.symm⟩
    · rintro ⟨j, hj, e⟩
      by_cases h : j = m
      · subst h; exact Or.inr e.symm
      · exact Or.inl ⟨j, by omega, e⟩
  · have hk' : Lib.keeps d m = false := by simpa using hk
    simp only [hk', Bool.false_eq_true, if_false, List.not_mem_nil, or_false]
    have hz : ¬ (m = 0 ∨ d[m]! ≠ d[m - 1]!) := by simpa [Lib.keeps] using hk'
    constructor
    · rintro ⟨j, hj, e⟩; exact ⟨j, by omega, e⟩
    · rintro ⟨j, hj, e⟩
      by_cases h : j = m
      · subst h
        have h2 : d[j]! = d[j - 1]! := by
         by_cases g : d[j]! = d[j - 1]!
         · exact g
         · exact absurd (Or.inr g) hz
        have h1 : ¬ j = 0 := fun g => hz (Or.inl g)
        exact ⟨j - 1, by omega, by rw [← h2]; exact e⟩
      · exact ⟨j, by omega, e⟩
theorem QcN (zs : List Int) (x : Int) : x ∈ Lib.compact zs ↔ x ∈ zs := by
 unfold Lib.compact
 rw [Qbr _ _ (by simp)]
 constructor
 · rintro ⟨j, hj, e⟩
   rw [getElem!_pos _ j (by simpa using hj)] at e
   subst e
   simp
 · intro h
   obtain ⟨j, hj, e⟩ := List.mem_iff_getElem.1 h
   exact ⟨j, hj, by rw [getElem!_pos _ j (by simpa using hj)]; simpa using e⟩
theorem Qcp (d : Array Int) (hd : ∀ i j, i ≤ j → j < d.size → d[i]! ≤ d[j]!) (m : Nat) (hm : m ≤ d.size) : (Lib.compactUpTo d m).Pairwise (· < ·) := by
 induction m with
 | zero => simp [Lib.compactUpTo]
 | succ m ih =>
  rw [Lib.compactUpTo_succ, List.pairwise_append]
  refine ⟨ih (by omega), by split <;> simp, ?_⟩
  intro x hx y hy
  obtain ⟨j, hj, e⟩ := (Qbr d m (by omega) x).1 hx
  by_cases hk : Lib.keeps d m
  · simp only [hk, if_true, List.mem_singleton] at hy
    subst hy
    have hz : m = 0 ∨ d[m]! ≠ d[m - 1]! := by simpa [Lib.keeps] using hk
    rcases hz with h0 | hne
    · omega
    · have h1 := hd j (m - 1) (by omega) (by omega)
      have h2 := hd (m - 1) m (by omega) (by omega)
      omega
  · simp [hk] at hy
theorem Qiz (a b : List (Int × Int)) (c : Int) : c ∈ catsL a b ↔ c ∈ a.map (·.1) ∨ c ∈ b.map (·.1) := by
 unfold catsL
 rw [QcN, List.mem_mergeSort, List.mem_append]
theorem Qci (a b : List (Int × Int)) : (catsL a b).length ≤ a.length + b.length := by
 unfold catsL Lib.compact Lib.compactUpTo
 have h1 := List.length_filter_le (Lib.keeps ((a.map (·.1) ++ b.map (·.1)).mergeSort fun x y => decide (x ≤ y)).toArray) (List.range ((a.map (·.1) ++ b.map (·.1)).mergeSort fun x y => decide (x ≤ y)).length)
 simp at h1 ⊢
 omega
def hasB (own : List Int) (c : Int) : Bool := own.contains c
def flowsL (a b : List (Int × Int)) (own : List Int) : Bool := (catsL a b).all fun c => decide (atL a c ≤ atL b c) || own.contains c
theorem Qhc (a b : List (Int × Int)) (own : List Int) : flowsL a b own = true ↔ ∀ c, c ∈ own ∨ atL a c ≤ atL b c := by
 unfold flowsL
 simp only [List.all_eq_true, Bool.or_eq_true, decide_eq_true_eq, List.contains_iff_mem]
 constructor
 · intro h c
   by_cases hc : c ∈ catsL a b
   · rcases h c hc with h1 | h1
     · exact Or.inr h1
     · exact Or.inl h1
   · rw [Qiz, not_or] at hc
     rw [QcY hc.1, QcY hc.2]
     exact Or.inr (Int.le_refl _)
 · intro h c _
   rcases h c with h1 | h1
   · exact Or.inr h1
   · exact Or.inl h1
theorem Qc4 {a b : List (Int × Int)} {own : List Int} {c : Int} (h1 : atL b c < atL a c) (h2 : hasB own c = false) : flowsL a b own = false := by
 cases hf : flowsL a b own with
 | false => rfl
 | true =>
  rcases (Qhc a b own).1 hf c with h | h
  · simp [hasB, h] at h2
  · omega
theorem QdP {a b : List (Int × Int)} {own : List Int} (h : ∀ j (hj : j < (catsL a b).length), atL a (catsL a b)[j] ≤ atL b (catsL a b)[j] ∨ hasB own (catsL a b)[j] = true) : flowsL a b own = true := by
 unfold flowsL
 simp only [List.all_eq_true, Bool.or_eq_true, decide_eq_true_eq]
 intro c hc
 obtain ⟨j, hj, e⟩ := List.mem_iff_getElem.1 hc
 subst e
 exact h j hj
def goodL (l : List (Int × Int)) : Prop := l.length ≤ 8 ∧ (∀ x ∈ l, 0 ≤ x.1 ∧ x.1 < 80 ∧ 0 ≤ x.2 ∧ x.2 ≤ 3 ∧ x.2 ≠ 1) ∧ l.Pairwise (fun x y => x.1 < y.1)
def catB (c : Int) : Bool := decide (0 ≤ c ∧ c < 80)
def bndB (n : Int) : Bool := decide (0 ≤ n ∧ n ≤ 3)
def levB (x : Int × Int) : Bool := catB x.1 && bndB x.2 && !(x.2 == 1)
def goodB (l : List (Int × Int)) : Bool := decide (l.length ≤ 8 ∧ (∀ x ∈ l, 0 ≤ x.1 ∧ x.1 < 80 ∧ 0 ≤ x.2 ∧ x.2 ≤ 3 ∧ x.2 ≠ 1) ∧ l.Pairwise (fun x y => x.1 < y.1))
theorem Qax (l : List (Int × Int)) : goodB l = true ↔ goodL l := by unfold goodB goodL; exact decide_eq_true_iff
theorem Qfa (x : Int × Int) : levB x = true ↔ (0 ≤ x.1 ∧ x.1 < 80 ∧ 0 ≤ x.2 ∧ x.2 ≤ 3 ∧ x.2 ≠ 1) := by
 simp only [levB, catB, bndB, Bool.and_eq_true, decide_eq_true_eq, Bool.not_eq_true', beq_eq_false_iff_ne, ne_eq]
 constructor
 · rintro ⟨⟨⟨h1, h2⟩, h3, h4⟩, h5⟩; exact ⟨h1, h2, h3, h4, h5⟩
 · rintro ⟨h1, h2, h3, h4, h5⟩; exact ⟨⟨⟨h1, h2⟩, h3, h4⟩, h5⟩
theorem Qha {l : List (Int × Int)} (h : 8 < l.length) : goodB l = false := by
 cases e : goodB l with
 | false => rfl
 | true => have := ((Qax l).1 e).1; omega
theorem QiK {l : List (Int × Int)} (k : Nat) (hk : k < l.length) (h : levB l[k] = false) : goodB l = false := by
 cases e : goodB l with
 | false => rfl
 | true =>
  have := (Qfa l[k]).2 (((Qax l).1 e).2.1 l[k] (List.getElem_mem hk))
  rw [h] at this
  cases this
theorem Qg9 {l : List (Int × Int)} (k : Nat) (hk : k + 1 < l.length) (h : l[k + 1].1 ≤ l[k].1) : goodB l = false := by
 cases e : goodB l with
 | false => rfl
 | true =>
  have := (List.pairwise_iff_getElem.1 ((Qax l).1 e).2.2) k (k + 1) (by omega) hk (by omega)
  omega
theorem Qc3 (l : List (Int × Int)) (h : ∀ j (hj : j + 1 < l.length), l[j].1 < l[j + 1].1) : l.Pairwise (fun x y => x.1 < y.1) := by
 rw [List.pairwise_iff_getElem]
 intro i j hi hj hij
 induction j with
 | zero => omega
 | succ j ih =>
  have hs := h j hj
  by_cases e : i = j
  · subst e; exact hs
  · have := ih (by omega) (by omega); omega
theorem QiL {l : List (Int × Int)} (h8 : l.length ≤ 8) (h1 : ∀ j (hj : j < l.length), levB l[j] = true) (h2 : ∀ j (hj : j + 1 < l.length), l[j].1 < l[j + 1].1) : goodB l = true := by
 refine (Qax l).2 ⟨h8, fun x hx => ?_, Qc3 l h2⟩
 obtain ⟨j, hj, e⟩ := List.mem_iff_getElem.1 hx
 subst e
 exact (Qfa _).1 (h1 j hj)
def sameB (a b : List (Int × Int)) : Bool := decide (a = b)
theorem Qcu (a b : List (Int × Int)) : sameB a b = true ↔ a = b := decide_eq_true_iff
theorem Qij {a b : List (Int × Int)} (h : a.length ≠ b.length) : sameB a b = false := decide_eq_false fun e => h (by rw [e])
theorem QgI {a b : List (Int × Int)} (k : Nat) (hk : k < a.length) (hk' : k < b.length) (h : a[k] ≠ b[k]) : sameB a b = false := decide_eq_false fun e => h (by subst e; rfl)
theorem Qik {a b : List (Int × Int)} (hl : a.length = b.length) (h : ∀ j (hj : j < a.length) (hj' : j < b.length), a[j] = b[j]) : sameB a b = true := decide_eq_true (List.ext_getElem hl h)
structure Crt where
 c : Int
 b : Int
 h : Int
 u : Int
structure Mal where
 host : Int
 thread : Int
 label : List (Int × Int)
 grants : List Int
 text : List UInt8
structure Frm where
 fr : Int
 to : Int
 seq : Int
 ack : Bool
 thread : Int
 mail : Mal
 certs : List Crt
def zeroMal : Mal := ⟨0, 0, [], [], []⟩
def zeroFrm : Frm := ⟨0, 0, 0, false, 0, zeroMal, []⟩
def hostB (h : Int) : Bool := decide (0 ≤ h ∧ h < 4)
def timeB (n : Int) : Bool := decide (0 ≤ n ∧ n ≤ 1099511627776)
def twoB (a b : Int) : Bool := hostB a && hostB b && !(a == b)
def certB (x : Crt) : Bool := catB x.c && twoB x.b x.h && timeB x.u
def grantsB (l : List Int) : Bool := decide (l.length ≤ 8 ∧ (∀ x ∈ l, 0 ≤ x ∧ x < 80) ∧ l.Pairwise (· < ·))
def mailE (m : Mal) : Int := if hostB m.host && hostB m.thread && goodB m.label && grantsB m.grants then (if m.text.length ≤ 64 then 0 else 9) else 2
def emptyB (m : Mal) : Bool := m.host == 0 && m.thread == 0 && m.label.isEmpty && m.grants.isEmpty && m.text.isEmpty
def answerE (f : Frm) : Int := if f.thread == 0 && emptyB f.mail && f.certs.isEmpty then 0 else 1
def certsE (l : List Crt) : Int := if l.length ≤ 24 then (if l.all certB then 0 else 2) else 5
def loadE (f : Frm) : Int := if mailE f.mail = 0 then (if f.mail.host = f.fr then certsE f.certs else 1) else mailE f.mail
def headB (f : Frm) : Bool := twoB f.fr f.to && !(f.seq == 0) && timeB f.seq && hostB f.thread
def frameE (f : Frm) : Int := if headB f then (if f.ack then answerE f else loadE f) else 2
def byteL (n : Int) : UInt8 := UInt8.ofNat (n % 256).toNat
def timeL (n : Int) : List UInt8 := [byteL (n / 1099511627776), byteL (n / 4294967296), byteL (n / 16777216), byteL (n / 65536), byteL (n / 256), byteL n]
def headL (k : Int) (f : Frm) : List UInt8 := [byteL k, byteL f.fr, byteL f.to] ++ timeL f.seq
def levelsL (l : List (Int × Int)) : List UInt8 := l.flatMap fun x => [byteL x.1, byteL x.2]
def mailL (m : Mal) : List UInt8 := [byteL m.thread, byteL m.label.length] ++ levelsL m.label ++ [byteL m.grants.length] ++ m.grants.map byteL ++ [byteL m.text.length] ++ m.text
def certL (x : Crt) : List UInt8 := [byteL x.c, byteL x.b, byteL x.h] ++ timeL x.u
def certsL (l : List Crt) : List UInt8 := [byteL l.length] ++ l.flatMap certL
def encL (f : Frm) : List UInt8 := if f.ack then headL 1 f else headL 0 f ++ [byteL f.thread] ++ mailL f.mail ++ certsL f.certs
abbrev Tk := List UInt8 × Bool
def textT (n : Nat) (t : Tk) : List UInt8 × Tk := if t.1.length < n then ([], ([], true)) else (t.1.take n, (t.1.drop n, t.2))
def numL (l : List UInt8) : Int := l.foldl (fun n b => n * 256 + (b.toNat : Int)) 0
def numT (n : Nat) (t : Tk) : Int × Tk := (numL (textT n t).1, (textT n t).2)
def iterN {α : Type} (f : α → α) : Nat → α → α
 | 0, s => s
 | n + 1, s => f (iterN f n s)
def levStep (s : List (Int × Int) × Tk) : List (Int × Int) × Tk := (s.1 ++ [((numT 1 s.2).1, (numT 1 (numT 1 s.2).2).1)], (numT 1 (numT 1 s.2).2).2)
def grStep (s : List Int × Tk) : List Int × Tk := (s.1 ++ [(numT 1 s.2).1], (numT 1 s.2).2)
def crtT (t : Tk) : Crt × Tk :=
 (⟨(numT 1 t).1, (numT 1 (numT 1 t).2).1, (numT 1 (numT 1 (numT 1 t).2).2).1, (numT 6 (numT 1 (numT 1 (numT 1 t).2).2).2).1⟩, (numT 6 (numT 1 (numT 1 (numT 1 t).2).2).2).2)
def crStep (s : List Crt × Tk) : List Crt × Tk := (s.1 ++ [(crtT s.2).1], (crtT s.2).2)
def labT (t : Tk) : List (Int × Int) × Tk := iterN levStep (numT 1 t).1.toNat ([], (numT 1 t).2)
def grT (t : Tk) : List Int × Tk := iterN grStep (numT 1 t).1.toNat ([], (numT 1 t).2)
def txT (t : Tk) : List UInt8 × Tk := textT (numT 1 t).1.toNat (numT 1 t).2
def certsT (t : Tk) : List Crt × Tk := iterN crStep (numT 1 t).1.toNat ([], (numT 1 t).2)
def mailT (fr : Int) (t : Tk) : Mal × Tk :=
 (⟨fr, (numT 1 t).1, (labT (numT 1 t).2).1, (grT (labT (numT 1 t).2).2).1, (txT (grT (labT (numT 1 t).2).2).2).1⟩, (txT (grT (labT (numT 1 t).2).2).2).2)
def headT (t : Tk) : (Int × Int × Int × Int) × Tk :=
 (((numT 1 t).1, (numT 1 (numT 1 t).2).1, (numT 1 (numT 1 (numT 1 t).2).2).1, (numT 6 (numT 1 (numT 1 (numT 1 t).2).2).2).1), (numT 6 (numT 1 (numT 1 (numT 1 t).2).2).2).2)
def loadT (fr to seq : Int) (t : Tk) : Frm × Tk :=
 (⟨fr, to, seq, false, (numT 1 t).1, (mailT fr (numT 1 t).2).1, (certsT (mailT fr (numT 1 t).2).2).1⟩, (certsT (mailT fr (numT 1 t).2).2).2)
def frameT (t : Tk) : Frm × Tk :=
 if (headT t).1.1 = 1 then (⟨(headT t).1.2.1, (headT t).1.2.2.1, (headT t).1.2.2.2, true, 0, zeroMal, []⟩, (headT t).2)
 else if (headT t).1.1 = 0 then loadT (headT t).1.2.1 (headT t).1.2.2.1 (headT t).1.2.2.2 (headT t).2
 else (⟨(headT t).1.2.1, (headT t).1.2.2.1, (headT t).1.2.2.2, false, 0, zeroMal, []⟩, ([], true))
def doneB (t : Tk) : Bool := !t.2 && t.1.isEmpty
def decL (s : List UInt8) : Frm × Int :=
 if doneB (frameT (s, false)).2 then (if frameE (frameT (s, false)).1 = 0 then ((frameT (s, false)).1, 0) else (zeroFrm, frameE (frameT (s, false)).1)) else (zeroFrm, 1)
theorem Qal (b : UInt8) : (b.toNat : Int) < 256 := by have := b.toNat_lt; omega
theorem QcX (b : UInt8) : byteL (b.toNat : Int) = b := by
 unfold byteL
 have := b.toNat_lt
 rw [show ((b.toNat : Int) % 256).toNat = b.toNat by omega]
 simp
theorem Qfp (n : Int) : ((byteL n).toNat : Int) = n % 256 := by
 unfold byteL
 rw [UInt8.toNat_ofNat']
 have : (n % 256).toNat < 2 ^ 8 := by omega
 rw [Nat.mod_eq_of_lt this]
 omega
theorem Qdb {n : Nat} {t : Tk} {x r : List UInt8} (h : textT n t = (x, (r, false))) : t = (x ++ r, false) ∧ x.length = n := by
 unfold textT at h
 split at h
 · cases h
 · rename_i hn
   obtain ⟨s, f⟩ := t
   simp only [Prod.mk.injEq] at h
   obtain ⟨rfl, rfl, rfl⟩ := h
   simp at hn
   exact ⟨by simp, by simp; omega⟩
theorem list1 {x : List UInt8} (h : x.length = 1) : ∃ b, x = [b] := by
 match x, h with
 | [b], _ => exact ⟨b, rfl⟩
theorem QjI {t : Tk} {n : Int} {r : List UInt8} (h : numT 1 t = (n, (r, false))) : t = (byteL n :: r, false) ∧ 0 ≤ n ∧ n < 256 := by
 unfold numT at h
 simp only [Prod.mk.injEq] at h
 obtain ⟨h1, h2⟩ := h
 obtain ⟨e, hx⟩ := Qdb (n := 1) (t := t) (x := (textT 1 t).1) (r := r) (by rw [← h2])
 obtain ⟨b, hb⟩ := list1 hx
 rw [hb] at h1 e
 have hn : n = (b.toNat : Int) := by rw [← h1]; simp [numL]
 subst hn
 rw [QcX]
 have := Qal b
 exact ⟨by simpa using e, by omega, by omega⟩
theorem list6 {x : List UInt8} (h : x.length = 6) : ∃ a b c d e f, x = [a, b, c, d, e, f] := by
 match x, h with
 | [a, b, c, d, e, f], _ => exact ⟨a, b, c, d, e, f, rfl⟩
theorem numL6 (a b c d e f : UInt8) : numL [a, b, c, d, e, f] = (((((a.toNat : Int) * 256 + b.toNat) * 256 + c.toNat) * 256 + d.toNat) * 256 + e.toNat) * 256 + f.toNat := by
 simp [numL]
theorem Qbc {n : Int} {b : UInt8} (h : n % 256 = (b.toNat : Int)) : byteL n = b := by
 rw [← QcX b]
 unfold byteL
 rw [h]
 have := Qal b
 rw [show ((b.toNat : Int) % 256) = b.toNat by omega]
theorem Qh8 (a b c d e f : UInt8) : timeL (numL [a, b, c, d, e, f]) = [a, b, c, d, e, f] := by
 rw [numL6]
 have h1 := Qal a
 have h2 := Qal b
 have h3 := Qal c
 have h4 := Qal d
 have h5 := Qal e
 have h6 := Qal f
 unfold timeL
 rw [Qbc (b := a) (by omega), Qbc (b := b) (by omega), Qbc (b := c) (by omega), Qbc (b := d) (by omega), Qbc (b := e) (by omega), Qbc (b := f) (by omega)]
theorem QjH {t : Tk} {n : Int} {r : List UInt8} (h : numT 6 t = (n, (r, false))) : t = (timeL n ++ r, false) := by
 unfold numT at h
 simp only [Prod.mk.injEq] at h
 obtain ⟨h1, h2⟩ := h
 obtain ⟨e, hx⟩ := Qdb (n := 6) (t := t) (x := (textT 6 t).1) (r := r) (by rw [← h2])
 obtain ⟨a, b, c, d, e', f, hb⟩ := list6 hx
 rw [hb] at h1 e
 rw [← h1, Qh8]
 exact e
theorem num1 {t : Tk} (h : (numT 1 t).2.2 = false) : t = (byteL (numT 1 t).1 :: (numT 1 t).2.1, false) ∧ 0 ≤ (numT 1 t).1 ∧ (numT 1 t).1 < 256 := QjI (by rw [← h])
theorem num6 {t : Tk} (h : (numT 6 t).2.2 = false) : t = (timeL (numT 6 t).1 ++ (numT 6 t).2.1, false) := QjH (by rw [← h])
theorem text1 {n : Nat} {t : Tk} (h : (textT n t).2.2 = false) : t = ((textT n t).1 ++ (textT n t).2.1, false) ∧ (textT n t).1.length = n := Qdb (by rw [← h])
theorem QK {t : Tk} {x : List UInt8} (h : t = (x, false)) : t.2 = false := by rw [h]
theorem levs {n : Nat} {t : Tk} (h : (iterN levStep n ([], t)).2.2 = false) : t = (levelsL (iterN levStep n ([], t)).1 ++ (iterN levStep n ([], t)).2.1, false) ∧ (iterN levStep n ([], t)).1.length = n := by
 induction n with
 | zero => exact ⟨by simp only [iterN] at h ⊢; rw [← h]; rfl, rfl⟩
 | succ n ih =>
  simp only [iterN] at h ⊢
  generalize iterN levStep n ([], t) = s at h ih ⊢
  obtain ⟨l, t1⟩ := s
  simp only [levStep] at h ⊢
  obtain ⟨e2, _, _⟩ := num1 h
  obtain ⟨e1, _, _⟩ := num1 (QK e2)
  obtain ⟨e0, hl⟩ := ih (QK e1)
  simp only at e0 e1 e2 hl
  refine ⟨?_, by simp [hl]⟩
  rw [e0]
  have f1 := congrArg Prod.fst e1
  have f2 := congrArg Prod.fst e2
  simp only at f1 f2
  rw [f1, f2]
  simp [levelsL]
theorem grs {n : Nat} {t : Tk} (h : (iterN grStep n ([], t)).2.2 = false) : t = ((iterN grStep n ([], t)).1.map byteL ++ (iterN grStep n ([], t)).2.1, false) ∧ (iterN grStep n ([], t)).1.length = n := by
 induction n with
 | zero => exact ⟨by simp only [iterN] at h ⊢; rw [← h]; rfl, rfl⟩
 | succ n ih =>
  simp only [iterN] at h ⊢
  generalize iterN grStep n ([], t) = s at h ih ⊢
  obtain ⟨l, t1⟩ := s
  simp only [grStep] at h ⊢
  obtain ⟨e1, _, _⟩ := num1 h
  obtain ⟨e0, hl⟩ := ih (QK e1)
  simp only at e0 e1 hl
  refine ⟨?_, by simp [hl]⟩
  rw [e0]
  have f1 := congrArg Prod.fst e1
  simp only at f1
  rw [f1]
  simp
theorem crt1 {t : Tk} (h : (crtT t).2.2 = false) : t = (certL (crtT t).1 ++ (crtT t).2.1, false) := by
 simp only [crtT] at h ⊢
 have e4 := num6 h
 obtain ⟨e3, _, _⟩ := num1 (QK e4)
 obtain ⟨e2, _, _⟩ := num1 (QK e3)
 obtain ⟨e1, _, _⟩ := num1 (QK e2)
 have f4 := congrArg Prod.fst e4
 have f3 := congrArg Prod.fst e3
 have f2 := congrArg Prod.fst e2
 have f1 := congrArg Prod.fst e1
 simp only at f1 f2 f3 f4
 rw [Prod.ext_iff]
 refine ⟨?_, QK e1⟩
 simp only [certL]
 rw [f1, f2, f3]
 simp only [List.cons_append, List.nil_append, ← f4]
theorem crs {n : Nat} {t : Tk} (h : (iterN crStep n ([], t)).2.2 = false) : t = ((iterN crStep n ([], t)).1.flatMap certL ++ (iterN crStep n ([], t)).2.1, false) ∧ (iterN crStep n ([], t)).1.length = n := by
 induction n with
 | zero => exact ⟨by simp only [iterN] at h ⊢; rw [← h]; rfl, rfl⟩
 | succ n ih =>
  simp only [iterN] at h ⊢
  generalize iterN crStep n ([], t) = s at h ih ⊢
  obtain ⟨l, t1⟩ := s
  simp only [crStep] at h ⊢
  have e1 := crt1 h
  obtain ⟨e0, hl⟩ := ih (QK e1)
  simp only at e0 e1 hl
  refine ⟨?_, by simp [hl]⟩
  rw [e0]
  have f1 := congrArg Prod.fst e1
  simp only at f1
  rw [f1]
  simp
theorem counted {t : Tk} (h : (numT 1 t).2.2 = false) (n : Nat) (hn : n = (numT 1 t).1.toNat) : t = (byteL n :: (numT 1 t).2.1, false) := by
 obtain ⟨e, h0, h1⟩ := num1 h
 subst hn
 rw [show (((numT 1 t).1.toNat : Nat) : Int) = (numT 1 t).1 by omega]
 exact e
theorem lab1 {t : Tk} (h : (labT t).2.2 = false) : t = (byteL (labT t).1.length :: levelsL (labT t).1 ++ (labT t).2.1, false) := by
 unfold labT at h ⊢
 obtain ⟨e, hl⟩ := levs h
 have e1 := counted (QK e) _ hl
 have f := congrArg Prod.fst e
 simp only at f
 rw [List.cons_append, ← f]
 exact e1
theorem gr1 {t : Tk} (h : (grT t).2.2 = false) : t = (byteL (grT t).1.length :: (grT t).1.map byteL ++ (grT t).2.1, false) := by
 unfold grT at h ⊢
 obtain ⟨e, hl⟩ := grs h
 have e1 := counted (QK e) _ hl
 have f := congrArg Prod.fst e
 simp only at f
 rw [List.cons_append, ← f]
 exact e1
theorem tx1 {t : Tk} (h : (txT t).2.2 = false) : t = (byteL (txT t).1.length :: (txT t).1 ++ (txT t).2.1, false) := by
 unfold txT at h ⊢
 obtain ⟨e, hl⟩ := text1 h
 have e1 := counted (QK e) _ hl
 have f := congrArg Prod.fst e
 simp only at f
 rw [List.cons_append, ← f]
 exact e1
theorem certs1 {t : Tk} (h : (certsT t).2.2 = false) : t = (certsL (certsT t).1 ++ (certsT t).2.1, false) := by
 unfold certsT at h ⊢
 obtain ⟨e, hl⟩ := crs h
 have e1 := counted (QK e) _ hl
 have f := congrArg Prod.fst e
 simp only at f
 simp only [certsL, List.cons_append, List.nil_append]
 rw [← f]
 exact e1
theorem QgT {t t1 t2 t3 t4 : Tk} {n : Int} {l : List (Int × Int)} {g : List Int} {x : List UInt8} (fr : Int) (e1 : t = (byteL n :: t1.1, false)) (e2 : t1 = (byteL l.length :: levelsL l ++ t2.1, false))
 (e3 : t2 = (byteL g.length :: g.map byteL ++ t3.1, false)) (e4 : t3 = (byteL x.length :: x ++ t4.1, false)) : t = (mailL ⟨fr, n, l, g, x⟩ ++ t4.1, false) := by
 subst e4
 subst e3
 subst e2
 subst e1
 simp [mailL]
theorem mail1 {fr : Int} {t : Tk} (h : (mailT fr t).2.2 = false) : t = (mailL (mailT fr t).1 ++ (mailT fr t).2.1, false) := by
 simp only [mailT] at h ⊢
 generalize hA : numT 1 t = A at h ⊢
 generalize hB : labT A.2 = B at h ⊢
 generalize hC : grT B.2 = C at h ⊢
 generalize hD : txT C.2 = D at h ⊢
 have e4 := tx1 (t := C.2) (by rw [hD]; exact h)
 rw [hD] at e4
 have e3 := gr1 (t := B.2) (by rw [hC]; exact QK e4)
 rw [hC] at e3
 have e2 := lab1 (t := A.2) (by rw [hB]; exact QK e3)
 rw [hB] at e2
 obtain ⟨e1, _, _⟩ := num1 (t := t) (by rw [hA]; exact QK e2)
 rw [hA] at e1
 exact QgT fr e1 e2 e3 e4
theorem head1 {t : Tk} (h : (headT t).2.2 = false) : t = ([byteL (headT t).1.1, byteL (headT t).1.2.1, byteL (headT t).1.2.2.1] ++ timeL (headT t).1.2.2.2 ++ (headT t).2.1, false) ∧ 0 ≤ (headT t).1.1 := by
 simp only [headT] at h ⊢
 have e4 := num6 h
 obtain ⟨e3, _, _⟩ := num1 (QK e4)
 obtain ⟨e2, _, _⟩ := num1 (QK e3)
 obtain ⟨e1, h0, _⟩ := num1 (QK e2)
 have f4 := congrArg Prod.fst e4
 have f3 := congrArg Prod.fst e3
 have f2 := congrArg Prod.fst e2
 have f1 := congrArg Prod.fst e1
 simp only at f1 f2 f3 f4
 refine ⟨?_, h0⟩
 rw [Prod.ext_iff]
 refine ⟨?_, QK e1⟩
 simp only
 rw [f1, f2, f3]
 simp only [List.cons_append, List.nil_append, ← f4]
theorem QgX {t t1 t2 t3 t4 : Tk} {fr to seq n : Int} {m : Mal} {cs : List Crt} (e1 : t = ([byteL 0, byteL fr, byteL to] ++ timeL seq ++ t1.1, false)) (e2 : t1 = (byteL n :: t2.1, false))
 (e3 : t2 = (mailL m ++ t3.1, false)) (e4 : t3 = (certsL cs ++ t4.1, false)) : t = (encL ⟨fr, to, seq, false, n, m, cs⟩ ++ t4.1, false) := by
 subst e4
 subst e3
 subst e2
 subst e1
 simp [encL, headL]
theorem frame1 {t : Tk} (h : (frameT t).2.2 = false) : t = (encL (frameT t).1 ++ (frameT t).2.1, false) := by
 unfold frameT at h ⊢
 by_cases h1 : (headT t).1.1 = 1
 · rw [if_pos h1] at h ⊢
   obtain ⟨e, _⟩ := head1 h
   rw [h1] at e
   simp only [encL, headL, if_true]
   exact e
 · rw [if_neg h1] at h ⊢
   by_cases h0 : (headT t).1.1 = 0
   · rw [if_pos h0] at h ⊢
     simp only [loadT] at h ⊢
     have e4 := certs1 h
     have e3 := mail1 (QK e4)
     obtain ⟨e2, _, _⟩ := num1 (QK e3)
     obtain ⟨e1, _⟩ := head1 (QK e2)
     rw [h0] at e1
     exact QgX e1 e2 e3 e4
   · rw [if_neg h0] at h
     simp at h
structure Snt where
 f : Frm
 tries : Int
 due : Int
structure Lne where
 next : Int
 sent : List Snt
 high : Int
 seen : List Bool
def zeroLne : Lne := ⟨0, [], 0, [false, false, false, false, false, false, false, false]⟩
def triesB (s : Snt) : Bool := decide (1 ≤ s.tries ∧ s.tries ≤ 5 ∧ 0 ≤ s.due ∧ s.due ≤ 2199023255552)
def sentB (next : Int) (s : Snt) : Bool := decide (s.f.seq ≤ next) && triesB s
def rises (next : Int) : Int → List Snt → Bool
 | _, [] => true
 | n, s :: r => decide (n < s.f.seq) && sentB next s && rises next s.f.seq r
def headLn (l : Lne) : Bool := decide (0 ≤ l.next ∧ l.next < 1099511627776 ∧ 0 ≤ l.high ∧ l.high ≤ 1099511627776 ∧ l.sent.length ≤ 8)
def goodLn (l : Lne) : Bool := headLn l && rises l.next 0 l.sent
def shiftL (n : Nat) (s : List Bool) : List Bool := (List.replicate (min n 8) false ++ s).take 8
def takeLn (l : Lne) (q : Int) : Lne × Int :=
 if goodLn l && decide (1 ≤ q ∧ q ≤ 1099511627776) then
  if q ≤ l.high - 8 then (l, 11)
  else if l.high < q then ({ l with high := q, seen := (shiftL (q - l.high).toNat l.seen).set 0 true }, 0)
  else if l.seen[(l.high - q).toNat]? = some true then (l, 10)
  else ({ l with seen := l.seen.set (l.high - q).toNat true }, 0)
 else (l, 2)
def sendLn (l : Lne) (f : Frm) (now : Int) : Lne × Frm × Int :=
 if goodLn l && timeB now then
  if l.sent.length = 8 ∨ l.next = 1099511627775 then (l, zeroFrm, 5)
  else ({ l with next := l.next + 1, sent := l.sent ++ [⟨{ f with seq := l.next + 1 }, 1, now + 2⟩] }, { f with seq := l.next + 1 }, 0)
 else (l, zeroFrm, 2)
def ansLn (l : Lne) (q : Int) : Lne × Int :=
 if goodLn l then
  if l.sent.all (fun s => !(s.f.seq == q)) then (l, 4)
  else ({ l with sent := l.sent.filter (fun s => !(s.f.seq == q)) }, 0)
 else (l, 2)
def againS (now : Int) (s : Snt) : List Snt := if now < s.due then [s] else if s.tries = 5 then [] else [{ s with tries := s.tries + 1, due := now + 2 ^ (s.tries + 1).toNat }]
def againF (now : Int) (s : Snt) : List Frm := if now < s.due then [] else if s.tries = 5 then [] else [s.f]
def againLn (l : Lne) (now : Int) : Lne × List Frm × Int :=
 if goodLn l && timeB now then ({ l with sent := l.sent.flatMap (againS now) }, l.sent.flatMap (againF now), 0) else (l, [], 2)
theorem QgJ (next n : Int) (l : List Snt) (k : Nat) (hk : k < l.length) : rises next n (l.drop k) = (decide (n < (l[k]).f.seq) && sentB next l[k] && rises next (l[k]).f.seq (l.drop (k + 1))) := by
 rw [List.drop_eq_getElem_cons hk]
 rfl
theorem Qan (l : Lne) : headLn l = true ↔ 0 ≤ l.next ∧ l.next < 1099511627776 ∧ 0 ≤ l.high ∧ l.high ≤ 1099511627776 ∧ l.sent.length ≤ 8 := by simp [headLn]
theorem Qa6 {l : Lne} (h : goodLn l = true) : headLn l = true := by
 unfold goodLn at h
 simp only [Bool.and_eq_true] at h
 exact h.1
theorem Qce {l : Lne} (h : goodLn l = true) : rises l.next 0 l.sent = true := by
 unfold goodLn at h
 simp only [Bool.and_eq_true] at h
 exact h.2
theorem QbJ {next : Int} : ∀ {l : List Snt} {n : Int}, rises next n l = true → ∀ s ∈ l, n < s.f.seq ∧ s.f.seq ≤ next ∧ triesB s = true
 | [], _, _, s, h => by cases h
 | x :: r, n, h, s, hs => by
  simp only [rises, sentB, Bool.and_eq_true, decide_eq_true_eq] at h
  rcases List.mem_cons.1 hs with rfl | hm
  · exact ⟨h.1.1, h.1.2.1, h.1.2.2⟩
  · have := QbJ h.2 s hm
    exact ⟨by omega, this.2⟩
theorem Qdr {next : Int} : ∀ {l : List Snt} {n : Int} (_ : rises next n l = true) (i : Nat) (hi : i < l.length), l.filter (fun s => !(s.f.seq == (l[i]).f.seq)) = l.take i ++ l.drop (i + 1)
 | x :: r, n, h, 0, _ => by
  simp only [rises, Bool.and_eq_true] at h
  have hm := QbJ h.2
  rw [List.filter_cons]
  simp only [List.getElem_cons_zero, beq_self_eq_true, Bool.not_true, Bool.false_eq_true, if_false, List.take_zero, List.nil_append, List.drop_succ_cons, List.drop_zero]
  rw [List.filter_eq_self]
  intro s hs
  have := (hm s hs).1
  simp
  omega
 | x :: r, n, h, i + 1, hi => by
  simp only [rises, Bool.and_eq_true] at h
  have hm := QbJ h.2
  have hir : i < r.length := by simpa using hi
  have hne := (hm r[i] (List.getElem_mem hir)).1
  rw [List.filter_cons]
  simp only [List.getElem_cons_succ]
  rw [if_pos (by simp; omega), Qdr h.2 i hir]
  simp
theorem Qck (now : Int) : ∀ l : List Snt, (l.flatMap (againS now)).length ≤ l.length
 | [] => Nat.le_refl _
 | x :: r => by
  have ih := Qck now r
  have hx : (againS now x).length ≤ 1 := by
   unfold againS
   split
   · simp
   · split <;> simp
  simp only [List.flatMap_cons, List.length_append, List.length_cons]
  omega
theorem QdZ {s : List Bool} (hs : s.length = 8) (n : Nat) : (shiftL n s).length = 8 := by
 simp only [shiftL, List.length_take, List.length_append, List.length_replicate, hs]
 omega
theorem take_length (l : Lne) (q : Int) (h : l.seen.length = 8) : (takeLn l q).1.seen.length = 8 := by
 unfold takeLn
 split
 · split
   · exact h
   · split
     · simp [QdZ h]
     · split
       · exact h
       · simpa using h
 · exact h
theorem QgC {s : List Bool} (n k : Nat) (hk : k < 8) : (shiftL n s)[k]? = if k < n then some false else s[k - n]? := by
 unfold shiftL
 rw [List.getElem?_take, if_pos hk]
 by_cases h : k < n
 · rw [if_pos h, List.getElem?_append_left (by simp; omega), List.getElem?_replicate, if_pos (by omega)]
 · rw [if_neg h, List.getElem?_append_right (by simp; omega), List.length_replicate, show min n 8 = n by omega]
theorem QiF (h : Int) : hostB h = true ↔ 0 ≤ h ∧ h < 4 := by unfold hostB; exact decide_eq_true_iff
theorem Qfg (h : Int) : catB h = true ↔ 0 ≤ h ∧ h < 80 := by unfold catB; exact decide_eq_true_iff
theorem QcP (l : List Int) : grantsB l = true ↔ l.length ≤ 8 ∧ (∀ x ∈ l, 0 ≤ x ∧ x < 80) ∧ l.Pairwise (· < ·) := by unfold grantsB; exact decide_eq_true_iff
theorem QgU {m : Mal} (h : mailE m = 0) : (0 ≤ m.host ∧ m.host < 4) ∧ (0 ≤ m.thread ∧ m.thread < 4) ∧ goodB m.label = true ∧ grantsB m.grants = true ∧ m.text.length ≤ 64 := by
 unfold mailE at h
 split at h
 · rename_i h1
   simp only [Bool.and_eq_true, QiF] at h1
   split at h
   · exact ⟨h1.1.1.1, h1.1.1.2, h1.1.2, h1.2, by assumption⟩
   · simp at h
 · simp at h
theorem Qf9 {l : List Crt} (h : certsE l = 0) : l.length ≤ 24 ∧ ∀ x ∈ l, certB x = true := by
 unfold certsE at h
 split at h
 · split at h
   · rename_i h1 h2
     exact ⟨h1, List.all_eq_true.1 h2⟩
   · simp at h
 · simp at h
theorem QgY {f : Frm} (h : loadE f = 0) : mailE f.mail = 0 ∧ f.mail.host = f.fr ∧ certsE f.certs = 0 := by
 unfold loadE at h
 split at h
 · split at h
   · exact ⟨by assumption, by assumption, h⟩
   · simp at h
 · exact absurd h (by assumption)
theorem only {s : List UInt8} (h : (decL s).2 = 0) : encL (decL s).1 = s ∧ frameE (decL s).1 = 0 := by
 unfold decL at h ⊢
 by_cases hd : doneB (frameT (s, false)).2 = true
 · rw [if_pos hd] at h ⊢
   by_cases he : frameE (frameT (s, false)).1 = 0
   · rw [if_pos he]
     refine ⟨?_, he⟩
     simp only [doneB, Bool.and_eq_true, Bool.not_eq_true', List.isEmpty_iff] at hd
     have e := congrArg Prod.fst (frame1 hd.1)
     simp only [hd.2, List.append_nil] at e
     exact e.symm
   · rw [if_neg he] at h
     exact absurd h he
 · rw [if_neg hd] at h
   simp at h
def frontL (l : List (Int × Int)) (c : Int) : List (Int × Int) := l.filter fun x => decide (x.1 < c)
def behindL (l : List (Int × Int)) (c : Int) : List (Int × Int) := l.filter fun x => decide (c < x.1)
def newL (c n : Int) : List (Int × Int) := if n = 1 then [] else [(c, n)]
def setL (l : List (Int × Int)) (c n : Int) : List (Int × Int) := frontL l c ++ newL c n ++ behindL l c
theorem Qgw {l : List (Int × Int)} {c : Int} {i : Nat} (h1 : ∀ m (_ : m < i) (hm : m < l.length), l[m].1 < c) (h2 : ∀ m (_ : i ≤ m) (hm : m < l.length), c ≤ l[m].1) : l.take i = frontL l c := by
 unfold frontL
 conv => rhs; rw [← List.take_append_drop i l]
 rw [List.filter_append, List.filter_eq_self.2, List.filter_eq_nil_iff.2]
 · simp
 · intro x hx
   obtain ⟨m, hm, e⟩ := List.mem_iff_getElem.1 hx
   rw [List.getElem_drop] at e
   have := h2 (i + m) (by omega) (by simp at hm; omega)
   subst e
   simpa using this
 · intro x hx
   obtain ⟨m, hm, e⟩ := List.mem_iff_getElem.1 hx
   rw [List.getElem_take] at e
   have := h1 m (by simp at hm; omega) (by simp at hm; omega)
   subst e
   simpa using this
theorem QcR {l : List (Int × Int)} {c : Int} {k : Nat} (h1 : ∀ m (_ : m < k) (hm : m < l.length), l[m].1 ≤ c) (h2 : ∀ m (_ : k ≤ m) (hm : m < l.length), c < l[m].1) : l.drop k = behindL l c := by
 unfold behindL
 conv => rhs; rw [← List.take_append_drop k l]
 rw [List.filter_append, List.filter_eq_nil_iff.2, List.filter_eq_self.2]
 · simp
 · intro x hx
   obtain ⟨m, hm, e⟩ := List.mem_iff_getElem.1 hx
   rw [List.getElem_drop] at e
   have := h2 (k + m) (by omega) (by simp at hm; omega)
   subst e
   simpa using this
 · intro x hx
   obtain ⟨m, hm, e⟩ := List.mem_iff_getElem.1 hx
   rw [List.getElem_take] at e
   have := h1 m (by simp at hm; omega) (by simp at hm; omega)
   subst e
   simpa using this
structure Spot (l : List (Int × Int)) (c : Int) (i : Nat) (f : Bool) : Prop where
 le : i ≤ l.length
 low : ∀ m (_ : m < i) (hm : m < l.length), l[m].1 < c
 high : ∀ m (_ : i ≤ m) (hm : m < l.length), c ≤ l[m].1
 yes : f = true → ∃ h : i < l.length, l[i].1 = c
 no : f = false → ∀ h : i < l.length, l[i].1 ≠ c
theorem Spot.front {l : List (Int × Int)} {c : Int} {i : Nat} {f : Bool} (s : Spot l c i f) : l.take i = frontL l c := Qgw s.low s.high
theorem Spot.behind_yes {l : List (Int × Int)} {c : Int} {i : Nat} (s : Spot l c i true) (hr : l.Pairwise fun x y => x.1 < y.1) : l.drop (i + 1) = behindL l c := by
 obtain ⟨hi, e⟩ := s.yes rfl
 refine QcR (fun m h hm => ?_) (fun m h hm => ?_)
 · by_cases hmi : m = i
   · subst hmi; omega
   · have := s.low m (by omega) hm; omega
 · have := (List.pairwise_iff_getElem.1 hr) i m hi hm (by omega)
   omega
theorem Spot.behind_no {l : List (Int × Int)} {c : Int} {i : Nat} (s : Spot l c i false) (hr : l.Pairwise fun x y => x.1 < y.1) : l.drop i = behindL l c := by
 refine QcR (fun m h hm => ?_) (fun m h hm => ?_)
 · have := s.low m h hm; omega
 · by_cases hmi : m = i
   · subst hmi
     have h1 := s.high m (Nat.le_refl _) hm
     have h2 := s.no rfl hm
     omega
   · have h1 := s.high i (Nat.le_refl _) (by omega)
     have := (List.pairwise_iff_getElem.1 hr) i m (by omega) hm (by omega)
     omega
theorem QgD {l : List (Int × Int)} (hr : l.Pairwise fun x y => x.1 < y.1) (c n : Int) : (setL l c n).Pairwise fun x y => x.1 < y.1 := by
 unfold setL
 have hf : ∀ x ∈ frontL l c, x.1 < c := fun x hx => by have := (List.mem_filter.1 hx).2; simpa using this
 have hb : ∀ x ∈ behindL l c, c < x.1 := fun x hx => by have := (List.mem_filter.1 hx).2; simpa using this
 have hn : ∀ x ∈ newL c n, x.1 = c := fun x hx => by
  unfold newL at hx
  by_cases h : n = 1
  · simp [h] at hx
  · simp only [h, if_false, List.mem_singleton] at hx; rw [hx]
 refine List.pairwise_append.2 ⟨List.pairwise_append.2 ⟨hr.filter _, ?_, ?_⟩, hr.filter _, ?_⟩
 · unfold newL; split <;> simp
 · intro x hx y hy; have := hf x hx; have := hn y hy; omega
 · intro x hx y hy
   have := hb y hy
   rcases List.mem_append.1 hx with hx | hx
   · have := hf x hx; omega
   · have := hn x hx; omega
theorem QiI {l : List (Int × Int)} (h : goodL l) {c n : Int} (hc : catB c = true) (hn : bndB n = true) (h8 : (setL l c n).length ≤ 8) : goodL (setL l c n) := by
 have hc' : 0 ≤ c ∧ c < 80 := of_decide_eq_true hc
 have hn' : 0 ≤ n ∧ n ≤ 3 := of_decide_eq_true hn
 refine ⟨h8, fun x hx => ?_, QgD h.2.2 c n⟩
 unfold setL at hx
 rcases List.mem_append.1 hx with hx | hx
 · rcases List.mem_append.1 hx with hx | hx
   · exact h.2.1 x (List.mem_filter.1 hx).1
   · unfold newL at hx
     by_cases e : n = 1
     · simp [e] at hx
     · simp only [e, if_false, List.mem_singleton] at hx; rw [hx]; exact ⟨hc'.1, hc'.2, hn'.1, hn'.2, e⟩
 · exact h.2.1 x (List.mem_filter.1 hx).1
theorem Qd2 (l : List (Int × Int)) (c : Int) : (frontL l c).length ≤ l.length := List.length_filter_le _ _
theorem QdV (l : List (Int × Int)) (c : Int) : (behindL l c).length ≤ l.length := List.length_filter_le _ _
theorem Qfw (c n : Int) : (newL c n).length ≤ 1 := by unfold newL; split <;> simp
def setB (l : List (Int × Int)) (c n : Int) : Bool := goodB l && catB c && bndB n
def setE (l : List (Int × Int)) (c n : Int) : Int := if setB l c n = false then 2 else if 8 < (setL l c n).length then 5 else 0
structure Obt where
 label : List (Int × Int)
 text : List UInt8
structure Thr where
 label : List (Int × Int)
 own : List Int
 text : List UInt8
 objs : List Obt
 mails : List Mal
structure Ker where
 host : Int
 made : Int
 ths : List Thr
structure Cal where
 kind : Int
 h : Int
 t : Int
 n : Int
 c : Int
 label : List (Int × Int)
 grants : List Int
 text : List UInt8
structure Rep where
 code : Int
 n : Int
 text : List UInt8
def zeroThr : Thr := ⟨[], [], [], [], []⟩
def freshKer (h : Int) : Ker := ⟨h, 0, [zeroThr, zeroThr, zeroThr, zeroThr]⟩
def code (e : Int) : Rep := ⟨e, 0, []⟩
def lastL (x : List UInt8) : List UInt8 := x.drop (x.length - 64)
theorem Qbe (x : List UInt8) : (lastL x).length ≤ 64 := by unfold lastL; rw [List.length_drop]; omega
theorem Qby {x : List UInt8} (h : x.length ≤ 64) : lastL x = x := by unfold lastL; rw [show x.length - 64 = 0 by omega]; rfl
def insL (l : List Int) (c : Int) : List Int := l.take (l.countP (· < c)) ++ c :: l.drop (l.countP (· < c))
def ownL (l : List Int) (c : Int) : Int × List Int := if l.contains c then (0, l) else if 8 ≤ l.length then (5, l) else (0, insL l c)
def mayL (th : Thr) (m : Mal) : Int := if mailE m = 0 then (if m.grants.all (th.own.contains ·) then (if flowsL th.label m.label th.own then 0 else 6) else 7) else mailE m
def getT (K : Ker) (t : Int) : Option Thr := if 0 ≤ t then K.ths[t.toNat]? else none
def setT (K : Ker) (t : Int) (th : Thr) : Ker := { K with ths := K.ths.set t.toNat th }
def letterM (K : Ker) (t : Int) (c : Cal) (th : Thr) : Mal := ⟨K.host, t, c.label, c.grants, lastL (th.text ++ c.text)⟩
def letterL (K : Ker) (t : Int) (c : Cal) : Mal × Int :=
 match getT K t with
 | none => (zeroMal, 4)
 | some th => if mayL th (letterM K t c th) = 0 then (letterM K t c th, 0) else (zeroMal, mayL th (letterM K t c th))
def boxL (th : Thr) (m : Mal) : Thr := if mailE m = 0 ∧ flowsL m.label th.label th.own = true ∧ th.mails.length < 6 then { th with mails := th.mails ++ [m] } else th
def deliverL (K : Ker) (t : Int) (m : Mal) : Ker :=
 match getT K t with
 | none => K
 | some th => setT K t (boxL th m)
def grantL : List Int → List Int → List Int
 | [], o => o
 | c :: r, o => if (ownL o c).1 = 0 then grantL r (ownL o c).2 else o
def readL (th : Thr) (m : Mal) : Thr := { th with text := lastL (th.text ++ m.text), own := grantL m.grants th.own }
def takeL (th : Thr) : List Mal → Thr × Rep
 | [] => ({ th with mails := [] }, code 4)
 | m :: r => if flowsL m.label th.label th.own then ({ readL th m with mails := r }, ⟨0, m.host * 4 + m.thread, []⟩) else takeL th r
def objectL (th : Thr) (l : List (Int × Int)) : Thr × Rep :=
 if goodB l then (if flowsL th.label l th.own then (if 4 ≤ th.objs.length then (th, code 5) else ({ th with objs := th.objs ++ [⟨l, []⟩] }, ⟨0, (th.objs.length : Int), []⟩)) else (th, code 6)) else (th, code 2)
def levelL (th : Thr) (c n : Int) : Thr × Int :=
 if setE th.label c n = 0 then (if flowsL th.label (setL th.label c n) th.own then ({ th with label := setL th.label c n }, 0) else (th, 6)) else (th, setE th.label c n)
def objAt (K : Ker) (t n : Int) : Option Obt :=
 match getT K t with
 | none => none
 | some th => if 0 ≤ n then th.objs[n.toNat]? else none
def putO (th : Thr) (n : Int) (x : List UInt8) : Thr := { th with objs := th.objs.modify n.toNat fun o => { o with text := x } }
def putL (K : Ker) (th : Thr) (c : Cal) : Ker :=
 match getT K c.t, objAt K c.t c.n with
 | some u, some o => if flowsL th.label o.label th.own then setT K c.t (putO u c.n (lastL (th.text ++ c.text))) else K
 | _, _ => K
def getL (K : Ker) (t : Int) (th : Thr) (c : Cal) : Ker × Rep :=
 match objAt K c.t c.n with
 | none => (K, code 4)
 | some o => if flowsL o.label th.label th.own then (setT K t { th with text := lastL (th.text ++ o.text) }, ⟨0, (o.text.length : Int), []⟩) else (K, code 4)
def categoryL (K : Ker) (t : Int) (th : Thr) : Ker × Rep :=
 if 20 ≤ K.made then (K, code 5)
 else if (ownL th.own (K.host * 20 + K.made)).1 = 0 then ({ setT K t { th with own := (ownL th.own (K.host * 20 + K.made)).2 } with made := K.made + 1 }, ⟨0, K.host * 20 + K.made, []⟩)
 else (K, code (ownL th.own (K.host * 20 + K.made)).1)
def callT (K : Ker) (t : Int) (th : Thr) (c : Cal) : Ker × Rep :=
 if 64 < c.text.length then (K, code 9)
 else if c.kind = 1 then categoryL K t th
 else if c.kind = 2 then (setT K t (objectL th c.label).1, (objectL th c.label).2)
 else if c.kind = 3 then (putL K th c, code 0)
 else if c.kind = 4 then getL K t th c
 else if c.kind = 5 then (setT K t (levelL th c.c c.n).1, code (levelL th c.c c.n).2)
 else if c.kind = 7 then (setT K t (takeL th th.mails).1, (takeL th th.mails).2)
 else if c.kind = 9 then (setT K t { th with text := lastL c.text }, code 0)
 else if c.kind = 10 then (K, ⟨0, 0, th.text⟩)
 else (K, code 3)
def callL (K : Ker) (t : Int) (c : Cal) : Ker × Rep :=
 match getT K t with
 | none => (K, code 4)
 | some th => callT K t th c
theorem Crt.ext4 {x y : Crt} (h1 : x.c = y.c) (h2 : x.b = y.b) (h3 : x.h = y.h) (h4 : x.u = y.u) : x = y := by
 cases x; cases y
 simp_all
instance : DecidableEq Crt := fun x y =>
 if h : x.c = y.c ∧ x.b = y.b ∧ x.h = y.h ∧ x.u = y.u then isTrue (Crt.ext4 h.1 h.2.1 h.2.2.1 h.2.2.2) else isFalse fun e => h (by subst e; exact ⟨rfl, rfl, rfl, rfl⟩)
def sameC (x y : Crt) : Bool := x.c == y.c && x.b == y.b && x.h == y.h && x.u == y.u
theorem Qee (x y : Crt) : sameC x y = true ↔ x = y := by
 unfold sameC
 simp only [Bool.and_eq_true, beq_iff_eq]
 constructor
 · rintro ⟨⟨⟨h1, h2⟩, h3⟩, h4⟩
   exact Crt.ext4 h1 h2 h3 h4
 · rintro rfl
   exact ⟨⟨⟨rfl, rfl⟩, rfl⟩, rfl⟩
def goodCs (l : List Crt) : Prop := l.length ≤ 24 ∧ (∀ x ∈ l, certB x = true) ∧ l.Nodup
instance (l : List Crt) : Decidable (goodCs l) := by unfold goodCs; infer_instance
def csB (l : List Crt) : Bool := decide (goodCs l)
theorem Qke {l : List Crt} (h : 24 < l.length) : csB l = false := decide_eq_false fun g => by have := g.1; omega
theorem QkD {l : List Crt} {k : Nat} (hk : k < l.length) (h : certB l[k] = false) : csB l = false := decide_eq_false fun g => by
 have := g.2.1 l[k] (List.getElem_mem hk)
 rw [h] at this
 cases this
theorem Qi1 {l : List Crt} {k : Nat} (hk : k < l.length) (h : l[k] ∈ l.take k) : csB l = false := decide_eq_false fun g => by
 obtain ⟨j, hj, e⟩ := List.mem_iff_getElem.1 h
 rw [List.length_take] at hj
 rw [List.getElem_take] at e
 exact List.pairwise_iff_getElem.1 g.2.2 j k (by omega) hk (by omega) e
theorem QkE {l : List Crt} (h24 : l.length ≤ 24) (h1 : ∀ j (hj : j < l.length), certB l[j] = true) (h2 : ∀ j (hj : j < l.length), l[j] ∉ l.take j) : csB l = true := decide_eq_true ⟨h24, fun x hx => by
 obtain ⟨j, hj, rfl⟩ := List.mem_iff_getElem.1 hx
 exact h1 j hj, by
 rw [List.nodup_iff_pairwise_ne, List.pairwise_iff_getElem]
 intro i j hi hj hij e
 refine h2 j hj ?_
 rw [← e]
 exact List.mem_iff_getElem.2 ⟨i, by rw [List.length_take]; omega, by rw [List.getElem_take]⟩⟩
def addL (l : List Crt) (x : Crt) : List Crt × Int :=
 if goodCs l ∧ certB x = true then (if x ∈ l then (l, 0) else if 24 ≤ l.length then ([], 5) else (l ++ [x], 0)) else ([], 2)
inductive Reach (l : List Crt) (c now : Int) : Int → Prop
 | home : Reach l c now (c / 20)
 | step {x : Crt} : Reach l c now x.b → x ∈ l → x.c = c → now ≤ x.u → Reach l c now x.h
theorem Reach.more {l l' : List Crt} {c now h : Int} (hr : Reach l c now h) (hl : ∀ x ∈ l, x.c = c → now ≤ x.u → x ∈ l') : Reach l' c now h := by
 induction hr with
 | home => exact .home
 | step h1 h2 h3 h4 ih => exact .step ih (hl _ h2 h3 h4) h3 h4
def Trusts (l : List Crt) (c now h : Int) : Prop := catB c = true ∧ goodCs l ∧ Reach l c now h
open Classical in
noncomputable def trB (l : List Crt) (c now h : Int) : Bool := decide (Trusts l c now h)
theorem Qbj (l : List Crt) (c now h : Int) : trB l c now h = true ↔ Trusts l c now h := by unfold trB; exact @decide_eq_true_iff _ (_)
theorem Qh7 {l : List Crt} {c now h : Int} (hc : catB c = false) : trB l c now h = false := by
 rw [← Bool.not_eq_true, Qbj]
 rintro ⟨h1, _⟩
 rw [hc] at h1
 cases h1
theorem Qkr {l : List Crt} {c now h : Int} (hc : csB l = false) : trB l c now h = false := by
 rw [← Bool.not_eq_true, Qbj]
 rintro ⟨_, h1, _⟩
 rw [show csB l = true from decide_eq_true h1] at hc
 cases hc
structure Work (l : List Crt) (c now : Int) (b : Int → Bool) (row : List Int) : Prop where
 home : b (c / 20) = true
 mark : ∀ h, 0 ≤ h → h < 4 → (b h = true ↔ h ∈ row)
 host : ∀ h ∈ row, 0 ≤ h ∧ h < 4
 once : row.Nodup
 real : ∀ h ∈ row, Reach l c now h
theorem Qhs (row : List Int) (h2 : ∀ h ∈ row, 0 ≤ h ∧ h < 4) : row.length = row.count 0 + row.count 1 + row.count 2 + row.count 3 := by
 induction row with
 | nil => rfl
 | cons x r ih =>
  have h := ih fun y hy => h2 y (List.mem_cons_of_mem _ hy)
  have hx := h2 x List.mem_cons_self
  have : x = 0 ∨ x = 1 ∨ x = 2 ∨ x = 3 := by omega
  rcases this with rfl | rfl | rfl | rfl <;> simp <;> omega
theorem Qa3 {row : List Int} (h1 : row.Nodup) (a : Int) : row.count a ≤ 1 := by
 induction row with
 | nil => simp
 | cons x r ih =>
  have h := List.nodup_cons.1 h1
  have := ih h.2
  rw [List.count_cons]
  by_cases e : x = a
  · subst e
    have : r.count x = 0 := List.count_eq_zero.2 h.1
    simp [this]
  · simp [e]; omega
theorem QgP {row : List Int} (h1 : row.Nodup) (h2 : ∀ h ∈ row, 0 ≤ h ∧ h < 4) : row.length ≤ 4 := by
 have h := Qhs row h2
 have := Qa3 h1 0
 have := Qa3 h1 1
 have := Qa3 h1 2
 have := Qa3 h1 3
 omega
theorem Work.four {l : List Crt} {c now : Int} {b : Int → Bool} {row : List Int} (h : Work l c now b row) : row.length ≤ 4 := QgP h.once h.host
def Asked (c now : Int) (b : Int → Bool) (h : Int) (x : Crt) : Prop := x.c = c → x.b = h → now ≤ x.u → b x.h = true
theorem Work.start {l : List Crt} {c now : Int} (hc : catB c = true) (b : Int → Bool) (hb : ∀ h, 0 ≤ h → h < 4 → b h = decide (h = c / 20)) : Work l c now b [c / 20] := by
 have hc' : 0 ≤ c ∧ c < 80 := of_decide_eq_true hc
 have h1 : 0 ≤ c / 20 ∧ c / 20 < 4 := by omega
 refine ⟨by rw [hb _ h1.1 h1.2]; simp, fun h g1 g2 => by rw [hb h g1 g2]; simp, fun h hh => ?_, by simp, fun h hh => ?_⟩
 · rw [List.mem_singleton.1 hh]; exact h1
 · rw [List.mem_singleton.1 hh]; exact .home
theorem Work.put {l : List Crt} {c now : Int} {b b' : Int → Bool} {row : List Int} (w : Work l c now b row) {x : Crt} (hx : x ∈ l) (hc : x.c = c) (hr : x.b ∈ row) (hu : now ≤ x.u) (hb : b x.h = false) (hh : 0 ≤ x.h ∧ x.h < 4)
 (hb' : ∀ h, 0 ≤ h → h < 4 → b' h = (b h || decide (h = x.h))) (hc2 : 0 ≤ c / 20 ∧ c / 20 < 4) : Work l c now b' (row ++ [x.h]) := by
 have hn : x.h ∉ row := fun h => by
  have := (w.mark x.h hh.1 hh.2).2 h
  rw [hb] at this
  cases this
 refine ⟨by rw [hb' _ hc2.1 hc2.2, w.home]; rfl, fun h g1 g2 => ?_, fun h hh' => ?_, ?_, fun h hh' => ?_⟩
 · rw [hb' h g1 g2, Bool.or_eq_true, decide_eq_true_iff, w.mark h g1 g2, List.mem_append, List.mem_singleton]
 · rcases List.mem_append.1 hh' with g | g
   · exact w.host h g
   · rw [List.mem_singleton.1 g]; exact hh
 · rw [List.nodup_append]
   refine ⟨w.once, by simp, fun a ha b hb2 => ?_⟩
   rw [List.mem_singleton.1 hb2]
   rintro rfl
   exact hn ha
 · rcases List.mem_append.1 hh' with g | g
   · exact w.real h g
   · rw [List.mem_singleton.1 g]; exact .step (w.real _ hr) hx hc hu
theorem Work.done {l : List Crt} {c now : Int} {b : Int → Bool} {row : List Int} (w : Work l c now b row) (hc : catB c = true) (hg : goodCs l) (ha : ∀ h ∈ row, ∀ x ∈ l, Asked c now b h x) (h : Int) (h1 : 0 ≤ h) (h2 : h < 4) : b h = trB l c now h := by
 have hc' : 0 ≤ c ∧ c < 80 := of_decide_eq_true hc
 have hall : ∀ g, Reach l c now g → (0 ≤ g ∧ g < 4) ∧ b g = true := by
  intro g hr
  induction hr with
  | home => exact ⟨by omega, w.home⟩
  | @step x _ hx hxc hxu ih =>
   have hcx := hg.2.1 x hx
   unfold certB twoB hostB at hcx
   simp only [Bool.and_eq_true, decide_eq_true_iff] at hcx
   exact ⟨hcx.1.2.1.2, ha x.b ((w.mark x.b ih.1.1 ih.1.2).1 ih.2) x hx hxc rfl hxu⟩
 cases hb : b h with
 | true => exact ((Qbj _ _ _ _).2 ⟨hc, hg, w.real h ((w.mark h h1 h2).1 hb)⟩).symm
 | false =>
  cases ht : trB l c now h with
  | false => rfl
  | true =>
   have := (hall h ((Qbj _ _ _ _).1 ht).2.2).2
   rw [hb] at this
   cases this
def namesL (m : Mal) : List Int := Lib.compact ((m.label.map (·.1) ++ m.grants).mergeSort fun x y => decide (x ≤ y))
theorem QeH (m : Mal) : (namesL m).Pairwise (· < ·) := by
 unfold namesL Lib.compact
 have hs := List.pairwise_mergeSort (le := fun x y : Int => decide (x ≤ y)) (by intro x y z; simp; omega) (by intro x y; simp; omega) (m.label.map (·.1) ++ m.grants)
 refine Qcp _ ?_ _ (by simp)
 intro i j hij hj
 rw [getElem!_pos _ i (by omega), getElem!_pos _ j hj]
 by_cases e : i = j
 · subst e; omega
 · have := (List.pairwise_iff_getElem.1 hs) i j (by simp at hj ⊢; omega) (by simpa using hj) (by omega)
   simpa using this
theorem Qd0 (m : Mal) : (namesL m).length ≤ m.label.length + m.grants.length := by
 unfold namesL Lib.compact Lib.compactUpTo
 have h1 := List.length_filter_le (Lib.keeps ((m.label.map (·.1) ++ m.grants).mergeSort fun x y => decide (x ≤ y)).toArray) (List.range ((m.label.map (·.1) ++ m.grants).mergeSort fun x y => decide (x ≤ y)).length)
 simp at h1 ⊢
 exact h1
noncomputable def mayB (l : List Crt) (h : Int) (m : Mal) (now : Int) : Bool := hostB h && (namesL m).all fun c => trB l c now h
def showL (l : List Crt) (m : Mal) : List Crt := l.filter fun x => decide (x.c ∈ namesL m)
theorem Qe8 (l : List Crt) (h : Int) (m : Mal) (now : Int) : mayB l h m now = true ↔ hostB h = true ∧ ∀ c ∈ namesL m, Trusts l c now h := by
 unfold mayB
 rw [Bool.and_eq_true, List.all_eq_true]
 simp only [Qbj]
structure Clu where
 now : Int
 acts : Nat
 ks : Nat → Ker
 certs : Nat → List Crt
 lines : Nat → Nat → Lne
 net : List (List UInt8)
structure Ac where
 kind : Int
 h : Int
 t : Int
 n : Int
 call : Cal
def freshClu : Clu := ⟨0, 0, fun h => freshKer h, fun _ => [], fun _ _ => zeroLne, []⟩
def kerC (C : Clu) (h : Int) : Ker := C.ks h.toNat
def crtC (C : Clu) (h : Int) : List Crt := C.certs h.toNat
def lineC (C : Clu) (a b : Int) : Lne := C.lines a.toNat b.toNat
def setK (C : Clu) (h : Int) (K : Ker) : Clu := { C with ks := fun g => if g = h.toNat then K else C.ks g }
def setC (C : Clu) (h : Int) (l : List Crt) : Clu := { C with certs := fun g => if g = h.toNat then l else C.certs g }
def setLi (C : Clu) (a b : Int) (l : Lne) : Clu := { C with lines := fun x y => if x = a.toNat ∧ y = b.toNat then l else C.lines x y }
def putC (C : Clu) (f : Frm) : Clu := if frameE f = 0 ∧ C.net.length < 60 then { C with net := C.net ++ [encL f] } else C
def addC (C : Clu) (h : Int) (x : Crt) : Clu × Int := if (addL (crtC C h) x).2 = 0 then (setC C h (addL (crtC C h) x).1, 0) else (C, (addL (crtC C h) x).2)
noncomputable def awayC (C : Clu) (fr to t : Int) (m : Mal) : Clu × Int :=
 if mayB (crtC C fr) to m C.now then
  let f : Frm := ⟨fr, to, 0, false, t, m, showL (crtC C fr) m⟩
  let s := sendLn (lineC C fr to) f C.now
  if s.2.2 = 0 then (putC (setLi C fr to s.1) s.2.1, 0) else (C, s.2.2)
 else (C, 8)
noncomputable def sendC (C : Clu) (h t : Int) (c : Cal) : Clu × Int :=
 if 64 < c.text.length then (C, 9)
 else if hostB c.h && hostB c.t then
  (if (letterL (kerC C h) t c).2 = 0 then
   (if c.h = h then (setK C h (deliverL (kerC C h) c.t (letterL (kerC C h) t c).1), 0) else awayC C h c.h c.t (letterL (kerC C h) t c).1)
  else (C, (letterL (kerC C h) t c).2))
 else (C, 4)
def certifyC (C : Clu) (h t : Int) (c : Cal) : Clu × Int :=
 if hostB c.h && !(c.h == h) && timeB c.n then
  (if (((getT (kerC C h) t).getD zeroThr).own.contains c.c) then addC C h ⟨c.c, h, c.h, c.n⟩ else (C, 7))
 else (C, 2)
noncomputable def callC (C : Clu) (h t : Int) (c : Cal) : Clu × Rep :=
 if hostB h && hostB t then
  (if c.kind = 6 then ((sendC C h t c).1, code (sendC C h t c).2)
  else if c.kind = 8 then ((certifyC C h t c).1, code (certifyC C h t c).2)
  else (setK C h (callL (kerC C h) t c).1, (callL (kerC C h) t c).2))
 else (C, code 4)
def takeC (C : Clu) : Int → List Crt → Clu
 | _, [] => C
 | h, x :: r => takeC (addC C h x).1 h r
noncomputable def acceptC (C : Clu) (f : Frm) : Clu :=
 let D := takeC C f.to f.certs
 if mayB (crtC D f.to) f.fr f.mail D.now then setK D f.to (deliverL (kerC D f.to) f.thread f.mail) else D
noncomputable def comeC (C : Clu) (s : List UInt8) : Clu :=
 if (decL s).2 = 0 then
  let f := (decL s).1
  if f.ack then setLi C f.to f.fr (ansLn (lineC C f.to f.fr) f.seq).1
  else
   let k := takeLn (lineC C f.fr f.to) f.seq
   let D := setLi C f.fr f.to k.1
   let E := if k.2 = 0 ∨ k.2 = 10 then putC D ⟨f.to, f.fr, f.seq, true, 0, zeroMal, []⟩ else D
   if k.2 = 0 then acceptC E f else E
 else C
noncomputable def moveC (C : Clu) (kind n : Int) : Clu × Rep :=
 if 0 ≤ n ∧ n < (C.net.length : Int) then
  let s := C.net.getD n.toNat []
  let D := if kind = 3 then C else { C with net := C.net.take n.toNat ++ C.net.drop (n.toNat + 1) }
  ((if kind = 4 then D else comeC D s), ⟨0, (s.length : Int), []⟩)
 else (C, code 4)
def againC (C : Clu) (a b : Int) : Clu × Nat :=
 let k := againLn (lineC C a b) C.now
 (k.2.1.foldl putC (setLi C a b k.1), k.2.1.length)
def tickC (C : Clu) (n : Int) : Clu × Rep :=
 if 1 ≤ n ∧ n ≤ 1099511627776 - C.now then
  let D := { C with now := C.now + n }
  let r := ([0, 1, 2, 3].flatMap fun a => [0, 1, 2, 3].map fun b => ((a : Int), (b : Int))).foldl (fun (s : Clu × Nat) ab => ((againC s.1 ab.1 ab.2).1, s.2 + (againC s.1 ab.1 ab.2).2)) (D, 0)
  (r.1, ⟨0, (r.2 : Int), []⟩)
 else (C, code 2)
noncomputable def doC (C : Clu) (a : Ac) : Clu × Rep :=
 if 300 ≤ C.acts then (C, code 5)
 else
  let D := { C with acts := C.acts + 1 }
  if a.kind = 1 then callC D a.h a.t a.call
  else if a.kind = 2 ∨ a.kind = 3 ∨ a.kind = 4 then moveC D a.kind a.n
  else if a.kind = 5 then tickC D a.n
  else (D, code 3)
noncomputable def playC : Clu → List Ac → Clu
 | C, [] => C
 | C, a :: r => playC (doC C a).1 r
theorem Qkc (C : Clu) (a : Ac) (h : 300 ≤ C.acts) : doC C a = (C, code 5) := by
 unfold doC
 rw [if_pos h]
theorem QfP {l : List Int} (hs : l.Pairwise (· < ·)) (c : Int) : (∀ x ∈ l.take (l.countP (· < c)), x < c) ∧ ∀ x ∈ l.drop (l.countP (· < c)), c ≤ x := by
 induction l with
 | nil => simp
 | cons a r ih =>
  have hr := (List.pairwise_cons.1 hs).2
  have ha := (List.pairwise_cons.1 hs).1
  by_cases h : a < c
  · rw [List.countP_cons_of_pos (by simpa using h), List.take_succ_cons, List.drop_succ_cons]
    obtain ⟨h1, h2⟩ := ih hr
    refine ⟨fun x hx => ?_, h2⟩
    rcases List.mem_cons.1 hx with rfl | hx
    · exact h
    · exact h1 x hx
  · have hz : r.countP (· < c) = 0 := by
     rw [List.countP_eq_zero]
     intro x hx
     have := ha x hx
     simp
     omega
    rw [List.countP_cons_of_neg (by simpa using h), hz]
    refine ⟨fun x hx => by simp at hx, fun x hx => ?_⟩
    rcases List.mem_cons.1 hx with rfl | hx
    · omega
    · have := ha x hx; omega
theorem QfG {l : List Int} (hs : l.Pairwise (· < ·)) {c : Int} (hc : l.contains c = false) : (insL l c).Pairwise (· < ·) := by
 obtain ⟨h1, h2⟩ := QfP hs c
 have hn : ∀ x ∈ l, x ≠ c := fun x hx e => by
  subst e
  have : l.contains x = true := by simpa using hx
  rw [hc] at this
  cases this
 unfold insL
 rw [List.pairwise_append]
 refine ⟨hs.sublist (List.take_sublist _ _), List.pairwise_cons.2 ⟨fun x hx => ?_, hs.sublist (List.drop_sublist _ _)⟩, fun x hx y hy => ?_⟩
 · have a := h2 x hx
   have b := hn x (List.mem_of_mem_drop hx)
   omega
 · rcases List.mem_cons.1 hy with rfl | hy
   · exact h1 x hx
   · have a := h1 x hx
     have b := h2 y hy
     omega
theorem QjY (l : List Int) (c : Int) : (insL l c).length = l.length + 1 := by
 have : l.countP (· < c) ≤ l.length := List.countP_le_length
 unfold insL
 simp
 omega
theorem Qbx {l : List Int} (hs : l.Pairwise (· < ·)) (c : Int) : (ownL l c).2.Pairwise (· < ·) := by
 unfold ownL
 split
 · exact hs
 · split
   · exact hs
   · exact QfG hs (by rename_i h _; simpa using h)
theorem Qdf {l : List Int} (h : l.length ≤ 8) (c : Int) : (ownL l c).2.length ≤ 8 := by
 unfold ownL
 split
 · exact h
 · split
   · exact h
   · show (insL l c).length ≤ 8
     rw [QjY]
     omega
theorem Qiq {l : List Int} {c : Int} (h : (ownL l c).1 ≠ 0) : (ownL l c).2 = l := by
 unfold ownL at h ⊢
 split
 · rfl
 · rename_i h1
   rw [if_neg h1] at h
   split
   · rfl
   · rename_i h2
     rw [if_neg h2] at h
     exact absurd rfl h
theorem Qa5 (c : Int) (r o : List Int) : grantL (c :: r) o = if (ownL o c).1 = 0 then grantL r (ownL o c).2 else o := rfl
structure GoodT (th : Thr) : Prop where
 sorted : th.own.Pairwise (· < ·)
 own : th.own.length ≤ 8
 text : th.text.length ≤ 64
 objs : th.objs.length ≤ 4
 obj : ∀ o ∈ th.objs, o.text.length ≤ 64 ∧ goodL o.label
 mails : th.mails.length ≤ 6
 mail : ∀ m ∈ th.mails, mailE m = 0
 label : goodL th.label
structure GoodK (K : Ker) : Prop where
 four : K.ths.length = 4
 host : 0 ≤ K.host ∧ K.host < 4
 made : 0 ≤ K.made ∧ K.made ≤ 20
 ths : ∀ th ∈ K.ths, GoodT th
theorem QiJ : goodL [] := ⟨by simp, by simp, by simp⟩
theorem Qcq : GoodT zeroThr := ⟨by simp [zeroThr], by simp [zeroThr], by simp [zeroThr], by simp [zeroThr], by simp [zeroThr], by simp [zeroThr], by simp [zeroThr], QiJ⟩
theorem Qhb {h : Int} (h0 : 0 ≤ h ∧ h < 4) : GoodK (freshKer h) := ⟨rfl, h0, ⟨by simp [freshKer], by simp [freshKer]⟩, fun th hth => by
 simp [freshKer] at hth
 rw [hth]
 exact Qcq⟩
theorem QgR {α : Type} {l : List α} {i : Nat} {a x : α} (h : x ∈ l.set i a) : x = a ∨ x ∈ l := by
 rcases List.mem_or_eq_of_mem_set h with h | h
 · exact Or.inr h
 · exact Or.inl h
theorem GoodK.set {K : Ker} (h : GoodK K) (i : Nat) {th : Thr} (ht : GoodT th) : GoodK { K with ths := K.ths.set i th } :=
 ⟨by simpa using h.four, h.host, h.made, fun x hx => (QgR hx).elim (fun e => by rw [e]; exact ht) (h.ths x)⟩
theorem Qai {K : Ker} {t : Int} {th : Thr} (h : getT K t = some th) : ∃ n : Nat, t = n ∧ ∃ hn : n < K.ths.length, K.ths[n] = th := by
 unfold getT at h
 split at h
 · rename_i h0
   obtain ⟨hn, e⟩ := List.getElem?_eq_some_iff.1 h
   exact ⟨t.toNat, by omega, hn, e⟩
 · cases h
theorem QcB {K : Ker} (h4 : K.ths.length = 4) {t : Int} (h : getT K t = none) : ¬ (0 ≤ t ∧ t < 4) := by
 rintro ⟨h0, h1⟩
 unfold getT at h
 rw [if_pos h0, List.getElem?_eq_none_iff] at h
 omega
theorem Qfc {K : Ker} {n : Nat} (hn : n < K.ths.length) : getT K (n : Int) = some K.ths[n] := by
 unfold getT
 rw [if_pos (by omega), Int.toNat_natCast]
 exact List.getElem?_eq_getElem hn
theorem QaR (K : Ker) (n : Nat) (th : Thr) : setT K (n : Int) th = { K with ths := K.ths.set n th } := by
 unfold setT
 rw [Int.toNat_natCast]
theorem Qd1 (l : List Int) {o : List Int} (hs : o.Pairwise (· < ·)) : (grantL l o).Pairwise (· < ·) := by
 induction l generalizing o with
 | nil => exact hs
 | cons c r ih =>
  rw [Qa5]
  split
  · exact ih (Qbx hs c)
  · exact hs
theorem Qg8 (l : List Int) {o : List Int} (hl : o.length ≤ 8) : (grantL l o).length ≤ 8 := by
 induction l generalizing o with
 | nil => exact hl
 | cons c r ih =>
  rw [Qa5]
  split
  · exact ih (Qdf hl c)
  · exact hl
theorem Qgz (ms : List Mal) {th : Thr} (h : GoodT th) (hl : ms.length ≤ 6) (hm : ∀ m ∈ ms, mailE m = 0) : GoodT (takeL th ms).1 := by
 induction ms with
 | nil => exact ⟨h.sorted, h.own, h.text, h.objs, h.obj, by simp [takeL], by simp [takeL], h.label⟩
 | cons m r ih =>
  unfold takeL
  split
  · exact ⟨Qd1 _ h.sorted, Qg8 _ h.own, Qbe _, h.objs, h.obj, by simp at hl; show r.length ≤ 6; omega, fun x hx => hm x (List.mem_cons_of_mem _ hx), h.label⟩
  · exact ih (by simp at hl; omega) (fun x hx => hm x (List.mem_cons_of_mem _ hx))
theorem QeG {th : Thr} (h : GoodT th) (l : List (Int × Int)) : GoodT (objectL th l).1 := by
 unfold objectL
 split
 · rename_i hg
   split
   · split
     · exact h
     · rename_i hn
       refine ⟨h.sorted, h.own, h.text, by simp; omega, fun o ho => ?_, h.mails, h.mail, h.label⟩
       rcases List.mem_append.1 ho with ho | ho
       · exact h.obj o ho
       · rw [List.mem_singleton.1 ho]
         exact ⟨by simp, (Qax l).1 hg⟩
   · exact h
 · exact h
theorem QfB {th : Thr} (h : GoodT th) (c n : Int) : GoodT (levelL th c n).1 := by
 unfold levelL
 split
 · rename_i he
   split
   · refine ⟨h.sorted, h.own, h.text, h.objs, h.obj, h.mails, h.mail, ?_⟩
     show goodL (setL th.label c n)
     unfold setE at he
     split at he
     · cases he
     · rename_i hb
       split at he
       · cases he
       · rename_i h8
         have hb2 : setB th.label c n = true := by simpa using hb
         unfold setB at hb2
         simp only [Bool.and_eq_true] at hb2
         exact QiI h.label hb2.1.2 hb2.2 (by omega)
   · exact h
 · exact h
theorem Qil {th : Thr} (h : GoodT th) (n : Int) {x : List UInt8} (hx : x.length ≤ 64) : GoodT (putO th n x) := by
 refine ⟨h.sorted, h.own, h.text, by simpa [putO] using h.objs, fun o ho => ?_, h.mails, h.mail, h.label⟩
 unfold putO at ho
 simp only at ho
 obtain ⟨i, hi, e⟩ := List.mem_iff_getElem.1 ho
 rw [List.getElem_modify] at e
 have hi2 : i < th.objs.length := by simpa using hi
 have hold := h.obj th.objs[i] (List.getElem_mem hi2)
 split at e
 · rw [← e]; exact ⟨hx, hold.2⟩
 · rw [← e]; exact hold
theorem Qjb {th : Thr} (h : GoodT th) (m : Mal) : GoodT (boxL th m) := by
 unfold boxL
 split
 · rename_i g
   refine ⟨h.sorted, h.own, h.text, h.objs, h.obj, by simp; omega, fun x hx => ?_, h.label⟩
   rcases List.mem_append.1 hx with hx | hx
   · exact h.mail x hx
   · rw [List.mem_singleton.1 hx]; exact g.1
 · exact h
theorem Qd9 {th : Thr} (h : GoodT th) (x : List UInt8) : GoodT { th with text := lastL x } := ⟨h.sorted, h.own, Qbe _, h.objs, h.obj, h.mails, h.mail, h.label⟩
theorem Qim {K : Ker} (h : GoodK K) (th : Thr) (c : Cal) : GoodK (putL K th c) := by
 unfold putL
 split
 · rename_i u o hu _
   split
   · obtain ⟨n, _, hn, rfl⟩ := Qai hu
     exact h.set _ (Qil (h.ths _ (List.getElem_mem hn)) _ (Qbe _))
   · exact h
 · exact h
theorem QiM {K : Ker} (h : GoodK K) (t : Int) {th : Thr} (ht : GoodT th) (c : Cal) : GoodK (getL K t th c).1 := by
 unfold getL
 split
 · exact h
 · split
   · exact h.set _ (Qd9 ht _)
   · exact h
theorem QdT {K : Ker} (h : GoodK K) (t : Int) {th : Thr} (ht : GoodT th) : GoodK (categoryL K t th).1 := by
 unfold categoryL
 split
 · exact h
 · rename_i hm
   split
   · have hk := h.set t.toNat (th := { th with own := (ownL th.own (K.host * 20 + K.made)).2 }) ⟨Qbx ht.sorted _, Qdf ht.own _, ht.text, ht.objs, ht.obj, ht.mails, ht.mail, ht.label⟩
     have := h.made
     exact ⟨hk.four, hk.host, ⟨by show 0 ≤ K.made + 1; omega, by show K.made + 1 ≤ 20; omega⟩, hk.ths⟩
   · exact h
theorem QhG {K : Ker} (h : GoodK K) (t : Int) {th : Thr} (ht : GoodT th) (c : Cal) : GoodK (callT K t th c).1 := by
 unfold callT
 split
 · exact h
 · split
   · exact QdT h t ht
   · split
     · exact h.set _ (QeG ht _)
     · split
       · exact Qim h th c
       · split
         · exact QiM h t ht c
         · split
           · exact h.set _ (QfB ht _ _)
           · split
             · exact h.set _ (Qgz _ ht ht.mails ht.mail)
             · split
               · exact h.set _ (Qd9 ht _)
               · split
                 · exact h
                 · exact h
theorem QhH {K : Ker} (h : GoodK K) (t : Int) (c : Cal) : GoodK (callL K t c).1 := by
 unfold callL
 split
 · exact h
 · rename_i th hth
   obtain ⟨n, _, hn, rfl⟩ := Qai hth
   exact QhG h t (h.ths _ (List.getElem_mem hn)) c
theorem QbS {K : Ker} (h : GoodK K) (t : Int) (m : Mal) : GoodK (deliverL K t m) := by
 unfold deliverL
 split
 · exact h
 · rename_i th hth
   obtain ⟨n, _, hn, rfl⟩ := Qai hth
   exact h.set _ (Qjb (h.ths _ (List.getElem_mem hn)) m)
structure GoodC (C : Clu) : Prop where
 ks : ∀ h, h < 4 → GoodK (C.ks h)
 now : 0 ≤ C.now ∧ C.now ≤ 1099511627776
 acts : C.acts ≤ 300
 net : C.net.length ≤ 60
theorem QbA : GoodC freshClu := ⟨fun h hh => Qhb (by omega), by decide, by decide, by decide⟩
theorem GoodC.ker {C : Clu} (h : GoodC C) {a : Int} (ha : hostB a = true) : GoodK (kerC C a) := by
 have : 0 ≤ a ∧ a < 4 := of_decide_eq_true ha
 exact h.ks _ (by omega)
theorem Qct {C : Clu} (h : GoodC C) (a : Int) {K : Ker} (hK : GoodK K) : GoodC (setK C a K) :=
 ⟨fun g hg => by
  show GoodK (if g = a.toNat then K else C.ks g)
  split
  · exact hK
  · exact h.ks g hg, h.now, h.acts, h.net⟩
theorem Qih {C : Clu} (h : GoodC C) (a : Int) (l : List Crt) : GoodC (setC C a l) := ⟨h.ks, h.now, h.acts, h.net⟩
theorem Qae {C : Clu} (h : GoodC C) (a b : Int) (l : Lne) : GoodC (setLi C a b l) := ⟨h.ks, h.now, h.acts, h.net⟩
theorem QbK {C : Clu} (h : GoodC C) (f : Frm) : GoodC (putC C f) := by
 unfold putC
 split
 · rename_i h1
   exact ⟨h.ks, h.now, h.acts, by show (C.net ++ [encL f]).length ≤ 60; simp; omega⟩
 · exact h
theorem Qev {C : Clu} (h : GoodC C) (a : Int) (x : Crt) : GoodC (addC C a x).1 := by
 unfold addC
 split
 · exact Qih h _ _
 · exact h
theorem QaU : ∀ (l : List Crt) {C : Clu} (_ : GoodC C) (a : Int), GoodC (takeC C a l)
 | [], _, h, _ => h
 | x :: r, _, h, a => QaU r (Qev h a x) a
theorem QhN {C : Clu} (h : GoodC C) (fr to t : Int) (m : Mal) : GoodC (awayC C fr to t m).1 := by
 unfold awayC
 split
 · dsimp only
   split
   · exact QbK (Qae h _ _ _) _
   · exact h
 · exact h
theorem QgG {C : Clu} (h : GoodC C) (a t : Int) (c : Cal) (ha : hostB a = true) : GoodC (sendC C a t c).1 := by
 unfold sendC
 split
 · exact h
 · split
   · split
     · split
       · exact Qct h _ (QbS (h.ker ha) _ _)
       · exact QhN h _ _ _ _
     · exact h
   · exact h
theorem Qd3 {C : Clu} (h : GoodC C) (a t : Int) (c : Cal) : GoodC (certifyC C a t c).1 := by
 unfold certifyC
 split
 · split
   · exact Qev h _ _
   · exact h
 · exact h
theorem QhJ {C : Clu} (h : GoodC C) (a t : Int) (c : Cal) : GoodC (callC C a t c).1 := by
 unfold callC
 split
 · rename_i h1
   have ha : hostB a = true := by
    rw [Bool.and_eq_true] at h1
    exact h1.1
   split
   · exact QgG h _ _ _ ha
   · split
     · exact Qd3 h _ _ _
     · exact Qct h _ (QhH (h.ker ha) _ _)
 · exact h
theorem QcQ {f : Frm} (h : frameE f = 0) : hostB f.fr = true ∧ hostB f.to = true ∧ hostB f.thread = true := by
 unfold frameE at h
 split at h
 · rename_i h1
   unfold headB twoB at h1
   simp only [Bool.and_eq_true] at h1
   exact ⟨h1.1.1.1.1.1, h1.1.1.1.1.2, h1.2⟩
 · cases h
theorem Qes {s : List UInt8} (h : (decL s).2 = 0) : frameE (decL s).1 = 0 := by
 unfold decL at h ⊢
 split
 · rename_i h1
   rw [if_pos h1] at h
   split
   · rename_i h2
     exact h2
   · rename_i h2
     rw [if_neg h2] at h
     exact absurd h h2
 · rename_i h1
   rw [if_neg h1] at h
   cases h
theorem QeZ {C : Clu} (h : GoodC C) {f : Frm} (hf : hostB f.to = true) : GoodC (acceptC C f) := by
 unfold acceptC
 dsimp only
 split
 · exact Qct (QaU _ h _) _ (QbS ((QaU _ h _).ker hf) _ _)
 · exact QaU _ h _
theorem Qhu {C : Clu} (h : GoodC C) (s : List UInt8) : GoodC (comeC C s) := by
 unfold comeC
 split
 · rename_i h1
   have hf := (QcQ (Qes h1)).2.1
   dsimp only
   split
   · exact Qae h _ _ _
   · have hE : ∀ (b : Prop) [Decidable b] (D : Clu) (g : Frm), GoodC D → GoodC (if b then putC D g else D) := fun b _ D g hD => by
      split
      · exact QbK hD _
      · exact hD
     split
     · exact QeZ (hE _ _ _ (Qae h _ _ _)) hf
     · exact hE _ _ _ (Qae h _ _ _)
 · exact h
theorem QgQ {C : Clu} (h : GoodC C) (kind n : Int) : GoodC (moveC C kind n).1 := by
 unfold moveC
 split
 · dsimp only
   have hD : ∀ (b : Prop) [Decidable b], GoodC (if b then C else { C with net := C.net.take n.toNat ++ C.net.drop (n.toNat + 1) }) := fun b _ => by
    split
    · exact h
    · exact ⟨h.ks, h.now, h.acts, by have := h.net; show (C.net.take n.toNat ++ C.net.drop (n.toNat + 1)).length ≤ 60; rw [List.length_append, List.length_take, List.length_drop]; omega⟩
   split
   · exact hD _
   · exact Qhu (hD _) _
 · exact h
theorem QaZ : ∀ (l : List Frm) {C : Clu} (_ : GoodC C), GoodC (l.foldl putC C)
 | [], _, h => h
 | f :: r, _, h => QaZ r (QbK h f)
theorem Qgg {C : Clu} (h : GoodC C) (a b : Int) : GoodC (againC C a b).1 := by
 unfold againC
 exact QaZ _ (Qae h _ _ _)
theorem QaD : ∀ (l : List (Int × Int)) (s : Clu × Nat) (_ : GoodC s.1), GoodC (l.foldl (fun (s : Clu × Nat) ab => ((againC s.1 ab.1 ab.2).1, s.2 + (againC s.1 ab.1 ab.2).2)) s).1
 | [], _, h => h
 | x :: r, s, h => by
  rw [List.foldl_cons]
  exact QaD r _ (Qgg h _ _)
theorem Qgu {C : Clu} (h : GoodC C) (n : Int) : GoodC (tickC C n).1 := by
 unfold tickC
 split
 · dsimp only
   rename_i h1
   exact QaD _ _ ⟨h.ks, by have := h.now; show 0 ≤ C.now + n ∧ C.now + n ≤ 1099511627776; omega, h.acts, h.net⟩
 · exact h
theorem Qbv {C : Clu} (h : GoodC C) (a : Ac) : GoodC (doC C a).1 := by
 unfold doC
 split
 · exact h
 · dsimp only
   have hD : GoodC { C with acts := C.acts + 1 } := ⟨h.ks, h.now, by show C.acts + 1 ≤ 300; omega, h.net⟩
   split
   · exact QhJ hD _ _ _
   · split
     · exact QgQ hD _ _
     · split
       · exact Qgu hD _
       · exact hD
def thrOf (K : Ker) (t : Int) : Thr := (getT K t).getD zeroThr
theorem Qia {K : Ker} {n : Nat} (h : n < K.ths.length) : thrOf K n = K.ths[n] := by unfold thrOf; rw [Qfc h]; rfl
structure SelfStep (K : Ker) (th th2 : Thr) (c : Cal) (r : Rep) : Prop where
 label : th2.label = th.label ∨ (c.kind = 5 ∧ r.code = 0 ∧ flowsL th.label th2.label th.own = true)
 own : ∀ x ∈ th.own, x ∈ th2.own
 objs : th2.objs = th.objs ∨ ∃ o, th2.objs = th.objs ++ [o]
 text : th2.text = th.text ∨ c.kind = 9 ∨ (c.kind = 7 ∧ r.code = 0) ∨ (c.kind = 4 ∧ r.code = 0 ∧ th2.objs = th.objs ∧ ∃ o, objAt K c.t c.n = some o ∧ flowsL o.label th.label th.own = true)
theorem SelfStep.refl (K : Ker) (th : Thr) (c : Cal) (r : Rep) : SelfStep K th th c r := ⟨.inl rfl, fun _ h => h, .inl rfl, .inl rfl⟩
def firstN (q : Int) : Nat → List Snt → Int
 | _, [] => -1
 | k, s :: r => if s.f.seq = q then k else firstN q (k + 1) r
theorem firstN_or (q : Int) : ∀ (l : List Snt) (k : Nat), (firstN q k l = -1 ∧ ∀ s ∈ l, s.f.seq ≠ q) ∨ ∃ (i : Nat) (h : i < l.length), firstN q k l = ((k + i : Nat) : Int) ∧ (l[i]).f.seq = q
 | [], _ => Or.inl ⟨rfl, fun s hs => absurd hs (by simp)⟩
 | s :: r, k => by
  by_cases hs : s.f.seq = q
  · exact Or.inr ⟨0, by simp, by simp [firstN, hs], hs⟩
  · rcases firstN_or q r (k + 1) with ⟨h1, h2⟩ | ⟨i, hi, h1, h2⟩
    · refine Or.inl ⟨by simp [firstN, hs, h1], fun x hx => ?_⟩
      rcases List.mem_cons.1 hx with e | hx
      · rw [e]; exact hs
      · exact h2 x hx
    · refine Or.inr ⟨i + 1, by simpa using hi, ?_, by simpa using h2⟩
      simp only [firstN, hs, if_false]
      rw [h1]
      congr 1
      omega
theorem Qkm {l : Lne} {q : Int} (hg : goodLn l = true) (h : ∀ s ∈ l.sent, s.f.seq ≠ q) : ansLn l q = (l, 4) := by
 unfold ansLn
 rw [if_pos hg, if_pos]
 rw [List.all_eq_true]
 intro s hs
 simpa using h s hs
theorem Qkl {l : Lne} {q : Int} (hg : goodLn l = true) (i : Nat) (hi : i < l.sent.length) (h : (l.sent[i]).f.seq = q) : ansLn l q = ({ l with sent := l.sent.take i ++ l.sent.drop (i + 1) }, 0) := by
 unfold ansLn
 have hne : ¬ (l.sent.all (fun s => !(s.f.seq == q)) = true) := fun ha => by
  have := List.all_eq_true.1 ha _ (List.getElem_mem hi)
  simp [h] at this
 rw [if_pos hg, if_neg hne, ← h, Qdr (Qce hg) i hi]
theorem QkI {l : Lne} {q : Int} (hg : goodLn l = false) : ansLn l q = (l, 2) := by
 unfold ansLn
 rw [hg]
 rfl
def pairsC : List (Int × Int) := [0, 1, 2, 3].flatMap fun a => [0, 1, 2, 3].map fun b => ((a : Int), (b : Int))
def stepT (s : Clu × Nat) (ab : Int × Int) : Clu × Nat := ((againC s.1 ab.1 ab.2).1, s.2 + (againC s.1 ab.1 ab.2).2)
def tickN (D : Clu) (k : Nat) : Clu × Nat := (pairsC.take k).foldl stepT (D, 0)
theorem QgK : ∀ i, i < 4 → ∀ j, j < 4 → pairsC.take (i * 4 + j + 1) = pairsC.take (i * 4 + j) ++ [((i : Int), (j : Int))] := by decide
theorem Qgs (D : Clu) {i j : Nat} (hi : i < 4) (hj : j < 4) : tickN D (i * 4 + j + 1) = ((againC (tickN D (i * 4 + j)).1 i j).1, (tickN D (i * 4 + j)).2 + (againC (tickN D (i * 4 + j)).1 i j).2) := by
 unfold tickN
 rw [QgK i hi j hj, List.foldl_append]
 rfl
theorem Qju {C : Clu} {n : Int} (h1 : 1 ≤ n) (h2 : n ≤ 1099511627776 - C.now) : tickC C n = ((tickN { C with now := C.now + n } 16).1, ⟨0, ((tickN { C with now := C.now + n } 16).2 : Int), []⟩) := by
 unfold tickC
 rw [if_pos ⟨h1, h2⟩]
 rfl
theorem Qh9 {C : Clu} {n : Int} (h : ¬ (1 ≤ n ∧ n ≤ 1099511627776 - C.now)) : tickC C n = (C, code 2) := by
 unfold tickC
 rw [if_neg h]
theorem Qgt {D : Clu} (h : GoodC D) (k : Nat) : GoodC (tickN D k).1 := QaD (pairsC.take k) (D, 0) h
def aliveA : Ac := ⟨1, 2, 0, 0, ⟨1, 0, 0, 0, 0, [], [], []⟩⟩
def aliveB : Ac := ⟨1, 2, 0, 0, ⟨6, 1, 3, 0, 0, [], [], [104, 105]⟩⟩
theorem QkK : (doC freshClu aliveA).2.n = 40 := by rfl
def aliveM : Mal := ⟨2, 0, [], [], [104, 105]⟩
theorem Qch : Lib.compact ([] : List Int) = [] := by
 refine List.eq_nil_iff_forall_not_mem.2 fun x hx => ?_
 rw [QcN] at hx
 cases hx
theorem Qge : namesL aliveM = [] := by
 unfold namesL aliveM
 simp [Qch]
theorem Qgf (own : List Int) : flowsL [] [] own = true := by
 unfold flowsL catsL
 simp [Qch]
theorem Qjf : getT ((doC freshClu aliveA).1.ks 2) 0 = some ⟨[], [40], [], [], []⟩ := by rfl
theorem QeY : letterL ((doC freshClu aliveA).1.ks 2) 0 aliveB.call = (aliveM, 0) := by
 unfold letterL
 rw [Qjf]
 have hm : letterM ((doC freshClu aliveA).1.ks 2) 0 aliveB.call ⟨[], [40], [], [], []⟩ = aliveM := by rfl
 simp only [hm]
 have h0 : mayL ⟨[], [40], [], [], []⟩ aliveM = 0 := by
  unfold mayL
  rw [if_pos (by decide), if_pos (by rfl)]
  show (if flowsL [] [] [40] = true then (0 : Int) else 6) = 0
  rw [Qgf]
  rfl
 rw [if_pos h0]
theorem Qjh (l : List Crt) : mayB l 1 aliveM 0 = true := by
 unfold mayB
 rw [Qge]
 rfl
theorem QhP : showL [] aliveM = [] := rfl
theorem Qjk : (doC freshClu aliveA).1.certs 2 = [] := by rfl
theorem Qji : (doC freshClu aliveA).1.lines 2 1 = zeroLne := by rfl
theorem Qjg : (doC freshClu aliveA).1.now = 0 := by rfl
theorem QhS : (doC freshClu aliveA).1.acts = 1 := by rfl
theorem QhR : (doC freshClu aliveA).1.net = [] := by rfl
def aliveF : Frm := ⟨2, 1, 0, false, 3, aliveM, []⟩
theorem QhQ : sendLn zeroLne aliveF 0 = (⟨1, [⟨{ aliveF with seq := 1 }, 1, 2⟩], 0, zeroLne.seen⟩, { aliveF with seq := 1 }, 0) := by
 unfold sendLn
 rw [if_pos (by decide), if_neg (by decide)]
 rfl
theorem Qjj : frameE { aliveF with seq := 1 } = 0 := by decide
theorem Qje : (doC (doC freshClu aliveA).1 aliveB).2.code = 0 ∧ (doC (doC freshClu aliveA).1 aliveB).1.net.length = 1 := by
 have h1 := QeY
 have h2 := Qjk
 have h3 := Qji
 have h4 := Qjg
 have h5 := QhS
 have h6 := QhR
 generalize (doC freshClu aliveA).1 = C at *
 have e1 : doC C aliveB = callC { C with acts := C.acts + 1 } 2 0 aliveB.call := by
  unfold doC
  rw [if_neg (by omega)]
  rfl
 generalize hD : ({ C with acts := C.acts + 1 } : Clu) = D at e1
 have d1 : letterL (kerC D 2) 0 aliveB.call = (aliveM, 0) := by rw [← hD]; exact h1
 have d2 : crtC D 2 = [] := by rw [← hD]; exact h2
 have d3 : lineC D 2 1 = zeroLne := by rw [← hD]; exact h3
 have d4 : D.now = 0 := by rw [← hD]; exact h4
 have d6 : D.net = [] := by rw [← hD]; exact h6
 have e2 : callC D 2 0 aliveB.call = ((sendC D 2 0 aliveB.call).1, code (sendC D 2 0 aliveB.call).2) := by
  unfold callC
  rfl
 have e3 : sendC D 2 0 aliveB.call = awayC D 2 1 3 aliveM := by
  unfold sendC
  rw [if_neg (by decide), d1]
  rfl
 have e4 : awayC D 2 1 3 aliveM = (putC (setLi D 2 1 ⟨1, [⟨{ aliveF with seq := 1 }, 1, 2⟩], 0, zeroLne.seen⟩) { aliveF with seq := 1 }, 0) := by
  unfold awayC
  rw [d2, d3, d4, Qjh, if_pos rfl]
  simp only [QhP]
  show (if (sendLn zeroLne aliveF 0).2.2 = 0 then (putC (setLi D 2 1 (sendLn zeroLne aliveF 0).1) (sendLn zeroLne aliveF 0).2.1, (0 : Int)) else (D, (sendLn zeroLne aliveF 0).2.2)) = _
  simp only [QhQ, if_pos]
 rw [e1, e2, e3, e4]
 refine ⟨rfl, ?_⟩
 unfold putC
 rw [if_pos ⟨Qjj, by show D.net.length < 60; rw [d6]; decide⟩]
 show (D.net ++ _).length = 1
 rw [d6]
 rfl
end Go.Proofs.Parclose
