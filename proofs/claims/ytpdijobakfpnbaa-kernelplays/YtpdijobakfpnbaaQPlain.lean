/- Plain facts on lists of levels: what At, named, Flows, Good, Same say of them; no program is named here. -/
import Derived.Lib.SlicesCompact
namespace Go.Proofs.Parclose
def atL (l : List (Int × Int)) (c : Int) : Int := match l with
 | [] => 1
 | x :: r => if x.1 = c then x.2 else atL r c
theorem QdS (l : List (Int × Int)) (c : Int) (h : ∀ j (hj : j < l.length), l[j].1 ≠ c) : atL l c = 1 := by
 induction l with
 | nil => rfl
 | cons x r ih =>
  have h0 := h 0 (by simp)
  simp only [List.getElem_cons_zero] at h0
  simp only [atL, if_neg h0]
  exact ih fun j hj => by have := h (j + 1) (by simp; omega); simpa using this
theorem Qbz (l : List (Int × Int)) (c : Int) (k : Nat) (hk : k < l.length) (h : ∀ j (hj : j < k), l[j].1 ≠ c) (hc : l[k].1 = c) : atL l c = l[k].2 := by
 induction l generalizing k with
 | nil => simp at hk
 | cons x r ih =>
  cases k with
  | zero => simp only [List.getElem_cons_zero] at hc ⊢; simp only [atL, if_pos hc]
  | succ k =>
   have h0 := h 0 (by omega)
   simp only [List.getElem_cons_zero] at h0
   simp only [atL, if_neg h0, List.getElem_cons_succ]
   exact ih k (by simpa using hk) (fun j hj => by have := h (j + 1) (by omega); simpa using this) (by simpa using hc)
theorem Qam {l : List (Int × Int)} {c : Int} (h : c ∉ l.map (·.1)) : atL l c = 1 := by
 induction l with
 | nil => rfl
 | cons x r ih =>
  simp only [List.map_cons, List.mem_cons, not_or] at h
  simp only [atL, if_neg (Ne.symm h.1)]
  exact ih h.2
def catsL (a b : List (Int × Int)) : List Int := Lib.compact ((a.map (·.1) ++ b.map (·.1)).mergeSort fun x y => decide (x ≤ y))
theorem Qci (d : Array Int) (m : Nat) (hm : m ≤ d.size) (x : Int) : x ∈ Lib.compactUpTo d m ↔ ∃ j, j < m ∧ d[j]! = x := by
 induction m with
 | zero => simp [Lib.compactUpTo]
 | succ m ih =>
  rw [Lib.compactUpTo_succ, List.mem_append, ih (by omega)]
  by_cases hk : Lib.keeps d m
  · simp only [hk, if_true, List.mem_singleton]
    constructor
    · rintro (⟨j, hj, e⟩ | e)
      · exact ⟨j, by omega, e⟩
      · exact ⟨m, by omega, e.symm⟩
    · rintro ⟨j, hj, e⟩
      by_cases h : j = m
      · subst h; exact Or.inr e.symm
      · exact Or.inl ⟨j, by omega, e⟩
  · have hk' : Lib.keeps d m = false := by simpa using hk
    simp only [hk', Bool.false_eq_true, if_false, List.not_mem_nil, or_false]
    have hz : ¬ (m = 0 ∨ d[m]! ≠ d[m - 1]!) := by simpa [Lib.keeps] using hk'
    constructor
    · rintro ⟨j, hj, e⟩; exact ⟨j, by omega, e⟩
    · rintro ⟨j, hj, e⟩
      by_cases h : j = m
      · subst h
        have h2 : d[j]! = d[j - 1]! := by
         by_cases g : d[j]! = d[j - 1]!
         · exact g
         · exact absurd (Or.inr g) hz
        have h1 : ¬ j = 0 := fun g => hz (Or.inl g)
        exact ⟨j - 1, by omega, by rw [← h2]; exact e⟩
      · exact ⟨j, by omega, e⟩
theorem Qd4 (zs : List Int) (x : Int) : x ∈ Lib.compact zs ↔ x ∈ zs := by
 unfold Lib.compact
 rw [Qci _ _ (by simp)]
 constructor
 · rintro ⟨j, hj, e⟩
   rw [getElem!_pos _ j (by simpa using hj)] at e
   subst e
   simp
 · intro h
   obtain ⟨j, hj, e⟩ := List.mem_iff_getElem.1 h
   exact ⟨j, hj, by rw [getElem!_pos _ j (by simpa using hj)]; simpa using e⟩
theorem Qc9 (a b : List (Int × Int)) (c : Int) : c ∈ catsL a b ↔ c ∈ a.map (·.1) ∨ c ∈ b.map (·.1) := by
 unfold catsL
 rw [Qd4, List.mem_mergeSort, List.mem_append]
theorem QbH (a b : List (Int × Int)) : (catsL a b).length ≤ a.length + b.length := by
 unfold catsL Lib.compact Lib.compactUpTo
 have h1 := List.length_filter_le (Lib.keeps ((a.map (·.1) ++ b.map (·.1)).mergeSort fun x y => decide (x ≤ y)).toArray) (List.range ((a.map (·.1) ++ b.map (·.1)).mergeSort fun x y => decide (x ≤ y)).length)
 simp at h1 ⊢
 omega
def hasB (own : List Int) (c : Int) : Bool := own.contains c
def flowsL (a b : List (Int × Int)) (own : List Int) : Bool := (catsL a b).all fun c => decide (atL a c ≤ atL b c) || own.contains c
theorem Qe7 (a b : List (Int × Int)) (own : List Int) : flowsL a b own = true ↔ ∀ c, c ∈ own ∨ atL a c ≤ atL b c := by
 unfold flowsL
 simp only [List.all_eq_true, Bool.or_eq_true, decide_eq_true_eq, List.contains_iff_mem]
 constructor
 · intro h c
   by_cases hc : c ∈ catsL a b
   · rcases h c hc with h1 | h1
     · exact Or.inr h1
     · exact Or.inl h1
   · rw [Qc9, not_or] at hc
     rw [Qam hc.1, Qam hc.2]
     exact Or.inr (Int.le_refl _)
 · intro h c _
   rcases h c with h1 | h1
   · exact Or.inr h1
   · exact Or.inl h1
theorem Qa2 {a b : List (Int × Int)} {own : List Int} {c : Int} (h1 : atL b c < atL a c) (h2 : hasB own c = false) : flowsL a b own = false := by
 cases hf : flowsL a b own with
 | false => rfl
 | true =>
  rcases (Qe7 a b own).1 hf c with h | h
  · simp [hasB, h] at h2
  · omega
theorem Qbb {a b : List (Int × Int)} {own : List Int} (h : ∀ j (hj : j < (catsL a b).length), atL a (catsL a b)[j] ≤ atL b (catsL a b)[j] ∨ hasB own (catsL a b)[j] = true) : flowsL a b own = true := by
 unfold flowsL
 simp only [List.all_eq_true, Bool.or_eq_true, decide_eq_true_eq]
 intro c hc
 obtain ⟨j, hj, e⟩ := List.mem_iff_getElem.1 hc
 subst e
 exact h j hj
theorem QbK {a b : List (Int × Int)} {own : List Int} (h : ∀ c, c ∈ a.map (·.1) ∨ c ∈ b.map (·.1) → atL a c ≤ atL b c ∨ hasB own c = true) : flowsL a b own = true :=
 Qbb fun _ hj => h _ ((Qc9 a b _).1 (List.getElem_mem hj))
def goodL (l : List (Int × Int)) : Prop := l.length ≤ 8 ∧ (∀ x ∈ l, 0 ≤ x.1 ∧ x.1 < 80 ∧ 0 ≤ x.2 ∧ x.2 ≤ 3 ∧ x.2 ≠ 1) ∧ l.Pairwise (fun x y => x.1 < y.1)
def catB (c : Int) : Bool := decide (0 ≤ c ∧ c < 80)
def bndB (n : Int) : Bool := decide (0 ≤ n ∧ n ≤ 3)
def levB (x : Int × Int) : Bool := catB x.1 && bndB x.2 && !(x.2 == 1)
def goodB (l : List (Int × Int)) : Bool := decide (l.length ≤ 8 ∧ (∀ x ∈ l, 0 ≤ x.1 ∧ x.1 < 80 ∧ 0 ≤ x.2 ∧ x.2 ≤ 3 ∧ x.2 ≠ 1) ∧ l.Pairwise (fun x y => x.1 < y.1))
theorem Qx (l : List (Int × Int)) : goodB l = true ↔ goodL l := by unfold goodB goodL; exact decide_eq_true_iff
theorem QaN (x : Int × Int) : levB x = true ↔ (0 ≤ x.1 ∧ x.1 < 80 ∧ 0 ≤ x.2 ∧ x.2 ≤ 3 ∧ x.2 ≠ 1) := by
 simp only [levB, catB, bndB, Bool.and_eq_true, decide_eq_true_eq, Bool.not_eq_true', beq_eq_false_iff_ne, ne_eq]
 constructor
 · rintro ⟨⟨⟨h1, h2⟩, h3, h4⟩, h5⟩; exact ⟨h1, h2, h3, h4, h5⟩
 · rintro ⟨h1, h2, h3, h4, h5⟩; exact ⟨⟨⟨h1, h2⟩, h3, h4⟩, h5⟩
theorem QcE {l : List (Int × Int)} (h : 8 < l.length) : goodB l = false := by
 cases e : goodB l with
 | false => rfl
 | true => have := ((Qx l).1 e).1; omega
theorem QbT {l : List (Int × Int)} (k : Nat) (hk : k < l.length) (h : levB l[k] = false) : goodB l = false := by
 cases e : goodB l with
 | false => rfl
 | true =>
  have := (QaN l[k]).2 (((Qx l).1 e).2.1 l[k] (List.getElem_mem hk))
  rw [h] at this
  cases this
theorem QcD {l : List (Int × Int)} (k : Nat) (hk : k + 1 < l.length) (h : l[k + 1].1 ≤ l[k].1) : goodB l = false := by
 cases e : goodB l with
 | false => rfl
 | true =>
  have := (List.pairwise_iff_getElem.1 ((Qx l).1 e).2.2) k (k + 1) (by omega) hk (by omega)
  omega
theorem Qch (l : List (Int × Int)) (h : ∀ j (hj : j + 1 < l.length), l[j].1 < l[j + 1].1) : l.Pairwise (fun x y => x.1 < y.1) := by
 rw [List.pairwise_iff_getElem]
 intro i j hi hj hij
 induction j with
 | zero => omega
 | succ j ih =>
  have hs := h j hj
  by_cases e : i = j
  · subst e; exact hs
  · have := ih (by omega) (by omega); omega
theorem Qdg {l : List (Int × Int)} (h8 : l.length ≤ 8) (h1 : ∀ j (hj : j < l.length), levB l[j] = true) (h2 : ∀ j (hj : j + 1 < l.length), l[j].1 < l[j + 1].1) : goodB l = true := by
 refine (Qx l).2 ⟨h8, fun x hx => ?_, Qch l h2⟩
 obtain ⟨j, hj, e⟩ := List.mem_iff_getElem.1 hx
 subst e
 exact (QaN _).1 (h1 j hj)
def sameB (a b : List (Int × Int)) : Bool := decide (a = b)
theorem QbN (a b : List (Int × Int)) : sameB a b = true ↔ a = b := decide_eq_true_iff
theorem QfH {a b : List (Int × Int)} (h : a.length ≠ b.length) : sameB a b = false := decide_eq_false fun e => h (by rw [e])
theorem QeF {a b : List (Int × Int)} (k : Nat) (hk : k < a.length) (hk' : k < b.length) (h : a[k] ≠ b[k]) : sameB a b = false := decide_eq_false fun e => h (by subst e; rfl)
theorem QfI {a b : List (Int × Int)} (hl : a.length = b.length) (h : ∀ j (hj : j < a.length) (hj' : j < b.length), a[j] = b[j]) : sameB a b = true := decide_eq_true (List.ext_getElem hl h)
def canonL (l : List (Int × Int)) : Prop := (∀ x ∈ l, x.2 ≠ 1) ∧ l.Pairwise (fun x y => x.1 < y.1)
theorem QcR (a b : List (Int × Int)) (ha1 : ∀ x ∈ a, x.2 ≠ 1) (ha2 : a.Pairwise (fun x y => x.1 < y.1))
 (hb1 : ∀ x ∈ b, x.2 ≠ 1) (hb2 : b.Pairwise (fun x y => x.1 < y.1)) (h : ∀ c, atL a c = atL b c) : a = b := by
 induction a generalizing b with
 | nil =>
  cases b with
  | nil => rfl
  | cons y s =>
   have := h y.1
   have hy := hb1 y (by simp)
   simp [atL] at this
   omega
 | cons x r ih =>
  have hx := ha1 x (by simp)
  have hxr := (List.pairwise_cons.1 ha2)
  have nin : ∀ {z : Int} {l : List (Int × Int)}, (∀ t ∈ l, z < t.1) → atL l z = 1 := fun hl => Qam fun hm => by
   obtain ⟨t, ht, e⟩ := List.mem_map.1 hm
   have := hl t ht
   omega
  cases b with
  | nil =>
   have := h x.1
   simp [atL] at this
   omega
  | cons y s =>
   have hy := hb1 y (by simp)
   have hys := (List.pairwise_cons.1 hb2)
   have e1 : x.1 = y.1 := by
    rcases Int.lt_trichotomy x.1 y.1 with g | g | g
    · have := h x.1
      simp only [atL, if_true, if_neg (show ¬ y.1 = x.1 by omega)] at this
      rw [nin (fun t ht => by have := hys.1 t ht; omega)] at this
      omega
    · exact g
    · have := h y.1
      simp only [atL, if_true, if_neg (show ¬ x.1 = y.1 by omega)] at this
      rw [nin (fun t ht => by have := hxr.1 t ht; omega)] at this
      omega
   have e2 : x.2 = y.2 := by
    have := h x.1
    simpa only [atL, if_true, if_pos e1.symm] using this
   have e3 : x = y := Prod.ext e1 e2
   subst e3
   rw [ih s (fun t ht => ha1 t (by simp [ht])) hxr.2 (fun t ht => hb1 t (by simp [ht])) hys.2 ?_]
   intro c
   have := h c
   simp only [atL] at this
   by_cases g : x.1 = c
   · subst g
     rw [nin hxr.1, nin hys.1]
   · simpa only [if_neg g] using this
theorem Qf6 {a b : List (Int × Int)} (ha : canonL a) (hb : canonL b) (h : ∀ c, atL a c = atL b c) : a = b := QcR a b ha.1 ha.2 hb.1 hb.2 h
theorem Qe5 {a : List (Int × Int)} (ha : goodL a) : canonL a := ⟨fun x hx => (ha.2.1 x hx).2.2.2.2, ha.2.2⟩
structure Crt where
 c : Int
 b : Int
 h : Int
 u : Int
structure Mal where
 host : Int
 thread : Int
 label : List (Int × Int)
 grants : List Int
 text : List UInt8
structure Frm where
 fr : Int
 to : Int
 seq : Int
 ack : Bool
 thread : Int
 mail : Mal
 certs : List Crt
def zeroMal : Mal := ⟨0, 0, [], [], []⟩
def zeroFrm : Frm := ⟨0, 0, 0, false, 0, zeroMal, []⟩
def hostB (h : Int) : Bool := decide (0 ≤ h ∧ h < 4)
def timeB (n : Int) : Bool := decide (0 ≤ n ∧ n ≤ 1099511627776)
def twoB (a b : Int) : Bool := hostB a && hostB b && !(a == b)
def certB (x : Crt) : Bool := catB x.c && twoB x.b x.h && timeB x.u
def grantsB (l : List Int) : Bool := decide (l.length ≤ 8 ∧ (∀ x ∈ l, 0 ≤ x ∧ x < 80) ∧ l.Pairwise (· < ·))
def mailE (m : Mal) : Int := if hostB m.host && hostB m.thread && goodB m.label && grantsB m.grants then (if m.text.length ≤ 64 then 0 else 9) else 2
def emptyB (m : Mal) : Bool := m.host == 0 && m.thread == 0 && m.label.isEmpty && m.grants.isEmpty && m.text.isEmpty
def answerE (f : Frm) : Int := if f.thread == 0 && emptyB f.mail && f.certs.isEmpty then 0 else 1
def certsE (l : List Crt) : Int := if l.length ≤ 24 then (if l.all certB then 0 else 2) else 5
def loadE (f : Frm) : Int := if mailE f.mail = 0 then (if f.mail.host = f.fr then certsE f.certs else 1) else mailE f.mail
def headB (f : Frm) : Bool := twoB f.fr f.to && !(f.seq == 0) && timeB f.seq && hostB f.thread
def frameE (f : Frm) : Int := if headB f then (if f.ack then answerE f else loadE f) else 2
def byteL (n : Int) : UInt8 := UInt8.ofNat (n % 256).toNat
def timeL (n : Int) : List UInt8 := [byteL (n / 1099511627776), byteL (n / 4294967296), byteL (n / 16777216), byteL (n / 65536), byteL (n / 256), byteL n]
def headL (k : Int) (f : Frm) : List UInt8 := [byteL k, byteL f.fr, byteL f.to] ++ timeL f.seq
def levelsL (l : List (Int × Int)) : List UInt8 := l.flatMap fun x => [byteL x.1, byteL x.2]
def mailL (m : Mal) : List UInt8 := [byteL m.thread, byteL m.label.length] ++ levelsL m.label ++ [byteL m.grants.length] ++ m.grants.map byteL ++ [byteL m.text.length] ++ m.text
def certL (x : Crt) : List UInt8 := [byteL x.c, byteL x.b, byteL x.h] ++ timeL x.u
def certsL (l : List Crt) : List UInt8 := [byteL l.length] ++ l.flatMap certL
def encL (f : Frm) : List UInt8 := if f.ack then headL 1 f else headL 0 f ++ [byteL f.thread] ++ mailL f.mail ++ certsL f.certs
abbrev Tk := List UInt8 × Bool
def textT (n : Nat) (t : Tk) : List UInt8 × Tk := if t.1.length < n then ([], ([], true)) else (t.1.take n, (t.1.drop n, t.2))
def numL (l : List UInt8) : Int := l.foldl (fun n b => n * 256 + (b.toNat : Int)) 0
def numT (n : Nat) (t : Tk) : Int × Tk := (numL (textT n t).1, (textT n t).2)
def iterN {α : Type} (f : α → α) : Nat → α → α
 | 0, s => s
 | n + 1, s => f (iterN f n s)
def levStep (s : List (Int × Int) × Tk) : List (Int × Int) × Tk := (s.1 ++ [((numT 1 s.2).1, (numT 1 (numT 1 s.2).2).1)], (numT 1 (numT 1 s.2).2).2)
def grStep (s : List Int × Tk) : List Int × Tk := (s.1 ++ [(numT 1 s.2).1], (numT 1 s.2).2)
def crtT (t : Tk) : Crt × Tk :=
 (⟨(numT 1 t).1, (numT 1 (numT 1 t).2).1, (numT 1 (numT 1 (numT 1 t).2).2).1, (numT 6 (numT 1 (numT 1 (numT 1 t).2).2).2).1⟩, (numT 6 (numT 1 (numT 1 (numT 1 t).2).2).2).2)
def crStep (s : List Crt × Tk) : List Crt × Tk := (s.1 ++ [(crtT s.2).1], (crtT s.2).2)
def labT (t : Tk) : List (Int × Int) × Tk := iterN levStep (numT 1 t).1.toNat ([], (numT 1 t).2)
def grT (t : Tk) : List Int × Tk := iterN grStep (numT 1 t).1.toNat ([], (numT 1 t).2)
def txT (t : Tk) : List UInt8 × Tk := textT (numT 1 t).1.toNat (numT 1 t).2
def certsT (t : Tk) : List Crt × Tk := iterN crStep (numT 1 t).1.toNat ([], (numT 1 t).2)
def mailT (fr : Int) (t : Tk) : Mal × Tk :=
 (⟨fr, (numT 1 t).1, (labT (numT 1 t).2).1, (grT (labT (numT 1 t).2).2).1, (txT (grT (labT (numT 1 t).2).2).2).1⟩, (txT (grT (labT (numT 1 t).2).2).2).2)
def headT (t : Tk) : (Int × Int × Int × Int) × Tk :=
 (((numT 1 t).1, (numT 1 (numT 1 t).2).1, (numT 1 (numT 1 (numT 1 t).2).2).1, (numT 6 (numT 1 (numT 1 (numT 1 t).2).2).2).1), (numT 6 (numT 1 (numT 1 (numT 1 t).2).2).2).2)
def loadT (fr to seq : Int) (t : Tk) : Frm × Tk :=
 (⟨fr, to, seq, false, (numT 1 t).1, (mailT fr (numT 1 t).2).1, (certsT (mailT fr (numT 1 t).2).2).1⟩, (certsT (mailT fr (numT 1 t).2).2).2)
def frameT (t : Tk) : Frm × Tk :=
 if (headT t).1.1 = 1 then (⟨(headT t).1.2.1, (headT t).1.2.2.1, (headT t).1.2.2.2, true, 0, zeroMal, []⟩, (headT t).2)
 else if (headT t).1.1 = 0 then loadT (headT t).1.2.1 (headT t).1.2.2.1 (headT t).1.2.2.2 (headT t).2
 else (⟨(headT t).1.2.1, (headT t).1.2.2.1, (headT t).1.2.2.2, false, 0, zeroMal, []⟩, ([], true))
def doneB (t : Tk) : Bool := !t.2 && t.1.isEmpty
def decL (s : List UInt8) : Frm × Int :=
 if doneB (frameT (s, false)).2 then (if frameE (frameT (s, false)).1 = 0 then ((frameT (s, false)).1, 0) else (zeroFrm, frameE (frameT (s, false)).1)) else (zeroFrm, 1)
theorem Qat (b : UInt8) : (b.toNat : Int) < 256 := by have := b.toNat_lt; omega
theorem Qce (b : UInt8) : byteL (b.toNat : Int) = b := by
 unfold byteL
 have := b.toNat_lt
 rw [show ((b.toNat : Int) % 256).toNat = b.toNat by omega]
 simp
theorem QbZ (n : Int) : ((byteL n).toNat : Int) = n % 256 := by
 unfold byteL
 rw [UInt8.toNat_ofNat']
 have : (n % 256).toNat < 2 ^ 8 := by omega
 rw [Nat.mod_eq_of_lt this]
 omega
theorem Qcs {n : Nat} {t : Tk} {x r : List UInt8} (h : textT n t = (x, (r, false))) : t = (x ++ r, false) ∧ x.length = n := by
 unfold textT at h
 split at h
 · cases h
 · rename_i hn
   obtain ⟨s, f⟩ := t
   simp only [Prod.mk.injEq] at h
   obtain ⟨rfl, rfl, rfl⟩ := h
   simp at hn
   exact ⟨by simp, by simp; omega⟩
theorem Qc5 (x r : List UInt8) : textT x.length (x ++ r, false) = (x, (r, false)) := by
 unfold textT
 rw [if_neg (by simp)]
 simp
theorem Qbj {n : Nat} (x r : List UInt8) (h : x.length = n) : textT n (x ++ r, false) = (x, (r, false)) := by
 subst h
 exact Qc5 x r
theorem list1 {x : List UInt8} (h : x.length = 1) : ∃ b, x = [b] := by
 match x, h with
 | [b], _ => exact ⟨b, rfl⟩
theorem Qgr {t : Tk} {n : Int} {r : List UInt8} (h : numT 1 t = (n, (r, false))) : t = (byteL n :: r, false) ∧ 0 ≤ n ∧ n < 256 := by
 unfold numT at h
 simp only [Prod.mk.injEq] at h
 obtain ⟨h1, h2⟩ := h
 obtain ⟨e, hx⟩ := Qcs (n := 1) (t := t) (x := (textT 1 t).1) (r := r) (by rw [← h2])
 obtain ⟨b, hb⟩ := list1 hx
 rw [hb] at h1 e
 have hn : n = (b.toNat : Int) := by rw [← h1]; simp [numL]
 subst hn
 rw [Qce]
 have := Qat b
 exact ⟨by simpa using e, by omega, by omega⟩
theorem QR (n : Int) (r : List UInt8) (h0 : 0 ≤ n) (h1 : n < 256) : numT 1 (byteL n :: r, false) = (n, (r, false)) := by
 unfold numT
 rw [show (byteL n :: r) = [byteL n] ++ r from rfl, Qbj (n := 1) [byteL n] r rfl]
 simp [numL, QbZ]
 omega
theorem list6 {x : List UInt8} (h : x.length = 6) : ∃ a b c d e f, x = [a, b, c, d, e, f] := by
 match x, h with
 | [a, b, c, d, e, f], _ => exact ⟨a, b, c, d, e, f, rfl⟩
theorem numL6 (a b c d e f : UInt8) : numL [a, b, c, d, e, f] = (((((a.toNat : Int) * 256 + b.toNat) * 256 + c.toNat) * 256 + d.toNat) * 256 + e.toNat) * 256 + f.toNat := by
 simp [numL]
theorem QaP {n : Int} {b : UInt8} (h : n % 256 = (b.toNat : Int)) : byteL n = b := by
 rw [← Qce b]
 unfold byteL
 rw [h]
 have := Qat b
 rw [show ((b.toNat : Int) % 256) = b.toNat by omega]
theorem QfD (a b c d e f : UInt8) : timeL (numL [a, b, c, d, e, f]) = [a, b, c, d, e, f] := by
 rw [numL6]
 have h1 := Qat a
 have h2 := Qat b
 have h3 := Qat c
 have h4 := Qat d
 have h5 := Qat e
 have h6 := Qat f
 unfold timeL
 rw [QaP (b := a) (by omega), QaP (b := b) (by omega), QaP (b := c) (by omega), QaP (b := d) (by omega), QaP (b := e) (by omega), QaP (b := f) (by omega)]
theorem QfT (n : Int) (h0 : 0 ≤ n) (h1 : n < 281474976710656) : numL (timeL n) = n := by
 unfold timeL
 rw [numL6]
 simp only [QbZ]
 omega
theorem Qgq {t : Tk} {n : Int} {r : List UInt8} (h : numT 6 t = (n, (r, false))) : t = (timeL n ++ r, false) := by
 unfold numT at h
 simp only [Prod.mk.injEq] at h
 obtain ⟨h1, h2⟩ := h
 obtain ⟨e, hx⟩ := Qcs (n := 6) (t := t) (x := (textT 6 t).1) (r := r) (by rw [← h2])
 obtain ⟨a, b, c, d, e', f, hb⟩ := list6 hx
 rw [hb] at h1 e
 rw [← h1, QfD]
 exact e
theorem Qc8 (n : Int) (r : List UInt8) (h0 : 0 ≤ n) (h1 : n < 281474976710656) : numT 6 (timeL n ++ r, false) = (n, (r, false)) := by
 unfold numT
 rw [Qbj (n := 6) (timeL n) r rfl]
 simp only [QfT n h0 h1]
theorem num1 {t : Tk} (h : (numT 1 t).2.2 = false) : t = (byteL (numT 1 t).1 :: (numT 1 t).2.1, false) ∧ 0 ≤ (numT 1 t).1 ∧ (numT 1 t).1 < 256 := Qgr (by rw [← h])
theorem num6 {t : Tk} (h : (numT 6 t).2.2 = false) : t = (timeL (numT 6 t).1 ++ (numT 6 t).2.1, false) := Qgq (by rw [← h])
theorem text1 {n : Nat} {t : Tk} (h : (textT n t).2.2 = false) : t = ((textT n t).1 ++ (textT n t).2.1, false) ∧ (textT n t).1.length = n := Qcs (by rw [← h])
theorem Qp {t : Tk} {x : List UInt8} (h : t = (x, false)) : t.2 = false := by rw [h]
theorem levs {n : Nat} {t : Tk} (h : (iterN levStep n ([], t)).2.2 = false) : t = (levelsL (iterN levStep n ([], t)).1 ++ (iterN levStep n ([], t)).2.1, false) ∧ (iterN levStep n ([], t)).1.length = n := by
 induction n with
 | zero => exact ⟨by simp only [iterN] at h ⊢; rw [← h]; rfl, rfl⟩
 | succ n ih =>
  simp only [iterN] at h ⊢
  generalize iterN levStep n ([], t) = s at h ih ⊢
  obtain ⟨l, t1⟩ := s
  simp only [levStep] at h ⊢
  obtain ⟨e2, _, _⟩ := num1 h
  obtain ⟨e1, _, _⟩ := num1 (Qp e2)
  obtain ⟨e0, hl⟩ := ih (Qp e1)
  simp only at e0 e1 e2 hl
  refine ⟨?_, by simp [hl]⟩
  rw [e0]
  have f1 := congrArg Prod.fst e1
  have f2 := congrArg Prod.fst e2
  simp only at f1 f2
  rw [f1, f2]
  simp [levelsL]
theorem grs {n : Nat} {t : Tk} (h : (iterN grStep n ([], t)).2.2 = false) : t = ((iterN grStep n ([], t)).1.map byteL ++ (iterN grStep n ([], t)).2.1, false) ∧ (iterN grStep n ([], t)).1.length = n := by
 induction n with
 | zero => exact ⟨by simp only [iterN] at h ⊢; rw [← h]; rfl, rfl⟩
 | succ n ih =>
  simp only [iterN] at h ⊢
  generalize iterN grStep n ([], t) = s at h ih ⊢
  obtain ⟨l, t1⟩ := s
  simp only [grStep] at h ⊢
  obtain ⟨e1, _, _⟩ := num1 h
  obtain ⟨e0, hl⟩ := ih (Qp e1)
  simp only at e0 e1 hl
  refine ⟨?_, by simp [hl]⟩
  rw [e0]
  have f1 := congrArg Prod.fst e1
  simp only at f1
  rw [f1]
  simp
theorem crt1 {t : Tk} (h : (crtT t).2.2 = false) : t = (certL (crtT t).1 ++ (crtT t).2.1, false) := by
 simp only [crtT] at h ⊢
 have e4 := num6 h
 obtain ⟨e3, _, _⟩ := num1 (Qp e4)
 obtain ⟨e2, _, _⟩ := num1 (Qp e3)
 obtain ⟨e1, _, _⟩ := num1 (Qp e2)
 have f4 := congrArg Prod.fst e4
 have f3 := congrArg Prod.fst e3
 have f2 := congrArg Prod.fst e2
 have f1 := congrArg Prod.fst e1
 simp only at f1 f2 f3 f4
 rw [Prod.ext_iff]
 refine ⟨?_, Qp e1⟩
 simp only [certL]
 rw [f1, f2, f3]
 simp only [List.cons_append, List.nil_append, ← f4]
theorem crs {n : Nat} {t : Tk} (h : (iterN crStep n ([], t)).2.2 = false) : t = ((iterN crStep n ([], t)).1.flatMap certL ++ (iterN crStep n ([], t)).2.1, false) ∧ (iterN crStep n ([], t)).1.length = n := by
 induction n with
 | zero => exact ⟨by simp only [iterN] at h ⊢; rw [← h]; rfl, rfl⟩
 | succ n ih =>
  simp only [iterN] at h ⊢
  generalize iterN crStep n ([], t) = s at h ih ⊢
  obtain ⟨l, t1⟩ := s
  simp only [crStep] at h ⊢
  have e1 := crt1 h
  obtain ⟨e0, hl⟩ := ih (Qp e1)
  simp only at e0 e1 hl
  refine ⟨?_, by simp [hl]⟩
  rw [e0]
  have f1 := congrArg Prod.fst e1
  simp only at f1
  rw [f1]
  simp
theorem counted {t : Tk} (h : (numT 1 t).2.2 = false) (n : Nat) (hn : n = (numT 1 t).1.toNat) : t = (byteL n :: (numT 1 t).2.1, false) := by
 obtain ⟨e, h0, h1⟩ := num1 h
 subst hn
 rw [show (((numT 1 t).1.toNat : Nat) : Int) = (numT 1 t).1 by omega]
 exact e
theorem lab1 {t : Tk} (h : (labT t).2.2 = false) : t = (byteL (labT t).1.length :: levelsL (labT t).1 ++ (labT t).2.1, false) := by
 unfold labT at h ⊢
 obtain ⟨e, hl⟩ := levs h
 have e1 := counted (Qp e) _ hl
 have f := congrArg Prod.fst e
 simp only at f
 rw [List.cons_append, ← f]
 exact e1
theorem gr1 {t : Tk} (h : (grT t).2.2 = false) : t = (byteL (grT t).1.length :: (grT t).1.map byteL ++ (grT t).2.1, false) := by
 unfold grT at h ⊢
 obtain ⟨e, hl⟩ := grs h
 have e1 := counted (Qp e) _ hl
 have f := congrArg Prod.fst e
 simp only at f
 rw [List.cons_append, ← f]
 exact e1
theorem tx1 {t : Tk} (h : (txT t).2.2 = false) : t = (byteL (txT t).1.length :: (txT t).1 ++ (txT t).2.1, false) := by
 unfold txT at h ⊢
 obtain ⟨e, hl⟩ := text1 h
 have e1 := counted (Qp e) _ hl
 have f := congrArg Prod.fst e
 simp only at f
 rw [List.cons_append, ← f]
 exact e1
theorem certs1 {t : Tk} (h : (certsT t).2.2 = false) : t = (certsL (certsT t).1 ++ (certsT t).2.1, false) := by
 unfold certsT at h ⊢
 obtain ⟨e, hl⟩ := crs h
 have e1 := counted (Qp e) _ hl
 have f := congrArg Prod.fst e
 simp only at f
 simp only [certsL, List.cons_append, List.nil_append]
 rw [← f]
 exact e1
theorem QeS {t t1 t2 t3 t4 : Tk} {n : Int} {l : List (Int × Int)} {g : List Int} {x : List UInt8} (fr : Int) (e1 : t = (byteL n :: t1.1, false)) (e2 : t1 = (byteL l.length :: levelsL l ++ t2.1, false))
 (e3 : t2 = (byteL g.length :: g.map byteL ++ t3.1, false)) (e4 : t3 = (byteL x.length :: x ++ t4.1, false)) : t = (mailL ⟨fr, n, l, g, x⟩ ++ t4.1, false) := by
 subst e4
 subst e3
 subst e2
 subst e1
 simp [mailL]
theorem mail1 {fr : Int} {t : Tk} (h : (mailT fr t).2.2 = false) : t = (mailL (mailT fr t).1 ++ (mailT fr t).2.1, false) := by
 simp only [mailT] at h ⊢
 generalize hA : numT 1 t = A at h ⊢
 generalize hB : labT A.2 = B at h ⊢
 generalize hC : grT B.2 = C at h ⊢
 generalize hD : txT C.2 = D at h ⊢
 have e4 := tx1 (t := C.2) (by rw [hD]; exact h)
 rw [hD] at e4
 have e3 := gr1 (t := B.2) (by rw [hC]; exact Qp e4)
 rw [hC] at e3
 have e2 := lab1 (t := A.2) (by rw [hB]; exact Qp e3)
 rw [hB] at e2
 obtain ⟨e1, _, _⟩ := num1 (t := t) (by rw [hA]; exact Qp e2)
 rw [hA] at e1
 exact QeS fr e1 e2 e3 e4
theorem head1 {t : Tk} (h : (headT t).2.2 = false) : t = ([byteL (headT t).1.1, byteL (headT t).1.2.1, byteL (headT t).1.2.2.1] ++ timeL (headT t).1.2.2.2 ++ (headT t).2.1, false) ∧ 0 ≤ (headT t).1.1 := by
 simp only [headT] at h ⊢
 have e4 := num6 h
 obtain ⟨e3, _, _⟩ := num1 (Qp e4)
 obtain ⟨e2, _, _⟩ := num1 (Qp e3)
 obtain ⟨e1, h0, _⟩ := num1 (Qp e2)
 have f4 := congrArg Prod.fst e4
 have f3 := congrArg Prod.fst e3
 have f2 := congrArg Prod.fst e2
 have f1 := congrArg Prod.fst e1
 simp only at f1 f2 f3 f4
 refine ⟨?_, h0⟩
 rw [Prod.ext_iff]
 refine ⟨?_, Qp e1⟩
 simp only
 rw [f1, f2, f3]
 simp only [List.cons_append, List.nil_append, ← f4]
theorem QeV {t t1 t2 t3 t4 : Tk} {fr to seq n : Int} {m : Mal} {cs : List Crt} (e1 : t = ([byteL 0, byteL fr, byteL to] ++ timeL seq ++ t1.1, false)) (e2 : t1 = (byteL n :: t2.1, false))
 (e3 : t2 = (mailL m ++ t3.1, false)) (e4 : t3 = (certsL cs ++ t4.1, false)) : t = (encL ⟨fr, to, seq, false, n, m, cs⟩ ++ t4.1, false) := by
 subst e4
 subst e3
 subst e2
 subst e1
 simp [encL, headL]
theorem frame1 {t : Tk} (h : (frameT t).2.2 = false) : t = (encL (frameT t).1 ++ (frameT t).2.1, false) := by
 unfold frameT at h ⊢
 by_cases h1 : (headT t).1.1 = 1
 · rw [if_pos h1] at h ⊢
   obtain ⟨e, _⟩ := head1 h
   rw [h1] at e
   simp only [encL, headL, if_true]
   exact e
 · rw [if_neg h1] at h ⊢
   by_cases h0 : (headT t).1.1 = 0
   · rw [if_pos h0] at h ⊢
     simp only [loadT] at h ⊢
     have e4 := certs1 h
     have e3 := mail1 (Qp e4)
     obtain ⟨e2, _, _⟩ := num1 (Qp e3)
     obtain ⟨e1, _⟩ := head1 (Qp e2)
     rw [h0] at e1
     exact QeV e1 e2 e3 e4
   · rw [if_neg h0] at h
     simp at h
def exT (q : List UInt8) (t : Tk) : Tk := (t.1 ++ q, t.2)
def Ex {α : Type} (q : List UInt8) (X : Tk → α × Tk) (t : Tk) : Prop := (X t).2.2 = false → X (exT q t) = ((X t).1, exT q (X t).2)
theorem Qfz (q : List UInt8) (n : Nat) (t : Tk) : Ex q (textT n) t := by
 intro h
 obtain ⟨e, hl⟩ := text1 h
 have e1 : exT q t = ((textT n t).1 ++ ((textT n t).2.1 ++ q), false) := by
  unfold exT
  rw [← List.append_assoc]
  have f := congrArg Prod.fst e
  have g := congrArg Prod.snd e
  simp only at f g
  rw [← f, ← g]
 rw [e1, Qbj _ _ hl]
 unfold exT
 rw [h]
theorem Q7 (q : List UInt8) (n : Nat) (t : Tk) : Ex q (numT n) t := by
 intro h
 have h1 := Qfz q n t h
 unfold numT
 rw [h1]
theorem Q3 {n : Nat} {t : Tk} (h : (numT n t).2.2 = false) : t.2 = false := Qp (text1 (n := n) h).1
theorem Qhe (q : List UInt8) (t : Tk) : Ex q crtT t := by
 intro h
 simp only [crtT] at h ⊢
 have h3 := Q3 h
 have h2 := Q3 h3
 have h1 := Q3 h2
 rw [Q7 q 1 t h1]
 simp only
 rw [Q7 q 1 _ h2]
 simp only
 rw [Q7 q 1 _ h3]
 simp only
 rw [Q7 q 6 _ h]
theorem Qg2 (q : List UInt8) (n : Nat) (t : Tk) : Ex q (fun t => iterN levStep n ([], t)) t := by
 induction n with
 | zero => intro _; rfl
 | succ n ih =>
  intro h
  simp only [iterN] at h ⊢
  simp only [Ex] at ih
  have h2 : (numT 1 (numT 1 (iterN levStep n ([], t)).2).2).2.2 = false := h
  have h1 := Q3 h2
  rw [ih (Q3 h1)]
  generalize iterN levStep n ([], t) = s at h2 h1 ⊢
  simp only [levStep]
  rw [Q7 q 1 _ h1]
  simp only
  rw [Q7 q 1 _ h2]
theorem Qhd (q : List UInt8) (n : Nat) (t : Tk) : Ex q (fun t => iterN grStep n ([], t)) t := by
 induction n with
 | zero => intro _; rfl
 | succ n ih =>
  intro h
  simp only [iterN] at h ⊢
  simp only [Ex] at ih
  have h1 : (numT 1 (iterN grStep n ([], t)).2).2.2 = false := h
  rw [ih (Q3 h1)]
  generalize iterN grStep n ([], t) = s at h1 ⊢
  simp only [grStep]
  rw [Q7 q 1 _ h1]
theorem Qhf (q : List UInt8) (n : Nat) (t : Tk) : Ex q (fun t => iterN crStep n ([], t)) t := by
 induction n with
 | zero => intro _; rfl
 | succ n ih =>
  intro h
  simp only [iterN] at h ⊢
  simp only [Ex] at ih
  have h1 : (crtT (iterN crStep n ([], t)).2).2.2 = false := h
  rw [ih (Qp (crt1 h1))]
  generalize iterN crStep n ([], t) = s at h1 ⊢
  simp only [crStep]
  rw [Qhe q _ h1]
theorem Qhc (q : List UInt8) (t : Tk) : Ex q labT t := by
 intro h
 unfold labT at h ⊢
 rw [Q7 q 1 t (Qp (levs h).1)]
 exact Qg2 q _ _ h
theorem Qhh (q : List UInt8) (t : Tk) : Ex q grT t := by
 intro h
 unfold grT at h ⊢
 rw [Q7 q 1 t (Qp (grs h).1)]
 exact Qhd q _ _ h
theorem Qhg (q : List UInt8) (t : Tk) : Ex q txT t := by
 intro h
 unfold txT at h ⊢
 rw [Q7 q 1 t (Qp (text1 h).1)]
 exact Qfz q _ _ h
theorem QgE (q : List UInt8) (t : Tk) : Ex q certsT t := by
 intro h
 unfold certsT at h ⊢
 rw [Q7 q 1 t (Qp (crs h).1)]
 exact Qhf q _ _ h
theorem Qg1 (q : List UInt8) (fr : Int) (t : Tk) : Ex q (mailT fr) t := by
 intro h
 simp only [mailT] at h ⊢
 have h3 := Qp (tx1 h)
 have h2 := Qp (gr1 h3)
 have h1 := Qp (lab1 h2)
 rw [Q7 q 1 t h1]
 simp only
 rw [Qhc q _ h2]
 simp only
 rw [Qhh q _ h3]
 simp only
 rw [Qhg q _ h]
theorem Qg3 (q : List UInt8) (t : Tk) : Ex q headT t := by
 intro h
 simp only [headT] at h ⊢
 have h3 := Q3 h
 have h2 := Q3 h3
 have h1 := Q3 h2
 rw [Q7 q 1 t h1]
 simp only
 rw [Q7 q 1 _ h2]
 simp only
 rw [Q7 q 1 _ h3]
 simp only
 rw [Q7 q 6 _ h]
theorem QgD (q : List UInt8) (t : Tk) : Ex q frameT t := by
 intro h
 have hh : (headT t).2.2 = false := by
  unfold frameT at h
  split at h
  · exact h
  · split at h
    · simp only [loadT] at h
      exact Q3 (Qp (mail1 (Qp (certs1 h))))
    · simp at h
 have e := Qg3 q t hh
 unfold frameT at h ⊢
 rw [e]
 by_cases h1 : (headT t).1.1 = 1
 · simp only [h1, if_true]
 · simp only [h1, if_false] at h ⊢
   by_cases h0 : (headT t).1.1 = 0
   · simp only [h0, if_true] at h ⊢
     generalize headT t = H at h ⊢
     simp only [loadT] at h ⊢
     have h3 := Qp (certs1 h)
     have h2 := Qp (mail1 h3)
     rw [Q7 q 1 _ h2]
     simp only
     rw [Qg1 q _ _ h3]
     simp only
     rw [QgE q _ h]
   · simp only [h0, if_false] at h
     simp at h
theorem Qa5 {α : Type} (f : α → α) (n : Nat) (s : α) : iterN f (n + 1) s = iterN f n (f s) := by
 induction n with
 | zero => rfl
 | succ n ih =>
  show f (iterN f (n + 1) s) = f (iterN f n (f s))
  rw [ih]
theorem Qgv (l : List (Int × Int)) (hl : ∀ x ∈ l, 0 ≤ x.1 ∧ x.1 < 80 ∧ 0 ≤ x.2 ∧ x.2 ≤ 3) (r : List UInt8) (acc : List (Int × Int)) : iterN levStep l.length (acc, (levelsL l ++ r, false)) = (acc ++ l, (r, false)) := by
 induction l generalizing acc with
 | nil => simp [iterN, levelsL]
 | cons x l ih =>
  obtain ⟨h1, h2, h3, h4⟩ := hl x (by simp)
  rw [List.length_cons, Qa5]
  have e : levStep (acc, (levelsL (x :: l) ++ r, false)) = (acc ++ [x], (levelsL l ++ r, false)) := by
   have e0 : levelsL (x :: l) ++ r = byteL x.1 :: byteL x.2 :: (levelsL l ++ r) := by simp [levelsL]
   unfold levStep
   rw [e0]
   simp only
   rw [QR x.1 _ h1 (by omega)]
   simp only
   rw [QR x.2 _ h3 (by omega)]
  rw [e, ih (fun y hy => hl y (by simp [hy]))]
  simp
theorem QgX (l : List Int) (hl : ∀ x ∈ l, 0 ≤ x ∧ x < 80) (r : List UInt8) (acc : List Int) : iterN grStep l.length (acc, (l.map byteL ++ r, false)) = (acc ++ l, (r, false)) := by
 induction l generalizing acc with
 | nil => simp [iterN]
 | cons x l ih =>
  obtain ⟨h1, h2⟩ := hl x (by simp)
  rw [List.length_cons, Qa5]
  have e : grStep (acc, ((x :: l).map byteL ++ r, false)) = (acc ++ [x], (l.map byteL ++ r, false)) := by
   unfold grStep
   simp only [List.map_cons, List.cons_append]
   rw [QR x _ h1 (by omega)]
  rw [e, ih (fun y hy => hl y (by simp [hy]))]
  simp
theorem QbS (h : Int) : hostB h = true ↔ 0 ≤ h ∧ h < 4 := by unfold hostB; exact decide_eq_true_iff
theorem Qc3 (h : Int) : timeB h = true ↔ 0 ≤ h ∧ h ≤ 1099511627776 := by unfold timeB; exact decide_eq_true_iff
theorem Qcw (h : Int) : catB h = true ↔ 0 ≤ h ∧ h < 80 := by unfold catB; exact decide_eq_true_iff
theorem Qf5 (x : Crt) : certB x = true ↔ (0 ≤ x.c ∧ x.c < 80) ∧ (0 ≤ x.b ∧ x.b < 4) ∧ (0 ≤ x.h ∧ x.h < 4) ∧ x.b ≠ x.h ∧ (0 ≤ x.u ∧ x.u ≤ 1099511627776) := by
 unfold certB twoB
 simp only [Bool.and_eq_true, QbS, Qc3, Qcw, Bool.not_eq_true', beq_eq_false_iff_ne]
 constructor
 · rintro ⟨⟨h1, ⟨h2, h3⟩, h4⟩, h5⟩
   exact ⟨h1, h2, h3, h4, h5⟩
 · rintro ⟨h1, h2, h3, h4, h5⟩
   exact ⟨⟨h1, ⟨h2, h3⟩, h4⟩, h5⟩
theorem Qg5 (l : List Crt) (hl : ∀ x ∈ l, certB x = true) (r : List UInt8) (acc : List Crt) : iterN crStep l.length (acc, (l.flatMap certL ++ r, false)) = (acc ++ l, (r, false)) := by
 induction l generalizing acc with
 | nil => simp [iterN]
 | cons x l ih =>
  obtain ⟨h1, h2, h3, _, h5⟩ := (Qf5 x).1 (hl x (by simp))
  rw [List.length_cons, Qa5]
  have e : crStep (acc, ((x :: l).flatMap certL ++ r, false)) = (acc ++ [x], (l.flatMap certL ++ r, false)) := by
   have e0 : (x :: l).flatMap certL ++ r = byteL x.c :: byteL x.b :: byteL x.h :: (timeL x.u ++ (l.flatMap certL ++ r)) := by simp [certL]
   unfold crStep crtT
   rw [e0]
   simp only
   rw [QR x.c _ h1.1 (by omega)]
   simp only
   rw [QR x.b _ h2.1 (by omega)]
   simp only
   rw [QR x.h _ h3.1 (by omega)]
   simp only
   rw [Qc8 x.u _ h5.1 (by omega)]
  rw [e, ih (fun y hy => hl y (by simp [hy]))]
  simp
theorem Qbg (n : Nat) (r : List UInt8) (h : n < 256) : numT 1 (byteL (n : Int) :: r, false) = ((n : Int), (r, false)) := QR n r (by omega) (by omega)
theorem QgW (l : List (Int × Int)) (hn : l.length < 256) (hl : ∀ x ∈ l, 0 ≤ x.1 ∧ x.1 < 80 ∧ 0 ≤ x.2 ∧ x.2 ≤ 3) (r : List UInt8) : labT (byteL l.length :: (levelsL l ++ r), false) = (l, (r, false)) := by
 unfold labT
 rw [Qbg _ _ hn]
 simp only [Int.toNat_natCast]
 rw [Qgv l hl]
 simp
theorem Qhb (l : List Int) (hn : l.length < 256) (hl : ∀ x ∈ l, 0 ≤ x ∧ x < 80) (r : List UInt8) : grT (byteL l.length :: (l.map byteL ++ r), false) = (l, (r, false)) := by
 unfold grT
 rw [Qbg _ _ hn]
 simp only [Int.toNat_natCast]
 rw [QgX l hl]
 simp
theorem Qha (x : List UInt8) (hn : x.length < 256) (r : List UInt8) : txT (byteL x.length :: (x ++ r), false) = (x, (r, false)) := by
 unfold txT
 rw [Qbg _ _ hn]
 simp only [Int.toNat_natCast]
 rw [Qc5]
theorem Qf4 (l : List Crt) (hn : l.length < 256) (hl : ∀ x ∈ l, certB x = true) (r : List UInt8) : certsT (certsL l ++ r, false) = (l, (r, false)) := by
 unfold certsT certsL
 rw [show [byteL (l.length : Int)] ++ l.flatMap certL ++ r = byteL (l.length : Int) :: (l.flatMap certL ++ r) by simp, Qbg _ _ hn]
 simp only [Int.toNat_natCast]
 rw [Qg5 l hl]
 simp
theorem Qb4 (l : List Int) : grantsB l = true ↔ l.length ≤ 8 ∧ (∀ x ∈ l, 0 ≤ x ∧ x < 80) ∧ l.Pairwise (· < ·) := by unfold grantsB; exact decide_eq_true_iff
theorem QeT {m : Mal} (h : mailE m = 0) : (0 ≤ m.host ∧ m.host < 4) ∧ (0 ≤ m.thread ∧ m.thread < 4) ∧ goodB m.label = true ∧ grantsB m.grants = true ∧ m.text.length ≤ 64 := by
 unfold mailE at h
 split at h
 · rename_i h1
   simp only [Bool.and_eq_true, QbS] at h1
   split at h
   · exact ⟨h1.1.1.1, h1.1.1.2, h1.1.2, h1.2, by assumption⟩
   · simp at h
 · simp at h
theorem Qgt (m : Mal) (h : mailE m = 0) (r : List UInt8) : mailT m.host (mailL m ++ r, false) = (m, (r, false)) := by
 obtain ⟨h1, h2, h3, h4, h5⟩ := QeT h
 obtain ⟨g1, g2, _⟩ := of_decide_eq_true h3
 obtain ⟨k1, k2, _⟩ := (Qb4 _).1 h4
 have e : mailL m ++ r = byteL m.thread :: (byteL m.label.length :: (levelsL m.label ++ (byteL m.grants.length :: (m.grants.map byteL ++ (byteL m.text.length :: (m.text ++ r)))))) := by simp [mailL]
 rw [e]
 unfold mailT
 rw [QR _ _ h2.1 (by omega)]
 simp only
 rw [QgW _ (by omega) (fun x hx => ⟨(g2 x hx).1, (g2 x hx).2.1, (g2 x hx).2.2.1, (g2 x hx).2.2.2.1⟩)]
 simp only
 rw [Qhb _ (by omega) k2]
 simp only
 rw [Qha _ (by omega)]
theorem Qdd (f : Frm) : headB f = true ↔ (0 ≤ f.fr ∧ f.fr < 4) ∧ (0 ≤ f.to ∧ f.to < 4) ∧ f.fr ≠ f.to ∧ f.seq ≠ 0 ∧ (0 ≤ f.seq ∧ f.seq ≤ 1099511627776) ∧ (0 ≤ f.thread ∧ f.thread < 4) := by
 unfold headB twoB
 simp only [Bool.and_eq_true, QbS, Qc3, Bool.not_eq_true', beq_eq_false_iff_ne]
 constructor
 · rintro ⟨⟨⟨⟨⟨h1, h2⟩, h3⟩, h4⟩, h5⟩, h6⟩
   exact ⟨h1, h2, h3, h4, h5, h6⟩
 · rintro ⟨h1, h2, h3, h4, h5, h6⟩
   exact ⟨⟨⟨⟨⟨h1, h2⟩, h3⟩, h4⟩, h5⟩, h6⟩
theorem QdH {f : Frm} (h : answerE f = 0) : f.thread = 0 ∧ f.mail = zeroMal ∧ f.certs = [] := by
 unfold answerE at h
 split at h
 · rename_i h1
   obtain ⟨fr, to, seq, ack, th, ⟨mh, mt, ml, mg, mx⟩, cs⟩ := f
   simp only [emptyB, Bool.and_eq_true, beq_iff_eq, List.isEmpty_iff] at h1
   obtain ⟨⟨rfl, ⟨⟨⟨rfl, rfl⟩, rfl⟩, rfl⟩, rfl⟩, rfl⟩ := h1
   exact ⟨rfl, rfl, rfl⟩
 · simp at h
theorem Qep {l : List Crt} (h : certsE l = 0) : l.length ≤ 24 ∧ ∀ x ∈ l, certB x = true := by
 unfold certsE at h
 split at h
 · split at h
   · rename_i h1 h2
     exact ⟨h1, List.all_eq_true.1 h2⟩
   · simp at h
 · simp at h
theorem QeW {f : Frm} (h : loadE f = 0) : mailE f.mail = 0 ∧ f.mail.host = f.fr ∧ certsE f.certs = 0 := by
 unfold loadE at h
 split at h
 · split at h
   · exact ⟨by assumption, by assumption, h⟩
   · simp at h
 · exact absurd h (by assumption)
theorem QdN (k : Int) (f : Frm) (hk : 0 ≤ k ∧ k < 256) (h : headB f = true) (r : List UInt8) : headT (headL k f ++ r, false) = ((k, f.fr, f.to, f.seq), (r, false)) := by
 obtain ⟨h1, h2, _, _, h5, _⟩ := (Qdd f).1 h
 have e : headL k f ++ r = byteL k :: (byteL f.fr :: (byteL f.to :: (timeL f.seq ++ r))) := by simp [headL]
 rw [e]
 unfold headT
 rw [QR _ _ hk.1 hk.2]
 simp only
 rw [QR _ _ h1.1 (by omega)]
 simp only
 rw [QR _ _ h2.1 (by omega)]
 simp only
 rw [Qc8 _ _ h5.1 (by omega)]
theorem QfZ (f : Frm) (h : frameE f = 0) (r : List UInt8) : frameT (encL f ++ r, false) = (f, (r, false)) := by
 unfold frameE at h
 split at h
 · rename_i hh
   have hb := (Qdd f).1 hh
   cases ha : f.ack with
   | true =>
    rw [ha, if_pos rfl] at h
    obtain ⟨h1, h2, h3⟩ := QdH h
    unfold encL
    rw [ha, if_pos rfl]
    unfold frameT
    rw [QdN 1 f (by omega) hh]
    simp only [if_true]
    rw [← h1, ← h2, ← h3, ← ha]
   | false =>
    rw [ha, if_neg (by simp)] at h
    obtain ⟨h1, h2, h3⟩ := QeW h
    obtain ⟨k1, k2⟩ := Qep h3
    unfold encL
    rw [ha, if_neg (by simp), List.append_assoc, List.append_assoc, List.append_assoc]
    unfold frameT
    rw [QdN 0 f (by omega) hh]
    simp only [show ((0 : Int) = 1) = False by simp, if_false, if_true]
    unfold loadT
    simp only [List.cons_append, List.nil_append]
    rw [QR _ _ hb.2.2.2.2.2.1 (by omega)]
    simp only
    rw [← h2, Qgt f.mail h1]
    simp only
    rw [Qf4 f.certs (by omega) k2]
    rw [h2, ← ha]
 · simp at h
theorem only {s : List UInt8} (h : (decL s).2 = 0) : encL (decL s).1 = s ∧ frameE (decL s).1 = 0 := by
 unfold decL at h ⊢
 by_cases hd : doneB (frameT (s, false)).2 = true
 · rw [if_pos hd] at h ⊢
   by_cases he : frameE (frameT (s, false)).1 = 0
   · rw [if_pos he]
     refine ⟨?_, he⟩
     simp only [doneB, Bool.and_eq_true, Bool.not_eq_true', List.isEmpty_iff] at hd
     have e := congrArg Prod.fst (frame1 hd.1)
     simp only [hd.2, List.append_nil] at e
     exact e.symm
   · rw [if_neg he] at h
     exact absurd h he
 · rw [if_neg hd] at h
   simp at h
theorem cut (f : Frm) (h : frameE f = 0) (n : Nat) (hn : n < (encL f).length) : (decL ((encL f).take n)).2 = 1 := by
 unfold decL
 by_cases hd : doneB (frameT ((encL f).take n, false)).2 = true
 · exfalso
   simp only [doneB, Bool.and_eq_true, Bool.not_eq_true', List.isEmpty_iff] at hd
   have e := QgD ((encL f).drop n) ((encL f).take n, false) hd.1
   have e2 := QfZ f h []
   rw [List.append_nil] at e2
   unfold exT at e
   simp only [List.take_append_drop, hd.2, List.nil_append] at e
   rw [e2] at e
   have e3 := congrArg (fun p => p.2.1) e
   simp only at e3
   have : ((encL f).drop n).length = 0 := by rw [← e3]; rfl
   rw [List.length_drop] at this
   omega
 · rw [if_neg hd]
def frontL (l : List (Int × Int)) (c : Int) : List (Int × Int) := l.filter fun x => decide (x.1 < c)
def behindL (l : List (Int × Int)) (c : Int) : List (Int × Int) := l.filter fun x => decide (c < x.1)
def newL (c n : Int) : List (Int × Int) := if n = 1 then [] else [(c, n)]
def setL (l : List (Int × Int)) (c n : Int) : List (Int × Int) := frontL l c ++ newL c n ++ behindL l c
theorem QeA {l : List (Int × Int)} {c : Int} {i : Nat} (h1 : ∀ m (_ : m < i) (hm : m < l.length), l[m].1 < c) (h2 : ∀ m (_ : i ≤ m) (hm : m < l.length), c ≤ l[m].1) : l.take i = frontL l c := by
 unfold frontL
 conv => rhs; rw [← List.take_append_drop i l]
 rw [List.filter_append, List.filter_eq_self.2, List.filter_eq_nil_iff.2]
 · simp
 · intro x hx
   obtain ⟨m, hm, e⟩ := List.mem_iff_getElem.1 hx
   rw [List.getElem_drop] at e
   have := h2 (i + m) (by omega) (by simp at hm; omega)
   subst e
   simpa using this
 · intro x hx
   obtain ⟨m, hm, e⟩ := List.mem_iff_getElem.1 hx
   rw [List.getElem_take] at e
   have := h1 m (by simp at hm; omega) (by simp at hm; omega)
   subst e
   simpa using this
theorem Qb8 {l : List (Int × Int)} {c : Int} {k : Nat} (h1 : ∀ m (_ : m < k) (hm : m < l.length), l[m].1 ≤ c) (h2 : ∀ m (_ : k ≤ m) (hm : m < l.length), c < l[m].1) : l.drop k = behindL l c := by
 unfold behindL
 conv => rhs; rw [← List.take_append_drop k l]
 rw [List.filter_append, List.filter_eq_nil_iff.2, List.filter_eq_self.2]
 · simp
 · intro x hx
   obtain ⟨m, hm, e⟩ := List.mem_iff_getElem.1 hx
   rw [List.getElem_drop] at e
   have := h2 (k + m) (by omega) (by simp at hm; omega)
   subst e
   simpa using this
 · intro x hx
   obtain ⟨m, hm, e⟩ := List.mem_iff_getElem.1 hx
   rw [List.getElem_take] at e
   have := h1 m (by simp at hm; omega) (by simp at hm; omega)
   subst e
   simpa using this
structure Spot (l : List (Int × Int)) (c : Int) (i : Nat) (f : Bool) : Prop where
 le : i ≤ l.length
 low : ∀ m (_ : m < i) (hm : m < l.length), l[m].1 < c
 high : ∀ m (_ : i ≤ m) (hm : m < l.length), c ≤ l[m].1
 yes : f = true → ∃ h : i < l.length, l[i].1 = c
 no : f = false → ∀ h : i < l.length, l[i].1 ≠ c
theorem Spot.front {l : List (Int × Int)} {c : Int} {i : Nat} {f : Bool} (s : Spot l c i f) : l.take i = frontL l c := QeA s.low s.high
theorem Spot.behind_yes {l : List (Int × Int)} {c : Int} {i : Nat} (s : Spot l c i true) (hr : l.Pairwise fun x y => x.1 < y.1) : l.drop (i + 1) = behindL l c := by
 obtain ⟨hi, e⟩ := s.yes rfl
 refine Qb8 (fun m h hm => ?_) (fun m h hm => ?_)
 · by_cases hmi : m = i
   · subst hmi; omega
   · have := s.low m (by omega) hm; omega
 · have := (List.pairwise_iff_getElem.1 hr) i m hi hm (by omega)
   omega
theorem Spot.behind_no {l : List (Int × Int)} {c : Int} {i : Nat} (s : Spot l c i false) (hr : l.Pairwise fun x y => x.1 < y.1) : l.drop i = behindL l c := by
 refine Qb8 (fun m h hm => ?_) (fun m h hm => ?_)
 · have := s.low m h hm; omega
 · by_cases hmi : m = i
   · subst hmi
     have h1 := s.high m (Nat.le_refl _) hm
     have h2 := s.no rfl hm
     omega
   · have h1 := s.high i (Nat.le_refl _) (by omega)
     have := (List.pairwise_iff_getElem.1 hr) i m (by omega) hm (by omega)
     omega
theorem QcJ (x y : List (Int × Int)) (d : Int) : atL (x ++ y) d = if d ∈ x.map (·.1) then atL x d else atL y d := by
 induction x with
 | nil => simp
 | cons t r ih =>
  simp only [List.cons_append, atL, List.map_cons, List.mem_cons]
  by_cases h : t.1 = d
  · simp [h]
  · simp only [h, if_false, Ne.symm h, false_or]
    exact ih
theorem QcI (p : Int → Bool) (l : List (Int × Int)) (d : Int) : atL (l.filter fun x => p x.1) d = if p d then atL l d else 1 := by
 induction l with
 | nil => simp [atL]
 | cons t r ih =>
  by_cases h : p t.1
  · simp only [List.filter_cons, h, if_true, atL]
    by_cases e : t.1 = d
    · subst e; simp [h]
    · simp only [e, if_false]; exact ih
  · have h' : p t.1 = false := by simpa using h
    simp only [List.filter_cons, h', Bool.false_eq_true, if_false, atL]
    rw [ih]
    by_cases e : t.1 = d
    · subst e; simp [h']
    · simp [e]
theorem Qe1 {l : List (Int × Int)} {c d : Int} (h : d ∈ (frontL l c).map (·.1)) : d < c := by
 obtain ⟨x, hx, e⟩ := List.mem_map.1 h
 have := (List.mem_filter.1 hx).2
 simp at this
 omega
theorem Qdk (l : List (Int × Int)) (c d : Int) : atL (frontL l c) d = if d < c then atL l d else 1 := by
 have := QcI (fun x => decide (x < c)) l d
 simpa [frontL] using this
theorem Qfk (l : List (Int × Int)) (c d : Int) : atL (behindL l c) d = if c < d then atL l d else 1 := by
 have := QcI (fun x => decide (c < x)) l d
 simpa [behindL] using this
theorem QfB (c n d : Int) : atL (newL c n) d = if d = c then n else 1 := by
 unfold newL
 by_cases h : n = 1
 · simp [h, atL]
 · simp only [h, if_false, atL]
   by_cases e : d = c
   · simp [e]
   · simp [e, Ne.symm e]
theorem QdR (l : List (Int × Int)) (c n d : Int) : atL (setL l c n) d = if d = c then n else atL l d := by
 unfold setL
 rw [List.append_assoc, QcJ, QcJ]
 by_cases h1 : d ∈ (frontL l c).map (·.1)
 · have := Qe1 h1
   rw [if_pos h1, Qdk, if_pos this, if_neg (by omega)]
 · rw [if_neg h1]
   have e1 : atL (frontL l c) d = 1 := Qam h1
   rw [Qdk] at e1
   by_cases h2 : d ∈ (newL c n).map (·.1)
   · rw [if_pos h2, QfB]
     have : d = c := by
      unfold newL at h2
      by_cases hn : n = 1
      · simp [hn] at h2
      · simpa [hn] using h2
     simp [this]
   · rw [if_neg h2]
     have e2 : atL (newL c n) d = 1 := Qam h2
     rw [QfB] at e2
     rw [Qfk]
     by_cases g1 : c < d
     · rw [if_pos g1, if_neg (by omega)]
     · rw [if_neg g1]
       by_cases g2 : d = c
       · rw [if_pos g2]; rw [if_pos g2] at e2; exact e2.symm
       · rw [if_neg g2]
         rw [if_pos (by omega)] at e1
         exact e1.symm
theorem QcB {l : List (Int × Int)} (hr : l.Pairwise fun x y => x.1 < y.1) (c n : Int) : (setL l c n).Pairwise fun x y => x.1 < y.1 := by
 unfold setL
 have hf : ∀ x ∈ frontL l c, x.1 < c := fun x hx => by have := (List.mem_filter.1 hx).2; simpa using this
 have hb : ∀ x ∈ behindL l c, c < x.1 := fun x hx => by have := (List.mem_filter.1 hx).2; simpa using this
 have hn : ∀ x ∈ newL c n, x.1 = c := fun x hx => by
  unfold newL at hx
  by_cases h : n = 1
  · simp [h] at hx
  · simp only [h, if_false, List.mem_singleton] at hx; rw [hx]
 refine List.pairwise_append.2 ⟨List.pairwise_append.2 ⟨hr.filter _, ?_, ?_⟩, hr.filter _, ?_⟩
 · unfold newL; split <;> simp
 · intro x hx y hy; have := hf x hx; have := hn y hy; omega
 · intro x hx y hy
   have := hb y hy
   rcases List.mem_append.1 hx with hx | hx
   · have := hf x hx; omega
   · have := hn x hx; omega
theorem QcG {l : List (Int × Int)} (h : canonL l) (c n : Int) : canonL (setL l c n) := by
 refine ⟨fun x hx => ?_, QcB h.2 c n⟩
 unfold setL at hx
 rcases List.mem_append.1 hx with hx | hx
 · rcases List.mem_append.1 hx with hx | hx
   · exact h.1 x (List.mem_filter.1 hx).1
   · unfold newL at hx
     by_cases e : n = 1
     · simp [e] at hx
     · simp only [e, if_false, List.mem_singleton] at hx; rw [hx]; exact e
 · exact h.1 x (List.mem_filter.1 hx).1
theorem Qdf {l : List (Int × Int)} (h : goodL l) {c n : Int} (hc : catB c = true) (hn : bndB n = true) (h8 : (setL l c n).length ≤ 8) : goodL (setL l c n) := by
 have hc' : 0 ≤ c ∧ c < 80 := of_decide_eq_true hc
 have hn' : 0 ≤ n ∧ n ≤ 3 := of_decide_eq_true hn
 refine ⟨h8, fun x hx => ?_, QcB h.2.2 c n⟩
 unfold setL at hx
 rcases List.mem_append.1 hx with hx | hx
 · rcases List.mem_append.1 hx with hx | hx
   · exact h.2.1 x (List.mem_filter.1 hx).1
   · unfold newL at hx
     by_cases e : n = 1
     · simp [e] at hx
     · simp only [e, if_false, List.mem_singleton] at hx; rw [hx]; exact ⟨hc'.1, hc'.2, hn'.1, hn'.2, e⟩
 · exact h.2.1 x (List.mem_filter.1 hx).1
theorem QcW (l : List (Int × Int)) (c : Int) : (frontL l c).length ≤ l.length := List.length_filter_le _ _
theorem QcS (l : List (Int × Int)) (c : Int) : (behindL l c).length ≤ l.length := List.length_filter_le _ _
theorem Qd3 (c n : Int) : (newL c n).length ≤ 1 := by unfold newL; split <;> simp
def setB (l : List (Int × Int)) (c n : Int) : Bool := goodB l && catB c && bndB n
def setE (l : List (Int × Int)) (c n : Int) : Int := if setB l c n = false then 2 else if 8 < (setL l c n).length then 5 else 0
structure Obt where
 label : List (Int × Int)
 text : List UInt8
structure Thr where
 label : List (Int × Int)
 own : List Int
 text : List UInt8
 objs : List Obt
 mails : List Mal
structure Ker where
 host : Int
 made : Int
 ths : List Thr
structure Cal where
 kind : Int
 h : Int
 t : Int
 n : Int
 c : Int
 label : List (Int × Int)
 grants : List Int
 text : List UInt8
structure Rep where
 code : Int
 n : Int
 text : List UInt8
def zeroThr : Thr := ⟨[], [], [], [], []⟩
def freshKer (h : Int) : Ker := ⟨h, 0, [zeroThr, zeroThr, zeroThr, zeroThr]⟩
def code (e : Int) : Rep := ⟨e, 0, []⟩
def lastL (x : List UInt8) : List UInt8 := x.drop (x.length - 64)
theorem QaR (x : List UInt8) : (lastL x).length ≤ 64 := by unfold lastL; rw [List.length_drop]; omega
theorem Qav {x : List UInt8} (h : x.length ≤ 64) : lastL x = x := by unfold lastL; rw [show x.length - 64 = 0 by omega]; rfl
def insL (l : List Int) (c : Int) : List Int := l.take (l.countP (· < c)) ++ c :: l.drop (l.countP (· < c))
def ownL (l : List Int) (c : Int) : Int × List Int := if l.contains c then (0, l) else if 8 ≤ l.length then (5, l) else (0, insL l c)
def mayL (th : Thr) (m : Mal) : Int := if mailE m = 0 then (if m.grants.all (th.own.contains ·) then (if flowsL th.label m.label th.own then 0 else 6) else 7) else mailE m
def getT (K : Ker) (t : Int) : Option Thr := if 0 ≤ t then K.ths[t.toNat]? else none
def setT (K : Ker) (t : Int) (th : Thr) : Ker := { K with ths := K.ths.set t.toNat th }
def letterM (K : Ker) (t : Int) (c : Cal) (th : Thr) : Mal := ⟨K.host, t, c.label, c.grants, lastL (th.text ++ c.text)⟩
def letterL (K : Ker) (t : Int) (c : Cal) : Mal × Int :=
 match getT K t with
 | none => (zeroMal, 4)
 | some th => if mayL th (letterM K t c th) = 0 then (letterM K t c th, 0) else (zeroMal, mayL th (letterM K t c th))
def boxL (th : Thr) (m : Mal) : Thr := if mailE m = 0 ∧ flowsL m.label th.label th.own = true ∧ th.mails.length < 6 then { th with mails := th.mails ++ [m] } else th
def deliverL (K : Ker) (t : Int) (m : Mal) : Ker :=
 match getT K t with
 | none => K
 | some th => setT K t (boxL th m)
def grantL : List Int → List Int → List Int
 | [], o => o
 | c :: r, o => if (ownL o c).1 = 0 then grantL r (ownL o c).2 else o
def readL (th : Thr) (m : Mal) : Thr := { th with text := lastL (th.text ++ m.text), own := grantL m.grants th.own }
def takeL (th : Thr) : List Mal → Thr × Rep
 | [] => ({ th with mails := [] }, code 4)
 | m :: r => if flowsL m.label th.label th.own then ({ readL th m with mails := r }, ⟨0, m.host * 4 + m.thread, []⟩) else takeL th r
def objectL (th : Thr) (l : List (Int × Int)) : Thr × Rep :=
 if goodB l then (if flowsL th.label l th.own then (if 4 ≤ th.objs.length then (th, code 5) else ({ th with objs := th.objs ++ [⟨l, []⟩] }, ⟨0, (th.objs.length : Int), []⟩)) else (th, code 6)) else (th, code 2)
def levelL (th : Thr) (c n : Int) : Thr × Int :=
 if setE th.label c n = 0 then (if flowsL th.label (setL th.label c n) th.own then ({ th with label := setL th.label c n }, 0) else (th, 6)) else (th, setE th.label c n)
def objAt (K : Ker) (t n : Int) : Option Obt :=
 match getT K t with
 | none => none
 | some th => if 0 ≤ n then th.objs[n.toNat]? else none
def putO (th : Thr) (n : Int) (x : List UInt8) : Thr := { th with objs := th.objs.modify n.toNat fun o => { o with text := x } }
def putL (K : Ker) (th : Thr) (c : Cal) : Ker :=
 match getT K c.t, objAt K c.t c.n with
 | some u, some o => if flowsL th.label o.label th.own then setT K c.t (putO u c.n (lastL (th.text ++ c.text))) else K
 | _, _ => K
def getL (K : Ker) (t : Int) (th : Thr) (c : Cal) : Ker × Rep :=
 match objAt K c.t c.n with
 | none => (K, code 4)
 | some o => if flowsL o.label th.label th.own then (setT K t { th with text := lastL (th.text ++ o.text) }, ⟨0, (o.text.length : Int), []⟩) else (K, code 4)
def categoryL (K : Ker) (t : Int) (th : Thr) : Ker × Rep :=
 if 20 ≤ K.made then (K, code 5)
 else if (ownL th.own (K.host * 20 + K.made)).1 = 0 then ({ setT K t { th with own := (ownL th.own (K.host * 20 + K.made)).2 } with made := K.made + 1 }, ⟨0, K.host * 20 + K.made, []⟩)
 else (K, code (ownL th.own (K.host * 20 + K.made)).1)
def callT (K : Ker) (t : Int) (th : Thr) (c : Cal) : Ker × Rep :=
 if 64 < c.text.length then (K, code 9)
 else if c.kind = 1 then categoryL K t th
 else if c.kind = 2 then (setT K t (objectL th c.label).1, (objectL th c.label).2)
 else if c.kind = 3 then (putL K th c, code 0)
 else if c.kind = 4 then getL K t th c
 else if c.kind = 5 then (setT K t (levelL th c.c c.n).1, code (levelL th c.c c.n).2)
 else if c.kind = 7 then (setT K t (takeL th th.mails).1, (takeL th th.mails).2)
 else if c.kind = 9 then (setT K t { th with text := lastL c.text }, code 0)
 else if c.kind = 10 then (K, ⟨0, 0, th.text⟩)
 else (K, code 3)
def callL (K : Ker) (t : Int) (c : Cal) : Ker × Rep :=
 match getT K t with
 | none => (K, code 4)
 | some th => callT K t th c
theorem Qb9 {l : List Int} (hs : l.Pairwise (· < ·)) (c : Int) : (∀ x ∈ l.take (l.countP (· < c)), x < c) ∧ ∀ x ∈ l.drop (l.countP (· < c)), c ≤ x := by
 induction l with
 | nil => simp
 | cons a r ih =>
  have hr := (List.pairwise_cons.1 hs).2
  have ha := (List.pairwise_cons.1 hs).1
  by_cases h : a < c
  · rw [List.countP_cons_of_pos (by simpa using h), List.take_succ_cons, List.drop_succ_cons]
    obtain ⟨h1, h2⟩ := ih hr
    refine ⟨fun x hx => ?_, h2⟩
    rcases List.mem_cons.1 hx with rfl | hx
    · exact h
    · exact h1 x hx
  · have hz : r.countP (· < c) = 0 := by
     rw [List.countP_eq_zero]
     intro x hx
     have := ha x hx
     simp
     omega
    rw [List.countP_cons_of_neg (by simpa using h), hz]
    refine ⟨fun x hx => by simp at hx, fun x hx => ?_⟩
    rcases List.mem_cons.1 hx with rfl | hx
    · omega
    · have := ha x hx; omega
theorem Qec {l : List Int} (hs : l.Pairwise (· < ·)) {c : Int} (hc : l.contains c = false) : (insL l c).Pairwise (· < ·) := by
 obtain ⟨h1, h2⟩ := Qb9 hs c
 have hn : ∀ x ∈ l, x ≠ c := fun x hx e => by
  subst e
  have : l.contains x = true := by simpa using hx
  rw [hc] at this
  cases this
 unfold insL
 rw [List.pairwise_append]
 refine ⟨hs.sublist (List.take_sublist _ _), List.pairwise_cons.2 ⟨fun x hx => ?_, hs.sublist (List.drop_sublist _ _)⟩, fun x hx y hy => ?_⟩
 · have a := h2 x hx
   have b := hn x (List.mem_of_mem_drop hx)
   omega
 · rcases List.mem_cons.1 hy with rfl | hy
   · exact h1 x hx
   · have a := h1 x hx
     have b := h2 y hy
     omega
theorem Qgx (l : List Int) (c : Int) : (insL l c).length = l.length + 1 := by
 have : l.countP (· < c) ≤ l.length := List.countP_le_length
 unfold insL
 simp
 omega
theorem QaH {l : List Int} (hs : l.Pairwise (· < ·)) (c : Int) : (ownL l c).2.Pairwise (· < ·) := by
 unfold ownL
 split
 · exact hs
 · split
   · exact hs
   · exact Qec hs (by rename_i h _; simpa using h)
theorem Qbw {l : List Int} (h : l.length ≤ 8) (c : Int) : (ownL l c).2.length ≤ 8 := by
 unfold ownL
 split
 · exact h
 · split
   · exact h
   · show (insL l c).length ≤ 8
     rw [Qgx]
     omega
theorem QfR {l : List Int} {c : Int} (h : (ownL l c).1 ≠ 0) : (ownL l c).2 = l := by
 unfold ownL at h ⊢
 split
 · rfl
 · rename_i h1
   rw [if_neg h1] at h
   split
   · rfl
   · rename_i h2
     rw [if_neg h2] at h
     exact absurd rfl h
theorem Qak (c : Int) (r o : List Int) : grantL (c :: r) o = if (ownL o c).1 = 0 then grantL r (ownL o c).2 else o := rfl
structure GoodT (th : Thr) : Prop where
 sorted : th.own.Pairwise (· < ·)
 own : th.own.length ≤ 8
 text : th.text.length ≤ 64
 objs : th.objs.length ≤ 4
 obj : ∀ o ∈ th.objs, o.text.length ≤ 64 ∧ goodL o.label
 mails : th.mails.length ≤ 6
 mail : ∀ m ∈ th.mails, mailE m = 0
 label : goodL th.label
structure GoodK (K : Ker) : Prop where
 four : K.ths.length = 4
 host : 0 ≤ K.host ∧ K.host < 4
 made : 0 ≤ K.made ∧ K.made ≤ 20
 ths : ∀ th ∈ K.ths, GoodT th
theorem QfX : goodL [] := ⟨by simp, by simp, by simp⟩
theorem QfC : GoodT zeroThr := ⟨by simp [zeroThr], by simp [zeroThr], by simp [zeroThr], by simp [zeroThr], by simp [zeroThr], by simp [zeroThr], by simp [zeroThr], QfX⟩
theorem Qe6 {h : Int} (h0 : 0 ≤ h ∧ h < 4) : GoodK (freshKer h) := ⟨rfl, h0, ⟨by simp [freshKer], by simp [freshKer]⟩, fun th hth => by
 simp [freshKer] at hth
 rw [hth]
 exact QfC⟩
theorem QeQ {α : Type} {l : List α} {i : Nat} {a x : α} (h : x ∈ l.set i a) : x = a ∨ x ∈ l := by
 rcases List.mem_or_eq_of_mem_set h with h | h
 · exact Or.inr h
 · exact Or.inl h
theorem GoodK.set {K : Ker} (h : GoodK K) (i : Nat) {th : Thr} (ht : GoodT th) : GoodK { K with ths := K.ths.set i th } :=
 ⟨by simpa using h.four, h.host, h.made, fun x hx => (QeQ hx).elim (fun e => by rw [e]; exact ht) (h.ths x)⟩
theorem Q5 {K : Ker} {t : Int} {th : Thr} (h : getT K t = some th) : ∃ n : Nat, t = n ∧ ∃ hn : n < K.ths.length, K.ths[n] = th := by
 unfold getT at h
 split at h
 · rename_i h0
   obtain ⟨hn, e⟩ := List.getElem?_eq_some_iff.1 h
   exact ⟨t.toNat, by omega, hn, e⟩
 · cases h
theorem QaB {K : Ker} (h4 : K.ths.length = 4) {t : Int} (h : getT K t = none) : ¬ (0 ≤ t ∧ t < 4) := by
 rintro ⟨h0, h1⟩
 unfold getT at h
 rw [if_pos h0, List.getElem?_eq_none_iff] at h
 omega
theorem Qa4 {K : Ker} {n : Nat} (hn : n < K.ths.length) : getT K (n : Int) = some K.ths[n] := by
 unfold getT
 rw [if_pos (by omega), Int.toNat_natCast]
 exact List.getElem?_eq_getElem hn
theorem QC (K : Ker) (n : Nat) (th : Thr) : setT K (n : Int) th = { K with ths := K.ths.set n th } := by
 unfold setT
 rw [Int.toNat_natCast]
theorem QcV (l : List Int) {o : List Int} (hs : o.Pairwise (· < ·)) : (grantL l o).Pairwise (· < ·) := by
 induction l generalizing o with
 | nil => exact hs
 | cons c r ih =>
  rw [Qak]
  split
  · exact ih (QaH hs c)
  · exact hs
theorem Qe4 (l : List Int) {o : List Int} (hl : o.length ≤ 8) : (grantL l o).length ≤ 8 := by
 induction l generalizing o with
 | nil => exact hl
 | cons c r ih =>
  rw [Qak]
  split
  · exact ih (Qbw hl c)
  · exact hl
theorem QeC (ms : List Mal) {th : Thr} (h : GoodT th) (hl : ms.length ≤ 6) (hm : ∀ m ∈ ms, mailE m = 0) : GoodT (takeL th ms).1 := by
 induction ms with
 | nil => exact ⟨h.sorted, h.own, h.text, h.objs, h.obj, by simp [takeL], by simp [takeL], h.label⟩
 | cons m r ih =>
  unfold takeL
  split
  · exact ⟨QcV _ h.sorted, Qe4 _ h.own, QaR _, h.objs, h.obj, by simp at hl; show r.length ≤ 6; omega, fun x hx => hm x (List.mem_cons_of_mem _ hx), h.label⟩
  · exact ih (by simp at hl; omega) (fun x hx => hm x (List.mem_cons_of_mem _ hx))
theorem QdC {th : Thr} (h : GoodT th) (l : List (Int × Int)) : GoodT (objectL th l).1 := by
 unfold objectL
 split
 · rename_i hg
   split
   · split
     · exact h
     · rename_i hn
       refine ⟨h.sorted, h.own, h.text, by simp; omega, fun o ho => ?_, h.mails, h.mail, h.label⟩
       rcases List.mem_append.1 ho with ho | ho
       · exact h.obj o ho
       · rw [List.mem_singleton.1 ho]
         exact ⟨by simp, (Qx l).1 hg⟩
   · exact h
 · exact h
theorem Qd6 {th : Thr} (h : GoodT th) (c n : Int) : GoodT (levelL th c n).1 := by
 unfold levelL
 split
 · rename_i he
   split
   · refine ⟨h.sorted, h.own, h.text, h.objs, h.obj, h.mails, h.mail, ?_⟩
     show goodL (setL th.label c n)
     unfold setE at he
     split at he
     · cases he
     · rename_i hb
       split at he
       · cases he
       · rename_i h8
         have hb2 : setB th.label c n = true := by simpa using hb
         unfold setB at hb2
         simp only [Bool.and_eq_true] at hb2
         exact Qdf h.label hb2.1.2 hb2.2 (by omega)
   · exact h
 · exact h
theorem QfO {th : Thr} (h : GoodT th) (n : Int) {x : List UInt8} (hx : x.length ≤ 64) : GoodT (putO th n x) := by
 refine ⟨h.sorted, h.own, h.text, by simpa [putO] using h.objs, fun o ho => ?_, h.mails, h.mail, h.label⟩
 unfold putO at ho
 simp only at ho
 obtain ⟨i, hi, e⟩ := List.mem_iff_getElem.1 ho
 rw [List.getElem_modify] at e
 have hi2 : i < th.objs.length := by simpa using hi
 have hold := h.obj th.objs[i] (List.getElem_mem hi2)
 split at e
 · rw [← e]; exact ⟨hx, hold.2⟩
 · rw [← e]; exact hold
theorem Qf7 {th : Thr} (h : GoodT th) (m : Mal) : GoodT (boxL th m) := by
 unfold boxL
 split
 · rename_i g
   refine ⟨h.sorted, h.own, h.text, h.objs, h.obj, by simp; omega, fun x hx => ?_, h.label⟩
   rcases List.mem_append.1 hx with hx | hx
   · exact h.mail x hx
   · rw [List.mem_singleton.1 hx]; exact g.1
 · exact h
theorem Qc4 {th : Thr} (h : GoodT th) (x : List UInt8) : GoodT { th with text := lastL x } := ⟨h.sorted, h.own, QaR _, h.objs, h.obj, h.mails, h.mail, h.label⟩
theorem QfP {K : Ker} (h : GoodK K) (th : Thr) (c : Cal) : GoodK (putL K th c) := by
 unfold putL
 split
 · rename_i u o hu _
   split
   · obtain ⟨n, _, hn, rfl⟩ := Q5 hu
     exact h.set _ (QfO (h.ths _ (List.getElem_mem hn)) _ (QaR _))
   · exact h
 · exact h
theorem QfY {K : Ker} (h : GoodK K) (t : Int) {th : Thr} (ht : GoodT th) (c : Cal) : GoodK (getL K t th c).1 := by
 unfold getL
 split
 · exact h
 · split
   · exact h.set _ (Qc4 ht _)
   · exact h
theorem QcQ {K : Ker} (h : GoodK K) (t : Int) {th : Thr} (ht : GoodT th) : GoodK (categoryL K t th).1 := by
 unfold categoryL
 split
 · exact h
 · rename_i hm
   split
   · have hk := h.set t.toNat (th := { th with own := (ownL th.own (K.host * 20 + K.made)).2 }) ⟨QaH ht.sorted _, Qbw ht.own _, ht.text, ht.objs, ht.obj, ht.mails, ht.mail, ht.label⟩
     have := h.made
     exact ⟨hk.four, hk.host, ⟨by show 0 ≤ K.made + 1; omega, by show K.made + 1 ≤ 20; omega⟩, hk.ths⟩
   · exact h
theorem Qfg {K : Ker} (h : GoodK K) (t : Int) {th : Thr} (ht : GoodT th) (c : Cal) : GoodK (callT K t th c).1 := by
 unfold callT
 split
 · exact h
 · split
   · exact QcQ h t ht
   · split
     · exact h.set _ (QdC ht _)
     · split
       · exact QfP h th c
       · split
         · exact QfY h t ht c
         · split
           · exact h.set _ (Qd6 ht _ _)
           · split
             · exact h.set _ (QeC _ ht ht.mails ht.mail)
             · split
               · exact h.set _ (Qc4 ht _)
               · split
                 · exact h
                 · exact h
theorem Qfh {K : Ker} (h : GoodK K) (t : Int) (c : Cal) : GoodK (callL K t c).1 := by
 unfold callL
 split
 · exact h
 · rename_i th hth
   obtain ⟨n, _, hn, rfl⟩ := Q5 hth
   exact Qfg h t (h.ths _ (List.getElem_mem hn)) c
theorem QcZ {K : Ker} (h : GoodK K) (t : Int) (m : Mal) : GoodK (deliverL K t m) := by
 unfold deliverL
 split
 · exact h
 · rename_i th hth
   obtain ⟨n, _, hn, rfl⟩ := Q5 hth
   exact h.set _ (Qf7 (h.ths _ (List.getElem_mem hn)) m)
structure Made (lev : Int → Option Int) (come : Int → Bool) (out : List (Int × Int)) : Prop where
 canon : canonL out
 at_ : ∀ c, atL out c = if come c then (lev c).getD 1 else 1
theorem QeU (lev : Int → Option Int) (come : Int → Bool) (h : ∀ c, come c = true → lev c = none) : Made lev come [] :=
 ⟨⟨fun x hx => (by cases hx), List.Pairwise.nil⟩, fun c => by
  by_cases hc : come c = true
  · rw [if_pos hc, h c hc]; rfl
  · rw [if_neg hc]; rfl⟩
theorem Made.plain {lev : Int → Option Int} {come come' : Int → Bool} {out : List (Int × Int)} (h : Made lev come out) {x : Int} (hl : lev x = some 1) (hx : come x = false) (hc : ∀ c, come' c = (come c || decide (c = x))) : Made lev come' out :=
 ⟨h.canon, fun c => by
  rw [h.at_ c, hc c]
  by_cases e : c = x
  · subst e; simp [hx, hl]
  · simp [e]⟩
theorem Made.put {lev : Int → Option Int} {come come' : Int → Bool} {out : List (Int × Int)} (h : Made lev come out) {x n : Int} (hl : lev x = some n) (hc : ∀ c, come' c = (come c || decide (c = x))) : Made lev come' (setL out x n) :=
 ⟨QcG h.canon x n, fun c => by
  rw [QdR, h.at_ c, hc c]
  by_cases e : c = x
  · subst e; simp [hl]
  · simp [e]⟩
theorem QdG {out : List (Int × Int)} (h : canonL out) {x : Int} (hx : atL out x = 1) : ∀ m (hm : m < out.length), out[m].1 ≠ x := by
 intro m hm e
 have h1 := h.1 out[m] (List.getElem_mem hm)
 have h2 := Qbz out x m hm (fun j hj => by
  have := (List.pairwise_iff_getElem.1 h.2) j m (by omega) hm hj
  omega) e
 omega
theorem Qff {out : List (Int × Int)} (h : canonL out) {x : Int} (hx : atL out x = 1) {k : Nat} (hk : k ≤ out.length) (hlo : ∀ m (_ : m < k) (hm : m < out.length), out[m].1 < x) (hhi : ∀ hm : k < out.length, x ≤ out[k].1) : Spot out x k false :=
 ⟨hk, hlo, fun m h1 hm => by
  have h2 := hhi (by omega)
  by_cases e : m = k
  · subst e; exact h2
  · have := (List.pairwise_iff_getElem.1 h.2) k m (by omega) hm (by omega)
    omega, fun h => (by cases h), fun _ hm => QdG h hx k hm⟩
theorem Qgh {out : List (Int × Int)} (h : canonL out) {x n : Int} (hn : n ≠ 1) {k : Nat} (s : Spot out x k false) : out.take k ++ (x, n) :: out.drop k = setL out x n := by
 rw [s.front, s.behind_no h.2]
 unfold setL newL
 rw [if_neg hn]
 simp
theorem Made.done {lev : Int → Option Int} {come : Int → Bool} {out want : List (Int × Int)} (h : Made lev come out) (hall : ∀ c, come c = true) (hw : canonL want) (hat : ∀ c, atL want c = (lev c).getD 1) : out = want :=
 Qf6 h.canon hw fun c => by rw [h.at_ c, if_pos (hall c), hat c]
structure SelfStep (K : Ker) (th th2 : Thr) (c : Cal) (r : Rep) : Prop where
 label : th2.label = th.label ∨ (c.kind = 5 ∧ r.code = 0 ∧ flowsL th.label th2.label th.own = true)
 own : ∀ x ∈ th.own, x ∈ th2.own
 objs : th2.objs = th.objs ∨ ∃ o, th2.objs = th.objs ++ [o]
 text : th2.text = th.text ∨ c.kind = 9 ∨ (c.kind = 7 ∧ r.code = 0) ∨ (c.kind = 4 ∧ r.code = 0 ∧ th2.objs = th.objs ∧ ∃ o, objAt K c.t c.n = some o ∧ flowsL o.label th.label th.own = true)
theorem SelfStep.refl (K : Ker) (th : Thr) (c : Cal) (r : Rep) : SelfStep K th th c r := ⟨.inl rfl, fun _ h => h, .inl rfl, .inl rfl⟩
end Go.Proofs.Parclose
