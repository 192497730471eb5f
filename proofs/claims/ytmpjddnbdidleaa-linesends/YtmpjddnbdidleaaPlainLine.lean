/- Plain facts on lines: which are good, what is sent, answered, sent again and taken; no program is named here. -/
import Derived.Test.YtmpjddnbdidleaaPlainWire
namespace Go.Proofs.Parclose

structure Snt where
  f : Frm
  tries : Int
  due : Int

structure Lne where
  next : Int
  sent : List Snt
  high : Int
  seen : List Bool

def zeroLne : Lne := ⟨0, [], 0, [false, false, false, false, false, false, false, false]⟩
def triesB (s : Snt) : Bool := decide (1 ≤ s.tries ∧ s.tries ≤ 5 ∧ 0 ≤ s.due ∧ s.due ≤ 2199023255552)
def sentB (next : Int) (s : Snt) : Bool := decide (s.f.seq ≤ next) && triesB s
/-- the numbers rise from a number on -/
def rises (next : Int) : Int → List Snt → Bool
  | _, [] => true
  | n, s :: r => decide (n < s.f.seq) && sentB next s && rises next s.f.seq r
def headLn (l : Lne) : Bool := decide (0 ≤ l.next ∧ l.next < 1099511627776 ∧ 0 ≤ l.high ∧ l.high ≤ 1099511627776 ∧ l.sent.length ≤ 8)
def goodLn (l : Lne) : Bool := headLn l && rises l.next 0 l.sent

/-- what was seen, when the greatest number grows by n -/
def shiftL (n : Nat) (s : List Bool) : List Bool := (List.replicate (min n 8) false ++ s).take 8
def takeLn (l : Lne) (q : Int) : Lne × Int :=
  if goodLn l && decide (1 ≤ q ∧ q ≤ 1099511627776) then
    if q ≤ l.high - 8 then (l, 11)
    else if l.high < q then ({ l with high := q, seen := (shiftL (q - l.high).toNat l.seen).set 0 true }, 0)
    else if l.seen[(l.high - q).toNat]? = some true then (l, 10)
    else ({ l with seen := l.seen.set (l.high - q).toNat true }, 0)
  else (l, 2)
def sendLn (l : Lne) (f : Frm) (now : Int) : Lne × Frm × Int :=
  if goodLn l && timeB now then
    if l.sent.length = 8 ∨ l.next = 1099511627775 then (l, zeroFrm, 5)
    else ({ l with next := l.next + 1, sent := l.sent ++ [⟨{ f with seq := l.next + 1 }, 1, now + 2⟩] }, { f with seq := l.next + 1 }, 0)
  else (l, zeroFrm, 2)
def ansLn (l : Lne) (q : Int) : Lne × Int :=
  if goodLn l then
    if l.sent.all (fun s => !(s.f.seq == q)) then (l, 4)
    else ({ l with sent := l.sent.filter (fun s => !(s.f.seq == q)) }, 0)
  else (l, 2)
def againS (now : Int) (s : Snt) : List Snt := if now < s.due then [s] else if s.tries = 5 then [] else [{ s with tries := s.tries + 1, due := now + 2 ^ (s.tries + 1).toNat }]
def againF (now : Int) (s : Snt) : List Frm := if now < s.due then [] else if s.tries = 5 then [] else [s.f]
def againLn (l : Lne) (now : Int) : Lne × List Frm × Int :=
  if goodLn l && timeB now then ({ l with sent := l.sent.flatMap (againS now) }, l.sent.flatMap (againF now), 0) else (l, [], 2)

theorem rises_drop (next n : Int) (l : List Snt) (k : Nat) (hk : k < l.length) : rises next n (l.drop k) = (decide (n < (l[k]).f.seq) && sentB next l[k] && rises next (l[k]).f.seq (l.drop (k + 1))) := by
  rw [List.drop_eq_getElem_cons hk]
  rfl

theorem headLn_iff (l : Lne) : headLn l = true ↔ 0 ≤ l.next ∧ l.next < 1099511627776 ∧ 0 ≤ l.high ∧ l.high ≤ 1099511627776 ∧ l.sent.length ≤ 8 := by simp [headLn]
theorem goodLn_head {l : Lne} (h : goodLn l = true) : headLn l = true := by
  unfold goodLn at h
  simp only [Bool.and_eq_true] at h
  exact h.1
theorem goodLn_rises {l : Lne} (h : goodLn l = true) : rises l.next 0 l.sent = true := by
  unfold goodLn at h
  simp only [Bool.and_eq_true] at h
  exact h.2

theorem rises_mem {next : Int} : ∀ {l : List Snt} {n : Int}, rises next n l = true → ∀ s ∈ l, n < s.f.seq ∧ s.f.seq ≤ next ∧ triesB s = true
  | [], _, _, s, h => by cases h
  | x :: r, n, h, s, hs => by
    simp only [rises, sentB, Bool.and_eq_true, decide_eq_true_eq] at h
    rcases List.mem_cons.1 hs with rfl | hm
    · exact ⟨h.1.1, h.1.2.1, h.1.2.2⟩
    · have := rises_mem h.2 s hm
      exact ⟨by omega, this.2⟩
theorem rises_low {next : Int} : ∀ {l : List Snt} {n m : Int}, rises next n l = true → m ≤ n → rises next m l = true
  | [], _, _, _, _ => rfl
  | x :: r, n, m, h, hm => by
    simp only [rises, Bool.and_eq_true, decide_eq_true_eq] at h ⊢
    exact ⟨⟨by omega, h.1.2⟩, h.2⟩
theorem sentB_up {next next' : Int} {s : Snt} (h : sentB next s = true) (hn : next ≤ next') : sentB next' s = true := by
  simp only [sentB, Bool.and_eq_true, decide_eq_true_eq] at h ⊢
  exact ⟨by omega, h.2⟩
theorem rises_up {next next' : Int} (hn : next ≤ next') : ∀ {l : List Snt} {n : Int}, rises next n l = true → rises next' n l = true
  | [], _, _ => rfl
  | x :: r, n, h => by
    simp only [rises, Bool.and_eq_true] at h ⊢
    exact ⟨⟨h.1.1, sentB_up h.1.2 hn⟩, rises_up hn h.2⟩
theorem rises_snoc {next : Int} {x : Snt} (hx : sentB next x = true) : ∀ {l : List Snt} {n : Int}, rises next n l = true → n < x.f.seq → (∀ s ∈ l, s.f.seq < x.f.seq) → rises next n (l ++ [x]) = true
  | [], n, _, h, _ => by simp [rises, hx, h]
  | y :: r, n, h, hn, hl => by
    simp only [rises, Bool.and_eq_true] at h
    simp only [List.cons_append, rises, Bool.and_eq_true]
    exact ⟨h.1, rises_snoc hx h.2 (hl y (by simp)) (fun s hs => hl s (by simp [hs]))⟩
theorem rises_filter {next : Int} (p : Snt → Bool) : ∀ {l : List Snt} {n : Int}, rises next n l = true → rises next n (l.filter p) = true
  | [], _, _ => rfl
  | x :: r, n, h => by
    simp only [rises, Bool.and_eq_true] at h
    have ih := rises_filter p h.2
    rw [List.filter_cons]
    split
    · simp only [rises, Bool.and_eq_true]
      exact ⟨h.1, ih⟩
    · exact rises_low ih (by have := h.1.1; simp only [decide_eq_true_eq] at this; omega)

/-- one that is in a row that rises is the only one with its number -/
theorem rises_only {next : Int} : ∀ {l : List Snt} {n : Int} (_ : rises next n l = true) (i : Nat) (hi : i < l.length), l.filter (fun s => !(s.f.seq == (l[i]).f.seq)) = l.take i ++ l.drop (i + 1)
  | x :: r, n, h, 0, _ => by
    simp only [rises, Bool.and_eq_true] at h
    have hm := rises_mem h.2
    rw [List.filter_cons]
    simp only [List.getElem_cons_zero, beq_self_eq_true, Bool.not_true, Bool.false_eq_true, if_false, List.take_zero, List.nil_append, List.drop_succ_cons, List.drop_zero]
    rw [List.filter_eq_self]
    intro s hs
    have := (hm s hs).1
    simp
    omega
  | x :: r, n, h, i + 1, hi => by
    simp only [rises, Bool.and_eq_true] at h
    have hm := rises_mem h.2
    have hir : i < r.length := by simpa using hi
    have hne := (hm r[i] (List.getElem_mem hir)).1
    rw [List.filter_cons]
    simp only [List.getElem_cons_succ]
    rw [if_pos (by simp; omega), rises_only h.2 i hir]
    simp

theorem pow_tries {t : Int} (h1 : 1 ≤ t) (h2 : t ≤ 5) : (2 : Int) ^ t.toNat = [1, 2, 4, 8, 16, 32][t.toNat]?.getD 0 := by
  have h : t = 1 ∨ t = 2 ∨ t = 3 ∨ t = 4 ∨ t = 5 := by omega
  rcases h with rfl | rfl | rfl | rfl | rfl <;> rfl

theorem rises_again {next now : Int} (h0 : 0 ≤ now) (h1 : now ≤ 1099511627776) : ∀ {l : List Snt} {n : Int}, rises next n l = true → rises next n (l.flatMap (againS now)) = true
  | [], _, _ => rfl
  | x :: r, n, h => by
    simp only [rises, Bool.and_eq_true, decide_eq_true_eq] at h
    have ih := rises_again (now := now) h0 h1 h.2
    obtain ⟨⟨h2, h3⟩, h4⟩ := h
    rw [List.flatMap_cons]
    by_cases hd : now < x.due
    · rw [show againS now x = [x] by unfold againS; rw [if_pos hd]]
      simp only [List.singleton_append, rises, Bool.and_eq_true, decide_eq_true_eq]
      exact ⟨⟨h2, h3⟩, ih⟩
    · by_cases ht : x.tries = 5
      · rw [show againS now x = [] by unfold againS; rw [if_neg hd, if_pos ht]]
        exact rises_low ih (by omega)
      · rw [show againS now x = [{ x with tries := x.tries + 1, due := now + 2 ^ (x.tries + 1).toNat }] by unfold againS; rw [if_neg hd, if_neg ht]]
        simp only [sentB, triesB, Bool.and_eq_true, decide_eq_true_eq] at h3
        have hp : (2 : Int) ^ (x.tries + 1).toNat ≤ 32 ∧ (0 : Int) ≤ 2 ^ (x.tries + 1).toNat := by
          have h : x.tries = 1 ∨ x.tries = 2 ∨ x.tries = 3 ∨ x.tries = 4 := by omega
          rcases h with e | e | e | e <;> rw [e] <;> decide
        simp only [List.singleton_append, rises, sentB, triesB, Bool.and_eq_true, decide_eq_true_eq]
        exact ⟨⟨h2, h3.1, by omega, by omega, by omega, by omega⟩, ih⟩

theorem again_length (now : Int) : ∀ l : List Snt, (l.flatMap (againS now)).length ≤ l.length
  | [] => Nat.le_refl _
  | x :: r => by
    have ih := again_length now r
    have hx : (againS now x).length ≤ 1 := by
      unfold againS
      split
      · simp
      · split <;> simp
    simp only [List.flatMap_cons, List.length_append, List.length_cons]
    omega

theorem take_good (l : Lne) (q : Int) (h : goodLn l = true) : goodLn (takeLn l q).1 = true := by
  have hh := goodLn_head h
  have hr := goodLn_rises h
  rw [headLn_iff] at hh
  unfold takeLn
  split
  · rename_i hg
    simp only [Bool.and_eq_true, decide_eq_true_eq] at hg
    split
    · exact h
    · split
      · unfold goodLn
        rw [Bool.and_eq_true, headLn_iff]
        exact ⟨⟨hh.1, hh.2.1, by show 0 ≤ q; omega, by show q ≤ _; omega, hh.2.2.2.2⟩, hr⟩
      · split
        · exact h
        · exact h
  · exact h
theorem take_bad (l : Lne) (q : Int) (h : goodLn l = false) : takeLn l q = (l, 2) := by
  unfold takeLn
  rw [h]
  rfl
theorem take_same (l : Lne) (q : Int) : goodLn (takeLn l q).1 = goodLn l := by
  cases h : goodLn l with
  | true => exact take_good l q h
  | false => rw [take_bad l q h]; exact h
theorem shiftL_length {s : List Bool} (hs : s.length = 8) (n : Nat) : (shiftL n s).length = 8 := by
  simp only [shiftL, List.length_take, List.length_append, List.length_replicate, hs]
  omega
theorem take_length (l : Lne) (q : Int) (h : l.seen.length = 8) : (takeLn l q).1.seen.length = 8 := by
  unfold takeLn
  split
  · split
    · exact h
    · split
      · simp [shiftL_length h]
      · split
        · exact h
        · simpa using h
  · exact h
theorem shiftL_get {s : List Bool} (n k : Nat) (hk : k < 8) : (shiftL n s)[k]? = if k < n then some false else s[k - n]? := by
  unfold shiftL
  rw [List.getElem?_take, if_pos hk]
  by_cases h : k < n
  · rw [if_pos h, List.getElem?_append_left (by simp; omega), List.getElem?_replicate, if_pos (by omega)]
  · rw [if_neg h, List.getElem?_append_right (by simp; omega), List.length_replicate, show min n 8 = n by omega]

/-- what came, and stays known: a number that is far behind, or one that was seen -/
def Came (l : Lne) (s : Int) : Prop := s ≤ l.high ∧ (s ≤ l.high - 8 ∨ l.seen[(l.high - s).toNat]? = some true)

theorem take_ok {l : Lne} {q : Int} (h8 : l.seen.length = 8) (h : (takeLn l q).2 = 0) : ¬ Came l q ∧ q ≤ (takeLn l q).1.high ∧ Came (takeLn l q).1 q := by
  unfold takeLn at h ⊢
  split at h
  · rename_i hg
    rw [if_pos hg]
    split at h
    · cases h
    · rename_i ho
      rw [if_neg ho]
      split at h
      · rename_i hh
        rw [if_pos hh]
        refine ⟨fun hc => ?_, Int.le_refl _, Int.le_refl _, Or.inr ?_⟩
        · unfold Came at hc; omega
        · simp [shiftL_length h8]
      · rename_i hh
        rw [if_neg hh]
        split at h
        · cases h
        · rename_i hs
          rw [if_neg hs]
          refine ⟨fun hc => ?_, by show q ≤ l.high; omega, by show q ≤ l.high; omega, Or.inr ?_⟩
          · rcases hc.2 with h1 | h1
            · exact ho h1
            · exact hs h1
          · show (l.seen.set (l.high - q).toNat true)[(l.high - q).toNat]? = some true
            rw [List.getElem?_set_self (by omega)]
  · cases h
theorem take_came {l : Lne} {q s : Int} (h8 : l.seen.length = 8) (h : Came l s) : Came (takeLn l q).1 s := by
  unfold takeLn
  split
  · rename_i hg
    split
    · exact h
    · rename_i ho
      split
      · rename_i hh
        refine ⟨by show s ≤ q; have := h.1; omega, ?_⟩
        show s ≤ q - 8 ∨ ((shiftL (q - l.high).toNat l.seen).set 0 true)[(q - s).toNat]? = some true
        by_cases hs : s ≤ q - 8
        · exact Or.inl hs
        · right
          rcases h with ⟨h1, h2⟩
          rw [List.getElem?_set_ne (by omega), shiftL_get _ _ (by omega), if_neg (by omega)]
          rcases h2 with h2 | h2
          · omega
          · rw [← h2]
            congr 1
            omega
      · split
        · exact h
        · rename_i hs
          refine ⟨h.1, ?_⟩
          rcases h.2 with h2 | h2
          · exact Or.inl h2
          · right
            show (l.seen.set (l.high - q).toNat true)[(l.high - s).toNat]? = some true
            rw [List.getElem?_set]
            split
            · rw [if_pos (by omega)]
            · exact h2
  · exact h
/-- what came is refused: as one that came, or as old; if the line is good and it is a number -/
theorem take_twice {l : Lne} {q : Int} (hg : goodLn l = true) (hq : 1 ≤ q ∧ q ≤ 1099511627776) (h : Came l q) : (takeLn l q).2 = 10 ∨ (takeLn l q).2 = 11 := by
  unfold takeLn
  rw [if_pos (by rw [hg]; simp only [Bool.true_and, decide_eq_true_eq]; exact hq)]
  by_cases ho : q ≤ l.high - 8
  · rw [if_pos ho]
    exact Or.inr rfl
  · rw [if_neg ho, if_neg (by have := h.1; omega)]
    rcases h.2 with h2 | h2
    · omega
    · rw [if_pos h2]
      exact Or.inl rfl

/-- what the document's own words make of a number that comes -/
def seenRef (l : Lne) (q : Int) (k : Nat) : Bool :=
  decide (max l.high q - k = q) || (decide (max l.high q - k ≤ l.high) && decide (l.high - (max l.high q - k) < 8) && (l.seen[(l.high - (max l.high q - k)).toNat]?.getD false))
def takeRef (l : Lne) (q : Int) : Lne × Int :=
  if goodLn l && decide (1 ≤ q ∧ q ≤ 1099511627776) then
    if l.high - q ≥ 8 then (l, 11)
    else if q ≤ l.high ∧ l.seen[(l.high - q).toNat]? = some true then (l, 10)
    else ({ l with high := max l.high q, seen := (List.range 8).map (seenRef l q) }, 0)
  else (l, 2)
theorem takeRef_eq (l : Lne) (q : Int) (h8 : l.seen.length = 8) : takeRef l q = takeLn l q := by
  unfold takeRef takeLn
  split
  · rename_i hg
    by_cases ho : q ≤ l.high - 8
    · rw [if_pos ho, if_pos (by omega)]
    · rw [if_neg ho, if_neg (by omega)]
      by_cases hh : l.high < q
      · rw [if_pos hh, if_neg (by omega)]
        have hm : max l.high q = q := by omega
        refine congrArg (fun x => (x, (0 : Int))) ?_
        rw [hm]
        refine congrArg (fun x => Lne.mk l.next l.sent q x) ?_
        refine List.ext_getElem? fun k => ?_
        by_cases hk : k < 8
        · rw [List.getElem?_map, List.getElem?_range hk, Option.map_some, List.getElem?_set]
          unfold seenRef
          rw [hm]
          by_cases h0 : 0 = k
          · subst h0
            rw [if_pos rfl, if_pos (by rw [shiftL_length h8]; omega)]
            simp
          · rw [if_neg h0, shiftL_get _ _ hk]
            rw [show decide (q - (k : Int) = q) = false by simp; omega, Bool.false_or]
            by_cases hkn : k < (q - l.high).toNat
            · rw [if_pos hkn, show decide (q - (k : Int) ≤ l.high) = false by simp; omega, Bool.false_and, Bool.false_and]
            · rw [if_neg hkn, show decide (q - (k : Int) ≤ l.high) = true by simp; omega, show decide (l.high - (q - (k : Int)) < 8) = true by simp; omega, Bool.true_and, Bool.true_and]
              rw [show (l.high - (q - (k : Int))).toNat = k - (q - l.high).toNat by omega]
              have : k - (q - l.high).toNat < l.seen.length := by omega
              rw [List.getElem?_eq_getElem this]
              rfl
        · rw [List.getElem?_eq_none (by simp; omega), List.getElem?_eq_none (by simp [shiftL_length h8]; omega)]
      · rw [if_neg hh]
        by_cases hs : l.seen[(l.high - q).toNat]? = some true
        · rw [if_pos ⟨by omega, hs⟩, if_pos hs]
        · rw [if_neg (fun h => hs h.2), if_neg hs]
          have hm : max l.high q = l.high := by omega
          refine congrArg (fun x => (x, (0 : Int))) ?_
          rw [hm]
          refine congrArg (fun x => Lne.mk l.next l.sent l.high x) ?_
          refine List.ext_getElem? fun k => ?_
          by_cases hk : k < 8
          · rw [List.getElem?_map, List.getElem?_range hk, Option.map_some, List.getElem?_set]
            unfold seenRef
            rw [hm]
            by_cases h0 : (l.high - q).toNat = k
            · rw [if_pos h0, if_pos (by omega), show decide (l.high - (k : Int) = q) = true by simp; omega, Bool.true_or]
            · rw [if_neg h0, show decide (l.high - (k : Int) = q) = false by simp; omega, Bool.false_or, show decide (l.high - (k : Int) ≤ l.high) = true by simp; omega, show decide (l.high - (l.high - (k : Int)) < 8) = true by simp; omega, Bool.true_and, Bool.true_and]
              rw [show (l.high - (l.high - (k : Int))).toNat = k by omega]
              have : k < l.seen.length := by omega
              rw [List.getElem?_eq_getElem this]
              rfl
          · rw [List.getElem?_eq_none (by simp; omega), List.getElem?_eq_none (by simp; omega)]
  · rfl
end Go.Proofs.Parclose
