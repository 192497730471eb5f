/- Plain facts on lines: numbers in any order are taken, and not again; a frame is sent five times at most. No program is named here. -/
import Derived.Test.YtmpjddnbdidleaaPlainLine
namespace Go.Proofs.Parclose

theorem take_new {l : Lne} {q : Int} (hg : goodLn l = true) (hq : 1 ≤ q ∧ q ≤ 1099511627776) (ho : l.high - 8 < q) (hc : ¬ Came l q) : (takeLn l q).2 = 0 := by
  unfold takeLn
  rw [if_pos (by rw [hg]; simp only [Bool.true_and, decide_eq_true_eq]; exact hq), if_neg (by omega)]
  by_cases hh : l.high < q
  · rw [if_pos hh]
  · rw [if_neg hh, if_neg (fun h => hc ⟨by omega, Or.inr h⟩)]
theorem take_again {l : Lne} {q : Int} (h8 : l.seen.length = 8) (hg : goodLn l = true) (hq : 1 ≤ q ∧ q ≤ 1099511627776) (h : (takeLn l q).2 = 0) (ho : (takeLn l q).1.high - 8 < q) : (takeLn (takeLn l q).1 q).2 = 10 := by
  obtain ⟨_, _, h3⟩ := take_ok h8 h
  have hg' := take_good l q hg
  generalize (takeLn l q).1 = m at *
  unfold takeLn
  rw [if_pos (by rw [hg']; simp only [Bool.true_and, decide_eq_true_eq]; exact hq), if_neg (by omega), if_neg (by have := h3.1; omega)]
  rcases h3.2 with h2 | h2
  · omega
  · rw [if_pos h2]
theorem take_high {l : Lne} {q : Int} (h : (takeLn l q).2 = 0) : (takeLn l q).1.high = max l.high q := by
  unfold takeLn at h ⊢
  split at h
  · rename_i hg
    rw [if_pos hg]
    split at h
    · cases h
    · rename_i ho
      rw [if_neg ho]
      split at h
      · rename_i hh
        rw [if_pos hh]
        show q = _
        omega
      · rename_i hh
        rw [if_neg hh]
        split at h
        · cases h
        · rename_i hs
          rw [if_neg hs]
          show l.high = _
          omega
  · cases h
theorem take_only {l : Lne} {q s : Int} (h : Came (takeLn l q).1 s) (ho : (takeLn l q).1.high - 8 < s) : s = q ∨ Came l s := by
  unfold takeLn at h ho
  split at h
  · rename_i hg
    rw [if_pos hg] at ho
    split at h
    · exact Or.inr h
    · rename_i ho1
      rw [if_neg ho1] at ho
      split at h
      · rename_i hh
        rw [if_pos hh] at ho
        obtain ⟨h1, h2⟩ := h
        replace h1 : s ≤ q := h1
        replace ho : q - 8 < s := ho
        rcases h2 with h2 | h2
        · replace h2 : s ≤ q - 8 := h2
          omega
        · replace h2 : ((shiftL (q - l.high).toNat l.seen).set 0 true)[(q - s).toNat]? = some true := h2
          by_cases hs : s = q
          · exact Or.inl hs
          · rw [List.getElem?_set_ne (by omega), shiftL_get _ _ (by omega)] at h2
            split at h2
            · cases h2
            · right
              refine ⟨by omega, Or.inr ?_⟩
              rw [← h2]
              congr 1
              omega
      · rename_i hh
        rw [if_neg hh] at ho
        split at h
        · exact Or.inr h
        · rename_i hs
          obtain ⟨h1, h2⟩ := h
          replace h1 : s ≤ l.high := h1
          rcases h2 with h2 | h2
          · exact Or.inr ⟨h1, Or.inl h2⟩
          · replace h2 : (l.seen.set (l.high - q).toNat true)[(l.high - s).toNat]? = some true := h2
            rw [List.getElem?_set] at h2
            split at h2
            · left; omega
            · exact Or.inr ⟨h1, Or.inr h2⟩
  · exact Or.inr h

/-- numbers from 1 to 8: those in left have not come, the others have -/
structure Turn (l : Lne) (left : List Int) : Prop where
  good : goodLn l = true
  seen : l.seen.length = 8
  high : l.high ≤ 8
  nums : ∀ n ∈ left, 1 ≤ n ∧ n ≤ 8
  once : left.Nodup
  come : ∀ n, 1 ≤ n → n ≤ 8 → (n ∈ left ↔ ¬ Came l n)

theorem turn_start : Turn zeroLne [1, 2, 3, 4, 5, 6, 7, 8] := by
  refine ⟨by decide, rfl, by decide, by decide, by decide, fun n h1 h2 => ⟨fun _ hc => ?_, fun _ => ?_⟩⟩
  · have := hc.1
    simp only [zeroLne] at this
    omega
  · have h : n = 1 ∨ n = 2 ∨ n = 3 ∨ n = 4 ∨ n = 5 ∨ n = 6 ∨ n = 7 ∨ n = 8 := by omega
    rcases h with h | h | h | h | h | h | h | h <;> subst h <;> decide
theorem Turn.end {l : Lne} (h : Turn l []) : l.high = 8 := by
  have := (h.come 8 (by omega) (by omega)).2
  have hc : Came l 8 := Classical.byContradiction fun hn => by simpa using this hn
  have := hc.1
  have := h.high
  omega
theorem Turn.ok {l : Lne} {left : List Int} (h : Turn l left) (k : Nat) (hk : k < left.length) : (takeLn l left[k]).2 = 0 ∧ (takeLn (takeLn l left[k]).1 left[k]).2 = 10 := by
  have hm := List.getElem_mem hk
  have hn := h.nums _ hm
  have hh := h.high
  have h0 : (takeLn l left[k]).2 = 0 := take_new h.good ⟨by omega, by omega⟩ (by omega) ((h.come _ hn.1 hn.2).1 hm)
  exact ⟨h0, take_again h.seen h.good ⟨by omega, by omega⟩ h0 (by rw [take_high h0]; omega)⟩
theorem Turn.step {l : Lne} {left : List Int} (h : Turn l left) (k : Nat) (hk : k < left.length) : Turn (takeLn l left[k]).1 (left.take k ++ left.drop (k + 1)) := by
  have hm := List.getElem_mem hk
  have hn := h.nums _ hm
  have hh := h.high
  have h0 := (h.ok k hk).1
  have hhi := take_high h0
  have hsplit : left = left.take k ++ left[k] :: left.drop (k + 1) := by
    rw [← List.drop_eq_getElem_cons hk, List.take_append_drop]
  have hnd := h.once
  rw [hsplit] at hnd
  have hmem : ∀ n, n ∈ left.take k ++ left.drop (k + 1) ↔ n ∈ left ∧ n ≠ left[k] := by
    intro n
    have hd := List.nodup_append.1 hnd
    have hd2 := List.nodup_cons.1 hd.2.1
    constructor
    · intro hx
      rcases List.mem_append.1 hx with hx | hx
      · exact ⟨List.mem_of_mem_take hx, fun e => hd.2.2 n hx (left[k]) List.mem_cons_self e⟩
      · exact ⟨List.mem_of_mem_drop hx, fun e => hd2.1 (e ▸ hx)⟩
    · rintro ⟨hx, hne⟩
      rw [hsplit] at hx
      rcases List.mem_append.1 hx with hx | hx
      · exact List.mem_append.2 (Or.inl hx)
      · rcases List.mem_cons.1 hx with e | hx
        · exact absurd e hne
        · exact List.mem_append.2 (Or.inr hx)
  refine ⟨take_good _ _ h.good, take_length _ _ h.seen, by rw [hhi]; omega, fun n hx => h.nums n ((hmem n).1 hx).1, ?_, fun n h1 h2 => ?_⟩
  · have hd := List.nodup_append.1 hnd
    have hd2 := List.nodup_cons.1 hd.2.1
    exact List.nodup_append.2 ⟨hd.1, hd2.2, fun a ha b hb => hd.2.2 a ha b (List.mem_cons_of_mem _ hb)⟩
  · rw [hmem, h.come n h1 h2]
    constructor
    · rintro ⟨hc, hne⟩ hx
      rcases take_only hx (by rw [hhi]; omega) with e | e
      · exact hne e
      · exact hc e
    · intro hc
      refine ⟨fun hx => hc (take_came h.seen hx), fun e => ?_⟩
      rw [e] at hc
      exact hc (take_ok h.seen h0).2.2

/-- numbers that came, if the line is good; else none did -/
structure Once (l : Lne) (had : Int → Bool) : Prop where
  seen : l.seen.length = 8
  had : ∀ s, had s = true → goodLn l = true ∧ Came l s
theorem Once.ok {l : Lne} {had : Int → Bool} {q : Int} (h : Once l had) (h0 : (takeLn l q).2 = 0) : had q = false ∧ q ≤ (takeLn l q).1.high := by
  obtain ⟨h1, h2, _⟩ := take_ok h.seen h0
  refine ⟨?_, h2⟩
  cases e : had q with
  | false => rfl
  | true => exact absurd (h.had q e).2 h1
theorem Once.not {l : Lne} {had : Int → Bool} {q : Int} (h : Once l had) (hq : 1 ≤ q ∧ q ≤ 1099511627776) (hh : had q = true) : (takeLn l q).2 = 10 ∨ (takeLn l q).2 = 11 := take_twice (h.had q hh).1 hq (h.had q hh).2
theorem Once.keep {l : Lne} {had : Int → Bool} {q : Int} (h : Once l had) : Once (takeLn l q).1 had :=
  ⟨take_length _ _ h.seen, fun s hs => ⟨take_good _ _ (h.had s hs).1, take_came h.seen (h.had s hs).2⟩⟩
theorem take_zero_good {l : Lne} {q : Int} (h : (takeLn l q).2 = 0) : goodLn l = true := by
  cases e : goodLn l with
  | true => rfl
  | false => rw [take_bad l q e] at h; cases h
theorem Once.more {l : Lne} {had : Int → Bool} {q : Int} (h : Once l had) (h0 : (takeLn l q).2 = 0) : Once (takeLn l q).1 (fun s => if s = q then true else had s) := by
  refine ⟨take_length _ _ h.seen, fun s hs => ?_⟩
  by_cases e : s = q
  · subst e
    exact ⟨take_good _ _ (take_zero_good h0), (take_ok h.seen h0).2.2⟩
  · rw [if_neg e] at hs
    exact (h.keep (q := q)).had s hs

/-- a frame that is sent: how often, and whether it is there still -/
structure Tri (l : Lne) (g : Frm) (cnt : Int) (there : Bool) : Prop where
  good : goodLn l = true
  here : there = l.sent.any (fun s => s.f.seq == g.seq)
  same : ∀ s ∈ l.sent, s.f.seq = g.seq → s.f = g ∧ s.tries = cnt
  cnt : 1 ≤ cnt ∧ cnt ≤ 5

theorem send_good {l : Lne} {f : Frm} {now : Int} (h : (sendLn l f now).2.2 = 0) : (sendLn l f now).1 = { l with next := l.next + 1, sent := l.sent ++ [⟨{ f with seq := l.next + 1 }, 1, now + 2⟩] } ∧ (sendLn l f now).2.1 = { f with seq := l.next + 1 } ∧ goodLn l = true ∧ timeB now = true ∧ l.sent.length ≠ 8 ∧ l.next ≠ 1099511627775 := by
  unfold sendLn at h ⊢
  split at h
  · rename_i hg
    rw [if_pos hg]
    rw [Bool.and_eq_true] at hg
    split at h
    · cases h
    · rename_i hn
      rw [if_neg hn]
      exact ⟨rfl, rfl, hg.1, hg.2, fun e => hn (Or.inl e), fun e => hn (Or.inr e)⟩
  · cases h
theorem tri_start {l : Lne} {f : Frm} {now : Int} (h : (sendLn l f now).2.2 = 0) : Tri (sendLn l f now).1 (sendLn l f now).2.1 1 true := by
  obtain ⟨e1, e2, hg, ht, hn1, hn2⟩ := send_good h
  rw [e1, e2]
  have hh := goodLn_head hg
  rw [headLn_iff] at hh
  have hr := goodLn_rises hg
  have hm := rises_mem hr
  simp only [timeB, decide_eq_true_eq] at ht
  refine ⟨?_, ?_, ?_, by omega, by omega⟩
  · unfold goodLn
    rw [Bool.and_eq_true, headLn_iff]
    refine ⟨⟨by show 0 ≤ l.next + 1; omega, by show l.next + 1 < _; omega, hh.2.2.1, hh.2.2.2.1, ?_⟩, ?_⟩
    · simp only [List.length_append, List.length_cons, List.length_nil]
      have := hh.2.2.2.2
      omega
    · refine rises_snoc ?_ (rises_up (next := l.next) (by show l.next ≤ l.next + 1; omega) hr) (by show 0 < l.next + 1; omega) (fun s hs => by have := hm s hs; show s.f.seq < l.next + 1; omega)
      simp only [sentB, triesB, Bool.and_eq_true, decide_eq_true_eq]
      omega
  · simp
  · intro s hs he
    rcases List.mem_append.1 hs with hs | hs
    · have := hm s hs
      replace he : s.f.seq = l.next + 1 := he
      omega
    · rw [List.mem_singleton] at hs
      subst hs
      exact ⟨rfl, rfl⟩

theorem again_none {now q : Int} {l : List Snt} (h : ∀ s ∈ l, s.f.seq ≠ q) : (∀ s ∈ l.flatMap (againS now), s.f.seq ≠ q) ∧ ∀ x ∈ l.flatMap (againF now), x.seq ≠ q := by
  constructor
  · intro s hs
    obtain ⟨y, hy, hs⟩ := List.mem_flatMap.1 hs
    unfold againS at hs
    split at hs
    · rw [List.mem_singleton] at hs
      rw [hs]
      exact h y hy
    · split at hs
      · cases hs
      · rw [List.mem_singleton] at hs
        subst hs
        exact h y hy
  · intro x hx
    obtain ⟨y, hy, hs⟩ := List.mem_flatMap.1 hx
    unfold againF at hs
    split at hs
    · cases hs
    · split at hs
      · cases hs
      · rw [List.mem_singleton] at hs
        subst hs
        exact h _ hy
theorem rises_split {next : Int} {l : List Snt} {n : Int} (h : rises next n l = true) {s : Snt} (hs : s ∈ l) : ∃ a b, l = a ++ s :: b ∧ (∀ x ∈ a, x.f.seq ≠ s.f.seq) ∧ ∀ x ∈ b, x.f.seq ≠ s.f.seq := by
  induction l generalizing n with
  | nil => cases hs
  | cons y r ih =>
    simp only [rises, Bool.and_eq_true, decide_eq_true_eq] at h
    have hm := rises_mem h.2
    rcases List.mem_cons.1 hs with e | hs'
    · subst e
      exact ⟨[], r, rfl, ⟨fun x hx => absurd hx (by simp), fun x hx => by have := hm x hx; omega⟩⟩
    · obtain ⟨a, b, e, h1, h2⟩ := ih h.2 hs'
      refine ⟨y :: a, b, by rw [e]; rfl, fun x hx => ?_, h2⟩
      rcases List.mem_cons.1 hx with e' | hx
      · have := hm s hs'
        rw [e']
        omega
      · exact h1 x hx
theorem countP_none {q : Int} {l : List Frm} (h : ∀ x ∈ l, x.seq ≠ q) : l.countP (fun x => x.seq == q) = 0 := by
  rw [List.countP_eq_zero]
  intro x hx
  have := h x hx
  simpa using this
theorem any_none {q : Int} {l : List Snt} (h : ∀ x ∈ l, x.f.seq ≠ q) : l.any (fun s => s.f.seq == q) = false := by
  rw [List.any_eq_false]
  intro x hx
  have := h x hx
  simpa using this
theorem again_good {l : Lne} {now : Int} (hg : goodLn l = true) (h0 : 0 ≤ now) (h1 : now ≤ 1099511627776) : goodLn { l with sent := l.sent.flatMap (againS now) } = true := by
  have hh := goodLn_head hg
  rw [headLn_iff] at hh
  unfold goodLn
  rw [Bool.and_eq_true, headLn_iff]
  exact ⟨⟨hh.1, hh.2.1, hh.2.2.1, hh.2.2.2.1, Nat.le_trans (again_length now l.sent) hh.2.2.2.2⟩, rises_again h0 h1 (goodLn_rises hg)⟩

theorem Tri.step {l : Lne} {g : Frm} {cnt : Int} {there : Bool} {now : Int} (h : Tri l g cnt there) (h0 : 0 ≤ now) (h1 : now ≤ 1099511627776) :
    (∀ x ∈ l.sent.flatMap (againF now), x.seq = g.seq → x = g ∧ there = true) ∧
      Tri { l with sent := l.sent.flatMap (againS now) } g (cnt + (l.sent.flatMap (againF now)).countP (fun x => x.seq == g.seq)) ((l.sent.flatMap (againS now)).any (fun s => s.f.seq == g.seq)) := by
  have hg := again_good h.good h0 h1
  have hr := goodLn_rises h.good
  by_cases hx : ∃ s ∈ l.sent, s.f.seq = g.seq
  · obtain ⟨s, hs, he⟩ := hx
    obtain ⟨hf, ht⟩ := h.same s hs he
    have htr := (rises_mem hr s hs).2.2
    simp only [triesB, decide_eq_true_eq] at htr
    have hth : there = true := by
      rw [h.here, List.any_eq_true]
      exact ⟨s, hs, by simp [he]⟩
    obtain ⟨a, b, e, ha, hb⟩ := rises_split hr hs
    rw [he] at ha hb
    obtain ⟨a1, a2⟩ := again_none (now := now) ha
    obtain ⟨b1, b2⟩ := again_none (now := now) hb
    have eS : l.sent.flatMap (againS now) = a.flatMap (againS now) ++ (againS now s ++ b.flatMap (againS now)) := by rw [e]; simp
    have eF : l.sent.flatMap (againF now) = a.flatMap (againF now) ++ (againF now s ++ b.flatMap (againF now)) := by rw [e]; simp
    have hcnt : (l.sent.flatMap (againF now)).countP (fun x => x.seq == g.seq) = (againF now s).countP (fun x => x.seq == g.seq) := by
      rw [eF, List.countP_append, List.countP_append, countP_none a2, countP_none b2]
      omega
    have hall : ∀ y ∈ l.sent.flatMap (againS now), y.f.seq = g.seq → y ∈ againS now s := by
      intro y hy hq
      rw [eS] at hy
      rcases List.mem_append.1 hy with hy | hy
      · exact absurd hq (a1 y hy)
      · rcases List.mem_append.1 hy with hy | hy
        · exact hy
        · exact absurd hq (b1 y hy)
    refine ⟨fun x hx hq => ?_, hg, rfl, ?_, ?_⟩
    · rw [eF] at hx
      rcases List.mem_append.1 hx with hx | hx
      · exact absurd hq (a2 x hx)
      · rcases List.mem_append.1 hx with hx | hx
        · unfold againF at hx
          split at hx
          · cases hx
          · split at hx
            · cases hx
            · rw [List.mem_singleton] at hx
              subst hx
              exact ⟨hf, hth⟩
        · exact absurd hq (b2 x hx)
    · intro y hy hq
      have hy' := hall y hy hq
      rw [hcnt]
      unfold againS at hy'
      unfold againF
      split at hy'
      · rename_i hd
        rw [List.mem_singleton] at hy'
        subst hy'
        rw [if_pos hd]
        exact ⟨hf, by simp [ht]⟩
      · rename_i hd
        split at hy'
        · cases hy'
        · rename_i h5
          rw [List.mem_singleton] at hy'
          subst hy'
          rw [if_neg hd, if_neg h5]
          exact ⟨hf, by simp [ht, he]⟩
    · rw [hcnt]
      unfold againF
      split
      · simpa using h.cnt
      · split
        · simpa using h.cnt
        · rename_i h5
          have := h.cnt
          simp only [List.countP_cons, List.countP_nil, he, beq_self_eq_true, if_true]
          omega
  · have hn : ∀ s ∈ l.sent, s.f.seq ≠ g.seq := fun s hs he => hx ⟨s, hs, he⟩
    obtain ⟨a1, a2⟩ := again_none (now := now) hn
    refine ⟨fun x hx hq => absurd hq (a2 x hx), hg, rfl, fun y hy hq => absurd hq (a1 y hy), ?_⟩
    rw [countP_none a2]
    simpa using h.cnt

theorem Tri.end {l : Lne} {g : Frm} {cnt : Int} {there : Bool} (h : Tri l g cnt there) : (decide ((ansLn l g.seq).2 = 0) = there) ∧ ∀ s ∈ (ansLn l g.seq).1.sent, s.f.seq ≠ g.seq := by
  unfold ansLn
  rw [if_pos h.good]
  split
  · rename_i ha
    have hn : ∀ s ∈ l.sent, s.f.seq ≠ g.seq := fun s hs => by simpa using List.all_eq_true.1 ha s hs
    exact ⟨by rw [h.here, any_none hn]; rfl, hn⟩
  · rename_i ha
    refine ⟨?_, fun s hs => ?_⟩
    · rw [h.here]
      symm
      cases e : l.sent.any (fun s => s.f.seq == g.seq) with
      | true => rfl
      | false =>
        exfalso
        apply ha
        rw [List.all_eq_true]
        intro s hs
        have := List.any_eq_false.1 e s hs
        simpa using this
    · simpa using (List.mem_filter.1 hs).2
end Go.Proofs.Parclose
