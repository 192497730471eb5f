/- Plain facts on clusters: the certs and the frames under way are good, behind every act. -/
import Derived.Test.YtlbdaklmlknmbaaGreatJPlain
namespace Go.Proofs.Parclose
def MOwn (O : Int → Int → Int → Prop) (m : Mal) : Prop := ∀ g ∈ m.grants, O m.host m.thread g
def COwn (O : Int → Int → Int → Prop) (x : Crt) : Prop := 0 ≤ x.b ∧ x.b < 4 ∧ ∃ t : Nat, t < 4 ∧ O x.b t x.c
def FOwn (O : Int → Int → Int → Prop) (f : Frm) : Prop := MOwn O f.mail ∧ ∀ x ∈ f.certs, COwn O x
structure OwnC (O : Int → Int → Int → Prop) (C : Clu) : Prop where
 mails : ∀ (h : Nat) t, ∀ m ∈ (thrOf (C.ks h) t).mails, MOwn O m
 certs : ∀ (h : Nat), ∀ x ∈ C.certs h, COwn O x
 net : ∀ s ∈ C.net, ∃ f, frameE f = 0 ∧ s = encL f ∧ FOwn O f
 sent : ∀ (a b : Nat), ∀ s ∈ (C.lines a b).sent, FOwn O s.f
theorem MOwn.mono {O P : Int → Int → Int → Prop} (hp : ∀ h t c, O h t c → P h t c) {m : Mal} (h : MOwn O m) : MOwn P m := fun g hg => hp _ _ _ (h g hg)
theorem COwn.mono {O P : Int → Int → Int → Prop} (hp : ∀ h t c, O h t c → P h t c) {x : Crt} (h : COwn O x) : COwn P x := by
 obtain ⟨h0, h1, t, ht, e⟩ := h
 exact ⟨h0, h1, t, ht, hp _ _ _ e⟩
theorem FOwn.mono {O P : Int → Int → Int → Prop} (hp : ∀ h t c, O h t c → P h t c) {f : Frm} (h : FOwn O f) : FOwn P f := ⟨h.1.mono hp, fun x hx => (h.2 x hx).mono hp⟩
theorem OwnC.mono {O P : Int → Int → Int → Prop} (hp : ∀ h t c, O h t c → P h t c) {C : Clu} (h : OwnC O C) : OwnC P C :=
 ⟨fun a t m hm => (h.mails a t m hm).mono hp, fun a x hx => (h.certs a x hx).mono hp, fun s hs => by
  obtain ⟨f, h1, h2, h3⟩ := h.net s hs
  exact ⟨f, h1, h2, h3.mono hp⟩, fun a b s hs => (h.sent a b s hs).mono hp⟩
section
variable {O : Int → Int → Int → Prop}
theorem Qjt (l : Lne) (q : Int) : (takeLn l q).1.sent = l.sent := by
 unfold takeLn
 (repeat' split) <;> rfl
theorem Qma (l : Lne) (q : Int) : ∀ s ∈ (ansLn l q).1.sent, s ∈ l.sent := fun s hs => by
 unfold ansLn at hs
 split at hs
 · split at hs
   · exact hs
   · exact (List.mem_filter.1 hs).1
 · exact hs
theorem Qi6 (l : Lne) (now : Int) : (∀ s ∈ (againLn l now).1.sent, ∃ s' ∈ l.sent, s.f = s'.f) ∧ ∀ f ∈ (againLn l now).2.1, ∃ s' ∈ l.sent, f = s'.f := by
 unfold againLn
 split
 · refine ⟨fun s hs => ?_, fun f hf => ?_⟩
   · obtain ⟨s', h1, h2⟩ := List.mem_flatMap.1 hs
     refine ⟨s', h1, ?_⟩
     unfold againS at h2
     split at h2
     · rw [List.mem_singleton.1 h2]
     · split at h2
       · cases h2
       · rw [List.mem_singleton.1 h2]
   · obtain ⟨s', h1, h2⟩ := List.mem_flatMap.1 hf
     refine ⟨s', h1, ?_⟩
     unfold againF at h2
     split at h2
     · cases h2
     · split at h2
       · cases h2
       · exact List.mem_singleton.1 h2
 · exact ⟨fun s hs => ⟨s, hs, rfl⟩, fun _ h => by cases h⟩
end
theorem Qk1 {l : Lne} {q : Int} (hg : goodLn l = true) (hq : 1 ≤ q ∧ q ≤ 1099511627776) (ho : l.high - 8 < q) (hc : ¬ Came l q) : (takeLn l q).2 = 0 := by
 unfold takeLn
 rw [if_pos (by rw [hg]; simp only [Bool.true_and, decide_eq_true_eq]; exact hq), if_neg (by omega)]
 by_cases hh : l.high < q
 · rw [if_pos hh]
 · rw [if_neg hh, if_neg (fun h => hc ⟨by omega, Or.inr h⟩)]
theorem QhI {l : Lne} {q : Int} (h8 : l.seen.length = 8) (hg : goodLn l = true) (hq : 1 ≤ q ∧ q ≤ 1099511627776) (h : (takeLn l q).2 = 0) (ho : (takeLn l q).1.high - 8 < q) : (takeLn (takeLn l q).1 q).2 = 10 := by
 obtain ⟨_, _, h3⟩ := Qb0 h8 h
 have hg' := Qb4 l q hg
 generalize (takeLn l q).1 = m at *
 unfold takeLn
 rw [if_pos (by rw [hg']; simp only [Bool.true_and, decide_eq_true_eq]; exact hq), if_neg (by omega), if_neg (by have := h3.1; omega)]
 rcases h3.2 with h2 | h2
 · omega
 · rw [if_pos h2]
theorem Qe2 {l : Lne} {q : Int} (h : (takeLn l q).2 = 0) : (takeLn l q).1.high = max l.high q := by
 unfold takeLn at h ⊢
 split at h
 · rename_i hg
   rw [if_pos hg]
   split at h
   · cases h
   · rename_i ho
     rw [if_neg ho]
     split at h
     · rename_i hh
       rw [if_pos hh]
       show q = _
       omega
     · rename_i hh
       rw [if_neg hh]
       split at h
       · cases h
       · rename_i hs
         rw [if_neg hs]
         show l.high = _
         omega
 · cases h
theorem take_only {l : Lne} {q s : Int} (h : Came (takeLn l q).1 s) (ho : (takeLn l q).1.high - 8 < s) : s = q ∨ Came l s := by
 unfold takeLn at h ho
 split at h
 · rename_i hg
   rw [if_pos hg] at ho
   split at h
   · exact Or.inr h
   · rename_i ho1
     rw [if_neg ho1] at ho
     split at h
     · rename_i hh
       rw [if_pos hh] at ho
       obtain ⟨h1, h2⟩ := h
       replace h1 : s ≤ q := h1
       replace ho : q - 8 < s := ho
       rcases h2 with h2 | h2
       · replace h2 : s ≤ q - 8 := h2
         omega
       · replace h2 : ((shiftL (q - l.high).toNat l.seen).set 0 true)[(q - s).toNat]? = some true := h2
         by_cases hs : s = q
         · exact Or.inl hs
         · rw [List.getElem?_set_ne (by omega), Qcn _ _ (by omega)] at h2
           split at h2
           · cases h2
           · right
             refine ⟨by omega, Or.inr ?_⟩
             rw [← h2]
             congr 1
             omega
     · rename_i hh
       rw [if_neg hh] at ho
       split at h
       · exact Or.inr h
       · rename_i hs
         obtain ⟨h1, h2⟩ := h
         replace h1 : s ≤ l.high := h1
         rcases h2 with h2 | h2
         · exact Or.inr ⟨h1, Or.inl h2⟩
         · replace h2 : (l.seen.set (l.high - q).toNat true)[(l.high - s).toNat]? = some true := h2
           rw [List.getElem?_set] at h2
           split at h2
           · left; omega
           · exact Or.inr ⟨h1, Or.inr h2⟩
 · exact Or.inr h
structure Turn (l : Lne) (left : List Int) : Prop where
 good : goodLn l = true
 seen : l.seen.length = 8
 high : l.high ≤ 8
 nums : ∀ n ∈ left, 1 ≤ n ∧ n ≤ 8
 once : left.Nodup
 come : ∀ n, 1 ≤ n → n ≤ 8 → (n ∈ left ↔ ¬ Came l n)
theorem Turn.end {l : Lne} (h : Turn l []) : l.high = 8 := by
 have := (h.come 8 (by omega) (by omega)).2
 have hc : Came l 8 := Classical.byContradiction fun hn => by simpa using this hn
 have := hc.1
 have := h.high
 omega
theorem Turn.ok {l : Lne} {left : List Int} (h : Turn l left) (k : Nat) (hk : k < left.length) : (takeLn l left[k]).2 = 0 ∧ (takeLn (takeLn l left[k]).1 left[k]).2 = 10 := by
 have hm := List.getElem_mem hk
 have hn := h.nums _ hm
 have hh := h.high
 have h0 : (takeLn l left[k]).2 = 0 := Qk1 h.good ⟨by omega, by omega⟩ (by omega) ((h.come _ hn.1 hn.2).1 hm)
 exact ⟨h0, QhI h.seen h.good ⟨by omega, by omega⟩ h0 (by rw [Qe2 h0]; omega)⟩
theorem Turn.step {l : Lne} {left : List Int} (h : Turn l left) (k : Nat) (hk : k < left.length) : Turn (takeLn l left[k]).1 (left.take k ++ left.drop (k + 1)) := by
 have hm := List.getElem_mem hk
 have hn := h.nums _ hm
 have hh := h.high
 have h0 := (h.ok k hk).1
 have hhi := Qe2 h0
 have hsplit : left = left.take k ++ left[k] :: left.drop (k + 1) := by
  rw [← List.drop_eq_getElem_cons hk, List.take_append_drop]
 have hnd := h.once
 rw [hsplit] at hnd
 have hmem : ∀ n, n ∈ left.take k ++ left.drop (k + 1) ↔ n ∈ left ∧ n ≠ left[k] := by
  intro n
  have hd := List.nodup_append.1 hnd
  have hd2 := List.nodup_cons.1 hd.2.1
  constructor
  · intro hx
    rcases List.mem_append.1 hx with hx | hx
    · exact ⟨List.mem_of_mem_take hx, fun e => hd.2.2 n hx (left[k]) List.mem_cons_self e⟩
    · exact ⟨List.mem_of_mem_drop hx, fun e => hd2.1 (e ▸ hx)⟩
  · rintro ⟨hx, hne⟩
    rw [hsplit] at hx
    rcases List.mem_append.1 hx with hx | hx
    · exact List.mem_append.2 (Or.inl hx)
    · rcases List.mem_cons.1 hx with e | hx
      · exact absurd e hne
      · exact List.mem_append.2 (Or.inr hx)
 refine ⟨Qb4 _ _ h.good, take_length _ _ h.seen, by rw [hhi]; omega, fun n hx => h.nums n ((hmem n).1 hx).1, ?_, fun n h1 h2 => ?_⟩
 · have hd := List.nodup_append.1 hnd
   have hd2 := List.nodup_cons.1 hd.2.1
   exact List.nodup_append.2 ⟨hd.1, hd2.2, fun a ha b hb => hd.2.2 a ha b (List.mem_cons_of_mem _ hb)⟩
 · rw [hmem, h.come n h1 h2]
   constructor
   · rintro ⟨hc, hne⟩ hx
     rcases take_only hx (by rw [hhi]; omega) with e | e
     · exact hne e
     · exact hc e
   · intro hc
     refine ⟨fun hx => hc (QcZ h.seen hx), fun e => ?_⟩
     rw [e] at hc
     exact hc (Qb0 h.seen h0).2.2
structure Once (l : Lne) (had : Int → Bool) : Prop where
 seen : l.seen.length = 8
 had : ∀ s, had s = true → goodLn l = true ∧ Came l s
theorem Once.ok {l : Lne} {had : Int → Bool} {q : Int} (h : Once l had) (h0 : (takeLn l q).2 = 0) : had q = false ∧ q ≤ (takeLn l q).1.high := by
 obtain ⟨h1, h2, _⟩ := Qb0 h.seen h0
 refine ⟨?_, h2⟩
 cases e : had q with
 | false => rfl
 | true => exact absurd (h.had q e).2 h1
theorem Once.keep {l : Lne} {had : Int → Bool} {q : Int} (h : Once l had) : Once (takeLn l q).1 had :=
 ⟨take_length _ _ h.seen, fun s hs => ⟨Qb4 _ _ (h.had s hs).1, QcZ h.seen (h.had s hs).2⟩⟩
theorem Qey {l : Lne} {q : Int} (h : (takeLn l q).2 = 0) : goodLn l = true := by
 cases e : goodLn l with
 | true => rfl
 | false => rw [Qk2 l q e] at h; cases h
theorem Once.more {l : Lne} {had : Int → Bool} {q : Int} (h : Once l had) (h0 : (takeLn l q).2 = 0) : Once (takeLn l q).1 (fun s => if s = q then true else had s) := by
 refine ⟨take_length _ _ h.seen, fun s hs => ?_⟩
 by_cases e : s = q
 · subst e
   exact ⟨Qb4 _ _ (Qey h0), (Qb0 h.seen h0).2.2⟩
 · rw [if_neg e] at hs
   exact (h.keep (q := q)).had s hs
structure Tri (l : Lne) (g : Frm) (cnt : Int) (there : Bool) : Prop where
 good : goodLn l = true
 here : there = l.sent.any (fun s => s.f.seq == g.seq)
 same : ∀ s ∈ l.sent, s.f.seq = g.seq → s.f = g ∧ s.tries = cnt
 cnt : 1 ≤ cnt ∧ cnt ≤ 5
theorem QjB {l : Lne} {f : Frm} {now : Int} (h : (sendLn l f now).2.2 = 0) : (sendLn l f now).1 = { l with next := l.next + 1, sent := l.sent ++ [⟨{ f with seq := l.next + 1 }, 1, now + 2⟩] } ∧ (sendLn l f now).2.1 = { f with seq := l.next + 1 } ∧ goodLn l = true ∧ timeB now = true ∧ l.sent.length ≠ 8 ∧ l.next ≠ 1099511627775 := by
 unfold sendLn at h ⊢
 split at h
 · rename_i hg
   rw [if_pos hg]
   rw [Bool.and_eq_true] at hg
   split at h
   · cases h
   · rename_i hn
     rw [if_neg hn]
     exact ⟨rfl, rfl, hg.1, hg.2, fun e => hn (Or.inl e), fun e => hn (Or.inr e)⟩
 · cases h
theorem Qcx {now q : Int} {l : List Snt} (h : ∀ s ∈ l, s.f.seq ≠ q) : (∀ s ∈ l.flatMap (againS now), s.f.seq ≠ q) ∧ ∀ x ∈ l.flatMap (againF now), x.seq ≠ q := by
 constructor
 · intro s hs
   obtain ⟨y, hy, hs⟩ := List.mem_flatMap.1 hs
   unfold againS at hs
   split at hs
   · rw [List.mem_singleton] at hs
     rw [hs]
     exact h y hy
   · split at hs
     · cases hs
     · rw [List.mem_singleton] at hs
       subst hs
       exact h y hy
 · intro x hx
   obtain ⟨y, hy, hs⟩ := List.mem_flatMap.1 hx
   unfold againF at hs
   split at hs
   · cases hs
   · split at hs
     · cases hs
     · rw [List.mem_singleton] at hs
       subst hs
       exact h _ hy
theorem QgA {next : Int} {l : List Snt} {n : Int} (h : rises next n l = true) {s : Snt} (hs : s ∈ l) : ∃ a b, l = a ++ s :: b ∧ (∀ x ∈ a, x.f.seq ≠ s.f.seq) ∧ ∀ x ∈ b, x.f.seq ≠ s.f.seq := by
 induction l generalizing n with
 | nil => cases hs
 | cons y r ih =>
  simp only [rises, Bool.and_eq_true, decide_eq_true_eq] at h
  have hm := QaU h.2
  rcases List.mem_cons.1 hs with e | hs'
  · subst e
    exact ⟨[], r, rfl, ⟨fun x hx => absurd hx (by simp), fun x hx => by have := hm x hx; omega⟩⟩
  · obtain ⟨a, b, e, h1, h2⟩ := ih h.2 hs'
    refine ⟨y :: a, b, by rw [e]; rfl, fun x hx => ?_, h2⟩
    rcases List.mem_cons.1 hx with e' | hx
    · have := hm s hs'
      rw [e']
      omega
    · exact h1 x hx
theorem QbS {q : Int} {l : List Frm} (h : ∀ x ∈ l, x.seq ≠ q) : l.countP (fun x => x.seq == q) = 0 := by
 rw [List.countP_eq_zero]
 intro x hx
 have := h x hx
 simpa using this
theorem Ql8 {q : Int} {l : List Snt} (h : ∀ x ∈ l, x.f.seq ≠ q) : l.any (fun s => s.f.seq == q) = false := by
 rw [List.any_eq_false]
 intro x hx
 have := h x hx
 simpa using this
theorem Qi8 {l : Lne} {now : Int} (hg : goodLn l = true) (h0 : 0 ≤ now) (h1 : now ≤ 1099511627776) : goodLn { l with sent := l.sent.flatMap (againS now) } = true := by
 have hh := Qaw hg
 rw [Q5] at hh
 unfold goodLn
 rw [Bool.and_eq_true, Q5]
 exact ⟨⟨hh.1, hh.2.1, hh.2.2.1, hh.2.2.2.1, Nat.le_trans (QbB now l.sent) hh.2.2.2.2⟩, Qdl h0 h1 (QaB hg)⟩
theorem Tri.step {l : Lne} {g : Frm} {cnt : Int} {there : Bool} {now : Int} (h : Tri l g cnt there) (h0 : 0 ≤ now) (h1 : now ≤ 1099511627776) :
 (∀ x ∈ l.sent.flatMap (againF now), x.seq = g.seq → x = g ∧ there = true) ∧
  Tri { l with sent := l.sent.flatMap (againS now) } g (cnt + (l.sent.flatMap (againF now)).countP (fun x => x.seq == g.seq)) ((l.sent.flatMap (againS now)).any (fun s => s.f.seq == g.seq)) := by
 have hg := Qi8 h.good h0 h1
 have hr := QaB h.good
 by_cases hx : ∃ s ∈ l.sent, s.f.seq = g.seq
 · obtain ⟨s, hs, he⟩ := hx
   obtain ⟨hf, ht⟩ := h.same s hs he
   have htr := (QaU hr s hs).2.2
   simp only [triesB, decide_eq_true_eq] at htr
   have hth : there = true := by
    rw [h.here, List.any_eq_true]
    exact ⟨s, hs, by simp [he]⟩
   obtain ⟨a, b, e, ha, hb⟩ := QgA hr hs
   rw [he] at ha hb
   obtain ⟨a1, a2⟩ := Qcx (now := now) ha
   obtain ⟨b1, b2⟩ := Qcx (now := now) hb
   have eS : l.sent.flatMap (againS now) = a.flatMap (againS now) ++ (againS now s ++ b.flatMap (againS now)) := by rw [e]; simp
   have eF : l.sent.flatMap (againF now) = a.flatMap (againF now) ++ (againF now s ++ b.flatMap (againF now)) := by rw [e]; simp
   have hcnt : (l.sent.flatMap (againF now)).countP (fun x => x.seq == g.seq) = (againF now s).countP (fun x => x.seq == g.seq) := by
    rw [eF, List.countP_append, List.countP_append, QbS a2, QbS b2]
    omega
   have hall : ∀ y ∈ l.sent.flatMap (againS now), y.f.seq = g.seq → y ∈ againS now s := by
    intro y hy hq
    rw [eS] at hy
    rcases List.mem_append.1 hy with hy | hy
    · exact absurd hq (a1 y hy)
    · rcases List.mem_append.1 hy with hy | hy
      · exact hy
      · exact absurd hq (b1 y hy)
   refine ⟨fun x hx hq => ?_, hg, rfl, ?_, ?_⟩
   · rw [eF] at hx
     rcases List.mem_append.1 hx with hx | hx
     · exact absurd hq (a2 x hx)
     · rcases List.mem_append.1 hx with hx | hx
       · unfold againF at hx
         split at hx
         · cases hx
         · split at hx
           · cases hx
           · rw [List.mem_singleton] at hx
             subst hx
             exact ⟨hf, hth⟩
       · exact absurd hq (b2 x hx)
   · intro y hy hq
     have hy' := hall y hy hq
     rw [hcnt]
     unfold againS at hy'
     unfold againF
     split at hy'
     · rename_i hd
       rw [List.mem_singleton] at hy'
       subst hy'
       rw [if_pos hd]
       exact ⟨hf, by simp [ht]⟩
     · rename_i hd
       split at hy'
       · cases hy'
       · rename_i h5
         rw [List.mem_singleton] at hy'
         subst hy'
         rw [if_neg hd, if_neg h5]
         exact ⟨hf, by simp [ht, he]⟩
   · rw [hcnt]
     unfold againF
     split
     · simpa using h.cnt
     · split
       · simpa using h.cnt
       · rename_i h5
         have := h.cnt
         simp only [List.countP_cons, List.countP_nil, he, beq_self_eq_true, if_true]
         omega
 · have hn : ∀ s ∈ l.sent, s.f.seq ≠ g.seq := fun s hs he => hx ⟨s, hs, he⟩
   obtain ⟨a1, a2⟩ := Qcx (now := now) hn
   refine ⟨fun x hx hq => absurd hq (a2 x hx), hg, rfl, fun y hy hq => absurd hq (a1 y hy), ?_⟩
   rw [QbS a2]
   simpa using h.cnt
theorem Tri.end {l : Lne} {g : Frm} {cnt : Int} {there : Bool} (h : Tri l g cnt there) : (decide ((ansLn l g.seq).2 = 0) = there) ∧ ∀ s ∈ (ansLn l g.seq).1.sent, s.f.seq ≠ g.seq := by
 unfold ansLn
 rw [if_pos h.good]
 split
 · rename_i ha
   have hn : ∀ s ∈ l.sent, s.f.seq ≠ g.seq := fun s hs => by simpa using List.all_eq_true.1 ha s hs
   exact ⟨by rw [h.here, Ql8 hn]; rfl, hn⟩
 · rename_i ha
   refine ⟨?_, fun s hs => ?_⟩
   · rw [h.here]
     symm
     cases e : l.sent.any (fun s => s.f.seq == g.seq) with
     | true => rfl
     | false =>
      exfalso
      apply ha
      rw [List.all_eq_true]
      intro s hs
      have := List.any_eq_false.1 e s hs
      simpa using this
   · simpa using (List.mem_filter.1 hs).2
def SendA (a : Ac) (r : Rep) : Prop := a.kind = 1 ∧ a.call.kind = 6 ∧ r.code = 0
structure AgainR (C D : Clu) : Prop where
 head : ∀ a b, (D.lines a b).next = (C.lines a b).next ∧ (D.lines a b).high = (C.lines a b).high ∧ (D.lines a b).seen = (C.lines a b).seen
 sent : ∀ a b, ∀ s ∈ (D.lines a b).sent, ∃ s' ∈ (C.lines a b).sent, s.f = s'.f
 net : ∀ s ∈ D.net, s ∈ C.net ∨ ∃ a b, ∃ s' ∈ (C.lines a b).sent, s = encL s'.f ∧ frameE s'.f = 0
theorem AgainR.refl (C : Clu) : AgainR C C := ⟨fun _ _ => ⟨rfl, rfl, rfl⟩, fun _ _ s h => ⟨s, h, rfl⟩, fun _ h => .inl h⟩
theorem AgainR.trans {A B C : Clu} (h : AgainR A B) (k : AgainR B C) : AgainR A C := by
 refine ⟨fun a b => ⟨(k.head a b).1.trans (h.head a b).1, (k.head a b).2.1.trans (h.head a b).2.1, (k.head a b).2.2.trans (h.head a b).2.2⟩, fun a b s hs => ?_, fun s hs => ?_⟩
 · obtain ⟨s1, h1, e1⟩ := k.sent a b s hs
   obtain ⟨s2, h2, e2⟩ := h.sent a b s1 h1
   exact ⟨s2, h2, e1.trans e2⟩
 · rcases k.net s hs with e | ⟨a, b, s1, h1, e1, e3⟩
   · exact h.net s e
   · obtain ⟨s2, h2, e2⟩ := h.sent a b s1 h1
     exact .inr ⟨a, b, s2, h2, by rw [e1, e2], by rw [← e2]; exact e3⟩
theorem QhV {C0 C : Clu} (h : AgainR C0 C) {f : Frm} (hf : ∃ a b, ∃ s ∈ (C0.lines a b).sent, f = s.f) : AgainR C0 (putC C f) := by
 unfold putC
 split
 · rename_i h1
   refine ⟨h.head, h.sent, fun s hs => ?_⟩
   rcases List.mem_append.1 hs with e | e
   · exact h.net s e
   · obtain ⟨a, b, s', h2, h3⟩ := hf
     exact .inr ⟨a, b, s', h2, by rw [List.mem_singleton.1 e, h3], by rw [← h3]; exact h1.1⟩
 · exact h
theorem QbD {C0 : Clu} : ∀ (l : List Frm) {C : Clu} (_ : AgainR C0 C) (_ : ∀ f ∈ l, ∃ a b, ∃ s ∈ (C0.lines a b).sent, f = s.f), AgainR C0 (l.foldl putC C)
 | [], _, h, _ => h
 | f :: r, _, h, hl => QbD r (QhV h (hl f (by simp))) (fun g hg => hl g (List.mem_cons_of_mem _ hg))
theorem Qi7 (l : Lne) (now : Int) : (againLn l now).1.next = l.next ∧ (againLn l now).1.high = l.high ∧ (againLn l now).1.seen = l.seen := by
 unfold againLn
 split <;> exact ⟨rfl, rfl, rfl⟩
theorem Qf4 (C : Clu) (a b : Int) : AgainR C (againC C a b).1 := by
 unfold againC
 obtain ⟨h1, h2⟩ := Qi6 (lineC C a b) C.now
 obtain ⟨g1, g2, g3⟩ := Qi7 (lineC C a b) C.now
 refine QbD _ ⟨fun x y => ?_, fun x y => ?_, fun s hs => .inl hs⟩ fun f hf => ?_
 · show (if x = a.toNat ∧ y = b.toNat then (againLn (lineC C a b) C.now).1 else C.lines x y).next = _ ∧ (if x = a.toNat ∧ y = b.toNat then (againLn (lineC C a b) C.now).1 else C.lines x y).high = _ ∧ (if x = a.toNat ∧ y = b.toNat then (againLn (lineC C a b) C.now).1 else C.lines x y).seen = _
   split
   · rename_i e
     rw [e.1, e.2]; exact ⟨g1, g2, g3⟩
   · exact ⟨rfl, rfl, rfl⟩
 · show ∀ s ∈ (if x = a.toNat ∧ y = b.toNat then (againLn (lineC C a b) C.now).1 else C.lines x y).sent, _
   split
   · rename_i e
     rw [e.1, e.2]; exact h1
   · exact fun s hs => ⟨s, hs, rfl⟩
 · obtain ⟨s', e1, e2⟩ := h2 f hf
   exact ⟨a.toNat, b.toNat, s', e1, e2⟩
theorem Qbg : ∀ (l : List (Int × Int)) (s : Clu × Nat), AgainR s.1 (l.foldl (fun (s : Clu × Nat) ab => ((againC s.1 ab.1 ab.2).1, s.2 + (againC s.1 ab.1 ab.2).2)) s).1
 | [], _ => AgainR.refl _
 | x :: r, s => by
  rw [List.foldl_cons]
  exact (Qf4 s.1 x.1 x.2).trans (Qbg r ((againC s.1 x.1 x.2).1, s.2 + (againC s.1 x.1 x.2).2))
def QuietM (C D : Clu) : Prop := D.lines = C.lines ∧ (∀ s ∈ D.net, s ∈ C.net) ∧ ∀ (g : Nat), g < 4 → ∀ t, ∃ k, (thrOf (D.ks g) t).mails = (thrOf (C.ks g) t).mails.drop k
def HereM (C D : Clu) (a : Ac) (r : Rep) : Prop := ∃ m : Mal, SendA a r ∧ hostB a.h = true ∧ a.call.h = a.h ∧ m.host = (kerC C a.h).host ∧ D.lines = C.lines ∧ (∀ s ∈ D.net, s ∈ C.net) ∧ D.ks = (setK C a.h (deliverL (kerC C a.h) a.call.t m)).ks
def AwayM (C D : Clu) (a : Ac) (r : Rep) : Prop := ∃ (f : Frm) (x : Snt), SendA a r ∧ hostB a.h = true ∧ hostB a.call.h = true ∧ a.call.h ≠ a.h ∧ f.fr = a.h ∧ f.to = a.call.h ∧ f.thread = a.call.t ∧ f.ack = false ∧ f.seq = (lineC C a.h a.call.h).next + 1 ∧ x.f = f ∧ D.ks = C.ks ∧ D.lines = (setLi C a.h a.call.h { lineC C a.h a.call.h with next := (lineC C a.h a.call.h).next + 1, sent := (lineC C a.h a.call.h).sent ++ [x] }).lines ∧ ∀ s ∈ D.net, s ∈ C.net ∨ (s = encL f ∧ frameE f = 0)
def AckM (C D : Clu) : Prop := ∃ f : Frm, D.ks = C.ks ∧ D.lines = (setLi C f.to f.fr (ansLn (lineC C f.to f.fr) f.seq).1).lines ∧ ∀ s ∈ D.net, s ∈ C.net
def ComeM (C D : Clu) : Prop := ∃ (f : Frm) (s : List UInt8), s ∈ C.net ∧ decL s = (f, 0) ∧ frameE f = 0 ∧ f.ack = false ∧ D.lines = (setLi C f.fr f.to (takeLn (lineC C f.fr f.to) f.seq).1).lines ∧ (∀ s ∈ D.net, s ∈ C.net ∨ ∃ g, g.ack = true ∧ frameE g = 0 ∧ s = encL g) ∧ (D.ks = C.ks ∨ ((takeLn (lineC C f.fr f.to) f.seq).2 = 0 ∧ D.ks = (setK C f.to (deliverL (kerC C f.to) f.thread f.mail)).ks))
def JMove (C D : Clu) (a : Ac) (r : Rep) : Prop := QuietM C D ∨ HereM C D a r ∨ AwayM C D a r ∨ AckM C D ∨ ComeM C D ∨ (D.ks = C.ks ∧ AgainR C D)
theorem QuietM.same {C D : Clu} (h1 : D.lines = C.lines) (h2 : ∀ s ∈ D.net, s ∈ C.net) (h3 : D.ks = C.ks) : QuietM C D := ⟨h1, h2, fun g _ t => ⟨0, by rw [h3]; rfl⟩⟩
theorem Qdg (C : Clu) (h : Int) (x : Crt) : (addC C h x).1.lines = C.lines ∧ (addC C h x).1.net = C.net := by unfold addC; split <;> exact ⟨rfl, rfl⟩
theorem Qd6 : ∀ (l : List Crt) (C : Clu) (h : Int), (takeC C h l).lines = C.lines ∧ (takeC C h l).net = C.net
 | [], _, _ => ⟨rfl, rfl⟩
 | x :: r, C, h => by
  have h1 := Qd6 r (addC C h x).1 h
  have h2 := Qdg C h x
  exact ⟨h1.1.trans h2.1, h1.2.trans h2.2⟩
theorem Qfb (C : Clu) (f : Frm) : (putC C f).ks = C.ks ∧ (putC C f).lines = C.lines ∧ ∀ s ∈ (putC C f).net, s ∈ C.net ∨ (s = encL f ∧ frameE f = 0) := by
 unfold putC
 split
 · rename_i h1
   refine ⟨rfl, rfl, fun s hs => ?_⟩
   rcases List.mem_append.1 hs with e | e
   · exact .inl e
   · exact .inr ⟨List.mem_singleton.1 e, h1.1⟩
 · exact ⟨rfl, rfl, fun _ h => .inl h⟩
theorem Qkj {C : Clu} (hg : GoodC C) (a : Ac) : JMove C (doC C a).1 a (doC C a).2 := by
 unfold doC
 by_cases h3 : 300 ≤ C.acts
 · rw [if_pos h3]; exact .inl (.same rfl (fun _ h => h) rfl)
 rw [if_neg h3]
 dsimp only
 by_cases k1 : a.kind = 1
 · rw [if_pos k1]
   unfold callC
   by_cases h4 : (hostB a.h && hostB a.t) = true
   · rw [if_pos h4]
     rw [Bool.and_eq_true] at h4
     have hh : 0 ≤ a.h ∧ a.h < 4 := of_decide_eq_true h4.1
     have ht : 0 ≤ a.t ∧ a.t < 4 := of_decide_eq_true h4.2
     by_cases k6 : a.call.kind = 6
     · rw [if_pos k6]
       unfold sendC
       by_cases g1 : 64 < a.call.text.length
       · rw [if_pos g1]; exact .inl (.same rfl (fun _ h => h) rfl)
       rw [if_neg g1]
       by_cases g2 : (hostB a.call.h && hostB a.call.t) = true
       · rw [if_pos g2]
         rw [Bool.and_eq_true] at g2
         by_cases g3 : (letterL (kerC { C with acts := C.acts + 1 } a.h) a.t a.call).2 = 0
         · rw [if_pos g3]
           by_cases g4 : a.call.h = a.h
           · rw [if_pos g4]
             exact .inr (.inl ⟨(letterL (kerC C a.h) a.t a.call).1, ⟨k1, k6, rfl⟩, h4.1, g4, QcI (c := a.call) (t := a.t) (Prod.ext rfl g3), rfl, fun _ h => h, rfl⟩)
           · rw [if_neg g4]
             unfold awayC
             split
             · dsimp only
               split
               · rename_i h5
                 obtain ⟨e1, e2, _⟩ := QjB h5
                 obtain ⟨q1, q2, q3⟩ := Qfb (setLi { C with acts := C.acts + 1 } a.h a.call.h (sendLn (lineC { C with acts := C.acts + 1 } a.h a.call.h) ⟨a.h, a.call.h, 0, false, a.call.t, (letterL (kerC { C with acts := C.acts + 1 } a.h) a.t a.call).1, showL (crtC { C with acts := C.acts + 1 } a.h) (letterL (kerC { C with acts := C.acts + 1 } a.h) a.t a.call).1⟩ C.now).1) (sendLn (lineC { C with acts := C.acts + 1 } a.h a.call.h) ⟨a.h, a.call.h, 0, false, a.call.t, (letterL (kerC { C with acts := C.acts + 1 } a.h) a.t a.call).1, showL (crtC { C with acts := C.acts + 1 } a.h) (letterL (kerC { C with acts := C.acts + 1 } a.h) a.t a.call).1⟩ C.now).2.1
                 refine .inr (.inr (.inl ⟨_, _, ⟨k1, k6, rfl⟩, h4.1, g2.1, g4, ?_, ?_, ?_, ?_, ?_, ?_, q1.trans rfl, q2.trans (by rw [e1]; rfl), q3⟩))
                 all_goals first | rfl | (rw [e2]; done) | rw [e2]
                 all_goals rfl
               · exact .inl (.same rfl (fun _ h => h) rfl)
             · exact .inl (.same rfl (fun _ h => h) rfl)
         · rw [if_neg g3]; exact .inl (.same rfl (fun _ h => h) rfl)
       · rw [if_neg g2]; exact .inl (.same rfl (fun _ h => h) rfl)
     · rw [if_neg k6]
       by_cases k8 : a.call.kind = 8
       · rw [if_pos k8]
         left
         unfold certifyC
         split
         · split
           · exact .same (Qdg _ _ _).1 (fun s hs => by rw [show (_ : Clu).net = _ from (Qdg _ _ _).2] at hs; exact hs) (Qfz _ _ _).1
           · exact .same rfl (fun _ h => h) rfl
         · exact .same rfl (fun _ h => h) rfl
       · rw [if_neg k8]
         refine .inl ⟨rfl, fun _ h => h, fun g hg4 t => ?_⟩
         show ∃ k, (thrOf (if g = a.h.toNat then (callL (C.ks a.h.toNat) a.t a.call).1 else C.ks g) t).mails = _
         split
         · rename_i e
           have hn : a.t.toNat < (C.ks g).ths.length := by rw [(hg.ks g hg4).four]; omega
           have := Qdx hn a.call t
           rw [show ((a.t.toNat : Nat) : Int) = a.t by omega] at this
           rw [← e]; exact this
         · exact ⟨0, rfl⟩
   · rw [if_neg h4]; exact .inl (.same rfl (fun _ h => h) rfl)
 · rw [if_neg k1]
   by_cases k2 : a.kind = 2 ∨ a.kind = 3 ∨ a.kind = 4
   · rw [if_pos k2]
     unfold moveC
     by_cases h5 : 0 ≤ a.n ∧ a.n < ((C.net.length : Nat) : Int)
     · rw [if_pos h5]
       dsimp only
       have hmem : C.net.getD a.n.toNat [] ∈ C.net := by
        rw [List.getD_eq_getElem?_getD, List.getElem?_eq_getElem (by omega)]
        exact List.getElem_mem _
       generalize C.net.getD a.n.toNat [] = s at *
       have hD : ∀ (b : Prop) [Decidable b], (if b then ({ C with acts := C.acts + 1 } : Clu) else { C with acts := C.acts + 1, net := C.net.take a.n.toNat ++ C.net.drop (a.n.toNat + 1) }).ks = C.ks ∧ (if b then ({ C with acts := C.acts + 1 } : Clu) else { C with acts := C.acts + 1, net := C.net.take a.n.toNat ++ C.net.drop (a.n.toNat + 1) }).lines = C.lines ∧ ∀ s ∈ (if b then ({ C with acts := C.acts + 1 } : Clu) else { C with acts := C.acts + 1, net := C.net.take a.n.toNat ++ C.net.drop (a.n.toNat + 1) }).net, s ∈ C.net := fun b _ => by
        split
        · exact ⟨rfl, rfl, fun _ h => h⟩
        · refine ⟨rfl, rfl, fun s hs => ?_⟩
          rcases List.mem_append.1 hs with e | e
          · exact List.mem_of_mem_take e
          · exact List.mem_of_mem_drop e
       by_cases k4 : a.kind = 4
       · rw [if_pos k4]
         obtain ⟨q1, q2, q3⟩ := hD (a.kind = 3)
         exact .inl (.same q2 q3 q1)
       · rw [if_neg k4]
         have hD0 := hD (a.kind = 3)
         generalize (if a.kind = 3 then ({ C with acts := C.acts + 1 } : Clu) else { C with acts := C.acts + 1, net := C.net.take a.n.toNat ++ C.net.drop (a.n.toNat + 1) }) = D0 at *
         obtain ⟨q1, q2, q3⟩ := hD0
         have hlin : ∀ x y, lineC D0 x y = lineC C x y := fun x y => by unfold lineC; rw [q2]
         have hset : ∀ x y l, (setLi D0 x y l).lines = (setLi C x y l).lines := fun x y l => by unfold setLi; simp only [q2]
         unfold comeC
         by_cases h6 : (decL s).2 = 0
         · rw [if_pos h6]
           dsimp only
           have hfe := Qcc h6
           have hds : decL s = ((decL s).1, 0) := Prod.ext rfl h6
           generalize (decL s).1 = f at *
           by_cases hk : f.ack = true
           · rw [if_pos hk]
             refine .inr (.inr (.inr (.inl ⟨f, q1, ?_, q3⟩)))
             rw [hset, hlin]
           · rw [if_neg hk]
             have hE : ∀ (b : Prop) [Decidable b], (if b then putC (setLi D0 f.fr f.to (takeLn (lineC D0 f.fr f.to) f.seq).1) ⟨f.to, f.fr, f.seq, true, 0, zeroMal, []⟩ else setLi D0 f.fr f.to (takeLn (lineC D0 f.fr f.to) f.seq).1).ks = C.ks ∧ (if b then putC (setLi D0 f.fr f.to (takeLn (lineC D0 f.fr f.to) f.seq).1) ⟨f.to, f.fr, f.seq, true, 0, zeroMal, []⟩ else setLi D0 f.fr f.to (takeLn (lineC D0 f.fr f.to) f.seq).1).lines = (setLi C f.fr f.to (takeLn (lineC C f.fr f.to) f.seq).1).lines ∧ ∀ s ∈ (if b then putC (setLi D0 f.fr f.to (takeLn (lineC D0 f.fr f.to) f.seq).1) ⟨f.to, f.fr, f.seq, true, 0, zeroMal, []⟩ else setLi D0 f.fr f.to (takeLn (lineC D0 f.fr f.to) f.seq).1).net, s ∈ C.net ∨ ∃ g, g.ack = true ∧ frameE g = 0 ∧ s = encL g := fun b _ => by
              split
              · obtain ⟨p1, p2, p3⟩ := Qfb (setLi D0 f.fr f.to (takeLn (lineC D0 f.fr f.to) f.seq).1) ⟨f.to, f.fr, f.seq, true, 0, zeroMal, []⟩
                refine ⟨p1.trans q1, p2.trans (by rw [hset, hlin]), fun x hx => ?_⟩
                rcases p3 x hx with e | ⟨e, e2⟩
                · exact .inl (q3 x e)
                · exact .inr ⟨_, rfl, e2, e⟩
              · exact ⟨q1, by rw [hset, hlin], fun x hx => .inl (q3 x hx)⟩
             have hE0 := hE ((takeLn (lineC D0 f.fr f.to) f.seq).2 = 0 ∨ (takeLn (lineC D0 f.fr f.to) f.seq).2 = 10)
             rw [hlin] at hE0 ⊢
             generalize (if (takeLn (lineC C f.fr f.to) f.seq).2 = 0 ∨ (takeLn (lineC C f.fr f.to) f.seq).2 = 10 then putC (setLi D0 f.fr f.to (takeLn (lineC C f.fr f.to) f.seq).1) ⟨f.to, f.fr, f.seq, true, 0, zeroMal, []⟩ else setLi D0 f.fr f.to (takeLn (lineC C f.fr f.to) f.seq).1) = E at *
             obtain ⟨p1, p2, p3⟩ := hE0
             refine .inr (.inr (.inr (.inr (.inl ⟨f, s, hmem, hds, hfe, by simpa using hk, ?_⟩))))
             by_cases h7 : (takeLn (lineC C f.fr f.to) f.seq).2 = 0
             · rw [if_pos h7]
               unfold acceptC
               dsimp only
               have hTk := QdP f.certs E f.to
               have hTs := Qd6 f.certs E f.to
               generalize takeC E f.to f.certs = T at *
               split
               · refine ⟨hTs.1.trans p2, fun x hx => p3 x (by rw [show (setK T _ _).net = E.net from hTs.2] at hx; exact hx), .inr ⟨h7, ?_⟩⟩
                 unfold setK kerC
                 simp only [hTk.1, p1]
               · exact ⟨hTs.1.trans p2, fun x hx => p3 x (by rw [hTs.2] at hx; exact hx), .inl (hTk.1.trans p1)⟩
             · rw [if_neg h7]
               exact ⟨p2, p3, .inl p1⟩
         · rw [if_neg h6]
           exact .inl (.same q2 q3 q1)
     · rw [if_neg h5]; exact .inl (.same rfl (fun _ h => h) rfl)
   · rw [if_neg k2]
     by_cases k5 : a.kind = 5
     · rw [if_pos k5]
       refine .inr (.inr (.inr (.inr (.inr ⟨Qf9 _ _, ?_⟩))))
       unfold tickC
       split
       · dsimp only
         have := Qbg ([0, 1, 2, 3].flatMap fun a => [0, 1, 2, 3].map fun b => ((a : Int), (b : Int))) (({ C with acts := C.acts + 1, now := C.now + a.n } : Clu), 0)
         exact ⟨this.head, this.sent, this.net⟩
       · exact ⟨(AgainR.refl C).head, (AgainR.refl C).sent, (AgainR.refl C).net⟩
     · rw [if_neg k5]; exact .inl (.same rfl (fun _ h => h) rfl)
def cnt (n : Nat) (p : Int → Bool) : Nat := (List.range n).countP fun (i : Nat) => p ((i : Int) + 1)
theorem Qbm (n : Nat) (p : Int → Bool) : cnt (n + 1) p = cnt n p + if p ((n : Int) + 1) = true then 1 else 0 := by
 unfold cnt
 rw [List.range_succ, List.countP_append, List.countP_singleton]
theorem QcV {n : Nat} {p q : Int → Bool} (h : ∀ s : Int, 1 ≤ s → s ≤ n → p s = true → q s = true) : cnt n p ≤ cnt n q := by
 induction n with
 | zero => exact Nat.le_refl _
 | succ n ih =>
  rw [Qbm, Qbm]
  have h1 := ih (fun s h0 h1 => h s h0 (by omega))
  by_cases e : p ((n : Int) + 1) = true
  · rw [if_pos e, if_pos (h _ (by omega) (by omega) e)]; omega
  · rw [if_neg e]
    split <;> omega
theorem Qku {n m : Nat} (h : n ≤ m) (p : Int → Bool) : cnt n p ≤ cnt m p := by
 induction h with
 | refl => exact Nat.le_refl _
 | step _ ih => rw [Qbm]; omega
theorem Ql1 {n : Nat} {p q : Int → Bool} {x : Int} (h : ∀ s : Int, 1 ≤ s → s ≤ n → p s = true → q s = true) (h1 : 1 ≤ x) (h2 : x ≤ n) (hp : p x = false) (hq : q x = true) : cnt n p + 1 ≤ cnt n q := by
 induction n with
 | zero => omega
 | succ n ih =>
  rw [Qbm, Qbm]
  by_cases e : x = (n : Int) + 1
  · have := QcV (n := n) (p := p) (q := q) (fun s h0 h1 => h s h0 (by omega))
    rw [← e, hp, hq]
    simp
    omega
  · have := ih (fun s h0 h1 => h s h0 (by omega)) (by omega)
    by_cases g : p ((n : Int) + 1) = true
    · rw [if_pos g, if_pos (h _ (by omega) (by omega) g)]; omega
    · rw [if_neg g]
      split <;> omega
def FOk (C : Clu) (T : Nat → Nat → Int → Int) (f : Frm) : Prop := 1 ≤ f.seq ∧ f.seq ≤ (C.lines f.fr.toNat f.to.toNat).next ∧ f.thread = T f.fr.toNat f.to.toNat f.seq
structure OnC (C : Clu) (T : Nat → Nat → Int → Int) (had : Nat → Nat → Int → Bool) (snt cam : Nat → Nat → Nat → Nat) : Prop where
 seen : ∀ a b, (C.lines a b).seen.length = 8
 hadc : ∀ a b s, had a b s = true → Came (C.lines a b) s
 next : ∀ a b, 0 ≤ (C.lines a b).next
 net : ∀ s ∈ C.net, ∃ f, frameE f = 0 ∧ s = encL f ∧ (f.ack = false → FOk C T f)
 sent : ∀ a b : Nat, ∀ s ∈ (C.lines a b).sent, s.f.fr = (a : Int) ∧ s.f.to = (b : Int) ∧ FOk C T s.f
 up : ∀ a b t : Nat, a ≠ b → cnt (C.lines a b).next.toNat (fun s => decide (T a b s = (t : Int))) ≤ snt a b t
 down : ∀ a b t : Nat, b < 4 → a ≠ b → cam a b t ≤ cnt (C.lines a b).next.toNat (fun s => had a b s && decide (T a b s = (t : Int)))
 here : ∀ a t : Nat, a < 4 → cam a a t ≤ snt a a t
theorem OnC.le {C : Clu} {T : Nat → Nat → Int → Int} {had : Nat → Nat → Int → Bool} {snt cam : Nat → Nat → Nat → Nat} (h : OnC C T had snt cam) (a b t : Nat) (hb : b < 4) : cam a b t ≤ snt a b t := by
 by_cases e : a = b
 · subst e; exact h.here a t hb
 · refine Nat.le_trans (h.down a b t hb e) (Nat.le_trans (QcV fun s _ _ hs => ?_) (h.up a b t e))
   rw [Bool.and_eq_true] at hs
   exact hs.2
def grew (C D : Clu) (h t : Nat) : Prop := (thrOf (C.ks h) t).mails.length < (thrOf (D.ks h) t).mails.length
instance (C D : Clu) (h t : Nat) : Decidable (grew C D h t) := by unfold grew; infer_instance
def lastM (D : Clu) (h t : Nat) : Mal := (thrOf (D.ks h) t).mails.getLastD zeroMal
def camN (C D : Clu) (cam : Nat → Nat → Nat → Nat) : Nat → Nat → Nat → Nat := fun a h t => if grew C D h t ∧ (lastM D h t).host = (a : Int) then cam a h t + 1 else cam a h t
instance (a : Ac) (r : Rep) : Decidable (SendA a r) := by unfold SendA; infer_instance
def sntN (a : Ac) (r : Rep) (snt : Nat → Nat → Nat → Nat) : Nat → Nat → Nat → Nat := fun x y t => if SendA a r ∧ (x : Int) = a.h ∧ (y : Int) = a.call.h ∧ (t : Int) = a.call.t then snt x y t + 1 else snt x y t
theorem Qam (a : Ac) (r : Rep) (snt : Nat → Nat → Nat → Nat) (x y t : Nat) : snt x y t ≤ sntN a r snt x y t := by unfold sntN; split <;> omega
theorem Qah {C D : Clu} {cam : Nat → Nat → Nat → Nat} {a h t : Nat} (hk : ¬ grew C D h t) : camN C D cam a h t = cam a h t := by unfold camN; rw [if_neg (fun e => hk e.1)]
theorem QaM {C D : Clu} (hk : D.ks = C.ks) (h t : Nat) : ¬ grew C D h t := by unfold grew; rw [hk]; omega
theorem Qeg {D : Clu} {h t : Nat} {l : List Mal} {m : Mal} (e : (thrOf (D.ks h) t).mails = l ++ [m]) : lastM D h t = m := by
 unfold lastM
 rw [e, List.getLastD_eq_getLast?, List.getLast?_append]
 rfl
theorem QaR {C D : Clu} {x t' : Int} {m : Mal} (hx : hostB x = true) (hk : D.ks = (setK C x (deliverL (kerC C x) t' m)).ks) {h t : Nat} (hg : grew C D h t) : (h : Int) = x ∧ (t : Int) = t' ∧ lastM D h t = m ∧ (thrOf (D.ks h) t).mails = (thrOf (C.ks h) t).mails ++ [m] := by
 have x4 : 0 ≤ x ∧ x < 4 := of_decide_eq_true hx
 have e : D.ks h = if h = x.toNat then deliverL (kerC C x) t' m else C.ks h := by rw [hk]; rfl
 by_cases h1 : h = x.toNat
 · rw [if_pos h1] at e
   rcases deliverL_mails (kerC C x) t' m t with q | ⟨q1, _, _, _, q⟩
   · refine absurd hg ?_
     unfold grew
     rw [e, q, h1]
     exact Nat.lt_irrefl _
   · have hm : (thrOf (D.ks h) t).mails = (thrOf (C.ks h) t).mails ++ [m] := by rw [e, q, h1]; rfl
     exact ⟨by omega, q1, Qeg hm, hm⟩
 · rw [if_neg h1] at e
   refine absurd hg ?_
   unfold grew
   rw [e]
   exact Nat.lt_irrefl _
section
variable {C D : Clu} {T : Nat → Nat → Int → Int} {had : Nat → Nat → Int → Bool} {snt cam : Nat → Nat → Nat → Nat} {a : Ac} {r : Rep}
theorem FOk.lines (h : D.lines = C.lines) {f : Frm} (hf : FOk C T f) : FOk D T f := by unfold FOk at hf ⊢; rw [h]; exact hf
theorem FOk.next (h : ∀ a b, (D.lines a b).next = (C.lines a b).next) {f : Frm} (hf : FOk C T f) : FOk D T f := by unfold FOk at hf ⊢; rw [h]; exact hf
theorem QkV {g : Frm} (h : g.ack = true) : g.ack = false → FOk D T g := fun e => by rw [h] at e; cases e
theorem OnC.heads (h : OnC C T had snt cam) (h1 : ∀ a b, (D.lines a b).next = (C.lines a b).next ∧ (D.lines a b).high = (C.lines a b).high ∧ (D.lines a b).seen = (C.lines a b).seen) (h2 : ∀ a b, ∀ s ∈ (D.lines a b).sent, ∃ s' ∈ (C.lines a b).sent, s.f = s'.f)
 (h3 : ∀ s ∈ D.net, s ∈ C.net ∨ (∃ g, g.ack = true ∧ frameE g = 0 ∧ s = encL g) ∨ ∃ a b, ∃ s' ∈ (C.lines a b).sent, s = encL s'.f ∧ frameE s'.f = 0) {snt' cam' : Nat → Nat → Nat → Nat} (h4 : ∀ a b t, snt a b t ≤ snt' a b t) (h5 : ∀ a b t, b < 4 → a ≠ b → cam' a b t ≤ cam a b t) (h6 : ∀ a t, a < 4 → cam' a a t ≤ snt' a a t) : OnC D T had snt' cam' := by
 refine ⟨fun a b => by rw [(h1 a b).2.2]; exact h.seen a b, fun a b s hs => ?_, fun a b => by rw [(h1 a b).1]; exact h.next a b, fun s hs => ?_, fun a b s hs => ?_, fun a b t hn => ?_, fun a b t hb hn => ?_, h6⟩
 · have := h.hadc a b s hs
   unfold Came at this ⊢
   rw [(h1 a b).2.1, (h1 a b).2.2]; exact this
 · rcases h3 s hs with e | ⟨g, g1, g2, g3⟩ | ⟨x, y, s', e1, e2, e3⟩
   · obtain ⟨f, f1, f2, f3⟩ := h.net s e
     exact ⟨f, f1, f2, fun e => (f3 e).next fun a b => (h1 a b).1⟩
   · exact ⟨g, g2, g3, QkV g1⟩
   · exact ⟨s'.f, e3, e2, fun _ => (h.sent x y s' e1).2.2.next fun a b => (h1 a b).1⟩
 · obtain ⟨s', e1, e2⟩ := h2 a b s hs
   rw [e2]
   exact ⟨(h.sent a b s' e1).1, (h.sent a b s' e1).2.1, (h.sent a b s' e1).2.2.next fun a b => (h1 a b).1⟩
 · rw [(h1 a b).1]; exact Nat.le_trans (h.up a b t hn) (h4 a b t)
 · rw [(h1 a b).1]; exact Nat.le_trans (h5 a b t hb hn) (h.down a b t hb hn)
theorem QhF (l : Lne) (q : Int) : (takeLn l q).1.next = l.next := by
 unfold takeLn
 (repeat' split) <;> rfl
theorem QkG (l : Lne) (q : Int) : (ansLn l q).1.next = l.next ∧ (ansLn l q).1.high = l.high ∧ (ansLn l q).1.seen = l.seen := by
 unfold ansLn
 (repeat' split) <;> exact ⟨rfl, rfl, rfl⟩
theorem Qka {f : Frm} (h : frameE f = 0) : f.fr ≠ f.to := by
 unfold frameE at h
 split at h
 · rename_i h1
   unfold headB twoB at h1
   simp only [Bool.and_eq_true] at h1
   have := h1.1.1.1.2
   simpa using this
 · cases h
theorem Qlg (h : OnC C T had snt cam) (hh : HostC C) (hm : JMove C D a r) : ∃ T' had', OnC D T' had' (sntN a r snt) (camN C D cam) := by
 rcases hm with ⟨q1, q2, q3⟩ | ⟨m, q1, q2, q3, q4, q5, q6, q7⟩ | ⟨f, x, q1, q2, q3, q4, q5, q6, q7, q8, q9, q10, q11, q12, q13⟩ | ⟨f, q1, q2, q3⟩ | ⟨f, s, q1, q2, q3, q4, q5, q6, q7⟩ | ⟨q1, q2⟩
 · refine ⟨T, had, h.heads (fun a b => by rw [q1]; exact ⟨rfl, rfl, rfl⟩) (fun a b s hs => ⟨s, by rw [← q1]; exact hs, rfl⟩) (fun s hs => .inl (q2 s hs)) (Qam a r snt) (fun x y t hy _ => ?_) (fun x t hx => ?_)⟩
   all_goals
    rw [Qah]
    first | exact Nat.le_refl _ | exact Nat.le_trans (h.here x t hx) (Qam a r snt x x t) | skip
    unfold grew
   · obtain ⟨k, e⟩ := q3 y hy t
     rw [e, List.length_drop]; omega
   · obtain ⟨k, e⟩ := q3 x hx t
     rw [e, List.length_drop]; omega
 · have h4 : 0 ≤ a.h ∧ a.h < 4 := of_decide_eq_true q2
   have hmh : m.host = a.h := by rw [q4, show (kerC C a.h).host = ((a.h.toNat : Nat) : Int) from hh _]; omega
   refine ⟨T, had, h.heads (fun a b => by rw [q5]; exact ⟨rfl, rfl, rfl⟩) (fun a b s hs => ⟨s, by rw [← q5]; exact hs, rfl⟩) (fun s hs => .inl (q6 s hs)) (Qam a r snt) (fun x y t hy hxy => ?_) (fun x t hx => ?_)⟩
   · unfold camN
     rw [if_neg]
     · exact Nat.le_refl _
     · rintro ⟨e1, e2⟩
       obtain ⟨g1, g2, g3, _⟩ := QaR q2 q7 e1
       rw [g3, hmh] at e2
       omega
   · unfold camN
     split
     · rename_i e
       obtain ⟨g1, g2, g3, _⟩ := QaR q2 q7 e.1
       have := h.here x t hx
       unfold sntN
       rw [if_pos ⟨q1, g1, by omega, g2⟩]
       omega
     · exact Nat.le_trans (h.here x t hx) (Qam a r snt x x t)
 · have h4 : 0 ≤ a.h ∧ a.h < 4 := of_decide_eq_true q2
   have c4 : 0 ≤ a.call.h ∧ a.call.h < 4 := of_decide_eq_true q3
   generalize hL : lineC C a.h a.call.h = L at *
   have hL' : C.lines a.h.toNat a.call.h.toNat = L := hL
   have hl : ∀ u v, D.lines u v = if u = a.h.toNat ∧ v = a.call.h.toNat then { L with next := L.next + 1, sent := L.sent ++ [x] } else C.lines u v := fun u v => by rw [q12]; rfl
   have hn0 : 0 ≤ L.next := by rw [← hL']; exact h.next _ _
   refine ⟨fun u v s => if u = a.h.toNat ∧ v = a.call.h.toNat ∧ s = L.next + 1 then a.call.t else T u v s, had, ?_⟩
   have hT : ∀ u v s, s ≤ (C.lines u v).next → (if u = a.h.toNat ∧ v = a.call.h.toNat ∧ s = L.next + 1 then a.call.t else T u v s) = T u v s := fun u v s hs => by
    rw [if_neg]
    rintro ⟨e1, e2, e3⟩
    rw [e1, e2, hL'] at hs
    omega
   have hN : ∀ u v, (C.lines u v).next ≤ (D.lines u v).next := fun u v => by
    rw [hl]
    split
    · rename_i e
      rw [e.1, e.2, hL']
      show L.next ≤ L.next + 1
      omega
    · exact Int.le_refl _
   have hok : ∀ g : Frm, FOk C T g → FOk D (fun u v s => if u = a.h.toNat ∧ v = a.call.h.toNat ∧ s = L.next + 1 then a.call.t else T u v s) g := fun g hg => by
    refine ⟨hg.1, Int.le_trans hg.2.1 (hN _ _), ?_⟩
    show g.thread = if _ then _ else _
    rw [hT _ _ _ hg.2.1]
    exact hg.2.2
   have hfok : FOk D (fun u v s => if u = a.h.toNat ∧ v = a.call.h.toNat ∧ s = L.next + 1 then a.call.t else T u v s) f := by
    unfold FOk
    rw [q5, q6, hl, if_pos ⟨rfl, rfl⟩, q9, q7]
    exact ⟨by omega, Int.le_refl _, by simp⟩
   refine ⟨fun u v => ?_, fun u v s hs => ?_, fun u v => Int.le_trans (h.next u v) (hN u v), fun s hs => ?_, fun u v s hs => ?_, fun u v t huv => ?_, fun u v t hv huv => ?_, fun u t hu => ?_⟩
   · rw [hl]
     split
     · rw [← hL']; exact h.seen _ _
     · exact h.seen u v
   · have := h.hadc u v s hs
     rw [hl]
     split
     · rename_i e
       rw [e.1, e.2, hL'] at this
       exact this
     · exact this
   · rcases q13 s hs with e | ⟨e1, e2⟩
     · obtain ⟨g, g1, g2, g3⟩ := h.net s e
       exact ⟨g, g1, g2, fun e => hok g (g3 e)⟩
     · exact ⟨f, e2, e1, fun _ => hfok⟩
   · rw [hl] at hs
     split at hs
     · rename_i e
       rcases List.mem_append.1 hs with e3 | e3
       · have := h.sent u v s (by rw [e.1, e.2, hL']; exact e3)
         exact ⟨this.1, this.2.1, hok _ this.2.2⟩
       · rw [List.mem_singleton.1 e3, q10, q5, q6]
         exact ⟨by omega, by omega, hfok⟩
     · have := h.sent u v s hs
       exact ⟨this.1, this.2.1, hok _ this.2.2⟩
   · have hup := h.up u v t huv
     rw [hl]
     by_cases e : u = a.h.toNat ∧ v = a.call.h.toNat
     · rw [if_pos e]
       show cnt (L.next + 1).toNat _ ≤ _
       rw [e.1, e.2, hL'] at hup
       rw [show (L.next + 1).toNat = L.next.toNat + 1 by omega, Qbm, show ((L.next.toNat : Nat) : Int) = L.next by omega]
       have h1 : cnt L.next.toNat (fun s => decide ((if u = a.h.toNat ∧ v = a.call.h.toNat ∧ s = L.next + 1 then a.call.t else T u v s) = (t : Int))) ≤ snt u v t := by
        rw [e.1, e.2]
        refine Nat.le_trans (QcV fun s s1 s2 hs => ?_) hup
        rw [if_neg (by omega)] at hs
        exact hs
       unfold sntN
       by_cases e2 : a.call.t = (t : Int)
       · rw [if_pos (c := SendA a r ∧ _) ⟨q1, by omega, by omega, e2.symm⟩]
         have hi : ∀ b : Bool, (if b = true then 1 else 0 : Nat) ≤ 1 := fun b => by cases b <;> simp
         exact Nat.add_le_add h1 (hi _)
       · rw [if_neg (c := SendA a r ∧ _) (fun g => e2 g.2.2.2.symm)]
         rw [if_neg]
         · omega
         · simp only [e.1, e.2, and_self, if_true, decide_eq_true_eq]
           exact e2
     · rw [if_neg e]
       refine Nat.le_trans (QcV fun s s1 s2 hs => ?_) (Nat.le_trans hup (Qam a r snt u v t))
       have := h.next u v
       rw [hT u v s (by omega)] at hs
       exact hs
   · rw [Qah (QaM q11 v t)]
     refine Nat.le_trans (h.down u v t hv huv) (Nat.le_trans (QcV fun s s1 s2 hs => ?_) (Qku (n := (C.lines u v).next.toNat) (by have := hN u v; omega) _))
     have := h.next u v
     rw [hT u v s (by omega)]
     exact hs
   · rw [Qah (QaM q11 u t)]; exact Nat.le_trans (h.here u t hu) (Qam a r snt u u t)
 · have hl : ∀ x y, D.lines x y = if x = f.to.toNat ∧ y = f.fr.toNat then (ansLn (lineC C f.to f.fr) f.seq).1 else C.lines x y := fun x y => by rw [q2]; rfl
   refine ⟨T, had, h.heads (fun a b => ?_) (fun a b s hs => ?_) (fun s hs => .inl (q3 s hs)) (Qam a r snt) (fun x y t hy hxy => ?_) (fun x t hx => ?_)⟩
   · rw [hl]
     split
     · rename_i e
       rw [e.1, e.2]; exact QkG _ _
     · exact ⟨rfl, rfl, rfl⟩
   · rw [hl] at hs
     split at hs
     · rename_i e
       rw [e.1, e.2]; exact ⟨s, Qma _ _ s hs, rfl⟩
     · exact ⟨s, hs, rfl⟩
   · rw [Qah (QaM q1 y t)]; exact Nat.le_refl _
   · rw [Qah (QaM q1 x t)]; exact Nat.le_trans (h.here x t hx) (Qam a r snt x x t)
 · have f4 : 0 ≤ f.to ∧ f.to < 4 := of_decide_eq_true (Qax q3).2.1
   have r4 : 0 ≤ f.fr ∧ f.fr < 4 := of_decide_eq_true (Qax q3).1
   have hto := (Qax q3).2.1
   have htwo := Qka q3
   obtain ⟨f', e1, e2, e3⟩ := h.net s q1
   rw [e2, back f' e1] at q2
   obtain ⟨rfl, _⟩ := Prod.mk.inj q2
   have hok := e3 q4
   have hmh := Qfe q3 q4
   clear e1 e3 q2
   generalize hL : lineC C f'.fr f'.to = L at *
   have hL' : C.lines f'.fr.toNat f'.to.toNat = L := hL
   have hl : ∀ u v, D.lines u v = if u = f'.fr.toNat ∧ v = f'.to.toNat then (takeLn L f'.seq).1 else C.lines u v := fun u v => by rw [q5]; rfl
   have hN : ∀ u v, (D.lines u v).next = (C.lines u v).next := fun u v => by
    rw [hl]
    split
    · rename_i e
      rw [e.1, e.2, hL', QhF]
    · rfl
   have hq : ∀ hd : Nat → Nat → Int → Bool, (∀ u v s, hd u v s = true → had u v s = true ∨ (u = f'.fr.toNat ∧ v = f'.to.toNat ∧ s = f'.seq ∧ (takeLn L f'.seq).2 = 0)) → (∀ u v s, had u v s = true → hd u v s = true) → (∀ u v t, v < 4 → u ≠ v → camN C D cam u v t ≤ cnt (C.lines u v).next.toNat (fun s => hd u v s && decide (T u v s = (t : Int)))) → (∀ u t, u < 4 → camN C D cam u u t ≤ sntN a r snt u u t) → OnC D T hd (sntN a r snt) (camN C D cam) := fun hd g1 g2 g3 g4 => by
    refine ⟨fun u v => ?_, fun u v s hs => ?_, fun u v => by rw [hN]; exact h.next u v, fun s hs => ?_, fun u v s hs => ?_, fun u v t huv => ?_, fun u v t hv huv => by rw [hN]; exact g3 u v t hv huv, g4⟩
    · rw [hl]
      split
      · rw [← hL']; exact take_length _ _ (h.seen _ _)
      · exact h.seen u v
    · rw [hl]
      rcases g1 u v s hs with e | ⟨e4, e5, e6, e7⟩
      · have := h.hadc u v s e
        split
        · rename_i e8
          rw [e8.1, e8.2, hL'] at this
          exact QcZ (by rw [← hL']; exact h.seen _ _) this
        · exact this
      · rw [if_pos ⟨e4, e5⟩, e6]
        exact (Qb0 (by rw [← hL']; exact h.seen _ _) e7).2.2
    · rcases q6 s hs with e | ⟨g, g1, g2, g3⟩
      · obtain ⟨g, g1, g2, g3⟩ := h.net s e
        exact ⟨g, g1, g2, fun e => (g3 e).next hN⟩
      · exact ⟨g, g2, g3, QkV g1⟩
    · rw [hl] at hs
      split at hs
      · rename_i e
        rw [Qjt] at hs
        have := h.sent u v s (by rw [e.1, e.2, hL']; exact hs)
        exact ⟨this.1, this.2.1, this.2.2.next hN⟩
      · have := h.sent u v s hs
        exact ⟨this.1, this.2.1, this.2.2.next hN⟩
    · rw [hN]; exact Nat.le_trans (h.up u v t huv) (Qam a r snt u v t)
   rcases q7 with q7 | ⟨q7, q8⟩
   · refine ⟨T, had, hq had (fun _ _ _ e => .inl e) (fun _ _ _ e => e) (fun u v t hv huv => ?_) (fun u t hu => ?_)⟩
     · rw [Qah (QaM q7 v t)]; exact h.down u v t hv huv
     · rw [Qah (QaM q7 u t)]; exact Nat.le_trans (h.here u t hu) (Qam a r snt u u t)
   · have hfalse : had f'.fr.toNat f'.to.toNat f'.seq = false := by
      cases e : had f'.fr.toNat f'.to.toNat f'.seq with
      | false => rfl
      | true =>
       have := h.hadc _ _ _ e
       rw [hL'] at this
       exact absurd this (Qb0 (by rw [← hL']; exact h.seen _ _) q7).1
     refine ⟨T, fun u v s => had u v s || decide (u = f'.fr.toNat ∧ v = f'.to.toNat ∧ s = f'.seq), hq _ (fun u v s e => ?_) (fun u v s e => by rw [Bool.or_eq_true]; exact .inl e) (fun u v t hv huv => ?_) (fun u t hu => ?_)⟩
     · rw [Bool.or_eq_true] at e
       rcases e with e | e
       · exact .inl e
       · obtain ⟨e1, e2, e3⟩ := of_decide_eq_true e
         exact .inr ⟨e1, e2, e3, q7⟩
     · have hd := h.down u v t hv huv
       unfold camN
       split
       · rename_i e
         obtain ⟨g1, g2, g3, _⟩ := QaR hto q8 e.1
         have e2 := e.2
         rw [g3, hmh] at e2
         have hu : u = f'.fr.toNat := by omega
         have hv' : v = f'.to.toNat := by omega
         refine Nat.le_trans (Nat.add_le_add_right hd 1) (Ql1 (x := f'.seq) (fun s s1 s2 hs => ?_) hok.1 ?_ ?_ ?_)
         · rw [Bool.and_eq_true] at hs ⊢
           exact ⟨by rw [Bool.or_eq_true]; exact .inl hs.1, hs.2⟩
         · have := hok.2.1
           have := h.next u v
           rw [hu, hv'] at this ⊢
           omega
         · rw [hu, hv', hfalse]; rfl
         · rw [hu, hv']
           simp only [and_self, decide_true, Bool.or_true, Bool.true_and]
           rw [← hok.2.2]
           exact decide_eq_true g2.symm
       · refine Nat.le_trans hd (QcV fun s s1 s2 hs => ?_)
         rw [Bool.and_eq_true] at hs ⊢
         exact ⟨by rw [Bool.or_eq_true]; exact .inl hs.1, hs.2⟩
     · unfold camN
       rw [if_neg]
       · exact Nat.le_trans (h.here u t hu) (Qam a r snt u u t)
       · rintro ⟨e1, e2⟩
         obtain ⟨g1, g2, g3, _⟩ := QaR hto q8 e1
         rw [g3, hmh] at e2
         omega
 · refine ⟨T, had, h.heads q2.head q2.sent (fun s hs => (q2.net s hs).imp id .inr) (Qam a r snt) (fun x y t hy hxy => ?_) (fun x t hx => ?_)⟩
   · rw [Qah (QaM q1 y t)]; exact Nat.le_refl _
   · rw [Qah (QaM q1 x t)]; exact Nat.le_trans (h.here x t hx) (Qam a r snt x x t)
end
end Go.Proofs.Parclose
