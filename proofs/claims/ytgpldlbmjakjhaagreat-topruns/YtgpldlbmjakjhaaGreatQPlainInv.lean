/- Plain facts: what holds of every thread of a kernel goes on to hold, whatever is called and whatever mail comes; no program is named here. -/
import Derived.Test.YtgpldlbmjakjhaaGreatQKGet
import Derived.Test.YtgpldlbmjakjhaaGreatQKCallC
import Derived.Test.YtgpldlbmjakjhaaGreatQPlainTrust
namespace Go.Proofs.Parclose

structure GoodT (th : Thr) : Prop where
  sorted : th.own.Pairwise (· < ·)
  own : th.own.length ≤ 8
  text : th.text.length ≤ 64
  objs : th.objs.length ≤ 4
  obj : ∀ o ∈ th.objs, o.text.length ≤ 64 ∧ goodL o.label
  mails : th.mails.length ≤ 6
  mail : ∀ m ∈ th.mails, mailE m = 0
  label : goodL th.label

structure GoodK (K : Ker) : Prop where
  four : K.ths.length = 4
  host : 0 ≤ K.host ∧ K.host < 4
  made : 0 ≤ K.made ∧ K.made ≤ 20
  ths : ∀ th ∈ K.ths, GoodT th

theorem goodL_nil : goodL [] := ⟨by simp, by simp, by simp⟩
theorem zero_good : GoodT zeroThr := ⟨by simp [zeroThr], by simp [zeroThr], by simp [zeroThr], by simp [zeroThr], by simp [zeroThr], by simp [zeroThr], by simp [zeroThr], goodL_nil⟩
theorem fresh_good {h : Int} (h0 : 0 ≤ h ∧ h < 4) : GoodK (freshKer h) := ⟨rfl, h0, ⟨by simp [freshKer], by simp [freshKer]⟩, fun th hth => by
  simp [freshKer] at hth
  rw [hth]
  exact zero_good⟩

theorem mem_set_or {α : Type} {l : List α} {i : Nat} {a x : α} (h : x ∈ l.set i a) : x = a ∨ x ∈ l := by
  rcases List.mem_or_eq_of_mem_set h with h | h
  · exact Or.inr h
  · exact Or.inl h
theorem GoodK.set {K : Ker} (h : GoodK K) (i : Nat) {th : Thr} (ht : GoodT th) : GoodK { K with ths := K.ths.set i th } :=
  ⟨by simpa using h.four, h.host, h.made, fun x hx => (mem_set_or hx).elim (fun e => by rw [e]; exact ht) (h.ths x)⟩

theorem getT_some {K : Ker} {t : Int} {th : Thr} (h : getT K t = some th) : ∃ n : Nat, t = n ∧ ∃ hn : n < K.ths.length, K.ths[n] = th := by
  unfold getT at h
  split at h
  · rename_i h0
    obtain ⟨hn, e⟩ := List.getElem?_eq_some_iff.1 h
    exact ⟨t.toNat, by omega, hn, e⟩
  · cases h
theorem getT_none {K : Ker} (h4 : K.ths.length = 4) {t : Int} (h : getT K t = none) : ¬ (0 ≤ t ∧ t < 4) := by
  rintro ⟨h0, h1⟩
  unfold getT at h
  rw [if_pos h0, List.getElem?_eq_none_iff] at h
  omega
theorem getT_nat {K : Ker} {n : Nat} (hn : n < K.ths.length) : getT K (n : Int) = some K.ths[n] := by
  unfold getT
  rw [if_pos (by omega), Int.toNat_natCast]
  exact List.getElem?_eq_getElem hn
theorem setT_nat (K : Ker) (n : Nat) (th : Thr) : setT K (n : Int) th = { K with ths := K.ths.set n th } := by
  unfold setT
  rw [Int.toNat_natCast]

theorem grantL_sorted (l : List Int) {o : List Int} (hs : o.Pairwise (· < ·)) : (grantL l o).Pairwise (· < ·) := by
  induction l generalizing o with
  | nil => exact hs
  | cons c r ih =>
    rw [grantL_cons]
    split
    · exact ih (ownL_sorted hs c)
    · exact hs
theorem grantL_len (l : List Int) {o : List Int} (hl : o.length ≤ 8) : (grantL l o).length ≤ 8 := by
  induction l generalizing o with
  | nil => exact hl
  | cons c r ih =>
    rw [grantL_cons]
    split
    · exact ih (ownL_len hl c)
    · exact hl

theorem takeL_good (ms : List Mal) {th : Thr} (h : GoodT th) (hl : ms.length ≤ 6) (hm : ∀ m ∈ ms, mailE m = 0) : GoodT (takeL th ms).1 := by
  induction ms with
  | nil => exact ⟨h.sorted, h.own, h.text, h.objs, h.obj, by simp [takeL], by simp [takeL], h.label⟩
  | cons m r ih =>
    unfold takeL
    split
    · exact ⟨grantL_sorted _ h.sorted, grantL_len _ h.own, lastL_len _, h.objs, h.obj, by simp at hl; show r.length ≤ 6; omega, fun x hx => hm x (List.mem_cons_of_mem _ hx), h.label⟩
    · exact ih (by simp at hl; omega) (fun x hx => hm x (List.mem_cons_of_mem _ hx))
theorem objectL_good {th : Thr} (h : GoodT th) (l : List (Int × Int)) : GoodT (objectL th l).1 := by
  unfold objectL
  split
  · rename_i hg
    split
    · split
      · exact h
      · rename_i hn
        refine ⟨h.sorted, h.own, h.text, by simp; omega, fun o ho => ?_, h.mails, h.mail, h.label⟩
        rcases List.mem_append.1 ho with ho | ho
        · exact h.obj o ho
        · rw [List.mem_singleton.1 ho]
          exact ⟨by simp, (goodB_iff l).1 hg⟩
    · exact h
  · exact h
theorem levelL_good {th : Thr} (h : GoodT th) (c n : Int) : GoodT (levelL th c n).1 := by
  unfold levelL
  split
  · rename_i he
    split
    · refine ⟨h.sorted, h.own, h.text, h.objs, h.obj, h.mails, h.mail, ?_⟩
      show goodL (setL th.label c n)
      unfold setE at he
      split at he
      · cases he
      · rename_i hb
        split at he
        · cases he
        · rename_i h8
          have hb2 : setB th.label c n = true := by simpa using hb
          unfold setB at hb2
          simp only [Bool.and_eq_true] at hb2
          exact good_setL h.label hb2.1.2 hb2.2 (by omega)
    · exact h
  · exact h
theorem putO_good {th : Thr} (h : GoodT th) (n : Int) {x : List UInt8} (hx : x.length ≤ 64) : GoodT (putO th n x) := by
  refine ⟨h.sorted, h.own, h.text, by simpa [putO] using h.objs, fun o ho => ?_, h.mails, h.mail, h.label⟩
  unfold putO at ho
  simp only at ho
  obtain ⟨i, hi, e⟩ := List.mem_iff_getElem.1 ho
  rw [List.getElem_modify] at e
  have hi2 : i < th.objs.length := by simpa using hi
  have hold := h.obj th.objs[i] (List.getElem_mem hi2)
  split at e
  · rw [← e]; exact ⟨hx, hold.2⟩
  · rw [← e]; exact hold
theorem boxL_good {th : Thr} (h : GoodT th) (m : Mal) : GoodT (boxL th m) := by
  unfold boxL
  split
  · rename_i g
    refine ⟨h.sorted, h.own, h.text, h.objs, h.obj, by simp; omega, fun x hx => ?_, h.label⟩
    rcases List.mem_append.1 hx with hx | hx
    · exact h.mail x hx
    · rw [List.mem_singleton.1 hx]; exact g.1
  · exact h
theorem text_good {th : Thr} (h : GoodT th) (x : List UInt8) : GoodT { th with text := lastL x } := ⟨h.sorted, h.own, lastL_len _, h.objs, h.obj, h.mails, h.mail, h.label⟩

theorem putL_good {K : Ker} (h : GoodK K) (th : Thr) (c : Cal) : GoodK (putL K th c) := by
  unfold putL
  split
  · rename_i u o hu _
    split
    · obtain ⟨n, _, hn, rfl⟩ := getT_some hu
      exact h.set _ (putO_good (h.ths _ (List.getElem_mem hn)) _ (lastL_len _))
    · exact h
  · exact h
theorem getL_good {K : Ker} (h : GoodK K) (t : Int) {th : Thr} (ht : GoodT th) (c : Cal) : GoodK (getL K t th c).1 := by
  unfold getL
  split
  · exact h
  · split
    · exact h.set _ (text_good ht _)
    · exact h
theorem categoryL_good {K : Ker} (h : GoodK K) (t : Int) {th : Thr} (ht : GoodT th) : GoodK (categoryL K t th).1 := by
  unfold categoryL
  split
  · exact h
  · rename_i hm
    split
    · have hk := h.set t.toNat (th := { th with own := (ownL th.own (K.host * 20 + K.made)).2 }) ⟨ownL_sorted ht.sorted _, ownL_len ht.own _, ht.text, ht.objs, ht.obj, ht.mails, ht.mail, ht.label⟩
      have := h.made
      exact ⟨hk.four, hk.host, ⟨by show 0 ≤ K.made + 1; omega, by show K.made + 1 ≤ 20; omega⟩, hk.ths⟩
    · exact h
theorem callT_good {K : Ker} (h : GoodK K) (t : Int) {th : Thr} (ht : GoodT th) (c : Cal) : GoodK (callT K t th c).1 := by
  unfold callT
  split
  · exact h
  · split
    · exact categoryL_good h t ht
    · split
      · exact h.set _ (objectL_good ht _)
      · split
        · exact putL_good h th c
        · split
          · exact getL_good h t ht c
          · split
            · exact h.set _ (levelL_good ht _ _)
            · split
              · exact h.set _ (takeL_good _ ht ht.mails ht.mail)
              · split
                · exact h.set _ (text_good ht _)
                · split
                  · exact h
                  · exact h
theorem callL_good {K : Ker} (h : GoodK K) (t : Int) (c : Cal) : GoodK (callL K t c).1 := by
  unfold callL
  split
  · exact h
  · rename_i th hth
    obtain ⟨n, _, hn, rfl⟩ := getT_some hth
    exact callT_good h t (h.ths _ (List.getElem_mem hn)) c
theorem deliverL_good {K : Ker} (h : GoodK K) (t : Int) (m : Mal) : GoodK (deliverL K t m) := by
  unfold deliverL
  split
  · exact h
  · rename_i th hth
    obtain ⟨n, _, hn, rfl⟩ := getT_some hth
    exact h.set _ (boxL_good (h.ths _ (List.getElem_mem hn)) m)
end Go.Proofs.Parclose

namespace Go.Proofs.YtgpldlbmjakjhaaGreat
open Go.RowKit Go.Proofs.Parclose

theorem fit_of {m : Mal} (h : mailE m = 0) : MailFit m := by
  unfold mailE at h
  split at h
  · rename_i g
    split at h
    · simp only [Bool.and_eq_true] at g
      have g1 := of_decide_eq_true g.1.1.1
      have g2 := of_decide_eq_true g.1.1.2
      exact ⟨g1, g2, by assumption⟩
    · cases h
  · cases h

theorem objAt_some {K : Ker} {t n : Int} {o : Obt} (h : objAt K t n = some o) : ∃ u i : Nat, t = u ∧ n = i ∧ ∃ (hu : u < K.ths.length) (hi : i < K.ths[u].objs.length), K.ths[u].objs[i] = o := by
  unfold objAt at h
  split at h
  · cases h
  · rename_i th hth
    obtain ⟨u, rfl, hu, rfl⟩ := getT_some hth
    split at h
    · rename_i h0
      obtain ⟨hi, e⟩ := List.getElem?_eq_some_iff.1 h
      exact ⟨u, n.toNat, rfl, by omega, hu, hi, e⟩
    · cases h

theorem Call_any (kb : Nat) (t : Int) (F : List Nat) (V : List ThrV) (K : Ker) (c : Cal) (vc : Value) (w : World) (h : KerAt w kb F V K) (hg : GoodK K) (hc : CalAt w vc c) :
    Calls Tryz.prog 68 #[.pointer (some ⟨kb, 0, none⟩), .int .i64 t, vc] w fun e w' => e = .returned (repV (callL K t c).2) ∧ ∃ G V', KerAt w' kb G V' (callL K t c).1 ∧ KStep kb w F V w' G V' := by
  have hV : V.length = 4 := h.len
  cases hth : getT K t with
  | none =>
    have e : callL K t c = (K, code 4) := by unfold callL; rw [hth]
    rw [e]
    exact Call_out kb t F V K c vc w h (getT_none hg.four hth) hc
  | some th =>
    obtain ⟨n, rfl, hn, rfl⟩ := getT_some hth
    have e : callL K n c = callT K n K.ths[n] c := by unfold callL; rw [hth]
    rw [e]
    have h1 : n < V.length := by rw [hV]; have := hg.four; omega
    have gt := hg.ths _ (List.getElem_mem hn)
    have hown : K.ths[n].own.length ≤ 1000 := Nat.le_trans gt.own (by decide)
    have htext : K.ths[n].text.length ≤ 1000 := Nat.le_trans gt.text (by decide)
    unfold callT
    by_cases hx : 64 < c.text.length
    · rw [if_pos hx]
      exact Call_long kb n F V K c vc w h h1 hc hx
    rw [if_neg hx]
    have hx64 : c.text.length ≤ 64 := by omega
    have hx1000 : c.text.length ≤ 1000 := by omega
    by_cases k1 : c.kind = 1
    · rw [if_pos k1]
      exact Call_category kb n F V K c vc w h h1 hn hc k1 hx64 gt.sorted gt.own hg.host hg.made
    rw [if_neg k1]
    by_cases k2 : c.kind = 2
    · rw [if_pos k2, setT_nat]
      exact Call_object kb n F V K c vc w h h1 hn hc k2 hx64 hown (Nat.le_trans gt.objs (by decide))
    rw [if_neg k2]
    by_cases k3 : c.kind = 3
    · rw [if_pos k3]
      cases ho : objAt K c.t c.n with
      | none =>
        have e3 : putL K K.ths[n] c = K := by unfold putL; rw [ho]; cases getT K c.t <;> rfl
        rw [e3]
        exact Call_put kb n F V K c vc w h h1 hc k3 hx64 K (code 0) (fun w1 F1 vc1 g1 g2 => put_none kb n F1 V K c vc1 w1 g1 g2 ho)
      | some o =>
        obtain ⟨u, i, hct, hcn, hu, hi, rfl⟩ := objAt_some ho
        have u1 : u < V.length := by rw [hV]; have := hg.four; omega
        have e3 : putL K K.ths[n] c = if flowsL K.ths[n].label K.ths[u].objs[i].label K.ths[n].own then { K with ths := K.ths.set u (putO K.ths[u] i (lastL (K.ths[n].text ++ c.text))) } else K := by
          unfold putL
          rw [ho, hct, getT_nat hu]
          simp only [setT_nat, hcn]
        rw [e3]
        cases hf : flowsL K.ths[n].label K.ths[u].objs[i].label K.ths[n].own with
        | false => exact Call_put kb n F V K c vc w h h1 hc k3 hx64 K (code 0) (fun w1 F1 vc1 g1 g2 => put_not kb n u i F1 V K c vc1 w1 g1 h1 hn u1 hu hown hi hct hcn hx1000 g2 hf)
        | true => exact Call_put kb n F V K c vc w h h1 hc k3 hx64 _ (code 0) (fun w1 F1 vc1 g1 g2 => put_yes kb n u i F1 V K c vc1 w1 g1 h1 hn u1 hu hown hi hct hcn hx1000 g2 hf htext)
    rw [if_neg k3]
    by_cases k4 : c.kind = 4
    · rw [if_pos k4]
      cases ho : objAt K c.t c.n with
      | none =>
        have e4 : getL K n K.ths[n] c = (K, code 4) := by unfold getL; rw [ho]
        rw [e4]
        exact Call_get kb n F V K c vc w h h1 hc k4 hx64 K (code 4) (fun w1 F1 vc1 g1 g2 => get_none kb n F1 V K c vc1 w1 g1 g2 ho)
      | some o =>
        obtain ⟨u, i, hct, hcn, hu, hi, rfl⟩ := objAt_some ho
        have u1 : u < V.length := by rw [hV]; have := hg.four; omega
        have hot : K.ths[u].objs[i].text.length ≤ 1000 := Nat.le_trans ((hg.ths _ (List.getElem_mem hu)).obj _ (List.getElem_mem hi)).1 (by decide)
        have e4 : getL K n K.ths[n] c = if flowsL K.ths[u].objs[i].label K.ths[n].label K.ths[n].own then ({ K with ths := K.ths.set n { K.ths[n] with text := lastL (K.ths[n].text ++ K.ths[u].objs[i].text) } }, ⟨0, (K.ths[u].objs[i].text.length : Int), []⟩) else (K, code 4) := by
          unfold getL
          rw [ho]
          simp only [setT_nat]
        rw [e4]
        cases hf : flowsL K.ths[u].objs[i].label K.ths[n].label K.ths[n].own with
        | false => exact Call_get kb n F V K c vc w h h1 hc k4 hx64 K (code 4) (fun w1 F1 vc1 g1 g2 => get_not kb n u i F1 V K c vc1 w1 g1 h1 hn u1 hu hown hi hct hcn hx1000 g2 hf)
        | true => exact Call_get kb n F V K c vc w h h1 hc k4 hx64 _ _ (fun w1 F1 vc1 g1 g2 => get_yes kb n u i F1 V K c vc1 w1 g1 h1 hn u1 hu hown hi hct hcn hx1000 g2 hf htext hot)
    rw [if_neg k4]
    by_cases k5 : c.kind = 5
    · rw [if_pos k5, setT_nat]
      exact Call_level kb n F V K c vc w h h1 hn hc k5 hx64 hown
    rw [if_neg k5]
    by_cases k7 : c.kind = 7
    · rw [if_pos k7, setT_nat]
      exact Call_take kb n F V K c vc w h h1 hn hc k7 hx64 gt.sorted gt.own htext (fun m hm => fit_of (gt.mail m hm)) (Nat.le_trans gt.mails (by decide))
    rw [if_neg k7]
    by_cases k9 : c.kind = 9
    · rw [if_pos k9, setT_nat]
      exact Call_forget kb n F V K c vc w h h1 hn hc k9 hx64
    rw [if_neg k9]
    by_cases k10 : c.kind = 10
    · rw [if_pos k10]
      exact Call_say kb n F V K c vc w h h1 hn hc k10 hx64
    rw [if_neg k10]
    exact Call_other kb n F V K c vc w h h1 hc hx64 k1 k2 k3 k4 k5 k7 k9 k10
end Go.Proofs.YtgpldlbmjakjhaaGreat

namespace Go.Proofs.Parclose

structure GoodC (C : Clu) : Prop where
  ks : ∀ h, h < 4 → GoodK (C.ks h)
  now : 0 ≤ C.now ∧ C.now ≤ 1099511627776
  acts : C.acts ≤ 300
  net : C.net.length ≤ 60

theorem freshC_good : GoodC freshClu := ⟨fun h hh => fresh_good (by omega), by decide, by decide, by decide⟩
theorem GoodC.ker {C : Clu} (h : GoodC C) {a : Int} (ha : hostB a = true) : GoodK (kerC C a) := by
  have : 0 ≤ a ∧ a < 4 := of_decide_eq_true ha
  exact h.ks _ (by omega)
theorem setK_good {C : Clu} (h : GoodC C) (a : Int) {K : Ker} (hK : GoodK K) : GoodC (setK C a K) :=
  ⟨fun g hg => by
    show GoodK (if g = a.toNat then K else C.ks g)
    split
    · exact hK
    · exact h.ks g hg, h.now, h.acts, h.net⟩
theorem setC_good {C : Clu} (h : GoodC C) (a : Int) (l : List Crt) : GoodC (setC C a l) := ⟨h.ks, h.now, h.acts, h.net⟩
theorem setLi_good {C : Clu} (h : GoodC C) (a b : Int) (l : Lne) : GoodC (setLi C a b l) := ⟨h.ks, h.now, h.acts, h.net⟩
theorem putC_good {C : Clu} (h : GoodC C) (f : Frm) : GoodC (putC C f) := by
  unfold putC
  split
  · rename_i h1
    exact ⟨h.ks, h.now, h.acts, by show (C.net ++ [encL f]).length ≤ 60; simp; omega⟩
  · exact h
theorem addC_good {C : Clu} (h : GoodC C) (a : Int) (x : Crt) : GoodC (addC C a x).1 := by
  unfold addC
  split
  · exact setC_good h _ _
  · exact h
theorem takeC_good : ∀ (l : List Crt) {C : Clu} (_ : GoodC C) (a : Int), GoodC (takeC C a l)
  | [], _, h, _ => h
  | x :: r, _, h, a => takeC_good r (addC_good h a x) a
theorem awayC_good {C : Clu} (h : GoodC C) (fr to t : Int) (m : Mal) : GoodC (awayC C fr to t m).1 := by
  unfold awayC
  split
  · dsimp only
    split
    · exact putC_good (setLi_good h _ _ _) _
    · exact h
  · exact h
theorem sendC_good {C : Clu} (h : GoodC C) (a t : Int) (c : Cal) (ha : hostB a = true) : GoodC (sendC C a t c).1 := by
  unfold sendC
  split
  · exact h
  · split
    · split
      · split
        · exact setK_good h _ (deliverL_good (h.ker ha) _ _)
        · exact awayC_good h _ _ _ _
      · exact h
    · exact h
theorem certifyC_good {C : Clu} (h : GoodC C) (a t : Int) (c : Cal) : GoodC (certifyC C a t c).1 := by
  unfold certifyC
  split
  · split
    · exact addC_good h _ _
    · exact h
  · exact h
theorem callC_good {C : Clu} (h : GoodC C) (a t : Int) (c : Cal) : GoodC (callC C a t c).1 := by
  unfold callC
  split
  · rename_i h1
    have ha : hostB a = true := by
      rw [Bool.and_eq_true] at h1
      exact h1.1
    split
    · exact sendC_good h _ _ _ ha
    · split
      · exact certifyC_good h _ _ _
      · exact setK_good h _ (callL_good (h.ker ha) _ _)
  · exact h
theorem frame_hosts {f : Frm} (h : frameE f = 0) : hostB f.fr = true ∧ hostB f.to = true ∧ hostB f.thread = true := by
  unfold frameE at h
  split at h
  · rename_i h1
    unfold headB twoB at h1
    simp only [Bool.and_eq_true] at h1
    exact ⟨h1.1.1.1.1.1, h1.1.1.1.1.2, h1.2⟩
  · cases h
theorem dec_frame {s : List UInt8} (h : (decL s).2 = 0) : frameE (decL s).1 = 0 := by
  unfold decL at h ⊢
  split
  · rename_i h1
    rw [if_pos h1] at h
    split
    · rename_i h2
      exact h2
    · rename_i h2
      rw [if_neg h2] at h
      exact absurd h h2
  · rename_i h1
    rw [if_neg h1] at h
    cases h
theorem acceptC_good {C : Clu} (h : GoodC C) {f : Frm} (hf : hostB f.to = true) : GoodC (acceptC C f) := by
  unfold acceptC
  dsimp only
  split
  · exact setK_good (takeC_good _ h _) _ (deliverL_good ((takeC_good _ h _).ker hf) _ _)
  · exact takeC_good _ h _
theorem comeC_good {C : Clu} (h : GoodC C) (s : List UInt8) : GoodC (comeC C s) := by
  unfold comeC
  split
  · rename_i h1
    have hf := (frame_hosts (dec_frame h1)).2.1
    dsimp only
    split
    · exact setLi_good h _ _ _
    · have hE : ∀ (b : Prop) [Decidable b] (D : Clu) (g : Frm), GoodC D → GoodC (if b then putC D g else D) := fun b _ D g hD => by
        split
        · exact putC_good hD _
        · exact hD
      split
      · exact acceptC_good (hE _ _ _ (setLi_good h _ _ _)) hf
      · exact hE _ _ _ (setLi_good h _ _ _)
  · exact h
theorem moveC_good {C : Clu} (h : GoodC C) (kind n : Int) : GoodC (moveC C kind n).1 := by
  unfold moveC
  split
  · dsimp only
    have hD : ∀ (b : Prop) [Decidable b], GoodC (if b then C else { C with net := C.net.take n.toNat ++ C.net.drop (n.toNat + 1) }) := fun b _ => by
      split
      · exact h
      · exact ⟨h.ks, h.now, h.acts, by have := h.net; show (C.net.take n.toNat ++ C.net.drop (n.toNat + 1)).length ≤ 60; rw [List.length_append, List.length_take, List.length_drop]; omega⟩
    split
    · exact hD _
    · exact comeC_good (hD _) _
  · exact h
theorem foldl_put_good : ∀ (l : List Frm) {C : Clu} (_ : GoodC C), GoodC (l.foldl putC C)
  | [], _, h => h
  | f :: r, _, h => foldl_put_good r (putC_good h f)
theorem againC_good {C : Clu} (h : GoodC C) (a b : Int) : GoodC (againC C a b).1 := by
  unfold againC
  exact foldl_put_good _ (setLi_good h _ _ _)
theorem foldl_again_good : ∀ (l : List (Int × Int)) (s : Clu × Nat) (_ : GoodC s.1), GoodC (l.foldl (fun (s : Clu × Nat) ab => ((againC s.1 ab.1 ab.2).1, s.2 + (againC s.1 ab.1 ab.2).2)) s).1
  | [], _, h => h
  | x :: r, s, h => by
    rw [List.foldl_cons]
    exact foldl_again_good r _ (againC_good h _ _)
theorem tickC_good {C : Clu} (h : GoodC C) (n : Int) : GoodC (tickC C n).1 := by
  unfold tickC
  split
  · dsimp only
    rename_i h1
    exact foldl_again_good _ _ ⟨h.ks, by have := h.now; show 0 ≤ C.now + n ∧ C.now + n ≤ 1099511627776; omega, h.acts, h.net⟩
  · exact h
theorem doC_good {C : Clu} (h : GoodC C) (a : Ac) : GoodC (doC C a).1 := by
  unfold doC
  split
  · exact h
  · dsimp only
    have hD : GoodC { C with acts := C.acts + 1 } := ⟨h.ks, h.now, by show C.acts + 1 ≤ 300; omega, h.net⟩
    split
    · exact callC_good hD _ _ _
    · split
      · exact moveC_good hD _ _
      · split
        · exact tickC_good hD _
        · exact hD
end Go.Proofs.Parclose

namespace Go.Proofs.Parclose

def pairsC : List (Int × Int) := [0, 1, 2, 3].flatMap fun a => [0, 1, 2, 3].map fun b => ((a : Int), (b : Int))
def stepT (s : Clu × Nat) (ab : Int × Int) : Clu × Nat := ((againC s.1 ab.1 ab.2).1, s.2 + (againC s.1 ab.1 ab.2).2)
def tickN (D : Clu) (k : Nat) : Clu × Nat := (pairsC.take k).foldl stepT (D, 0)
theorem pairs_take : ∀ i, i < 4 → ∀ j, j < 4 → pairsC.take (i * 4 + j + 1) = pairsC.take (i * 4 + j) ++ [((i : Int), (j : Int))] := by decide
theorem tickN_succ (D : Clu) {i j : Nat} (hi : i < 4) (hj : j < 4) : tickN D (i * 4 + j + 1) = ((againC (tickN D (i * 4 + j)).1 i j).1, (tickN D (i * 4 + j)).2 + (againC (tickN D (i * 4 + j)).1 i j).2) := by
  unfold tickN
  rw [pairs_take i hi j hj, List.foldl_append]
  rfl
theorem tickC_in {C : Clu} {n : Int} (h1 : 1 ≤ n) (h2 : n ≤ 1099511627776 - C.now) : tickC C n = ((tickN { C with now := C.now + n } 16).1, ⟨0, ((tickN { C with now := C.now + n } 16).2 : Int), []⟩) := by
  unfold tickC
  rw [if_pos ⟨h1, h2⟩]
  rfl
theorem tickC_out {C : Clu} {n : Int} (h : ¬ (1 ≤ n ∧ n ≤ 1099511627776 - C.now)) : tickC C n = (C, code 2) := by
  unfold tickC
  rw [if_neg h]
theorem tickN_good {D : Clu} (h : GoodC D) (k : Nat) : GoodC (tickN D k).1 := foldl_again_good (pairsC.take k) (D, 0) h
end Go.Proofs.Parclose

namespace Go.Proofs.Parclose

def aliveA : Ac := ⟨1, 2, 0, 0, ⟨1, 0, 0, 0, 0, [], [], []⟩⟩
def aliveB : Ac := ⟨1, 2, 0, 0, ⟨6, 1, 3, 0, 0, [], [], [104, 105]⟩⟩
theorem alive_a : (doC freshClu aliveA).2.n = 40 := by rfl
def aliveM : Mal := ⟨2, 0, [], [], [104, 105]⟩
theorem compact_none : Lib.compact ([] : List Int) = [] := by
  refine List.eq_nil_iff_forall_not_mem.2 fun x hx => ?_
  rw [mem_compact] at hx
  cases hx
theorem alive_names : namesL aliveM = [] := by
  unfold namesL aliveM
  simp [compact_none]
theorem alive_flows (own : List Int) : flowsL [] [] own = true := by
  unfold flowsL catsL
  simp [compact_none]
theorem alive_thr : getT ((doC freshClu aliveA).1.ks 2) 0 = some ⟨[], [40], [], [], []⟩ := by rfl
theorem alive_letter : letterL ((doC freshClu aliveA).1.ks 2) 0 aliveB.call = (aliveM, 0) := by
  unfold letterL
  rw [alive_thr]
  have hm : letterM ((doC freshClu aliveA).1.ks 2) 0 aliveB.call ⟨[], [40], [], [], []⟩ = aliveM := by rfl
  simp only [hm]
  have h0 : mayL ⟨[], [40], [], [], []⟩ aliveM = 0 := by
    unfold mayL
    rw [if_pos (by decide), if_pos (by rfl)]
    show (if flowsL [] [] [40] = true then (0 : Int) else 6) = 0
    rw [alive_flows]
    rfl
  rw [if_pos h0]
theorem alive_may (l : List Crt) : mayB l 1 aliveM 0 = true := by
  unfold mayB
  rw [alive_names]
  rfl
theorem alive_show : showL [] aliveM = [] := rfl
theorem alive_crt : (doC freshClu aliveA).1.certs 2 = [] := by rfl
theorem alive_lin : (doC freshClu aliveA).1.lines 2 1 = zeroLne := by rfl
theorem alive_now : (doC freshClu aliveA).1.now = 0 := by rfl
theorem alive_acts : (doC freshClu aliveA).1.acts = 1 := by rfl
theorem alive_net0 : (doC freshClu aliveA).1.net = [] := by rfl
def aliveF : Frm := ⟨2, 1, 0, false, 3, aliveM, []⟩
theorem alive_send : sendLn zeroLne aliveF 0 = (⟨1, [⟨{ aliveF with seq := 1 }, 1, 2⟩], 0, zeroLne.seen⟩, { aliveF with seq := 1 }, 0) := by
  unfold sendLn
  rw [if_pos (by decide), if_neg (by decide)]
  rfl
theorem alive_frm : frameE { aliveF with seq := 1 } = 0 := by decide
theorem alive_two : (doC (doC freshClu aliveA).1 aliveB).2.code = 0 ∧ (doC (doC freshClu aliveA).1 aliveB).1.net.length = 1 := by
  have h1 := alive_letter
  have h2 := alive_crt
  have h3 := alive_lin
  have h4 := alive_now
  have h5 := alive_acts
  have h6 := alive_net0
  generalize (doC freshClu aliveA).1 = C at *
  have e1 : doC C aliveB = callC { C with acts := C.acts + 1 } 2 0 aliveB.call := by
    unfold doC
    rw [if_neg (by omega)]
    rfl
  generalize hD : ({ C with acts := C.acts + 1 } : Clu) = D at e1
  have d1 : letterL (kerC D 2) 0 aliveB.call = (aliveM, 0) := by rw [← hD]; exact h1
  have d2 : crtC D 2 = [] := by rw [← hD]; exact h2
  have d3 : lineC D 2 1 = zeroLne := by rw [← hD]; exact h3
  have d4 : D.now = 0 := by rw [← hD]; exact h4
  have d6 : D.net = [] := by rw [← hD]; exact h6
  have e2 : callC D 2 0 aliveB.call = ((sendC D 2 0 aliveB.call).1, code (sendC D 2 0 aliveB.call).2) := by
    unfold callC
    rfl
  have e3 : sendC D 2 0 aliveB.call = awayC D 2 1 3 aliveM := by
    unfold sendC
    rw [if_neg (by decide), d1]
    rfl
  have e4 : awayC D 2 1 3 aliveM = (putC (setLi D 2 1 ⟨1, [⟨{ aliveF with seq := 1 }, 1, 2⟩], 0, zeroLne.seen⟩) { aliveF with seq := 1 }, 0) := by
    unfold awayC
    rw [d2, d3, d4, alive_may, if_pos rfl]
    simp only [alive_show]
    show (if (sendLn zeroLne aliveF 0).2.2 = 0 then (putC (setLi D 2 1 (sendLn zeroLne aliveF 0).1) (sendLn zeroLne aliveF 0).2.1, (0 : Int)) else (D, (sendLn zeroLne aliveF 0).2.2)) = _
    simp only [alive_send, if_pos]
  rw [e1, e2, e3, e4]
  refine ⟨rfl, ?_⟩
  unfold putC
  rw [if_pos ⟨alive_frm, by show D.net.length < 60; rw [d6]; decide⟩]
  show (D.net ++ _).length = 1
  rw [d6]
  rfl
end Go.Proofs.Parclose
