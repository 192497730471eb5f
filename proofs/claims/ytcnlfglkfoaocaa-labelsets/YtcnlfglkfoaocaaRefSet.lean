/- parcloseref.Set answers the label with a category at a level, or the error of the document. -/
import Derived.Test.YtcnlfglkfoaocaaRefJoin
import Derived.Test.YtcnlfglkfoaocaaRefGood
namespace Go.Proofs.Ytcnlfglkfoaocaa
open Go.RowKit Go.Proofs.Parclose Go.Maps

set_option maxHeartbeats 1000000 in
theorem rset_bad (v : Value) (l : List (Int × Int)) (c n : Int) (w : World) (hv : LabAt w v l) (hbad : setB l c n = false) :
    Calls Try.prog 27 #[v, .int .i64 c, .int .i64 n] w fun e w' => e = .returned (.tuple #[.slice none 0 0, .int .i64 2]) ∧ Below w.heap.size w w' := by
  have hg := rgood_any v l w hv
  unfold setB at hbad
  cases h1 : goodB l with
  | false =>
    rw [h1] at hg
    clear hbad
    go_enter Try.func27, Try.ntmps27
    go_wp2_with (go_at_call 14; refine hg.mono ?_; rintro e w1 ⟨rfl, hw1⟩)
    go_ret2
    exact ⟨rfl, hw1⟩
  | true =>
    rw [h1] at hg
    cases h2 : catB c with
    | false =>
      clear hbad
      go_enter Try.func27, Try.ntmps27
      go_wp2_with (first | (go_at_call 14; refine hg.mono ?_; rintro e w1 ⟨rfl, hw1⟩) | (go_at_call 18; refine (rcat_any _ _).mono ?_; rintro e w' ⟨rfl, rfl⟩))
      go_ret2
      exact ⟨rfl, by assumption⟩
    | true =>
      have h3 : bndB n = false := by simpa [h1, h2] using hbad
      have h4 : n < 0 ∨ 3 < n := by
        have := of_decide_eq_false h3
        omega
      clear hbad h3
      by_cases h5 : n < 0
      · clear h4
        go_enter Try.func27, Try.ntmps27
        go_wp2_with (first | (go_at_call 14; refine hg.mono ?_; rintro e w1 ⟨rfl, hw1⟩) | (go_at_call 18; refine (rcat_any _ _).mono ?_; rintro e w' ⟨rfl, rfl⟩))
        go_ret2
        exact ⟨rfl, by assumption⟩
      · have h6 : 3 < n := by omega
        clear h4
        go_enter Try.func27, Try.ntmps27
        go_wp2_with (first | (go_at_call 14; refine hg.mono ?_; rintro e w1 ⟨rfl, hw1⟩) | (go_at_call 18; refine (rcat_any _ _).mono ?_; rintro e w' ⟨rfl, rfl⟩))
        go_ret2
        exact ⟨rfl, by assumption⟩

/-- the levels of the first k of a label, by category -/
def levTo (l : List (Int × Int)) (k : Nat) (c : Int) : Option Int := ((l.take k).reverse.find? fun x => x.1 == c).map (·.2)

theorem levTo_zero (l : List (Int × Int)) (c : Int) : levTo l 0 c = none := by simp [levTo]
theorem levTo_succ (l : List (Int × Int)) (k : Nat) (hk : k < l.length) (c : Int) : levTo l (k + 1) c = if c = l[k].1 then some l[k].2 else levTo l k c := by
  unfold levTo
  rw [List.take_succ_eq_append_getElem hk, List.reverse_append]
  simp only [List.reverse_cons, List.reverse_nil, List.nil_append, List.singleton_append, List.find?_cons]
  by_cases e : c = l[k].1
  · subst e; simp
  · have : (l[k].1 == c) = false := by simpa using fun h => e h.symm
    simp [this, e]

theorem levTo_at {l : List (Int × Int)} (h : canonL l) (c : Int) : (levTo l l.length c).getD 1 = atL l c := by
  unfold levTo
  rw [List.take_length]
  cases hf : l.reverse.find? (fun x => x.1 == c) with
  | none =>
    have hn := List.find?_eq_none.1 hf
    have : c ∉ l.map (·.1) := fun hm => by
      obtain ⟨x, hx, e⟩ := List.mem_map.1 hm
      exact hn x (by simpa using hx) (by simpa using e)
    rw [atL_not_mem this]
    rfl
  | some x =>
    have hm : x ∈ l := by simpa using List.mem_of_find?_eq_some hf
    have hx : x.1 = c := by simpa using List.find?_some hf
    obtain ⟨j, hj, e⟩ := List.mem_iff_getElem.1 hm
    have := atL_some l c j hj (fun i hi => by
      have := (List.pairwise_iff_getElem.1 h.2) i j (by omega) hj hi
      rw [e] at this
      omega) (by rw [e]; exact hx)
    rw [this, e]
    rfl

set_option maxHeartbeats 2000000 in
theorem rset_good (v : Value) (l : List (Int × Int)) (c n : Int) (w : World) (hv : LabAt w v l) (hok : setB l c n = true) :
    Calls Try.prog 27 #[v, .int .i64 c, .int .i64 n] w fun e w' => ∃ v' x, e = .returned (.tuple #[v', .int .i64 x]) ∧ (if 8 < (setL l c n).length then x = 5 ∧ v' = .slice none 0 0 else x = 0 ∧ LabAt w' v' (setL l c n)) ∧ Below w.heap.size w w' := by
  have hg := rgood_any v l w hv
  unfold setB at hok
  simp only [Bool.and_eq_true] at hok
  obtain ⟨⟨h1, h2⟩, h3⟩ := hok
  rw [h1] at hg
  have hgl := (goodB_iff l).1 h1
  have hcb : 0 ≤ c ∧ c < 80 := of_decide_eq_true h2
  have hnb : 0 ≤ n ∧ n ≤ 3 := of_decide_eq_true h3
  have n1 : ¬ n < 0 := by omega
  have n2 : ¬ 3 < n := by omega
  have wc : (Lit.int .i64 c).wf = true := WalkArith.wf_i64 (by omega)
  have wn : (Lit.int .i64 n).wf = true := WalkArith.wf_i64 (by omega)
  have HWF : Hid (∀ j (hj : j < l.length), (Lit.int .i64 l[j].1).wf = true ∧ (Lit.int .i64 l[j].2).wf = true) := fun j hj => by
    have := hgl.2.1 l[j] (List.getElem_mem hj)
    exact ⟨WalkArith.wf_i64 (by omega), WalkArith.wf_i64 (by omega)⟩
  have hkeyc : keyOf Try.prog 3 (.int .i64 c) = some (.int .i64 c) := keyOf_int_mk Try.underlying3 wc
  have h8 := hgl.1
  have hcan := good_canon hgl
  have HCN : Hid (canonL (setL l c n)) := canon_setL hcan c n
  have HAT : Hid (∀ d, atL (setL l c n) d = (if d = c then some n else levTo l l.length d).getD 1) := fun d => by
    rw [atL_setL]
    by_cases e : d = c
    · rw [if_pos e, if_pos e]; rfl
    · rw [if_neg e, if_neg e]; exact (levTo_at hcan d).symm
  have HST : Hid (∀ k (hk : k < l.length) d, levTo l (k + 1) d = if d = l[k].1 then some l[k].2 else levTo l k d) := fun k hk d => levTo_succ l k hk d
  generalize setL l c n = out at *
  have hv0 := hv
  obtain ⟨p, cap, rfl, hlc, hcap, hcells⟩ := hv
  have HCE : Hid (0 < l.length → ∃ b o, p = some ⟨b, o, none⟩ ∧ Cells2 w b o l) := hcells
  have hmm := @run_makeMap Try.prog
  clear hgl hcan h3 hcb hnb hcells hlc hv0
  go_enter Try.func27, Try.ntmps27
  go_wp2_with (first | (go_at_call 14; refine hg.mono ?_; rintro e w1 ⟨rfl, hw1⟩) | (go_at_call 18; refine (rcat_any _ _).mono ?_; rintro e w1 ⟨rfl, rfl⟩))
  have hlo := hw1.size
  go_loopw [31] (fun i wr => ∃ (k : Nat) (E : DataW Unit), k ≤ l.length ∧ i = .int .i64 k ∧ wr.ownsMap Try.prog 3 (plainElem (H := Unit) Try.prog 3) w1.heap.size k E ∧ LevMap E (levTo l k) ∧ Below w.heap.size w wr) (fun i _ => l.length - (intOf i).toNat)
  case atStart => exact ⟨0, _, Nat.zero_le _, rfl, World.ownsMap_made _ _ _ _, levMap_nil.congr (fun d => levTo_zero l d), hw1.alloc hlo _⟩
  case round =>
    obtain ⟨k, E, hk, rfl, hm, hE, hb⟩ := hrel
    have HE : Hid (LevMap E (levTo l k)) := hE
    have hsz := hb.size
    clear hE
    by_cases hlt : k < l.length
    · obtain ⟨bl, ol, rfl, hc⟩ := HCE.out (by omega)
      obtain ⟨hc1, hc2⟩ := (hc.below hb) k hlt
      obtain ⟨wk1, wk2⟩ := HWF.out k hlt
      have hkey := keyOf_int_mk Try.underlying3 wk1
      have HP : Hid (LevMap (E.put (.int .i64 l[k].1) (.lit (.int .i64 l[k].2))) (levTo l (k + 1))) := HE.out.put _ _ (HST.out k hlt)
      clear hc wk1
      go_wp2_with (at_mapUpdate; refine wpList_mapUpdate_own _ rfl _ _ _ 50 rfl 3 3 lawInt Try.underlying50 _ w1.heap.size k _ rfl (hm.alloc _) (by unfold maxLen; omega) _ _ _ rfl rfl hkey _ [] (plainElem_int Try.underlying3 wk2) ?_; intro w2 hown2 hgrow2)
      go_roundw
      case rel => exact ⟨k + 1, _, hlt, by go_num, hown2, HP.out, (hb.alloc hsz _).grown hgrow2 (by simp; omega) (fun j hj => by cases hj; exact hlo)⟩
      case measure => simp [intOf]; omega
    · have hkl : k = l.length := by omega
      subst hkl
      have HP : Hid (LevMap (E.put (.int .i64 c) (.lit (.int .i64 n))) (fun d => if d = c then some n else levTo l l.length d)) := HE.out.put c n (fun _ => rfl)
      go_wp2_with (at_mapUpdate; refine wpList_mapUpdate_own _ rfl _ _ _ 50 rfl 3 3 lawInt Try.underlying50 _ w1.heap.size l.length _ rfl hm (by unfold maxLen; omega) _ _ _ rfl rfl hkeyc _ [] (plainElem_int Try.underlying3 wn) ?_; intro w2 hown2 hgrow2)
      have hb2 := hb.grown hgrow2 hsz (fun j hj => by cases hj; exact hlo)
      have hmade := made_any w1.heap.size (l.length + 1) _ _ out w2 hown2 HP.out (by omega) HCN.out HAT.out
      clear hown2 hgrow2 hm
      go_wp2_with (go_at_call 37; refine hmade.mono ?_; rintro e5 w5 ⟨v5, rfl, hv5, hw5⟩; obtain ⟨p5, c5, e5, _⟩ := id hv5; subst e5)
      all_goals
        have b5 := below_then hb2 hw5
        go_ret2
        refine ⟨_, _, rfl, ?_, b5⟩
        first
        | exact ⟨rfl, hv5⟩
        | exact ⟨rfl, rfl⟩
        | (exfalso; omega)
end Go.Proofs.Ytcnlfglkfoaocaa
