/- slices.IndexFunc with the closure of Answered: where the first with a number stands; the reference's waits. -/
import Derived.Test.YtmpjddnbdidleaaLGood
import Derived.Test.YtmpjddnbdidleaaPlainFirst
namespace Go.Proofs.Ytmpjddnbdidleaa
open Go.RowKit Go.Proofs.Parclose

theorem lhas_any (s : Snt) (pl pg pc : Option Addr) (n1 n2 n3 cl cg cc : Nat) (c : Nat) (q : Int) (w : World) (hc : w.cell? ⟨c, 0, none⟩ = some (.int .i64 q)) :
    Calls Try.prog 36 #[sntV s (.slice pl n1 cl) (.slice pg n2 cg) (.slice pc n3 cc), .pointer (some ⟨c, 0, none⟩)] w fun e w' => e = .returned (.bool (s.f.seq == q)) ∧ Below w.heap.size w w' := by
  have hlt := cell_block hc
  simp only at hlt
  have n1' : c ≠ w.heap.size := by omega
  have n2' : w.heap.size ≠ c := by omega
  unfold sntV
  go_enter Try.func36, Try.ntmps36
  go_wp2
  go_ret
  exact ⟨rfl, below_box w _⟩

theorem rwaits_any (t : Int) (h1 : 1 ≤ t) (h2 : t ≤ 5) (w : World) : Calls Try.prog 38 #[.int .i64 t] w fun e w' => e = .returned (.int .i64 (2 ^ t.toNat)) ∧ Below w.heap.size w w' := by
  have h : t = 1 ∨ t = 2 ∨ t = 3 ∨ t = 4 ∨ t = 5 := by omega
  rcases h with rfl | rfl | rfl | rfl | rfl
  all_goals
    go_enter Try.func38, Try.ntmps38
    go_wp2
    go_ret
    exact ⟨rfl, below_box w _⟩

theorem firstN_drop (q : Int) (l : List Snt) (k : Nat) (hk : k < l.length) : firstN q k (l.drop k) = if (l[k]).f.seq = q then (k : Int) else firstN q (k + 1) (l.drop (k + 1)) := by
  rw [List.drop_eq_getElem_cons hk]
  rfl

set_option maxRecDepth 100000 in
set_option maxHeartbeats 1600000 in
theorem lindex_any (v : Value) (l : List Snt) (c : Nat) (q : Int) (w : World) (hv : SntsAt w v l) (hc : w.cell? ⟨c, 0, none⟩ = some (.int .i64 q)) :
    Calls Try.prog 35 #[v, .func (.func 36) #[] #[.pointer (some ⟨c, 0, none⟩)]] w fun e w' => e = .returned (.int .i64 (firstN q 0 l)) ∧ Below w.heap.size w w' := by
  have hlen := hv.len
  obtain ⟨p, cap, rfl⟩ := hv.slice
  go_enter Try.func35, Try.ntmps35
  go_wp2
  go_loopw [8] (fun i wr => ∃ k : Nat, k ≤ l.length ∧ i = .int .i64 k ∧ firstN q 0 l = firstN q k (l.drop k) ∧ Below w.heap.size w wr) (fun i _ => l.length - (intOf i).toNat)
  case atStart => exact ⟨0, Nat.zero_le _, rfl, by simp, Below.refl _ _⟩
  case round =>
    obtain ⟨k, hk, rfl, hf, hb⟩ := hrel
    by_cases hlt : k < l.length
    · have hI : (k : Int) < (l.length : Int) := by omega
      obtain ⟨bb, o, pl, cl, pg, cg, pc, cc, rfl, hat⟩ := hv.get k hlt
      have hat := hat.below hb
      obtain ⟨c0, c1, c2, c3, c4, c5, c6, c7, c8, c9, c10, c11, c12, _, _, _⟩ := hat
      rw [firstN_drop q l k hlt] at hf
      have hcc : wr.cell? ⟨c, 0, none⟩ = some (.int .i64 q) := by rw [hb.cell (cell_block hc), hc]
      have hh := fun wx (h : wx.cell? ⟨c, 0, none⟩ = some (.int .i64 q)) => lhas_any l[k] pl pg pc (l[k]).f.mail.label.length (l[k]).f.mail.grants.length (l[k]).f.certs.length cl cg cc c q wx h
      unfold sntV at hh
      have HF := hid hf
      generalize l[k] = s at *
      clear hv hf
      by_cases hq : s.f.seq = q
      · have hqb : (s.f.seq == q) = true := beq_iff_eq.2 hq
        rw [hqb] at hh
        have HQ := hid hq
        clear hq hqb
        go_wp2_with (go_at_call 36; refine (hh _ hcc).mono ?_; rintro e w1 ⟨rfl, hw1⟩)
        go_ret
        exact ⟨ret_int (by rw [HF.out, if_pos HQ.out]), below_then hb hw1⟩
      · have hqb : (s.f.seq == q) = false := beq_eq_false_iff_ne.2 hq
        rw [hqb] at hh
        have HQ := hid hq
        clear hq hqb
        go_wp2_with (go_at_call 36; refine (hh _ hcc).mono ?_; rintro e w1 ⟨rfl, hw1⟩)
        go_roundw
        case rel => exact ⟨k + 1, hlt, by go_num, by rw [HF.out, if_neg HQ.out], below_then hb hw1⟩
        case measure => simp [intOf]; omega
    · have hI : ¬ (k : Int) < (l.length : Int) := by omega
      have hd : l.drop k = [] := List.drop_eq_nil_of_le (by omega)
      rw [hd] at hf
      go_wp2
      go_ret
      exact ⟨ret_int rfl, hb⟩
end Go.Proofs.Ytmpjddnbdidleaa
