/- line.Good answers whether a line is good. -/
import Derived.Test.YtmpjddnbdidleaaLMem
namespace Go.Proofs.Ytmpjddnbdidleaa
open Go.RowKit Go.Proofs.Parclose

theorem ltime_any (n : Int) (w : World) : Calls Try.prog 28 #[.int .i64 n] w fun e w' => e = .returned (.bool (timeB n)) ∧ w' = w := by
  go_enter Try.func28, Try.ntmps28
  by_cases h1 : 0 ≤ n
  · by_cases h2 : n ≤ 1099511627776
    · go_wp2
      go_ret
      exact ⟨ret_bool (by simp [timeB]; omega), rfl⟩
    · go_wp2
      go_ret
      exact ⟨ret_bool (by simp [timeB]; omega), rfl⟩
  · go_wp2
    go_ret
    exact ⟨ret_bool (by simp [timeB]; omega), rfl⟩

def sntV (s : Snt) (vl vg vc : Value) : Value := .agg #[.int .i64 s.f.fr, .int .i64 s.f.to, .int .i64 s.f.seq, .bool s.f.ack, .int .i64 s.f.thread, .int .i64 s.f.mail.host, .int .i64 s.f.mail.thread, vl, vg, .string ⟨s.f.mail.text.toArray⟩, vc, .int .i64 s.tries, .int .i64 s.due]

theorem ltries_any (s : Snt) (pl pg pc : Option Addr) (n1 n2 n3 cl cg cc : Nat) (w : World) :
    Calls Try.prog 34 #[sntV s (.slice pl n1 cl) (.slice pg n2 cg) (.slice pc n3 cc)] w fun e w' => e = .returned (.bool (triesB s)) ∧ Below w.heap.size w w' := by
  unfold sntV
  go_enter Try.func34, Try.ntmps34
  by_cases h1 : 1 ≤ s.tries
  · by_cases h2 : s.tries ≤ 5
    · by_cases h3 : 0 ≤ s.due
      · go_wp2
        go_ret
        exact ⟨ret_bool (by simp [triesB, h1, h2, h3]), below_box w _⟩
      · go_wp2
        go_ret
        exact ⟨ret_bool (by simp [triesB]; omega), below_box w _⟩
    · go_wp2
      go_ret
      exact ⟨ret_bool (by simp [triesB]; omega), below_box w _⟩
  · go_wp2
    go_ret
    exact ⟨ret_bool (by simp [triesB]; omega), below_box w _⟩

theorem SntAt.below {w wr : World} {b o : Nat} {s : Snt} {vl vg vc : Value} (h : SntAt w b o s vl vg vc) (hb : Below w.heap.size w wr) : SntAt wr b o s vl vg vc := by
  have k : ∀ {j : Nat} {u : Value}, w.cell? ⟨b, j, none⟩ = some u → wr.cell? ⟨b, j, none⟩ = some u := fun hc => by rw [hb.cell (cell_block hc), hc]
  exact ⟨k h.c0, k h.c1, k h.c2, k h.c3, k h.c4, k h.c5, k h.c6, k h.c7, k h.c8, k h.c9, k h.c10, k h.c11, k h.c12, h.lab.below hb, h.nums.below hb, h.crts.below hb⟩

set_option maxRecDepth 100000 in
set_option maxHeartbeats 1600000 in
theorem lgood_any (v : Value) (L : Lne) (w : World) (hv : LneAt w v L) :
    Calls Try.prog 15 #[v] w fun e w' => e = .returned (.bool (goodLn L)) ∧ Below w.heap.size w w' := by
  obtain ⟨nx, st, hi, b0, b1, b2, b3, b4, b5, b6, b7, p, cap, rfl, rfl, hs⟩ := hv.spell
  have hlen := hs.len
  go_enter Try.func15, Try.ntmps15
  by_cases hh : headLn ⟨nx, st, hi, [b0, b1, b2, b3, b4, b5, b6, b7]⟩ = true
  · rw [headLn_iff] at hh
    obtain ⟨h1, h2, h3, h4, h5⟩ := id hh
    simp only at h1 h2 h3 h4 h5
    have htm : timeB hi = true := by simp [timeB, h3, h4]
    have ht := fun wx => ltime_any hi wx
    rw [htm] at ht
    go_wp2_with (go_at_call 28; refine (ht _).mono ?_; rintro e w1 ⟨rfl, rfl⟩)
    go_loopw [3, 29] (fun bf i wr => ∃ (k : Nat) (n : Int), k ≤ st.length ∧ bf = .int .i64 n ∧ i = .int .i64 k ∧ rises nx 0 st = rises nx n (st.drop k) ∧ wr.heap[w.heap.size]? = some (.cells #[.int .i64 nx, .slice p st.length cap, .int .i64 hi, .bool b0, .bool b1, .bool b2, .bool b3, .bool b4, .bool b5, .bool b6, .bool b7] 25 (0, 0)) ∧ Below w.heap.size w wr) (fun _ i _ => st.length - (intOf i).toNat)
    case atStart => exact ⟨0, 0, Nat.zero_le _, rfl, rfl, by simp, heap_alloc_new w _, below_box w _⟩
    case round =>
      obtain ⟨k, n, hk, rfl, rfl, hr, hA, hb⟩ := hrel
      have a0 : wr.cell? ⟨w.heap.size, 0, none⟩ = some (.int .i64 nx) := heap_cell hA 0
      by_cases hlt : k < st.length
      · obtain ⟨bb, o, pl, cl, pg, cg, pc, cc, rfl, hat⟩ := hs.get k hlt
        have hat := hat.below hb
        obtain ⟨c0, c1, c2, c3, c4, c5, c6, c7, c8, c9, c10, c11, c12, _, _, _⟩ := hat
        rw [rises_drop nx n st k hlt] at hr
        have hI : (k : Int) < (st.length : Int) := by omega
        have htr := fun wx => ltries_any st[k] pl pg pc (st[k]).f.mail.label.length (st[k]).f.mail.grants.length (st[k]).f.certs.length cl cg cc wx
        unfold sntV at htr
        generalize st[k] = s at *
        have HA := hid hA
        have hlt1 := heap_lt hA
        have hne1 : w.heap.size ≠ wr.heap.size := by omega
        have hne2 : wr.heap.size ≠ w.heap.size := by omega
        clear hA hs hv hat
        have hI2 : (nx < s.f.seq) = ¬ (s.f.seq ≤ nx) := by simp
        by_cases hq1 : n < s.f.seq
        · by_cases hq2 : s.f.seq ≤ nx
          · cases ht5 : triesB s with
            | true =>
              rw [ht5] at htr
              go_wp2_with fail
              refine (htr _).mono ?_
              rintro e w1 ⟨rfl, hw1⟩
              have hbx := heap_keep (heap_alloc_new wr _) hw1
              have HA1 := hid (heap_keep (heap_new HA.out _) hw1)
              have hb1 := below_then (hb.alloc hb.size _) hw1
              have s2 : w1.cell? ⟨wr.heap.size, 2, none⟩ = some (.int .i64 s.f.seq) := heap_cell hbx 2
              clear htr HA hbx hw1 hb
              go_wp2
              go_roundw
              case rel => exact ⟨k + 1, s.f.seq, hlt, rfl, by go_num, by rw [hr]; simp [hq1, sentB, hq2, ht5], HA1.out, hb1⟩
              case measure => simp [intOf]; omega
            | false =>
              rw [ht5] at htr
              go_wp2_with fail
              refine (htr _).mono ?_
              rintro e w1 ⟨rfl, hw1⟩
              have hb1 := below_then (hb.alloc hb.size _) hw1
              go_wp2
              go_ret
              exact ⟨ret_bool (by unfold goodLn; rw [hr]; simp [hq1, sentB, hq2, ht5]), hb1⟩
          · go_wp2
            go_ret
            exact ⟨ret_bool (by unfold goodLn; rw [hr, show sentB nx s = false by unfold sentB; rw [decide_eq_false (show ¬ s.f.seq ≤ nx by omega)]; rfl]; simp), hb.alloc hb.size _⟩
        · go_wp2
          go_ret
          exact ⟨ret_bool (by unfold goodLn; rw [hr, decide_eq_false (show ¬ n < s.f.seq by omega)]; simp), hb.alloc hb.size _⟩
      · have hd : st.drop k = [] := List.drop_eq_nil_of_le (by omega)
        rw [hd] at hr
        have hI : ¬ (k : Int) < (st.length : Int) := by omega
        go_wp2
        go_ret
        exact ⟨ret_bool (by unfold goodLn; rw [(headLn_iff _).2 hh, hr]; rfl), hb⟩
  · have hg : goodLn ⟨nx, st, hi, [b0, b1, b2, b3, b4, b5, b6, b7]⟩ = false := by
      unfold goodLn
      cases e : headLn ⟨nx, st, hi, [b0, b1, b2, b3, b4, b5, b6, b7]⟩ with
      | true => exact absurd e hh
      | false => rfl
    rw [hg]
    rw [headLn_iff] at hh
    simp only at hh
    have ht := fun wx => ltime_any hi wx
    by_cases h1 : 0 ≤ nx
    · by_cases h2 : nx < 1099511627776
      · cases htm : timeB hi with
        | true =>
          rw [htm] at ht
          have h3 : 8 < (st.length : Int) := by
            simp only [timeB, decide_eq_true_eq] at htm
            omega
          go_wp2_with (go_at_call 28; refine (ht _).mono ?_; rintro e w1 ⟨rfl, rfl⟩)
          go_ret
          exact ⟨rfl, below_box w _⟩
        | false =>
          rw [htm] at ht
          go_wp2_with (go_at_call 28; refine (ht _).mono ?_; rintro e w1 ⟨rfl, rfl⟩)
          go_ret
          exact ⟨rfl, below_box w _⟩
      · go_wp2
        go_ret
        exact ⟨rfl, below_box w _⟩
    · go_wp2
      go_ret
      exact ⟨rfl, below_box w _⟩
end Go.Proofs.Ytmpjddnbdidleaa
