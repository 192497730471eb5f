/- The reference: GoodLine answers whether a line is good. -/
import Derived.Test.YtmpjddnbdidleaaLGood
namespace Go.Proofs.Ytmpjddnbdidleaa
open Go.RowKit Go.Proofs.Parclose

set_option maxRecDepth 100000 in
set_option maxHeartbeats 1600000 in
theorem rgoodLine_any (v : Value) (L : Lne) (w : World) (hv : LneAt w v L) :
    Calls Try.prog 16 #[v] w fun e w' => e = .returned (.bool (goodLn L)) ∧ Below w.heap.size w w' := by
  obtain ⟨nx, st, hi, b0, b1, b2, b3, b4, b5, b6, b7, p, cap, rfl, rfl, hs⟩ := hv.spell
  have hlen := hs.len
  go_enter Try.func16, Try.ntmps16
  by_cases hh : headLn ⟨nx, st, hi, [b0, b1, b2, b3, b4, b5, b6, b7]⟩ = true
  · rw [headLn_iff] at hh
    obtain ⟨h1, h2, h3, h4, h5⟩ := id hh
    simp only at h1 h2 h3 h4 h5
    have h2b : nx ≤ 1099511627775 := by omega
    go_wp2
    go_loopw [3, 33] (fun bf i wr => ∃ (k : Nat) (n : Int), k ≤ st.length ∧ bf = .int .i64 n ∧ i = .int .i64 k ∧ rises nx 0 st = rises nx n (st.drop k) ∧ wr.heap[w.heap.size]? = some (.cells #[.int .i64 nx, .slice p st.length cap, .int .i64 hi, .bool b0, .bool b1, .bool b2, .bool b3, .bool b4, .bool b5, .bool b6, .bool b7] 25 (0, 0)) ∧ Below w.heap.size w wr) (fun _ i _ => st.length - (intOf i).toNat)
    case atStart => exact ⟨0, 0, Nat.zero_le _, rfl, rfl, by simp, heap_alloc_new w _, below_box w _⟩
    case round =>
      obtain ⟨k, n, hk, rfl, rfl, hr, hA, hb⟩ := hrel
      have a0 : wr.cell? ⟨w.heap.size, 0, none⟩ = some (.int .i64 nx) := heap_cell hA 0
      by_cases hlt : k < st.length
      · obtain ⟨bb, o, pl, cl, pg, cg, pc, cc, rfl, hat⟩ := hs.get k hlt
        have hat := hat.below hb
        obtain ⟨c0, c1, c2, c3, c4, c5, c6, c7, c8, c9, c10, c11, c12, _, _, _⟩ := hat
        rw [rises_drop nx n st k hlt] at hr
        have hI : (k : Int) < (st.length : Int) := by omega
        generalize st[k] = s at *
        have HA := hid hA
        have hlt1 := heap_lt hA
        have hne1 : w.heap.size ≠ wr.heap.size := by omega
        have hne2 : wr.heap.size ≠ w.heap.size := by omega
        clear hA hs hv hat
        have hI2 : (nx < s.f.seq) = ¬ (s.f.seq ≤ nx) := by simp
        by_cases hq1 : n < s.f.seq
        · by_cases hq2 : s.f.seq ≤ nx
          · have hsb : sentB nx s = triesB s := by unfold sentB; rw [decide_eq_true hq2]; rfl
            rw [hsb] at hr
            by_cases a1 : 1 ≤ s.tries
            · by_cases a2 : s.tries ≤ 5
              · by_cases a3 : 0 ≤ s.due
                · by_cases a4 : s.due ≤ 2199023255552
                  · have ht5 : triesB s = true := by simp [triesB, a1, a2, a3, a4]
                    have hb1 := hb.alloc hb.size (.cells #[.int .i64 s.f.fr, .int .i64 s.f.to, .int .i64 s.f.seq, .bool s.f.ack, .int .i64 s.f.thread, .int .i64 s.f.mail.host, .int .i64 s.f.mail.thread, .slice pl s.f.mail.label.length cl, .slice pg s.f.mail.grants.length cg, .string ⟨s.f.mail.text.toArray⟩, .slice pc s.f.certs.length cc, .int .i64 s.tries, .int .i64 s.due] 56)
                    go_wp2
                    go_roundw
                    case rel => exact ⟨k + 1, s.f.seq, hlt, rfl, by go_num, by rw [hr, ht5, decide_eq_true hq1]; rfl, heap_new HA.out _, hb1⟩
                    case measure => simp [intOf]; omega
                  · have ht5 : triesB s = false := by simp [triesB]; omega
                    go_wp2
                    go_ret
                    exact ⟨ret_bool (by unfold goodLn; rw [hr, ht5]; simp), hb.alloc hb.size _⟩
                · have ht5 : triesB s = false := by simp [triesB]; omega
                  go_wp2
                  go_ret
                  exact ⟨ret_bool (by unfold goodLn; rw [hr, ht5]; simp), hb.alloc hb.size _⟩
              · have ht5 : triesB s = false := by simp [triesB]; omega
                go_wp2
                go_ret
                exact ⟨ret_bool (by unfold goodLn; rw [hr, ht5]; simp), hb.alloc hb.size _⟩
            · have ht5 : triesB s = false := by simp [triesB]; omega
              go_wp2
              go_ret
              exact ⟨ret_bool (by unfold goodLn; rw [hr, ht5]; simp), hb.alloc hb.size _⟩
          · go_wp2
            go_ret
            exact ⟨ret_bool (by unfold goodLn; rw [hr, show sentB nx s = false by unfold sentB; rw [decide_eq_false (show ¬ s.f.seq ≤ nx by omega)]; rfl]; simp), hb.alloc hb.size _⟩
        · go_wp2
          go_ret
          exact ⟨ret_bool (by unfold goodLn; rw [hr, decide_eq_false (show ¬ n < s.f.seq by omega)]; simp), hb.alloc hb.size _⟩
      · have hd : st.drop k = [] := List.drop_eq_nil_of_le (by omega)
        rw [hd] at hr
        have hI : ¬ (k : Int) < (st.length : Int) := by omega
        go_wp2
        go_ret
        exact ⟨ret_bool (by unfold goodLn; rw [(headLn_iff _).2 hh, hr]; rfl), hb⟩
  · have hg : goodLn ⟨nx, st, hi, [b0, b1, b2, b3, b4, b5, b6, b7]⟩ = false := by
      unfold goodLn
      cases e : headLn ⟨nx, st, hi, [b0, b1, b2, b3, b4, b5, b6, b7]⟩ with
      | true => exact absurd e hh
      | false => rfl
    rw [hg]
    rw [headLn_iff] at hh
    simp only at hh
    by_cases h1 : 0 ≤ nx
    · by_cases h2 : nx < 1099511627776
      · have h2b : nx ≤ 1099511627775 := by omega
        by_cases h3 : 0 ≤ hi
        · by_cases h4 : hi ≤ 1099511627776
          · have h5 : 8 < (st.length : Int) := by omega
            go_wp2
            go_ret
            exact ⟨rfl, below_box w _⟩
          · go_wp2
            go_ret
            exact ⟨rfl, below_box w _⟩
        · go_wp2
          go_ret
          exact ⟨rfl, below_box w _⟩
      · have h2b : ¬ nx ≤ 1099511627775 := by omega
        go_wp2
        go_ret
        exact ⟨rfl, below_box w _⟩
    · go_wp2
      go_ret
      exact ⟨rfl, below_box w _⟩
end Go.Proofs.Ytmpjddnbdidleaa
