/- parclosetop.play with the look of TopGranted. -/
import Derived.Test.YtlbdaklmlknmbaaGreatJTGWas
import Derived.Deep.RegionHeld3
import Derived.Test.YtlbdaklmlknmbaaGreatJTLookT
namespace Go.Proofs.YtlbdaklmlknmbaaGreat
open Go.RowKit Go.Proofs.Parclose
set_option maxRecDepth 100000 in
set_option maxHeartbeats 6400000 in
theorem QfH (Bw : Nat) (v : Value) (l : List Ac) (w0 w : World) (hv : AcsAt w0 v l) (hw0 : Below w0.heap.size w0 w) (hbs : ∀ b ∈ [Bw], w0.heap.size ≤ b ∧ b < w.heap.size) (hJ : ∀ w' G cb Z, Below w.heap.size w w' → (∀ b ∈ [Bw], b ∈ G) → (∀ k ∈ cownL cb Z, w.heap.size ≤ k) → JG Bw w' G cb Z freshClu) :
 Calls Tryz.prog 20 #[v, .func (.func 23) #[] #[.pointer (some ⟨Bw, 0, none⟩)]] w fun e w' => (∃ x, e = .returned (.tuple #[x, .bool true])) ∧ Below w0.heap.size w0 w' := by
 have HV := hid hv
 have HW0 := hid hw0
 have HBS := hid hbs
 have HJ0 := hid hJ
 obtain ⟨p, cap, rfl, hlc, _⟩ := hv.slice
 clear hv hw0 hbs hJ
 go_enter Tryz.func20, Tryz.ntmps20
 go_upto_region 3 with (go_at_call 9; refine (Qd4 _).mono ?_; rintro e w1 ⟨rfl, hw1⟩)
 go_upto_region 4 with (go_at_call 10; refine (QdX _).mono ?_; rintro e w2 ⟨rfl, ⟨kp, F, hc2, hF⟩, hw2⟩)
 have hw12 := Qd hw1 hw2
 have HB2 := hid (Below.trans' HW0.out (hw12.mono HW0.out.size))
 have HF2 : Hid (∀ k ∈ [Bw] ++ F, w0.heap.size ≤ k) := hid (fun k hk => by
  rcases List.mem_append.1 hk with e | e
  · exact (HBS.out k e).1
  · exact Nat.le_trans HW0.out.size (Nat.le_trans hw1.size (hF k e)))
 have HC2 := hid (hc2.anyF (G := [Bw] ++ F) (fun k hk => List.mem_append_right _ hk) (fun k hk => by
  rcases List.mem_append.1 hk with e | e
  · exact Nat.lt_of_lt_of_le (HBS.out k e).2 hw12.size
  · exact hc2.fin k e))
 have HJ2 := hid (HJ0.out w2 ([Bw] ++ F) w1.heap.size (zeroZ kp) hw12 (fun b hb => List.mem_append_left _ hb) (fun k hk => Nat.le_trans hw1.size (hF k (hc2.ownF k hk))))
 have HWZ := hid hw12.size
 clear hc2 hF hw1 hw2 hw12
 go_wp2_with fail
 go_loopw [7] (fun i wr => ∃ (k : Nat) (G : List Nat) (Z' : CluV), k ≤ l.length ∧ k ≤ 120 ∧ i = .int .i64 k ∧ CluAt wr w1.heap.size G Z' (playC freshClu (l.take k)) ∧ Below w0.heap.size w0 wr ∧ (∀ b ∈ G, w0.heap.size ≤ b) ∧ JG Bw wr G w1.heap.size Z' (playC freshClu (l.take k)) ∧ w.heap.size ≤ wr.heap.size) (fun i _ => l.length - (intOf i).toNat)
 case atStart => exact ⟨0, [Bw] ++ F, _, Nat.zero_le _, Nat.zero_le _, rfl, HC2.out, HB2.out, HF2.out, HJ2.out, HWZ.out⟩
 case round =>
  clear HC2 HB2 HF2 HJ2 HJ0
  obtain ⟨k, G, Z', hk, hk120, rfl, hck, hbw, hG, hj, hws⟩ := hrel
  have HCK := hid hck
  have HBW := hid hbw
  have HGG := hid hG
  have HJJ := hid hj
  have HWS := hid hws
  have hsz := hbw.size
  clear hck hbw hG hj hws
  by_cases hlt : k < l.length
  · have hI : (k : Int) < (l.length : Int) := by omega
    by_cases h120 : k < 120
    · have hJ : (k : Int) < 120 := by omega
      obtain ⟨b, o, pl, cl, pg, cg, rfl, hla, hin2, q0, q1, q2, q3, q4, q5, q6, q7, q8, q9, q10, q11⟩ := HV.out.get k hlt
      have HPS : Hid (playC freshClu (l.take (k + 1)) = (doC (playC freshClu (l.take k)) l[k]).1) := hid (by rw [← List.take_append_getElem hlt, Qcq])
      have HGD := hid (Qcr (l.take k) Qbf)
      have HG2 := hid (QbI HGD.out l[k])
      have HFA := hid (fun i j (hi : i < 4) => graF HGD.out l[k] i j hi)
      generalize l[k] = a at *
      generalize playC freshClu (l.take k) = Ck at *
      have r0 := (HBW.out.cell (Qg q0)).trans q0
      have r1 := (HBW.out.cell (Qg q1)).trans q1
      have r2 := (HBW.out.cell (Qg q2)).trans q2
      have r3 := (HBW.out.cell (Qg q3)).trans q3
      have r4 := (HBW.out.cell (Qg q4)).trans q4
      have r5 := (HBW.out.cell (Qg q5)).trans q5
      have r6 := (HBW.out.cell (Qg q6)).trans q6
      have r7 := (HBW.out.cell (Qg q7)).trans q7
      have r8 := (HBW.out.cell (Qg q8)).trans q8
      have r9 := (HBW.out.cell (Qg q9)).trans q9
      have r10 := (HBW.out.cell (Qg q10)).trans q10
      have r11 := (HBW.out.cell (Qg q11)).trans q11
      have hbl0 := Qg q0
      have hbl := Nat.lt_of_lt_of_le hbl0 hsz
      have hdo := QdM w1.heap.size G Z' Ck _ a wr HCK.out HGD.out ⟨_, _, rfl, Qfa hla HGG.out (hla.below HBW.out), Qd8 hin2 HGG.out (hin2.below HBW.out)⟩
      unfold acV at hdo
      generalize doC Ck a = R at *
      obtain ⟨C2, r⟩ := R
      simp only at hdo HPS
      have HQ : Hid (∀ w', Below w0.heap.size w0 w' → w'.cell? ⟨b, o + k * 12, none⟩ = some (.int .i64 a.kind) ∧ w'.cell? ⟨b, o + k * 12 + 1, none⟩ = some (.int .i64 a.h) ∧ w'.cell? ⟨b, o + k * 12 + 2, none⟩ = some (.int .i64 a.t) ∧ w'.cell? ⟨b, o + k * 12 + 3, none⟩ = some (.int .i64 a.n) ∧ w'.cell? ⟨b, o + k * 12 + 4, none⟩ = some (.int .i64 a.call.kind) ∧ w'.cell? ⟨b, o + k * 12 + 5, none⟩ = some (.int .i64 a.call.h) ∧ w'.cell? ⟨b, o + k * 12 + 6, none⟩ = some (.int .i64 a.call.t) ∧ w'.cell? ⟨b, o + k * 12 + 7, none⟩ = some (.int .i64 a.call.n) ∧ w'.cell? ⟨b, o + k * 12 + 8, none⟩ = some (.int .i64 a.call.c) ∧ w'.cell? ⟨b, o + k * 12 + 9, none⟩ = some (.slice pl a.call.label.length cl) ∧ w'.cell? ⟨b, o + k * 12 + 10, none⟩ = some (.slice pg a.call.grants.length cg) ∧ w'.cell? ⟨b, o + k * 12 + 11, none⟩ = some (.string ⟨a.call.text.toArray⟩)) := hid (fun w' h => ⟨(h.cell (Qg q0)).trans q0, (h.cell (Qg q1)).trans q1, (h.cell (Qg q2)).trans q2, (h.cell (Qg q3)).trans q3, (h.cell (Qg q4)).trans q4, (h.cell (Qg q5)).trans q5, (h.cell (Qg q6)).trans q6, (h.cell (Qg q7)).trans q7, (h.cell (Qg q8)).trans q8, (h.cell (Qg q9)).trans q9, (h.cell (Qg q10)).trans q10, (h.cell (Qg q11)).trans q11⟩)
      clear q0 q1 q2 q3 q4 q5 q6 q7 q8 q9 q10 q11 hla hin2 hbl0
      go_upto_region 8 with (go_at_call 15; refine hdo.mono ?_; rintro e w5 ⟨rfl, G5, Z5, hc5, hs5⟩)
      obtain ⟨hb5, hG5⟩ := hs5.low HCK.out HGG.out hsz
      have HB5 := hid (Below.trans' HBW.out hb5)
      have hbx := Qc w5 (.cells #[.int .i64 r.code, .int .i64 r.n, .string ⟨r.text.toArray⟩] 43)
      have HB6 := hid (Below.trans' HB5.out (hbx.mono HB5.out.size))
      have HX6 := hid (heap_alloc_new w5 (.cells #[.int .i64 r.code, .int .i64 r.n, .string ⟨r.text.toArray⟩] 43))
      have HC6 := hid (hc5.below hbx)
      have HJ6 := hid ((JG.step HJJ.out hs5 HCK.out).below hbx)
      have HG5 := hid hG5
      have HS5 : Hid (∀ b ∈ [Bw], w0.heap.size ≤ b ∧ b < w5.heap.size) := hid (fun b hb => ⟨(HBS.out b hb).1, Nat.lt_of_lt_of_le (HBS.out b hb).2 (Nat.le_trans HWS.out hs5.kept.size)⟩)
      have HWS5 : Hid (w.heap.size ≤ w5.heap.size) := hid (Nat.le_trans HWS.out hs5.kept.size)
      obtain ⟨s0, s1, s2, s3, s4, s5, s6, s7, s8, s9, s10, s11⟩ := HQ.out _ HB6.out
      obtain ⟨t0, t1, t2, _⟩ := cells3 HX6.out
      have hlt6 := Qs HX6.out
      have hbl5 : b < w5.heap.size := Nat.lt_of_lt_of_le hbl hs5.kept.size
      have HZ6 : Hid (w5.heap.size ≤ (w5.alloc (.cells #[.int .i64 r.code, .int .i64 r.n, .string ⟨r.text.toArray⟩] 43)).heap.size) := hid hbx.size
      clear hdo hs5 hc5 hb5 hG5 hbx r0 r1 r2 r3 r4 r5 r6 r7 r8 r9 r10 r11
      generalize hw6 : w5.alloc (.cells #[.int .i64 r.code, .int .i64 r.n, .string ⟨r.text.toArray⟩] 43) = w6 at *
      clear hw6
      go_region_held3 (fun w' => (w'.cell? ⟨b, o + k * 12, none⟩ = some (.int .i64 a.kind) ∧ w'.cell? ⟨b, o + k * 12 + 1, none⟩ = some (.int .i64 a.h) ∧ w'.cell? ⟨b, o + k * 12 + 2, none⟩ = some (.int .i64 a.t) ∧ w'.cell? ⟨b, o + k * 12 + 3, none⟩ = some (.int .i64 a.n) ∧ w'.cell? ⟨b, o + k * 12 + 4, none⟩ = some (.int .i64 a.call.kind) ∧ w'.cell? ⟨b, o + k * 12 + 5, none⟩ = some (.int .i64 a.call.h) ∧ w'.cell? ⟨b, o + k * 12 + 6, none⟩ = some (.int .i64 a.call.t) ∧ w'.cell? ⟨b, o + k * 12 + 7, none⟩ = some (.int .i64 a.call.n) ∧ w'.cell? ⟨b, o + k * 12 + 8, none⟩ = some (.int .i64 a.call.c) ∧ w'.cell? ⟨b, o + k * 12 + 9, none⟩ = some (.slice pl a.call.label.length cl) ∧ w'.cell? ⟨b, o + k * 12 + 10, none⟩ = some (.slice pg a.call.grants.length cg) ∧ w'.cell? ⟨b, o + k * 12 + 11, none⟩ = some (.string ⟨a.call.text.toArray⟩)) ∧ w'.cell? ⟨w5.heap.size, 0, none⟩ = some (.int .i64 r.code) ∧ w'.cell? ⟨w5.heap.size, 1, none⟩ = some (.int .i64 r.n) ∧ w'.cell? ⟨w5.heap.size, 2, none⟩ = some (.string ⟨r.text.toArray⟩)) (go_keep)
       (first
        | (go_at_call 23; refine (QdG w1.heap.size Bw G5 Z5 Ck C2 a r pl pg cl cg _ (HC6.out.below (Below.refl _ _).drew) HGD.out HG2.out (HJ6.out.below (Below.refl _ _).drew) HFA.out).mono ?_; rintro e w7 ⟨rfl, hj7, hc7, hkd⟩; have hk7 := Qdq hkd; have HJ7 := hid hj7; have HC7 := hid hc7; have HB7 := hid (Qeq HB6.out hk7 (fun b hb => (HS5.out b hb).1)); have HZ7 := hid (Nat.le_trans HZ6.out hk7.size); obtain ⟨u0, u1, u2, u3, u4, u5, u6, u7, u8, u9, u10, u11⟩ := HQ.out _ HB7.out; obtain ⟨y0, y1, y2, _⟩ := cells3 (hk7.heap HX6.out (fun e => Nat.lt_irrefl _ (HS5.out _ e).2)); clear hj7 hc7 hkd hk7)
        | fail)
      all_goals
       go_wp2
       go_roundw
       case rel => exact ⟨k + 1, G5, Z5, hlt, h120, by go_num, by rw [HPS.out]; exact HC7.out, HB7.out, HG5.out, by rw [HPS.out]; exact HJ7.out, Nat.le_trans HWS5.out HZ7.out⟩
       case measure => simp [intOf]; omega
    · have hJ : ¬ ((k : Int) < 120) := by omega
      go_wp2
      go_ret2
      exact ⟨⟨_, rfl⟩, HBW.out⟩
  · have hI : ¬ ((k : Int) < (l.length : Int)) := by omega
    go_wp2
    go_ret2
    exact ⟨⟨_, rfl⟩, HBW.out⟩
theorem QfA (w : World) (B : Nat) : WasD.New ⟨none, 0, none, 0, none, 0, none, 0⟩ w B zeroThr := QdN w B
set_option maxRecDepth 100000 in
theorem was0 (h t i : Nat) (hh : h < 4) (ht : t < 4) (hi : i < 5) : Tryz.zeroCells62[h * 20 + t * 5 + i]? = (WasD.vals ⟨none, 0, none, 0, none, 0, none, 0⟩ zeroThr)[i]? := by
 have h4 : h = 0 ∨ h = 1 ∨ h = 2 ∨ h = 3 := by omega
 have t4 : t = 0 ∨ t = 1 ∨ t = 2 ∨ t = 3 := by omega
 have i5 : i = 0 ∨ i = 1 ∨ i = 2 ∨ i = 3 ∨ i = 4 := by omega
 clear hh ht hi
 rcases h4 with rfl | rfl | rfl | rfl <;> rcases t4 with rfl | rfl | rfl | rfl <;> rcases i5 with rfl | rfl | rfl | rfl | rfl <;> rfl
set_option maxRecDepth 100000 in
set_option maxHeartbeats 1600000 in
theorem Qew (v : Value) (l : List Ac) (w : World) (hv : AcsAt w v l) : Calls Tryz.prog 5 #[v] w fun e w' => e = .returned (.bool true) ∧ Below w.heap.size w w' := by
 have hplay := QfH w.heap.size v l w (w.alloc (.cells Tryz.zeroCells62 62)) hv (Qc _ _) (fun b hb => by rw [List.mem_singleton.1 hb]; exact ⟨Nat.le_refl _, by simp⟩) (fun w' G cb Z hb hG hZ => ⟨hG _ (by simp), ⟨_, fun _ _ => ⟨none, 0, none, 0, none, 0, none, 0⟩, Qf (heap_alloc_new w _) hb, by kernel_rfl, fun h t hh ht => by
  simp only [Qd2]
  exact ⟨fun i hi => was0 h t i hh ht hi, w.heap.size + 1, (w.alloc (.cells Tryz.zeroCells62 62)), Nat.lt_succ_self _, QfA _ _, Qy _ hb, fun k hk => .inr (hZ k hk)⟩⟩⟩)
 obtain ⟨p, cap, rfl, _⟩ := hv.slice
 clear hv
 go_enter Tryz.func5, Tryz.ntmps5
 go_wp2_with (go_at_call 20; refine hplay.mono ?_; rintro e w1 ⟨⟨x, rfl⟩, hw1⟩)
 go_ret
 exact ⟨rfl, hw1⟩
end Go.Proofs.YtlbdaklmlknmbaaGreat
