/- The statement LineTries. -/
import Derived.Test.YtmpjddnbdidleaaLAns
import Derived.Test.YtmpjddnbdidleaaLAgain
import Derived.Test.YtmpjddnbdidleaaLLines
import Derived.Test.YtmpjddnbdidleaaLKSame
import Derived.Test.YtmpjddnbdidleaaLBox
import Derived.Test.YtmpjddnbdidleaaPlainTri
namespace Go.Proofs.Ytmpjddnbdidleaa
open Go.RowKit Go.Proofs.Parclose

theorem FrmsAt.slice {w : World} {v : Value} {l : List Frm} (h : FrmsAt w v l) : ∃ p cap, v = .slice p l.length cap := by
  obtain ⟨q, rfl, _, p, cap, rfl, _⟩ := h
  exact ⟨p, cap, by simp⟩
theorem FrmsAt.len {w : World} {v : Value} {l : List Frm} (h : FrmsAt w v l) : l.length ≤ 879609302220 := by
  obtain ⟨q, rfl, _, p, cap, _, h3, _⟩ := h
  simpa using h3
theorem FrmsAt.get {w : World} {p : Option Addr} {n cap : Nat} {l : List Frm} (h : FrmsAt w (.slice p n cap) l) (j : Nat) (hj : j < l.length) :
    ∃ b pl cl pg cg pc cc, p = some ⟨b, 0, none⟩ ∧ FrmAt w (.agg #[.int .i64 (l[j]).fr, .int .i64 (l[j]).to, .int .i64 (l[j]).seq, .bool (l[j]).ack, .int .i64 (l[j]).thread, .int .i64 (l[j]).mail.host, .int .i64 (l[j]).mail.thread, .slice pl (l[j]).mail.label.length cl, .slice pg (l[j]).mail.grants.length cg, .string ⟨(l[j]).mail.text.toArray⟩, .slice pc (l[j]).certs.length cc]) l[j] ∧
      w.cell? ⟨b, j * 11, none⟩ = some (.int .i64 (l[j]).fr) ∧ w.cell? ⟨b, j * 11 + 1, none⟩ = some (.int .i64 (l[j]).to) ∧ w.cell? ⟨b, j * 11 + 2, none⟩ = some (.int .i64 (l[j]).seq) ∧ w.cell? ⟨b, j * 11 + 3, none⟩ = some (.bool (l[j]).ack) ∧ w.cell? ⟨b, j * 11 + 4, none⟩ = some (.int .i64 (l[j]).thread) ∧ w.cell? ⟨b, j * 11 + 5, none⟩ = some (.int .i64 (l[j]).mail.host) ∧ w.cell? ⟨b, j * 11 + 6, none⟩ = some (.int .i64 (l[j]).mail.thread) ∧ w.cell? ⟨b, j * 11 + 7, none⟩ = some (.slice pl (l[j]).mail.label.length cl) ∧ w.cell? ⟨b, j * 11 + 8, none⟩ = some (.slice pg (l[j]).mail.grants.length cg) ∧ w.cell? ⟨b, j * 11 + 9, none⟩ = some (.string ⟨(l[j]).mail.text.toArray⟩) ∧ w.cell? ⟨b, j * 11 + 10, none⟩ = some (.slice pc (l[j]).certs.length cc) := by
  obtain ⟨q, rfl, hok, p', cap', e, _, h4⟩ := h
  cases e
  have hjq : j < q.length := by simpa using hj
  obtain ⟨b, rfl, hc⟩ := h4 (by omega)
  have ho := hok _ (List.getElem_mem hjq)
  have g : ∀ i, i < 11 → ∀ u, (q[j]).cells[i]? = some u → w.cell? ⟨b, j * 11 + i, none⟩ = some u := fun i hi u hu => hc _ _ (by rw [flatF_get q j hjq i hi, hu])
  have e : (q.map (·.f))[j] = (q[j]).f := by simp
  rw [e]
  generalize q[j] = x at *
  obtain ⟨f, vl, vg, vc⟩ := x
  obtain ⟨h1, h2, h3⟩ := ho
  simp only at h1 h2 h3 ⊢
  obtain ⟨pl, cl, rfl, _⟩ := id h1
  obtain ⟨pg, cg, rfl, _⟩ := id h2
  obtain ⟨pc, cc, rfl, _⟩ := id h3
  exact ⟨b, pl, cl, pg, cg, pc, cc, rfl, ⟨_, _, _, rfl, h1, h2, h3⟩, g 0 (by omega) _ rfl, g 1 (by omega) _ rfl, g 2 (by omega) _ rfl, g 3 (by omega) _ rfl, g 4 (by omega) _ rfl, g 5 (by omega) _ rfl, g 6 (by omega) _ rfl, g 7 (by omega) _ rfl, g 8 (by omega) _ rfl, g 9 (by omega) _ rfl, g 10 (by omega) _ rfl⟩

set_option linter.unusedSimpArgs false in
set_option maxRecDepth 100000 in
set_option maxHeartbeats 6400000 in
theorem lineTries_any (v vf vs : Value) (L : Lne) (f : Frm) (now : Int) (steps : List Int) (w : World) (hv : LneAt w v L) (hf : FrmAt w vf f) (hst : IntsAt w vs steps) :
    Calls Try.prog 8 #[v, vf, .int .i64 now, vs] w fun e w' => e = .returned (.bool true) ∧ Below w.heap.size w w' := by
  have HV := hid hv
  have HF := hid hf
  have HST := hid hst
  obtain ⟨nx, st, hi, b0, b1, b2, b3, b4, b5, b6, b7, p, cap, rfl, rfl, hs⟩ := hv.spell
  obtain ⟨vl, vg, vc, rfl, ⟨pl, cl, rfl, _⟩, ⟨pg, cg, rfl, _⟩, ⟨pc, cc, rfl, _⟩⟩ := hf
  obtain ⟨p3, c3, rfl, _⟩ := hst
  clear hv hs
  unfold frmV at *
  go_enter Try.func8, Try.ntmps8
  have hb0 : Below w.heap.size w ((w.alloc (.cells #[.int .i64 nx, .slice p st.length cap, .int .i64 hi, .bool b0, .bool b1, .bool b2, .bool b3, .bool b4, .bool b5, .bool b6, .bool b7] 25)).alloc (.cells #[.int .i64 f.fr, .int .i64 f.to, .int .i64 f.seq, .bool f.ack, .int .i64 f.thread, .int .i64 f.mail.host, .int .i64 f.mail.thread, .slice pl f.mail.label.length cl, .slice pg f.mail.grants.length cg, .string ⟨f.mail.text.toArray⟩, .slice pc f.certs.length cc] 33)) := (below_box w _).alloc (by simp) _
  have hsz0 : ((w.alloc (.cells #[.int .i64 nx, .slice p st.length cap, .int .i64 hi, .bool b0, .bool b1, .bool b2, .bool b3, .bool b4, .bool b5, .bool b6, .bool b7] 25)).alloc (.cells #[.int .i64 f.fr, .int .i64 f.to, .int .i64 f.seq, .bool f.ack, .int .i64 f.thread, .int .i64 f.mail.host, .int .i64 f.mail.thread, .slice pl f.mail.label.length cl, .slice pg f.mail.grants.length cg, .string ⟨f.mail.text.toArray⟩, .slice pc f.certs.length cc] 33)).heap.size = w.heap.size + 2 := by simp
  go_wp2_with fail
  refine (lpick_any now 1073741824 _ (by omega) (by omega)).mono ?_
  rintro e w' ⟨pn, rfl, hpn, rfl⟩
  go_wp2_with fail
  refine (lsend_any _ _ _ f (pn : Int) _ (HV.out.below hb0) (HF.out.below hb0)).mono ?_
  rintro e w1 ⟨v1, vf1, rfl, hn1, hf1, hw1⟩
  obtain ⟨S1, g, cd, hSd⟩ : ∃ S1 g cd, sendLn ⟨nx, st, hi, [b0, b1, b2, b3, b4, b5, b6, b7]⟩ f (pn : Int) = (S1, g, cd) := ⟨_, _, _, rfl⟩
  have HTRI : Hid (cd = 0 → Tri S1 g 1 true) := hid (fun h => by have := tri_start (l := ⟨nx, st, hi, [b0, b1, b2, b3, b4, b5, b6, b7]⟩) (f := f) (now := (pn : Int)) (by rw [hSd]; exact h); rwa [hSd] at this)
  rw [hSd] at hn1 hf1 ⊢
  rw [hsz0] at hn1 hf1
  simp only at hn1 hf1 ⊢
  obtain ⟨nx1, st1, hi1, b01, b11, b21, b31, b41, b51, b61, b71, p1, cap1, sq1, e1, rfl, hm1, hl1, ho1⟩ := hn1.spell
  subst e1
  have HF1 := hid hf1
  obtain ⟨vl1, vg1, vc1, rfl, ⟨gl, hl', rfl, _⟩, ⟨gg, hg', rfl, _⟩, ⟨gc, hc', rfl, _⟩⟩ := hf1 w1 (Since.refl _ _)
  unfold frmV at *
  have HO1 := hid ho1
  have hbw1 := below_then hb0 hw1
  have HX1 := hid (heap_keep (heap_alloc2_old w _ _) hw1)
  have hsz1 : w.heap.size + 2 ≤ w1.heap.size := by have := hw1.size; rw [hsz0] at this; exact this
  clear hw1 hb0 hsz0 hn1 hf1 ho1 hSd HV HF
  have n1 : w.heap.size ≠ w1.heap.size := by omega
  have n2 : w1.heap.size ≠ w.heap.size := by omega
  have x0 := heap_cell (heap_new HX1.out (.cells #[.int .i64 0, .int .i64 0, .int .i64 0, .bool false, .int .i64 0, .int .i64 0, .int .i64 0, .slice none 0 0, .slice none 0 0, .string ⟨#[]⟩, .slice none 0 0] 33)) 0
  have xf0 := heap_frozen (heap_new HX1.out (.cells #[.int .i64 0, .int .i64 0, .int .i64 0, .bool false, .int .i64 0, .int .i64 0, .int .i64 0, .slice none 0 0, .slice none 0 0, .string ⟨#[]⟩, .slice none 0 0] 33)) 0
  have x1 := heap_cell (heap_new HX1.out (.cells #[.int .i64 0, .int .i64 0, .int .i64 0, .bool false, .int .i64 0, .int .i64 0, .int .i64 0, .slice none 0 0, .slice none 0 0, .string ⟨#[]⟩, .slice none 0 0] 33)) 1
  have xf1 := heap_frozen (heap_new HX1.out (.cells #[.int .i64 0, .int .i64 0, .int .i64 0, .bool false, .int .i64 0, .int .i64 0, .int .i64 0, .slice none 0 0, .slice none 0 0, .string ⟨#[]⟩, .slice none 0 0] 33)) 1
  have x2 := heap_cell (heap_new HX1.out (.cells #[.int .i64 0, .int .i64 0, .int .i64 0, .bool false, .int .i64 0, .int .i64 0, .int .i64 0, .slice none 0 0, .slice none 0 0, .string ⟨#[]⟩, .slice none 0 0] 33)) 2
  have xf2 := heap_frozen (heap_new HX1.out (.cells #[.int .i64 0, .int .i64 0, .int .i64 0, .bool false, .int .i64 0, .int .i64 0, .int .i64 0, .slice none 0 0, .slice none 0 0, .string ⟨#[]⟩, .slice none 0 0] 33)) 2
  have x3 := heap_cell (heap_new HX1.out (.cells #[.int .i64 0, .int .i64 0, .int .i64 0, .bool false, .int .i64 0, .int .i64 0, .int .i64 0, .slice none 0 0, .slice none 0 0, .string ⟨#[]⟩, .slice none 0 0] 33)) 3
  have xf3 := heap_frozen (heap_new HX1.out (.cells #[.int .i64 0, .int .i64 0, .int .i64 0, .bool false, .int .i64 0, .int .i64 0, .int .i64 0, .slice none 0 0, .slice none 0 0, .string ⟨#[]⟩, .slice none 0 0] 33)) 3
  have x4 := heap_cell (heap_new HX1.out (.cells #[.int .i64 0, .int .i64 0, .int .i64 0, .bool false, .int .i64 0, .int .i64 0, .int .i64 0, .slice none 0 0, .slice none 0 0, .string ⟨#[]⟩, .slice none 0 0] 33)) 4
  have xf4 := heap_frozen (heap_new HX1.out (.cells #[.int .i64 0, .int .i64 0, .int .i64 0, .bool false, .int .i64 0, .int .i64 0, .int .i64 0, .slice none 0 0, .slice none 0 0, .string ⟨#[]⟩, .slice none 0 0] 33)) 4
  have x5 := heap_cell (heap_new HX1.out (.cells #[.int .i64 0, .int .i64 0, .int .i64 0, .bool false, .int .i64 0, .int .i64 0, .int .i64 0, .slice none 0 0, .slice none 0 0, .string ⟨#[]⟩, .slice none 0 0] 33)) 5
  have xf5 := heap_frozen (heap_new HX1.out (.cells #[.int .i64 0, .int .i64 0, .int .i64 0, .bool false, .int .i64 0, .int .i64 0, .int .i64 0, .slice none 0 0, .slice none 0 0, .string ⟨#[]⟩, .slice none 0 0] 33)) 5
  have x6 := heap_cell (heap_new HX1.out (.cells #[.int .i64 0, .int .i64 0, .int .i64 0, .bool false, .int .i64 0, .int .i64 0, .int .i64 0, .slice none 0 0, .slice none 0 0, .string ⟨#[]⟩, .slice none 0 0] 33)) 6
  have xf6 := heap_frozen (heap_new HX1.out (.cells #[.int .i64 0, .int .i64 0, .int .i64 0, .bool false, .int .i64 0, .int .i64 0, .int .i64 0, .slice none 0 0, .slice none 0 0, .string ⟨#[]⟩, .slice none 0 0] 33)) 6
  have x7 := heap_cell (heap_new HX1.out (.cells #[.int .i64 0, .int .i64 0, .int .i64 0, .bool false, .int .i64 0, .int .i64 0, .int .i64 0, .slice none 0 0, .slice none 0 0, .string ⟨#[]⟩, .slice none 0 0] 33)) 7
  have xf7 := heap_frozen (heap_new HX1.out (.cells #[.int .i64 0, .int .i64 0, .int .i64 0, .bool false, .int .i64 0, .int .i64 0, .int .i64 0, .slice none 0 0, .slice none 0 0, .string ⟨#[]⟩, .slice none 0 0] 33)) 7
  have x8 := heap_cell (heap_new HX1.out (.cells #[.int .i64 0, .int .i64 0, .int .i64 0, .bool false, .int .i64 0, .int .i64 0, .int .i64 0, .slice none 0 0, .slice none 0 0, .string ⟨#[]⟩, .slice none 0 0] 33)) 8
  have xf8 := heap_frozen (heap_new HX1.out (.cells #[.int .i64 0, .int .i64 0, .int .i64 0, .bool false, .int .i64 0, .int .i64 0, .int .i64 0, .slice none 0 0, .slice none 0 0, .string ⟨#[]⟩, .slice none 0 0] 33)) 8
  have x9 := heap_cell (heap_new HX1.out (.cells #[.int .i64 0, .int .i64 0, .int .i64 0, .bool false, .int .i64 0, .int .i64 0, .int .i64 0, .slice none 0 0, .slice none 0 0, .string ⟨#[]⟩, .slice none 0 0] 33)) 9
  have xf9 := heap_frozen (heap_new HX1.out (.cells #[.int .i64 0, .int .i64 0, .int .i64 0, .bool false, .int .i64 0, .int .i64 0, .int .i64 0, .slice none 0 0, .slice none 0 0, .string ⟨#[]⟩, .slice none 0 0] 33)) 9
  have x10 := heap_cell (heap_new HX1.out (.cells #[.int .i64 0, .int .i64 0, .int .i64 0, .bool false, .int .i64 0, .int .i64 0, .int .i64 0, .slice none 0 0, .slice none 0 0, .string ⟨#[]⟩, .slice none 0 0] 33)) 10
  have xf10 := heap_frozen (heap_new HX1.out (.cells #[.int .i64 0, .int .i64 0, .int .i64 0, .bool false, .int .i64 0, .int .i64 0, .int .i64 0, .slice none 0 0, .slice none 0 0, .string ⟨#[]⟩, .slice none 0 0] 33)) 10
  go_upto_region 3 with fail
  have gS1 := st11_grown (w1.alloc (.cells #[.int .i64 0, .int .i64 0, .int .i64 0, .bool false, .int .i64 0, .int .i64 0, .int .i64 0, .slice none 0 0, .slice none 0 0, .string ⟨#[]⟩, .slice none 0 0] 33)) w.heap.size (.int .i64 nx1) (.slice p1 st1.length cap1) (.int .i64 hi1) (.bool b01) (.bool b11) (.bool b21) (.bool b31) (.bool b41) (.bool b51) (.bool b61) (.bool b71)
  have gS2 := st11_grown (st11 (w1.alloc (.cells #[.int .i64 0, .int .i64 0, .int .i64 0, .bool false, .int .i64 0, .int .i64 0, .int .i64 0, .slice none 0 0, .slice none 0 0, .string ⟨#[]⟩, .slice none 0 0] 33)) w.heap.size (.int .i64 nx1) (.slice p1 st1.length cap1) (.int .i64 hi1) (.bool b01) (.bool b11) (.bool b21) (.bool b31) (.bool b41) (.bool b51) (.bool b61) (.bool b71)) w1.heap.size (.int .i64 g.fr) (.int .i64 g.to) (.int .i64 g.seq) (.bool g.ack) (.int .i64 g.thread) (.int .i64 g.mail.host) (.int .i64 g.mail.thread) (.slice gl g.mail.label.length hl') (.slice gg g.mail.grants.length hg') (.string ⟨g.mail.text.toArray⟩) (.slice gc g.certs.length hc')
  have hG2 : (st11 (st11 (w1.alloc (.cells #[.int .i64 0, .int .i64 0, .int .i64 0, .bool false, .int .i64 0, .int .i64 0, .int .i64 0, .slice none 0 0, .slice none 0 0, .string ⟨#[]⟩, .slice none 0 0] 33)) w.heap.size (.int .i64 nx1) (.slice p1 st1.length cap1) (.int .i64 hi1) (.bool b01) (.bool b11) (.bool b21) (.bool b31) (.bool b41) (.bool b51) (.bool b61) (.bool b71)) w1.heap.size (.int .i64 g.fr) (.int .i64 g.to) (.int .i64 g.seq) (.bool g.ack) (.int .i64 g.thread) (.int .i64 g.mail.host) (.int .i64 g.mail.thread) (.slice gl g.mail.label.length hl') (.slice gg g.mail.grants.length hg') (.string ⟨g.mail.text.toArray⟩) (.slice gc g.certs.length hc')).heap[w1.heap.size]? = some (.cells #[.int .i64 g.fr, .int .i64 g.to, .int .i64 g.seq, .bool g.ack, .int .i64 g.thread, .int .i64 g.mail.host, .int .i64 g.mail.thread, .slice gl g.mail.label.length hl', .slice gg g.mail.grants.length hg', .string ⟨g.mail.text.toArray⟩, .slice gc g.certs.length hc'] 33 (0, 0)) := st11_heap (.int .i64 g.fr) (.int .i64 g.to) (.int .i64 g.seq) (.bool g.ack) (.int .i64 g.thread) (.int .i64 g.mail.host) (.int .i64 g.mail.thread) (.slice gl g.mail.label.length hl') (.slice gg g.mail.grants.length hg') (.string ⟨g.mail.text.toArray⟩) (.slice gc g.certs.length hc') (heap_tk (heap_alloc_new w1 _) n2 gS1)
  have hX2 := heap_tk (st11_heap (.int .i64 nx1) (.slice p1 st1.length cap1) (.int .i64 hi1) (.bool b01) (.bool b11) (.bool b21) (.bool b31) (.bool b41) (.bool b51) (.bool b61) (.bool b71) (heap_new HX1.out (.cells #[.int .i64 0, .int .i64 0, .int .i64 0, .bool false, .int .i64 0, .int .i64 0, .int .i64 0, .slice none 0 0, .slice none 0 0, .string ⟨#[]⟩, .slice none 0 0] 33))) n1 gS2
  have hO2 := ((HO1.out.below (below_box w1 (.cells #[.int .i64 0, .int .i64 0, .int .i64 0, .bool false, .int .i64 0, .int .i64 0, .int .i64 0, .slice none 0 0, .slice none 0 0, .string ⟨#[]⟩, .slice none 0 0] 33))).box gS1 (by omega))
  have hbw2 := ((hbw1.alloc hbw1.size _).grown gS1 (hbw1.alloc hbw1.size _).size (fun k hk => by have := Option.some.inj hk; omega)).grown gS2 (Nat.le_trans (hbw1.alloc hbw1.size _).size gS1.size) (fun k hk => by have := Option.some.inj hk; omega)
  have hs12 : ∀ k, w.heap.size + 1 ≤ k → k < w1.heap.size → (st11 (st11 (w1.alloc (.cells #[.int .i64 0, .int .i64 0, .int .i64 0, .bool false, .int .i64 0, .int .i64 0, .int .i64 0, .slice none 0 0, .slice none 0 0, .string ⟨#[]⟩, .slice none 0 0] 33)) w.heap.size (.int .i64 nx1) (.slice p1 st1.length cap1) (.int .i64 hi1) (.bool b01) (.bool b11) (.bool b21) (.bool b31) (.bool b41) (.bool b51) (.bool b61) (.bool b71)) w1.heap.size (.int .i64 g.fr) (.int .i64 g.to) (.int .i64 g.seq) (.bool g.ack) (.int .i64 g.thread) (.int .i64 g.mail.host) (.int .i64 g.mail.thread) (.slice gl g.mail.label.length hl') (.slice gg g.mail.grants.length hg') (.string ⟨g.mail.text.toArray⟩) (.slice gc g.certs.length hc')).heap[k]? = w1.heap[k]? := fun k h1 h2 => by
    rw [gS2.block k (Nat.lt_of_lt_of_le h2 (Nat.le_trans (below_box w1 _).size gS1.size)) (fun e => by have := Option.some.inj e; omega), gS1.block k (Nat.lt_of_lt_of_le h2 (below_box w1 _).size) (fun e => by have := Option.some.inj e; omega), (below_box w1 _).block k h2]
  have hO3 : OwnRow (w.heap.size + 2) (st11 (st11 (w1.alloc (.cells #[.int .i64 0, .int .i64 0, .int .i64 0, .bool false, .int .i64 0, .int .i64 0, .int .i64 0, .slice none 0 0, .slice none 0 0, .string ⟨#[]⟩, .slice none 0 0] 33)) w.heap.size (.int .i64 nx1) (.slice p1 st1.length cap1) (.int .i64 hi1) (.bool b01) (.bool b11) (.bool b21) (.bool b31) (.bool b41) (.bool b51) (.bool b61) (.bool b71)) w1.heap.size (.int .i64 g.fr) (.int .i64 g.to) (.int .i64 g.seq) (.bool g.ack) (.int .i64 g.thread) (.int .i64 g.mail.host) (.int .i64 g.mail.thread) (.slice gl g.mail.label.length hl') (.slice gg g.mail.grants.length hg') (.string ⟨g.mail.text.toArray⟩) (.slice gc g.certs.length hc')) (.slice p1 st1.length cap1) sq1 := ⟨own_since HO1.out.own (fun k h1 h2 => hs12 k (by omega) h2), fun x hx w' ho => HO1.out.ok x hx w' (fun k h1 h2 h3 => by
    rw [ho k h1 (Nat.lt_of_lt_of_le h2 (Nat.le_trans (below_box w1 _).size (Nat.le_trans gS1.size gS2.size))) h3]
    exact hs12 k (by omega) h2)⟩
  have hsz2 : w1.heap.size < (st11 (st11 (w1.alloc (.cells #[.int .i64 0, .int .i64 0, .int .i64 0, .bool false, .int .i64 0, .int .i64 0, .int .i64 0, .slice none 0 0, .slice none 0 0, .string ⟨#[]⟩, .slice none 0 0] 33)) w.heap.size (.int .i64 nx1) (.slice p1 st1.length cap1) (.int .i64 hi1) (.bool b01) (.bool b11) (.bool b21) (.bool b31) (.bool b41) (.bool b51) (.bool b61) (.bool b71)) w1.heap.size (.int .i64 g.fr) (.int .i64 g.to) (.int .i64 g.seq) (.bool g.ack) (.int .i64 g.thread) (.int .i64 g.mail.host) (.int .i64 g.mail.thread) (.slice gl g.mail.label.length hl') (.slice gg g.mail.grants.length hg') (.string ⟨g.mail.text.toArray⟩) (.slice gc g.certs.length hc')).heap.size := heap_lt hG2
  have HF2 : Hid (∀ w'', Since (w.heap.size + 1) (st11 (st11 (w1.alloc (.cells #[.int .i64 0, .int .i64 0, .int .i64 0, .bool false, .int .i64 0, .int .i64 0, .int .i64 0, .slice none 0 0, .slice none 0 0, .string ⟨#[]⟩, .slice none 0 0] 33)) w.heap.size (.int .i64 nx1) (.slice p1 st1.length cap1) (.int .i64 hi1) (.bool b01) (.bool b11) (.bool b21) (.bool b31) (.bool b41) (.bool b51) (.bool b61) (.bool b71)) w1.heap.size (.int .i64 g.fr) (.int .i64 g.to) (.int .i64 g.seq) (.bool g.ack) (.int .i64 g.thread) (.int .i64 g.mail.host) (.int .i64 g.mail.thread) (.slice gl g.mail.label.length hl') (.slice gg g.mail.grants.length hg') (.string ⟨g.mail.text.toArray⟩) (.slice gc g.certs.length hc')) w'' → FrmAt w'' (.agg #[.int .i64 g.fr, .int .i64 g.to, .int .i64 g.seq, .bool g.ack, .int .i64 g.thread, .int .i64 g.mail.host, .int .i64 g.mail.thread, .slice gl g.mail.label.length hl', .slice gg g.mail.grants.length hg', .string ⟨g.mail.text.toArray⟩, .slice gc g.certs.length hc']) g) := hid (fun w'' ho => HF1.out w'' (fun k h1 h2 => by
    rw [ho k (by omega) (by omega)]
    exact hs12 k (by omega) h2))
  have HG2 := hid hG2
  have HBX2 : Hid (LBox (st11 (st11 (w1.alloc (.cells #[.int .i64 0, .int .i64 0, .int .i64 0, .bool false, .int .i64 0, .int .i64 0, .int .i64 0, .slice none 0 0, .slice none 0 0, .string ⟨#[]⟩, .slice none 0 0] 33)) w.heap.size (.int .i64 nx1) (.slice p1 st1.length cap1) (.int .i64 hi1) (.bool b01) (.bool b11) (.bool b21) (.bool b31) (.bool b41) (.bool b51) (.bool b61) (.bool b71)) w1.heap.size (.int .i64 g.fr) (.int .i64 g.to) (.int .i64 g.seq) (.bool g.ack) (.int .i64 g.thread) (.int .i64 g.mail.host) (.int .i64 g.mail.thread) (.slice gl g.mail.label.length hl') (.slice gg g.mail.grants.length hg') (.string ⟨g.mail.text.toArray⟩) (.slice gc g.certs.length hc')) w.heap.size (w.heap.size + 2) ⟨nx1, st1, hi1, [b01, b11, b21, b31, b41, b51, b61, b71]⟩) := hid (lbox_row hO3 hm1 hl1 nx1 hi1 b01 b11 b21 b31 b41 b51 b61 b71 hX2)
  clear gS1 gS2 hG2 hX2 hO2 hs12 hO3 HO1 HF1 HX1 hbw1 hm1 x0 xf0 x1 xf1 x2 xf2 x3 xf3 x4 xf4 x5 xf5 x6 xf6 x7 xf7 x8 xf8 x9 xf9 x10 xf10
  unfold st11 at *
  generalize (((((((((((((((((((((((w1.alloc (.cells #[.int .i64 0, .int .i64 0, .int .i64 0, .bool false, .int .i64 0, .int .i64 0, .int .i64 0, .slice none 0 0, .slice none 0 0, .string ⟨#[]⟩, .slice none 0 0] 33)).setCell ⟨w.heap.size, 0, none⟩ (.int .i64 nx1)).setCell ⟨w.heap.size, 1, none⟩ (.slice p1 st1.length cap1)).setCell ⟨w.heap.size, 2, none⟩ (.int .i64 hi1)).setCell ⟨w.heap.size, 3, none⟩ (.bool b01)).setCell ⟨w.heap.size, 4, none⟩ (.bool b11)).setCell ⟨w.heap.size, 5, none⟩ (.bool b21)).setCell ⟨w.heap.size, 6, none⟩ (.bool b31)).setCell ⟨w.heap.size, 7, none⟩ (.bool b41)).setCell ⟨w.heap.size, 8, none⟩ (.bool b51)).setCell ⟨w.heap.size, 9, none⟩ (.bool b61)).setCell ⟨w.heap.size, 10, none⟩ (.bool b71)).setCell ⟨w1.heap.size, 0, none⟩ (.int .i64 g.fr)).setCell ⟨w1.heap.size, 1, none⟩ (.int .i64 g.to)).setCell ⟨w1.heap.size, 2, none⟩ (.int .i64 g.seq)).setCell ⟨w1.heap.size, 3, none⟩ (.bool g.ack)).setCell ⟨w1.heap.size, 4, none⟩ (.int .i64 g.thread)).setCell ⟨w1.heap.size, 5, none⟩ (.int .i64 g.mail.host)).setCell ⟨w1.heap.size, 6, none⟩ (.int .i64 g.mail.thread)).setCell ⟨w1.heap.size, 7, none⟩ (.slice gl g.mail.label.length hl')).setCell ⟨w1.heap.size, 8, none⟩ (.slice gg g.mail.grants.length hg')).setCell ⟨w1.heap.size, 9, none⟩ (.string ⟨g.mail.text.toArray⟩)).setCell ⟨w1.heap.size, 10, none⟩ (.slice gc g.certs.length hc')) = w2 at *
  by_cases hcd : cd = 0
  · subst hcd
    have HT1 := hid (HTRI.out rfl)
    go_wp2_with (go_at_call 25; refine (klines_any _).mono ?_; rintro e w3 ⟨rfl, hw3⟩)
    have hG3 := heap_keep HG2.out hw3
    have HG3 := hid hG3
    have HBX3 := hid (HBX2.out.below hw3)
    have hbw3 := below_then hbw2 hw3
    have HF3 : Hid (∀ w'', Since (w.heap.size + 1) w3 w'' → FrmAt w'' (.agg #[.int .i64 g.fr, .int .i64 g.to, .int .i64 g.seq, .bool g.ack, .int .i64 g.thread, .int .i64 g.mail.host, .int .i64 g.mail.thread, .slice gl g.mail.label.length hl', .slice gg g.mail.grants.length hg', .string ⟨g.mail.text.toArray⟩, .slice gc g.certs.length hc']) g) := hid (fun w'' ho => HF2.out w'' ((since_below hw3).trans ho hw3.size))
    have hsz3 : w1.heap.size < w3.heap.size := heap_lt hG3
    clear hG3 HG2 HBX2 HF2 hsz2 hw3 hbw2
    go_loopw [2, 11, 12, 13] (fun v2 v11 v12 v13 wr => ∃ (k : Nat) (nw cnt : Int) (th : Bool) (Lc : Lne), k ≤ 40 ∧ v13 = .int .i64 k ∧ v2 = .int .i64 nw ∧ 0 ≤ nw ∧ nw ≤ 1073741824 + 50 * (k : Int) ∧ v11 = .int .i64 cnt ∧ v12 = .bool th ∧ Tri Lc g cnt th ∧ LBox wr w.heap.size (w.heap.size + 2) Lc ∧ Since (w.heap.size + 1) w3 wr ∧ w3.heap.size ≤ wr.heap.size ∧ Below w.heap.size w wr) (fun _ _ _ i _ => 40 - (intOf i).toNat)
    case atStart => exact ⟨0, pn, 1, true, ⟨nx1, st1, hi1, [b01, b11, b21, b31, b41, b51, b61, b71]⟩, by omega, rfl, rfl, by omega, by omega, rfl, rfl, HT1.out, HBX3.out, Since.refl _ _, Nat.le_refl _, hbw3⟩
    case round =>
      obtain ⟨k, nw, cnt, th, Lc, hk, rfl, rfl, hnw0, hnw1, rfl, rfl, htri, hbox, hsin, hszr, hb⟩ := hrel
      obtain ⟨wo, hwo⟩ : ∃ wo, wo = wr := ⟨_, rfl⟩
      subst hwo
      have HTR := hid htri
      have hcnt := htri.cnt
      have hg3 : wo.heap[w1.heap.size]? = some (.cells #[.int .i64 g.fr, .int .i64 g.to, .int .i64 g.seq, .bool g.ack, .int .i64 g.thread, .int .i64 g.mail.host, .int .i64 g.mail.thread, .slice gl g.mail.label.length hl', .slice gg g.mail.grants.length hg', .string ⟨g.mail.text.toArray⟩, .slice gc g.certs.length hc'] 33 (0, 0)) := by rw [hsin _ (by omega) hsz3, HG3.out]
      obtain ⟨nxc, stc, hic, b0c, b1c, b2c, b3c, b4c, b5c, b6c, b7c, pA, capA, eL, hX, hsn⟩ := hbox.open
      subst eL
      have HX := hid hX
      have HGR := hid hg3
      have HSN := hid hsn
      have HSIN := hid hsin
      have hszb : w.heap.size < wo.heap.size := heap_lt hX
      clear htri hbox hsn HBX3 HT1 hsin
      have x0 := heap_cell hX 0
      have x1 := heap_cell hX 1
      have x2 := heap_cell hX 2
      have x3 := heap_cell hX 3
      have x4 := heap_cell hX 4
      have x5 := heap_cell hX 5
      have x6 := heap_cell hX 6
      have x7 := heap_cell hX 7
      have x8 := heap_cell hX 8
      have x9 := heap_cell hX 9
      have x10 := heap_cell hX 10
      have y0 := heap_cell hg3 0
      have y1 := heap_cell hg3 1
      have y2 := heap_cell hg3 2
      have y3 := heap_cell hg3 3
      have y4 := heap_cell hg3 4
      have y5 := heap_cell hg3 5
      have y6 := heap_cell hg3 6
      have y7 := heap_cell hg3 7
      have y8 := heap_cell hg3 8
      have y9 := heap_cell hg3 9
      have y10 := heap_cell hg3 10
      clear hX hg3
      by_cases hlt : k < steps.length
      · have hI : (k : Int) < (steps.length : Int) := by omega
        by_cases h40 : k < 40
        · have hI4 : (k : Int) < 40 := by omega
          obtain ⟨p3', c3', e3, _, _, hc3⟩ := HST.out
          cases e3
          obtain ⟨b3, o3, rfl, hc4⟩ := hc3 (by omega)
          have cs0 := hc4 k hlt
          have cs := (hb.cell (cell_block cs0)).trans cs0
          clear hc3 hc4 cs0
          generalize steps[k] = sk at *
          go_wp2_with fail
          refine (lpick_any sk 50 _ (by omega) (by omega)).mono ?_
          rintro e w' ⟨pk, rfl, hpk, hw'⟩
          rw [hw']
          clear hw' w'
          obtain ⟨nw2, hnw2⟩ : ∃ nw2 : Int, nw2 = nw + (pk : Int) := ⟨_, rfl⟩
          have hwr : IntKind.i64.wrap (nw + (pk : Int)) = nw2 := by rw [hnw2]; exact wrap_small _ (by omega) (by omega)
          have hn20 : 0 ≤ nw2 := by omega
          have hn21 : nw2 ≤ 1073741824 + 50 * ((k : Int) + 1) := by omega
          clear hnw2 hnw0 hnw1
          go_wp2_with fail
          refine (lagain_any _ ⟨nxc, stc, hic, [b0c, b1c, b2c, b3c, b4c, b5c, b6c, b7c]⟩ nw2 _ (lne_of HSN.out nxc hic b0c b1c b2c b3c b4c b5c b6c b7c)).mono ?_
          rintro e w6 ⟨v6, vf6, rfl, hn6, hf6, hw6⟩
          obtain ⟨st6, hst6⟩ : ∃ x, x = stc.flatMap (againS nw2) := ⟨_, rfl⟩
          obtain ⟨fs, hfs⟩ : ∃ x, x = stc.flatMap (againF nw2) := ⟨_, rfl⟩
          have hag : againLn ⟨nxc, stc, hic, [b0c, b1c, b2c, b3c, b4c, b5c, b6c, b7c]⟩ nw2 = (⟨nxc, st6, hic, [b0c, b1c, b2c, b3c, b4c, b5c, b6c, b7c]⟩, fs, 0) := by
            unfold againLn
            rw [if_pos (by rw [HTR.out.good, Bool.true_and]; simp only [timeB, decide_eq_true_eq]; omega), hst6, hfs]
          have hstep := HTR.out.step hn20 (show nw2 ≤ 1099511627776 by omega)
          have hle6 : st6.length ≤ stc.length := by rw [hst6]; exact again_length nw2 stc
          simp only at hstep
          rw [← hst6, ← hfs] at hstep
          have HSTEP := hid hstep
          rw [hag] at hn6 hf6 ⊢
          simp only at hn6 hf6 ⊢
          obtain ⟨vs6, q6, rfl, _, hm6, hl6, ho6⟩ := hn6
          replace hm6 : q6.map (·.s) = st6 := hm6
          have hq6 : q6.length = st6.length := by rw [← hm6, List.length_map]
          obtain ⟨p6, c6, hv6⟩ := own_slice ho6.own
          rw [hq6] at hv6
          subst hv6
          unfold lneV
          obtain ⟨pf, cf, hvf⟩ := (hf6 w6 (Since.refl _ _)).slice
          subst hvf
          have HN7 := hid (heap_alloc_new w6 (.cells #[.int .i64 nxc, .slice p6 st6.length c6, .int .i64 hic, .bool b0c, .bool b1c, .bool b2c, .bool b3c, .bool b4c, .bool b5c, .bool b6c, .bool b7c] 25))
          have HX7 := hid (heap_new (heap_keep HX.out hw6) (.cells #[.int .i64 nxc, .slice p6 st6.length c6, .int .i64 hic, .bool b0c, .bool b1c, .bool b2c, .bool b3c, .bool b4c, .bool b5c, .bool b6c, .bool b7c] 25))
          have HG7 := hid (heap_new (heap_keep HGR.out hw6) (.cells #[.int .i64 nxc, .slice p6 st6.length c6, .int .i64 hic, .bool b0c, .bool b1c, .bool b2c, .bool b3c, .bool b4c, .bool b5c, .bool b6c, .bool b7c] 25))
          have HFS7 := hid ((hf6 w6 (Since.refl _ _)).below (below_box w6 (.cells #[.int .i64 nxc, .slice p6 st6.length c6, .int .i64 hic, .bool b0c, .bool b1c, .bool b2c, .bool b3c, .bool b4c, .bool b5c, .bool b6c, .bool b7c] 25)))
          have HO7 := hid (ho6.below (below_box w6 (.cells #[.int .i64 nxc, .slice p6 st6.length c6, .int .i64 hic, .bool b0c, .bool b1c, .bool b2c, .bool b3c, .bool b4c, .bool b5c, .bool b6c, .bool b7c] 25)))
          have hb67 := below_then hw6 (below_box w6 (.cells #[.int .i64 nxc, .slice p6 st6.length c6, .int .i64 hic, .bool b0c, .bool b1c, .bool b2c, .bool b3c, .bool b4c, .bool b5c, .bool b6c, .bool b7c] 25))
          have hb7 := below_then hb hb67
          have HSIN7 := hid (HSIN.out.trans (since_below hb67) hszr)
          have hsz67 : wo.heap.size ≤ w6.heap.size := hw6.size
          have m1 : w.heap.size ≠ w6.heap.size := by omega
          have hdl : ¬ ((stc.length : Int) < (st6.length : Int)) := by omega
          have hfl := HFS7.out.len
          clear hst6 hfs hag hstep hf6 ho6 hw6 x0 x1 x2 x3 x4 x5 x6 x7 x8 x9 x10 y0 y1 y2 y3 y4 y5 y6 y7 y8 y9 y10 HX HGR HSIN HSN hwr cs hI hI4
          have hsz7 : (w6.alloc (.cells #[.int .i64 nxc, .slice p6 st6.length c6, .int .i64 hic, .bool b0c, .bool b1c, .bool b2c, .bool b3c, .bool b4c, .bool b5c, .bool b6c, .bool b7c] 25)).heap.size = w6.heap.size + 1 := size_box w6 _
          have x0 := heap_cell HX7.out 0
          have x1 := heap_cell HX7.out 1
          have x2 := heap_cell HX7.out 2
          have x3 := heap_cell HX7.out 3
          have x4 := heap_cell HX7.out 4
          have x5 := heap_cell HX7.out 5
          have x6 := heap_cell HX7.out 6
          have x7 := heap_cell HX7.out 7
          have x8 := heap_cell HX7.out 8
          have x9 := heap_cell HX7.out 9
          have x10 := heap_cell HX7.out 10
          go_wp2_with fail
          clear x0 x1 x2 x3 x4 x5 x6 x7 x8 x9 x10
          generalize w6.alloc (.cells #[.int .i64 nxc, .slice p6 st6.length c6, .int .i64 hic, .bool b0c, .bool b1c, .bool b2c, .bool b3c, .bool b4c, .bool b5c, .bool b6c, .bool b7c] 25) = w7 at *
          go_loopw [11, 79] (fun v11 v79 wq => ∃ j c : Nat, j ≤ fs.length ∧ v79 = .int .i64 j ∧ c = (fs.take j).countP (fun x => x.seq == g.seq) ∧ v11 = .int .i64 (cnt + (c : Int)) ∧ Below w7.heap.size w7 wq) (fun _ i _ => fs.length - (intOf i).toNat)
          case atStart => exact ⟨0, 0, Nat.zero_le _, rfl, by simp, by simp, Below.refl _ _⟩
          case round =>
            obtain ⟨wq, hwq⟩ : ∃ wq, wq = wr := ⟨_, rfl⟩
            subst hwq
            obtain ⟨j, c, hj, rfl, hc, rfl, hq⟩ := hrel
            have HC := hid hc
            have hcj : c ≤ j := by
              have := List.countP_le_length (p := fun x : Frm => x.seq == g.seq) (l := fs.take j)
              rw [← hc, List.length_take] at this
              omega
            clear hc
            by_cases hjl : j < fs.length
            · have hJ : (j : Int) < (fs.length : Int) := by omega
              obtain ⟨ba, pl', cl', pg', cg', pc', cc', rfl, hfx, d0, d1, d2, d3, d4, d5, d6, d7, d8, d9, d10⟩ := (HFS7.out.below hq).get j hjl
              have HM := hid (HSTEP.out.1 fs[j] (List.getElem_mem hjl))
              have hct : (fs.take (j + 1)).countP (fun x => x.seq == g.seq) = (fs.take j).countP (fun x => x.seq == g.seq) + [fs[j]].countP (fun x => x.seq == g.seq) := by rw [List.take_succ_eq_append_getElem hjl, List.countP_append]
              have HCT := hid hct
              have HFX := hid hfx
              clear hct hfx
              generalize fs[j] = x at *
              have HGQ := hid (heap_new (heap_keep HG7.out hq) (.cells #[.int .i64 x.fr, .int .i64 x.to, .int .i64 x.seq, .bool x.ack, .int .i64 x.thread, .int .i64 x.mail.host, .int .i64 x.mail.thread, .slice pl' x.mail.label.length cl', .slice pg' x.mail.grants.length cg', .string ⟨x.mail.text.toArray⟩, .slice pc' x.certs.length cc'] 33))
              have hneb : w1.heap.size ≠ wq.heap.size := by have := heap_lt (heap_keep HG7.out hq); omega
              have y0 := heap_cell HGQ.out 0
              have y1 := heap_cell HGQ.out 1
              have y2 := heap_cell HGQ.out 2
              have y3 := heap_cell HGQ.out 3
              have y4 := heap_cell HGQ.out 4
              have y5 := heap_cell HGQ.out 5
              have y6 := heap_cell HGQ.out 6
              have y7 := heap_cell HGQ.out 7
              have y8 := heap_cell HGQ.out 8
              have y9 := heap_cell HGQ.out 9
              have y10 := heap_cell HGQ.out 10
              by_cases hsq : x.seq = g.seq
              · obtain ⟨hxg, hth⟩ := HM.out hsq
                have hsb : (x.seq == g.seq) = true := beq_iff_eq.2 hsq
                have HF9 : Hid (FrmAt (wq.alloc (.cells #[.int .i64 x.fr, .int .i64 x.to, .int .i64 x.seq, .bool x.ack, .int .i64 x.thread, .int .i64 x.mail.host, .int .i64 x.mail.thread, .slice pl' x.mail.label.length cl', .slice pg' x.mail.grants.length cg', .string ⟨x.mail.text.toArray⟩, .slice pc' x.certs.length cc'] 33)) (.agg #[.int .i64 g.fr, .int .i64 g.to, .int .i64 g.seq, .bool g.ack, .int .i64 g.thread, .int .i64 g.mail.host, .int .i64 g.mail.thread, .slice gl g.mail.label.length hl', .slice gg g.mail.grants.length hg', .string ⟨g.mail.text.toArray⟩, .slice gc g.certs.length hc']) x) := hid (by rw [hxg]; exact HF3.out _ ((HSIN7.out.trans (since_below hq) (by have := hb67.size; omega)).trans (since_below (below_box wq _)) (by have := hb67.size; have := hq.size; omega)))
                have HCX : Hid ([x].countP (fun x => x.seq == g.seq) = 1) := hid (by simp [hsq])
                subst hth
                clear hsq hxg HM
                go_wp2_with (go_at_call 26; refine (ksameFrame_eq _ _ x _ (HFX.out.below (below_box wq _)) HF9.out).mono ?_; rintro e wz ⟨rfl, hwz⟩)
                go_roundw
                case rel => exact ⟨j + 1, c + 1, hjl, by go_num, by rw [HCT.out, HCX.out, ← HC.out], by go_num, below_then hq (below_then (below_box wq _) hwz)⟩
                case measure => simp [intOf]; omega
              · have hsb : (x.seq == g.seq) = false := beq_eq_false_iff_ne.2 hsq
                have HCX : Hid ([x].countP (fun x => x.seq == g.seq) = 0) := hid (by simp [hsq])
                clear hsq HM
                go_wp2
                go_roundw
                case rel => exact ⟨j + 1, c, hjl, by go_num, by rw [HCT.out, HCX.out, ← HC.out]; rfl, rfl, hq.alloc hq.size _⟩
                case measure => simp [intOf]; omega
            · have hJ : ¬ (j : Int) < (fs.length : Int) := by omega
              have hjf : j = fs.length := by omega
              subst hjf
              have hcf := HC.out
              rw [List.take_length] at hcf
              have HCF := hid hcf
              have HNQ := hid (heap_keep HN7.out hq)
              have z1 := heap_cell HNQ.out 1
              clear hcf HC
              go_wp2_with fail
              clear z1
              go_loopw [12, 102] (fun v12 v102 wt => ∃ (i : Nat) (t : Bool), i ≤ st6.length ∧ v102 = .int .i64 i ∧ v12 = .bool t ∧ t = (st6.take i).any (fun s => s.f.seq == g.seq) ∧ Below wq.heap.size wq wt) (fun _ i _ => st6.length - (intOf i).toNat)
              case atStart => exact ⟨0, false, Nat.zero_le _, rfl, rfl, by simp, Below.refl _ _⟩
              case round =>
                obtain ⟨wt, hwt⟩ : ∃ wt, wt = wr := ⟨_, rfl⟩
                subst hwt
                obtain ⟨i, t, hi6, rfl, rfl, ht, hqt⟩ := hrel
                have HTT := hid ht
                have hbt := below_then hq hqt
                clear ht
                by_cases hil : i < st6.length
                · have hJ2 : (i : Int) < (st6.length : Int) := by omega
                  have hsn7 : SntsAt w7 (.slice p6 st6.length c6) st6 := by have := HO7.out.snts hl6; rwa [hm6] at this
                  obtain ⟨be, oe, pl', cl', pg', cg', pc', cc', rfl, hat0⟩ := (hsn7.below hbt).get i hil
                  have hany : (st6.take (i + 1)).any (fun s => s.f.seq == g.seq) = ((st6.take i).any (fun s => s.f.seq == g.seq) || (st6[i].f.seq == g.seq)) := by rw [List.take_succ_eq_append_getElem hil, List.any_append]; simp
                  have HANY := hid hany
                  clear hany hsn7
                  generalize st6[i] = s at *
                  obtain ⟨d0, d1, d2, d3, d4, d5, d6, d7, d8, d9, d10, d11, d12, _, _, _⟩ := hat0
                  have HGT := hid (heap_new (heap_keep HG7.out hbt) (.cells #[.int .i64 s.f.fr, .int .i64 s.f.to, .int .i64 s.f.seq, .bool s.f.ack, .int .i64 s.f.thread, .int .i64 s.f.mail.host, .int .i64 s.f.mail.thread, .slice pl' s.f.mail.label.length cl', .slice pg' s.f.mail.grants.length cg', .string ⟨s.f.mail.text.toArray⟩, .slice pc' s.f.certs.length cc', .int .i64 s.tries, .int .i64 s.due] 56))
                  have y2 := heap_cell HGT.out 2
                  have hneb : w1.heap.size ≠ wt.heap.size := by have := heap_lt (heap_keep HG7.out hbt); omega
                  cases t with
                  | true =>
                    go_wp2
                    go_roundw
                    case rel => exact ⟨i + 1, true, hil, by go_num, rfl, by rw [HANY.out, ← HTT.out]; rfl, hqt.alloc hqt.size _⟩
                    case measure => simp [intOf]; omega
                  | false =>
                    by_cases hsq : s.f.seq = g.seq
                    · have hsb : (s.f.seq == g.seq) = true := beq_iff_eq.2 hsq
                      clear hsq
                      go_wp2
                      go_roundw
                      case rel => exact ⟨i + 1, true, hil, by go_num, rfl, by rw [HANY.out, ← HTT.out, hsb]; rfl, hqt.alloc hqt.size _⟩
                      case measure => simp [intOf]; omega
                    · have hsb : (s.f.seq == g.seq) = false := beq_eq_false_iff_ne.2 hsq
                      clear hsq
                      go_wp2
                      go_roundw
                      case rel => exact ⟨i + 1, false, hil, by go_num, rfl, by rw [HANY.out, ← HTT.out, hsb]; rfl, hqt.alloc hqt.size _⟩
                      case measure => simp [intOf]; omega
                · have hJ2 : ¬ (i : Int) < (st6.length : Int) := by omega
                  have hif : i = st6.length := by omega
                  subst hif
                  have htf := HTT.out
                  rw [List.take_length] at htf
                  have HTF := hid htf
                  have HNT := hid (heap_keep HN7.out hbt)
                  have HXT := hid (heap_keep HX7.out hbt)
                  have HST2 := hid (lbox_store HXT.out ((HO7.out.below hbt).low (show w.heap.size + 2 ≤ wo.heap.size by omega)) (show w.heap.size < w.heap.size + 2 by omega) hm6 hl6 nxc hic b0c b1c b2c b3c b4c b5c b6c b7c)
                  have hb7t := below_then hb7 hbt
                  have hs7t := HSIN7.out.trans (since_below hbt) (by have := hb67.size; omega)
                  have HS7T := hid hs7t
                  have hszt : w3.heap.size ≤ wt.heap.size := by have := hb67.size; have := hbt.size; omega
                  clear htf hs7t
                  have z0 := heap_cell HNT.out 0
                  have z1 := heap_cell HNT.out 1
                  have z2 := heap_cell HNT.out 2
                  have z3 := heap_cell HNT.out 3
                  have z4 := heap_cell HNT.out 4
                  have z5 := heap_cell HNT.out 5
                  have z6 := heap_cell HNT.out 6
                  have z7 := heap_cell HNT.out 7
                  have z8 := heap_cell HNT.out 8
                  have z9 := heap_cell HNT.out 9
                  have z10 := heap_cell HNT.out 10
                  have x0 := heap_cell HXT.out 0
                  have xf0 := heap_frozen HXT.out 0
                  have x1 := heap_cell HXT.out 1
                  have xf1 := heap_frozen HXT.out 1
                  have x2 := heap_cell HXT.out 2
                  have xf2 := heap_frozen HXT.out 2
                  have x3 := heap_cell HXT.out 3
                  have xf3 := heap_frozen HXT.out 3
                  have x4 := heap_cell HXT.out 4
                  have xf4 := heap_frozen HXT.out 4
                  have x5 := heap_cell HXT.out 5
                  have xf5 := heap_frozen HXT.out 5
                  have x6 := heap_cell HXT.out 6
                  have xf6 := heap_frozen HXT.out 6
                  have x7 := heap_cell HXT.out 7
                  have xf7 := heap_frozen HXT.out 7
                  have x8 := heap_cell HXT.out 8
                  have xf8 := heap_frozen HXT.out 8
                  have x9 := heap_cell HXT.out 9
                  have xf9 := heap_frozen HXT.out 9
                  have x10 := heap_cell HXT.out 10
                  have xf10 := heap_frozen HXT.out 10
                  go_wp2
                  go_roundw
                  case rel =>
                    have hgS := HST2.out.2
                    refine ⟨k + 1, nw2, cnt + (c : Int), t, ⟨nxc, st6, hic, [b0c, b1c, b2c, b3c, b4c, b5c, b6c, b7c]⟩, h40, by go_num, rfl, hn20, by omega, rfl, rfl, ?_, HST2.out.1, HS7T.out.trans (since_grown hgS (by omega)) hszt, Nat.le_trans hszt hgS.size, hb7t.grown hgS hb7t.size (fun k hk => by have := Option.some.inj hk; omega)⟩
                    have := HSTEP.out.2
                    rw [← HCF.out, ← HTF.out] at this
                    exact this
                  case measure => simp [intOf]; omega
        · have hI4 : ¬ (k : Int) < 40 := by omega
          obtain ⟨A, cA, hAc⟩ : ∃ A cA, ansLn ⟨nxc, stc, hic, [b0c, b1c, b2c, b3c, b4c, b5c, b6c, b7c]⟩ g.seq = (A, cA) := ⟨_, _, rfl⟩
          have hend := HTR.out.end
          rw [hAc] at hend
          simp only at hend
          obtain ⟨hend1, hend2⟩ := hend
          have HE2 := hid hend2
          have hcA : (cA == 0) = th := by rw [← hend1]; rfl
          clear hend1 hend2
          go_wp2_with fail
          refine (lans_any _ ⟨nxc, stc, hic, [b0c, b1c, b2c, b3c, b4c, b5c, b6c, b7c]⟩ g.seq _ (lne_of HSN.out nxc hic b0c b1c b2c b3c b4c b5c b6c b7c)).mono ?_
          rintro e w8 ⟨v8, rfl, hn8, hw8⟩
          rw [hAc] at hn8 ⊢
          simp only at hn8 ⊢
          obtain ⟨nx8, st8, hi8, b08, b18, b28, b38, b48, b58, b68, b78, p8, cap8, q8, e8, rfl, hm8, hl8, ho8⟩ := hn8.spell
          subst e8
          have HS8 := hid hn8.at
          have hst8 : st8.length ≤ 879609302220 := by rw [← hm8, List.length_map]; exact hl8
          have HG8 := hid (heap_keep HGR.out hw8)
          have hb8 := below_then hb hw8
          have hcl : cnt ≤ 5 := hcnt.2
          clear hAc hn8 ho8 x0 x1 x2 x3 x4 x5 x6 x7 x8 x9 x10 y0 y1 y2 y3 y4 y5 y6 y7 y8 y9 y10 hw8
          cases th with
          | true =>
            go_wp2_with fail
            go_loopw [131] (fun v131 wt => ∃ i : Nat, i ≤ st8.length ∧ v131 = .int .i64 i ∧ Below w8.heap.size w8 wt) (fun i _ => st8.length - (intOf i).toNat)
            case atStart => exact ⟨0, Nat.zero_le _, rfl, below_box w8 _⟩
            case round =>
              obtain ⟨wt, hwt⟩ : ∃ wt, wt = wr := ⟨_, rfl⟩
              subst hwt
              obtain ⟨i, hle8, rfl, hqt⟩ := hrel
              by_cases hil : i < st8.length
              · have hJ2 : (i : Int) < (st8.length : Int) := by omega
                obtain ⟨p9, cap9, ev9, hsn8⟩ : ∃ p cap, (Value.agg #[.int .i64 nx8, .slice p8 st8.length cap8, .int .i64 hi8, .bool b08, .bool b18, .bool b28, .bool b38, .bool b48, .bool b58, .bool b68, .bool b78]) = .agg #[.int .i64 nx8, .slice p st8.length cap, .int .i64 hi8, .bool b08, .bool b18, .bool b28, .bool b38, .bool b48, .bool b58, .bool b68, .bool b78] ∧ SntsAt w8 (.slice p st8.length cap) st8 := by
                  obtain ⟨vs, e, _, hsx⟩ := HS8.out
                  obtain ⟨p', cap', e'⟩ := hsx.slice
                  subst e'
                  exact ⟨p', cap', e, hsx⟩
                have e89 : p8 = p9 ∧ cap8 = cap9 := by
                  simp at ev9
                  exact ev9
                obtain ⟨rfl, rfl⟩ := e89
                clear ev9
                have hmem := HE2.out st8[i] (List.getElem_mem hil)
                obtain ⟨be, oe, pl', cl', pg', cg', pc', cc', rfl, hat0⟩ := (hsn8.below hqt).get i hil
                generalize st8[i] = s at *
                obtain ⟨d0, d1, d2, d3, d4, d5, d6, d7, d8, d9, d10, d11, d12, _, _, _⟩ := hat0
                have HGT := hid (heap_new (heap_keep HG8.out hqt) (.cells #[.int .i64 s.f.fr, .int .i64 s.f.to, .int .i64 s.f.seq, .bool s.f.ack, .int .i64 s.f.thread, .int .i64 s.f.mail.host, .int .i64 s.f.mail.thread, .slice pl' s.f.mail.label.length cl', .slice pg' s.f.mail.grants.length cg', .string ⟨s.f.mail.text.toArray⟩, .slice pc' s.f.certs.length cc', .int .i64 s.tries, .int .i64 s.due] 56))
                have y2 := heap_cell HGT.out 2
                have hsb : (s.f.seq == g.seq) = false := beq_eq_false_iff_ne.2 hmem
                clear hmem
                go_wp2
                go_roundw
                case rel => exact ⟨i + 1, hil, by go_num, hqt.alloc hqt.size _⟩
                case measure => simp [intOf]; omega
              · have hJ2 : ¬ (i : Int) < (st8.length : Int) := by omega
                go_wp2
                go_ret
                exact ⟨rfl, below_then hb8 hqt⟩
          | false =>
            go_wp2_with fail
            go_loopw [131] (fun v131 wt => ∃ i : Nat, i ≤ st8.length ∧ v131 = .int .i64 i ∧ Below w8.heap.size w8 wt) (fun i _ => st8.length - (intOf i).toNat)
            case atStart => exact ⟨0, Nat.zero_le _, rfl, below_box w8 _⟩
            case round =>
              obtain ⟨wt, hwt⟩ : ∃ wt, wt = wr := ⟨_, rfl⟩
              subst hwt
              obtain ⟨i, hle8, rfl, hqt⟩ := hrel
              by_cases hil : i < st8.length
              · have hJ2 : (i : Int) < (st8.length : Int) := by omega
                obtain ⟨p9, cap9, ev9, hsn8⟩ : ∃ p cap, (Value.agg #[.int .i64 nx8, .slice p8 st8.length cap8, .int .i64 hi8, .bool b08, .bool b18, .bool b28, .bool b38, .bool b48, .bool b58, .bool b68, .bool b78]) = .agg #[.int .i64 nx8, .slice p st8.length cap, .int .i64 hi8, .bool b08, .bool b18, .bool b28, .bool b38, .bool b48, .bool b58, .bool b68, .bool b78] ∧ SntsAt w8 (.slice p st8.length cap) st8 := by
                  obtain ⟨vs, e, _, hsx⟩ := HS8.out
                  obtain ⟨p', cap', e'⟩ := hsx.slice
                  subst e'
                  exact ⟨p', cap', e, hsx⟩
                have e89 : p8 = p9 ∧ cap8 = cap9 := by
                  simp at ev9
                  exact ev9
                obtain ⟨rfl, rfl⟩ := e89
                clear ev9
                have hmem := HE2.out st8[i] (List.getElem_mem hil)
                obtain ⟨be, oe, pl', cl', pg', cg', pc', cc', rfl, hat0⟩ := (hsn8.below hqt).get i hil
                generalize st8[i] = s at *
                obtain ⟨d0, d1, d2, d3, d4, d5, d6, d7, d8, d9, d10, d11, d12, _, _, _⟩ := hat0
                have HGT := hid (heap_new (heap_keep HG8.out hqt) (.cells #[.int .i64 s.f.fr, .int .i64 s.f.to, .int .i64 s.f.seq, .bool s.f.ack, .int .i64 s.f.thread, .int .i64 s.f.mail.host, .int .i64 s.f.mail.thread, .slice pl' s.f.mail.label.length cl', .slice pg' s.f.mail.grants.length cg', .string ⟨s.f.mail.text.toArray⟩, .slice pc' s.f.certs.length cc', .int .i64 s.tries, .int .i64 s.due] 56))
                have y2 := heap_cell HGT.out 2
                have hsb : (s.f.seq == g.seq) = false := beq_eq_false_iff_ne.2 hmem
                clear hmem
                go_wp2
                go_roundw
                case rel => exact ⟨i + 1, hil, by go_num, hqt.alloc hqt.size _⟩
                case measure => simp [intOf]; omega
              · have hJ2 : ¬ (i : Int) < (st8.length : Int) := by omega
                go_wp2
                go_ret
                exact ⟨rfl, below_then hb8 hqt⟩
      · have hI : ¬ (k : Int) < (steps.length : Int) := by omega
        obtain ⟨A, cA, hAc⟩ : ∃ A cA, ansLn ⟨nxc, stc, hic, [b0c, b1c, b2c, b3c, b4c, b5c, b6c, b7c]⟩ g.seq = (A, cA) := ⟨_, _, rfl⟩
        have hend := HTR.out.end
        rw [hAc] at hend
        simp only at hend
        obtain ⟨hend1, hend2⟩ := hend
        have HE2 := hid hend2
        have hcA : (cA == 0) = th := by rw [← hend1]; rfl
        clear hend1 hend2
        go_wp2_with fail
        refine (lans_any _ ⟨nxc, stc, hic, [b0c, b1c, b2c, b3c, b4c, b5c, b6c, b7c]⟩ g.seq _ (lne_of HSN.out nxc hic b0c b1c b2c b3c b4c b5c b6c b7c)).mono ?_
        rintro e w8 ⟨v8, rfl, hn8, hw8⟩
        rw [hAc] at hn8 ⊢
        simp only at hn8 ⊢
        obtain ⟨nx8, st8, hi8, b08, b18, b28, b38, b48, b58, b68, b78, p8, cap8, q8, e8, rfl, hm8, hl8, ho8⟩ := hn8.spell
        subst e8
        have HS8 := hid hn8.at
        have hst8 : st8.length ≤ 879609302220 := by rw [← hm8, List.length_map]; exact hl8
        have HG8 := hid (heap_keep HGR.out hw8)
        have hb8 := below_then hb hw8
        have hcl : cnt ≤ 5 := hcnt.2
        clear hAc hn8 ho8 x0 x1 x2 x3 x4 x5 x6 x7 x8 x9 x10 y0 y1 y2 y3 y4 y5 y6 y7 y8 y9 y10 hw8
        cases th with
        | true =>
          go_wp2_with fail
          go_loopw [131] (fun v131 wt => ∃ i : Nat, i ≤ st8.length ∧ v131 = .int .i64 i ∧ Below w8.heap.size w8 wt) (fun i _ => st8.length - (intOf i).toNat)
          case atStart => exact ⟨0, Nat.zero_le _, rfl, below_box w8 _⟩
          case round =>
            obtain ⟨wt, hwt⟩ : ∃ wt, wt = wr := ⟨_, rfl⟩
            subst hwt
            obtain ⟨i, hle8, rfl, hqt⟩ := hrel
            by_cases hil : i < st8.length
            · have hJ2 : (i : Int) < (st8.length : Int) := by omega
              obtain ⟨p9, cap9, ev9, hsn8⟩ : ∃ p cap, (Value.agg #[.int .i64 nx8, .slice p8 st8.length cap8, .int .i64 hi8, .bool b08, .bool b18, .bool b28, .bool b38, .bool b48, .bool b58, .bool b68, .bool b78]) = .agg #[.int .i64 nx8, .slice p st8.length cap, .int .i64 hi8, .bool b08, .bool b18, .bool b28, .bool b38, .bool b48, .bool b58, .bool b68, .bool b78] ∧ SntsAt w8 (.slice p st8.length cap) st8 := by
                obtain ⟨vs, e, _, hsx⟩ := HS8.out
                obtain ⟨p', cap', e'⟩ := hsx.slice
                subst e'
                exact ⟨p', cap', e, hsx⟩
              have e89 : p8 = p9 ∧ cap8 = cap9 := by
                simp at ev9
                exact ev9
              obtain ⟨rfl, rfl⟩ := e89
              clear ev9
              have hmem := HE2.out st8[i] (List.getElem_mem hil)
              obtain ⟨be, oe, pl', cl', pg', cg', pc', cc', rfl, hat0⟩ := (hsn8.below hqt).get i hil
              generalize st8[i] = s at *
              obtain ⟨d0, d1, d2, d3, d4, d5, d6, d7, d8, d9, d10, d11, d12, _, _, _⟩ := hat0
              have HGT := hid (heap_new (heap_keep HG8.out hqt) (.cells #[.int .i64 s.f.fr, .int .i64 s.f.to, .int .i64 s.f.seq, .bool s.f.ack, .int .i64 s.f.thread, .int .i64 s.f.mail.host, .int .i64 s.f.mail.thread, .slice pl' s.f.mail.label.length cl', .slice pg' s.f.mail.grants.length cg', .string ⟨s.f.mail.text.toArray⟩, .slice pc' s.f.certs.length cc', .int .i64 s.tries, .int .i64 s.due] 56))
              have y2 := heap_cell HGT.out 2
              have hsb : (s.f.seq == g.seq) = false := beq_eq_false_iff_ne.2 hmem
              clear hmem
              go_wp2
              go_roundw
              case rel => exact ⟨i + 1, hil, by go_num, hqt.alloc hqt.size _⟩
              case measure => simp [intOf]; omega
            · have hJ2 : ¬ (i : Int) < (st8.length : Int) := by omega
              go_wp2
              go_ret
              exact ⟨rfl, below_then hb8 hqt⟩
        | false =>
          go_wp2_with fail
          go_loopw [131] (fun v131 wt => ∃ i : Nat, i ≤ st8.length ∧ v131 = .int .i64 i ∧ Below w8.heap.size w8 wt) (fun i _ => st8.length - (intOf i).toNat)
          case atStart => exact ⟨0, Nat.zero_le _, rfl, below_box w8 _⟩
          case round =>
            obtain ⟨wt, hwt⟩ : ∃ wt, wt = wr := ⟨_, rfl⟩
            subst hwt
            obtain ⟨i, hle8, rfl, hqt⟩ := hrel
            by_cases hil : i < st8.length
            · have hJ2 : (i : Int) < (st8.length : Int) := by omega
              obtain ⟨p9, cap9, ev9, hsn8⟩ : ∃ p cap, (Value.agg #[.int .i64 nx8, .slice p8 st8.length cap8, .int .i64 hi8, .bool b08, .bool b18, .bool b28, .bool b38, .bool b48, .bool b58, .bool b68, .bool b78]) = .agg #[.int .i64 nx8, .slice p st8.length cap, .int .i64 hi8, .bool b08, .bool b18, .bool b28, .bool b38, .bool b48, .bool b58, .bool b68, .bool b78] ∧ SntsAt w8 (.slice p st8.length cap) st8 := by
                obtain ⟨vs, e, _, hsx⟩ := HS8.out
                obtain ⟨p', cap', e'⟩ := hsx.slice
                subst e'
                exact ⟨p', cap', e, hsx⟩
              have e89 : p8 = p9 ∧ cap8 = cap9 := by
                simp at ev9
                exact ev9
              obtain ⟨rfl, rfl⟩ := e89
              clear ev9
              have hmem := HE2.out st8[i] (List.getElem_mem hil)
              obtain ⟨be, oe, pl', cl', pg', cg', pc', cc', rfl, hat0⟩ := (hsn8.below hqt).get i hil
              generalize st8[i] = s at *
              obtain ⟨d0, d1, d2, d3, d4, d5, d6, d7, d8, d9, d10, d11, d12, _, _, _⟩ := hat0
              have HGT := hid (heap_new (heap_keep HG8.out hqt) (.cells #[.int .i64 s.f.fr, .int .i64 s.f.to, .int .i64 s.f.seq, .bool s.f.ack, .int .i64 s.f.thread, .int .i64 s.f.mail.host, .int .i64 s.f.mail.thread, .slice pl' s.f.mail.label.length cl', .slice pg' s.f.mail.grants.length cg', .string ⟨s.f.mail.text.toArray⟩, .slice pc' s.f.certs.length cc', .int .i64 s.tries, .int .i64 s.due] 56))
              have y2 := heap_cell HGT.out 2
              have hsb : (s.f.seq == g.seq) = false := beq_eq_false_iff_ne.2 hmem
              clear hmem
              go_wp2
              go_roundw
              case rel => exact ⟨i + 1, hil, by go_num, hqt.alloc hqt.size _⟩
              case measure => simp [intOf]; omega
            · have hJ2 : ¬ (i : Int) < (st8.length : Int) := by omega
              go_wp2
              go_ret
              exact ⟨rfl, below_then hb8 hqt⟩
  · have hcb : (cd == 0) = false := beq_eq_false_iff_ne.2 hcd
    go_wp2_with (go_at_call 25; refine (klines_any _).mono ?_; rintro e w3 ⟨rfl, hw3⟩)
    go_ret
    exact ⟨rfl, below_then hbw2 hw3⟩
end Go.Proofs.Ytmpjddnbdidleaa
