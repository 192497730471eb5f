/- How lines and what was sent on them lie in memory, and what keeps them there. -/
import Derived.Test.YtpdijobakfpnbaaGreatJWMem
import Derived.Test.YtpdijobakfpnbaaGreatJRows0
import Derived.Test.YtpdijobakfpnbaaGreatJPlain
import Derived.Test.YtpdijobakfpnbaaGreatJKMem
namespace Go.Proofs.YtpdijobakfpnbaaGreat
open Go.RowKit Go.Proofs.Parclose
structure SntV where
 s : Snt
 vl : Value
 vg : Value
 vc : Value
def SntV.cells (x : SntV) : List Value := [.int .i64 x.s.f.fr, .int .i64 x.s.f.to, .int .i64 x.s.f.seq, .bool x.s.f.ack, .int .i64 x.s.f.thread, .int .i64 x.s.f.mail.host, .int .i64 x.s.f.mail.thread, x.vl, x.vg, .string ⟨x.s.f.mail.text.toArray⟩, x.vc, .int .i64 x.s.tries, .int .i64 x.s.due]
structure SntV.Ok (w : World) (x : SntV) : Prop where
 lab : LabAt w x.vl x.s.f.mail.label
 nums : IntsAt w x.vg x.s.f.mail.grants
 crts : CrtsAt w x.vc x.s.f.certs
theorem SntV.Ok.below {w wr : World} {x : SntV} (h : x.Ok w) (hb : Below w.heap.size w wr) : x.Ok wr := ⟨h.lab.below hb, h.nums.below hb, h.crts.below hb⟩
def flatS (q : List SntV) : List Value := q.flatMap SntV.cells
theorem Qa4 (x : SntV) (q : List SntV) : flatS (x :: q) = x.cells ++ flatS q := rfl
theorem QaE (a b : List SntV) : flatS (a ++ b) = flatS a ++ flatS b := by simp [flatS]
theorem Qbt (q : List SntV) : (flatS q).length = q.length * 13 := by
 induction q with
 | nil => rfl
 | cons x r ih =>
  rw [Qa4, List.length_append, ih, List.length_cons]
  show 13 + r.length * 13 = _
  omega
theorem Qde : ∀ (q : List SntV) (j : Nat) (hj : j < q.length) (i : Nat) (_ : i < 13), (flatS q)[j * 13 + i]? = (q[j]).cells[i]?
 | x :: r, 0, _, i, hi => by
  rw [Qa4, List.getElem?_append_left (by show _ < 13; omega)]
  simp
 | x :: r, j + 1, hj, i, hi => by
  rw [Qa4, List.getElem?_append_right (by show 13 ≤ _; omega), show (j + 1) * 13 + i - x.cells.length = j * 13 + i by show (j + 1) * 13 + i - 13 = _; omega, Qde r j (by simpa using hj) i hi]
  simp
theorem QaD {w : World} {q : List SntV} (h : ∀ x ∈ q, x.Ok w) : ∀ u ∈ flatS q, u.oneCell' = true := by
 intro u hu
 obtain ⟨x, hx, hu⟩ := List.mem_flatMap.1 hu
 obtain ⟨⟨pl, cl, el, _⟩, ⟨pg, cg, eg, _⟩, ⟨pc, cc, ec, _⟩⟩ := h x hx
 unfold SntV.cells at hu
 rw [el, eg, ec] at hu
 simp only [List.mem_cons, List.not_mem_nil, or_false] at hu
 rcases hu with h | h | h | h | h | h | h | h | h | h | h | h | h <;> rw [h] <;> rfl
def RowAt (w : World) (v : Value) (q : List SntV) : Prop :=
 ∃ p cap, v = .slice p q.length cap ∧ (q.length ≤ cap ∧ (p = none → cap = 0)) ∧ q.length ≤ 879609302220 ∧ (0 < q.length → ∃ b o, p = some ⟨b, o, none⟩ ∧ ∀ j u, (flatS q)[j]? = some u → w.cell? ⟨b, o + j, none⟩ = some u)
def SntsAt (w : World) (v : Value) (l : List Snt) : Prop := ∃ q : List SntV, q.map (·.s) = l ∧ (∀ x ∈ q, x.Ok w) ∧ RowAt w v q
theorem RowAt.below {w wr : World} {v : Value} {q : List SntV} (h : RowAt w v q) (hb : Below w.heap.size w wr) : RowAt wr v q := by
 obtain ⟨p, cap, h1, h2, h3, h4⟩ := h
 refine ⟨p, cap, h1, h2, h3, fun h0 => ?_⟩
 obtain ⟨b, o, h5, h6⟩ := h4 h0
 exact ⟨b, o, h5, fun j u hu => by rw [hb.cell (Qf (h6 j u hu)), h6 j u hu]⟩
theorem SntsAt.below {w wr : World} {v : Value} {l : List Snt} (h : SntsAt w v l) (hb : Below w.heap.size w wr) : SntsAt wr v l := by
 obtain ⟨q, h1, h2, h3⟩ := h
 exact ⟨q, h1, fun x hx => (h2 x hx).below hb, h3.below hb⟩
theorem SntsAt.len {w : World} {v : Value} {l : List Snt} (h : SntsAt w v l) : l.length ≤ 879609302220 := by
 obtain ⟨q, rfl, _, p, cap, _, _, h3, _⟩ := h
 simpa using h3
theorem SntsAt.slice {w : World} {v : Value} {l : List Snt} (h : SntsAt w v l) : ∃ p cap, v = .slice p l.length cap := by
 obtain ⟨q, rfl, _, p, cap, rfl, _⟩ := h
 exact ⟨p, cap, by simp⟩
theorem SntsAt.nil (w : World) (p : Option Addr) (cap : Nat) (hp : p = none → cap = 0) : SntsAt w (.slice p 0 cap) [] :=
 ⟨[], rfl, fun x hx => absurd hx (by simp), p, cap, rfl, ⟨Nat.zero_le _, hp⟩, Nat.zero_le _, fun h => absurd h (by simp)⟩
structure SntAt (w : World) (b o : Nat) (s : Snt) (vl vg vc : Value) : Prop where
 c0 : w.cell? ⟨b, o, none⟩ = some (.int .i64 s.f.fr)
 c1 : w.cell? ⟨b, o + 1, none⟩ = some (.int .i64 s.f.to)
 c2 : w.cell? ⟨b, o + 2, none⟩ = some (.int .i64 s.f.seq)
 c3 : w.cell? ⟨b, o + 3, none⟩ = some (.bool s.f.ack)
 c4 : w.cell? ⟨b, o + 4, none⟩ = some (.int .i64 s.f.thread)
 c5 : w.cell? ⟨b, o + 5, none⟩ = some (.int .i64 s.f.mail.host)
 c6 : w.cell? ⟨b, o + 6, none⟩ = some (.int .i64 s.f.mail.thread)
 c7 : w.cell? ⟨b, o + 7, none⟩ = some vl
 c8 : w.cell? ⟨b, o + 8, none⟩ = some vg
 c9 : w.cell? ⟨b, o + 9, none⟩ = some (.string ⟨s.f.mail.text.toArray⟩)
 c10 : w.cell? ⟨b, o + 10, none⟩ = some vc
 c11 : w.cell? ⟨b, o + 11, none⟩ = some (.int .i64 s.tries)
 c12 : w.cell? ⟨b, o + 12, none⟩ = some (.int .i64 s.due)
 lab : LabAt w vl s.f.mail.label
 nums : IntsAt w vg s.f.mail.grants
 crts : CrtsAt w vc s.f.certs
theorem RowAt.get {w : World} {p : Option Addr} {n cap : Nat} {q : List SntV} (h : RowAt w (.slice p n cap) q) (hok : ∀ x ∈ q, x.Ok w) (j : Nat) (hj : j < q.length) :
 ∃ b o, p = some ⟨b, o, none⟩ ∧ SntAt w b (o + j * 13) (q[j]).s (q[j]).vl (q[j]).vg (q[j]).vc := by
 obtain ⟨p', cap', e, h2, h3, h4⟩ := h
 cases e
 obtain ⟨b, o, rfl, hc⟩ := h4 (by omega)
 have ho := hok _ (List.getElem_mem hj)
 have g : ∀ i, i < 13 → ∀ u, (q[j]).cells[i]? = some u → w.cell? ⟨b, o + j * 13 + i, none⟩ = some u := fun i hi u hu => by
  rw [Nat.add_assoc]
  exact hc _ _ (by rw [Qde q j hj i hi, hu])
 exact ⟨b, o, rfl, g 0 (by omega) _ rfl, g 1 (by omega) _ rfl, g 2 (by omega) _ rfl, g 3 (by omega) _ rfl, g 4 (by omega) _ rfl, g 5 (by omega) _ rfl, g 6 (by omega) _ rfl, g 7 (by omega) _ rfl, g 8 (by omega) _ rfl, g 9 (by omega) _ rfl, g 10 (by omega) _ rfl, g 11 (by omega) _ rfl, g 12 (by omega) _ rfl, ho.lab, ho.nums, ho.crts⟩
theorem SntsAt.get {w : World} {p : Option Addr} {n cap : Nat} {l : List Snt} (h : SntsAt w (.slice p n cap) l) (j : Nat) (hj : j < l.length) :
 ∃ b o pl cl pg cg pc cc, p = some ⟨b, o, none⟩ ∧ SntAt w b (o + j * 13) l[j] (.slice pl (l[j]).f.mail.label.length cl) (.slice pg (l[j]).f.mail.grants.length cg) (.slice pc (l[j]).f.certs.length cc) := by
 obtain ⟨q, rfl, hok, hr⟩ := h
 have hjq : j < q.length := by simpa using hj
 obtain ⟨b, o, hp, hs⟩ := hr.get hok j hjq
 obtain ⟨pl, cl, el, _⟩ := id hs.lab
 obtain ⟨pg, cg, eg, _⟩ := id hs.nums
 obtain ⟨pc, cc, ec, _⟩ := id hs.crts
 rw [el, eg, ec] at hs
 refine ⟨b, o, pl, cl, pg, cg, pc, cc, hp, ?_⟩
 simpa using hs
def lneV (l : Lne) (vs : Value) : Value := .agg #[.int .i64 l.next, vs, .int .i64 l.high, .bool (l.seen.getD 0 false), .bool (l.seen.getD 1 false), .bool (l.seen.getD 2 false), .bool (l.seen.getD 3 false), .bool (l.seen.getD 4 false), .bool (l.seen.getD 5 false), .bool (l.seen.getD 6 false), .bool (l.seen.getD 7 false)]
def LneAt (w : World) (v : Value) (l : Lne) : Prop := ∃ vs, v = lneV l vs ∧ l.seen.length = 8 ∧ SntsAt w vs l.sent
theorem LneAt.below {w wr : World} {v : Value} {l : Lne} (h : LneAt w v l) (hb : Below w.heap.size w wr) : LneAt wr v l := by
 obtain ⟨vs, h1, h2, h3⟩ := h
 exact ⟨vs, h1, h2, h3.below hb⟩
theorem list8 {α : Type} {l : List α} (h : l.length = 8) : ∃ b0 b1 b2 b3 b4 b5 b6 b7, l = [b0, b1, b2, b3, b4, b5, b6, b7] := by
 match l, h with
 | [b0, b1, b2, b3, b4, b5, b6, b7], _ => exact ⟨b0, b1, b2, b3, b4, b5, b6, b7, rfl⟩
theorem LneAt.spell {w : World} {v : Value} {l : Lne} (h : LneAt w v l) : ∃ nx st hi b0 b1 b2 b3 b4 b5 b6 b7 p cap, l = ⟨nx, st, hi, [b0, b1, b2, b3, b4, b5, b6, b7]⟩ ∧ v = .agg #[.int .i64 nx, .slice p st.length cap, .int .i64 hi, .bool b0, .bool b1, .bool b2, .bool b3, .bool b4, .bool b5, .bool b6, .bool b7] ∧ SntsAt w (.slice p st.length cap) st := by
 obtain ⟨vs, rfl, h8, hs⟩ := h
 obtain ⟨nx, st, hi, sn⟩ := l
 obtain ⟨b0, b1, b2, b3, b4, b5, b6, b7, e⟩ := list8 h8
 replace e : sn = [b0, b1, b2, b3, b4, b5, b6, b7] := e
 subst e
 obtain ⟨p, cap, rfl⟩ := hs.slice
 exact ⟨nx, st, hi, b0, b1, b2, b3, b4, b5, b6, b7, p, cap, rfl, rfl, hs⟩
theorem Qfp {w : World} {vs : Value} {st : List Snt} (h : SntsAt w vs st) (nx hi : Int) (b0 b1 b2 b3 b4 b5 b6 b7 : Bool) : LneAt w (.agg #[.int .i64 nx, vs, .int .i64 hi, .bool b0, .bool b1, .bool b2, .bool b3, .bool b4, .bool b5, .bool b6, .bool b7]) ⟨nx, st, hi, [b0, b1, b2, b3, b4, b5, b6, b7]⟩ := ⟨vs, rfl, rfl, h⟩
def RoCrts (w : World) (F : List Nat) (v : Value) (l : List Crt) : Prop := CrtsAt w v l ∧ (0 < l.length → ∀ k, v.ownBlock = some k → k ∉ F)
theorem RoCrts.keep {w w' : World} {F G : List Nat} {v : Value} {l : List Crt} (h : RoCrts w F v l) (hk : KeptF F w w') (hm : More w F G) : RoCrts w' G v l := by
 obtain ⟨⟨p, cap, rfl, h1, h2, h3⟩, h4⟩ := h
 have hc : 0 < l.length → ∃ b o, p = some ⟨b, o, none⟩ ∧ Cells4 w b o l ∧ b ∉ F ∧ b < w.heap.size := fun h0 => by
  obtain ⟨b, o, rfl, hc⟩ := h3 h0
  exact ⟨b, o, rfl, hc, h4 h0 b rfl, Qf (hc 0 h0).1⟩
 refine ⟨⟨p, cap, rfl, h1, h2, fun h0 => ?_⟩, fun h0 k hk2 hG => ?_⟩
 · obtain ⟨b, o, rfl, hcs, hb, _⟩ := hc h0
   exact ⟨b, o, rfl, fun j hj => ⟨hk.cell (hcs j hj).1 hb, hk.cell (hcs j hj).2.1 hb, hk.cell (hcs j hj).2.2.1 hb, hk.cell (hcs j hj).2.2.2 hb⟩⟩
 · obtain ⟨b, o, rfl, hcs, hb, hlt⟩ := hc h0
   cases hk2
   rcases hm.2 b hG with g | g
   · exact hb g
   · omega
structure SntV.Ro (w : World) (F : List Nat) (x : SntV) : Prop where
 lab : RoLab w F x.vl x.s.f.mail.label
 nums : RoInts w F x.vg x.s.f.mail.grants
 crts : RoCrts w F x.vc x.s.f.certs
theorem SntV.Ro.ok {w : World} {F : List Nat} {x : SntV} (h : x.Ro w F) : x.Ok w := ⟨h.lab.1, h.nums.1, h.crts.1⟩
theorem SntV.Ro.keep {w w' : World} {F G : List Nat} {x : SntV} (h : x.Ro w F) (hk : KeptF F w w') (hm : More w F G) : x.Ro w' G := ⟨h.lab.keep hk hm, h.nums.keep hk hm, h.crts.keep hk hm⟩
def RoSnts (w : World) (F : List Nat) (v : Value) (l : List Snt) : Prop := ∃ q : List SntV, q.map (·.s) = l ∧ (∀ x ∈ q, x.Ro w F) ∧ RowAt w v q ∧ (0 < q.length → ∀ k, v.ownBlock = some k → k ∉ F)
theorem RoSnts.at {w : World} {F : List Nat} {v : Value} {l : List Snt} (h : RoSnts w F v l) : SntsAt w v l := by
 obtain ⟨q, h1, h2, h3, _⟩ := h
 exact ⟨q, h1, fun x hx => (h2 x hx).ok, h3⟩
theorem RoSnts.keep {w w' : World} {F G : List Nat} {v : Value} {l : List Snt} (h : RoSnts w F v l) (hk : KeptF F w w') (hm : More w F G) : RoSnts w' G v l := by
 obtain ⟨q, h1, h2, ⟨p, cap, rfl, h3, h4, h5⟩, h6⟩ := h
 have hc : 0 < q.length → ∃ b o, p = some ⟨b, o, none⟩ ∧ (∀ j u, (flatS q)[j]? = some u → w.cell? ⟨b, o + j, none⟩ = some u) ∧ b ∉ F ∧ b < w.heap.size := fun h0 => by
  obtain ⟨b, o, rfl, hc⟩ := h5 h0
  have h00 : 0 < (flatS q).length := by rw [Qbt]; omega
  exact ⟨b, o, rfl, hc, h6 h0 b rfl, Qf (hc 0 _ (List.getElem?_eq_getElem h00))⟩
 refine ⟨q, h1, fun x hx => (h2 x hx).keep hk hm, ⟨p, cap, rfl, h3, h4, fun h0 => ?_⟩, fun h0 k hk2 hG => ?_⟩
 · obtain ⟨b, o, rfl, hcs, hb, _⟩ := hc h0
   exact ⟨b, o, rfl, fun j u hu => hk.cell (hcs j u hu) hb⟩
 · obtain ⟨b, o, rfl, hcs, hb, hlt⟩ := hc h0
   cases hk2
   rcases hm.2 b hG with g | g
   · exact hb g
   · omega
theorem Qca (n : Int) (w : World) : Calls Tryz.prog 149 #[.int .i64 n] w fun e w' => e = .returned (.bool (timeB n)) ∧ w' = w := by
 go_enter Tryz.func149, Tryz.ntmps149
 by_cases h1 : 0 ≤ n
 · by_cases h2 : n ≤ 1099511627776
   · go_wp2
     go_ret
     exact ⟨Qm (by simp [timeB]; omega), rfl⟩
   · go_wp2
     go_ret
     exact ⟨Qm (by simp [timeB]; omega), rfl⟩
 · go_wp2
   go_ret
   exact ⟨Qm (by simp [timeB]; omega), rfl⟩
def sntV (s : Snt) (vl vg vc : Value) : Value := .agg #[.int .i64 s.f.fr, .int .i64 s.f.to, .int .i64 s.f.seq, .bool s.f.ack, .int .i64 s.f.thread, .int .i64 s.f.mail.host, .int .i64 s.f.mail.thread, vl, vg, .string ⟨s.f.mail.text.toArray⟩, vc, .int .i64 s.tries, .int .i64 s.due]
theorem Qh3 (s : Snt) (pl pg pc : Option Addr) (n1 n2 n3 cl cg cc : Nat) (w : World) :
 Calls Tryz.prog 188 #[sntV s (.slice pl n1 cl) (.slice pg n2 cg) (.slice pc n3 cc)] w fun e w' => e = .returned (.bool (triesB s)) ∧ Below w.heap.size w w' := by
 unfold sntV
 go_enter Tryz.func188, Tryz.ntmps188
 by_cases h1 : 1 ≤ s.tries
 · by_cases h2 : s.tries ≤ 5
   · by_cases h3 : 0 ≤ s.due
     · go_wp2
       go_ret
       exact ⟨Qm (by simp [triesB, h1, h2, h3]), Qd w _⟩
     · go_wp2
       go_ret
       exact ⟨Qm (by simp [triesB]; omega), Qd w _⟩
   · go_wp2
     go_ret
     exact ⟨Qm (by simp [triesB]; omega), Qd w _⟩
 · go_wp2
   go_ret
   exact ⟨Qm (by simp [triesB]; omega), Qd w _⟩
theorem SntAt.below {w wr : World} {b o : Nat} {s : Snt} {vl vg vc : Value} (h : SntAt w b o s vl vg vc) (hb : Below w.heap.size w wr) : SntAt wr b o s vl vg vc := by
 have k : ∀ {j : Nat} {u : Value}, w.cell? ⟨b, j, none⟩ = some u → wr.cell? ⟨b, j, none⟩ = some u := fun hc => by rw [hb.cell (Qf hc), hc]
 exact ⟨k h.c0, k h.c1, k h.c2, k h.c3, k h.c4, k h.c5, k h.c6, k h.c7, k h.c8, k h.c9, k h.c10, k h.c11, k h.c12, h.lab.below hb, h.nums.below hb, h.crts.below hb⟩
set_option maxRecDepth 100000 in
set_option maxHeartbeats 1600000 in
theorem Qcb (v : Value) (L : Lne) (w : World) (hv : LneAt w v L) :
 Calls Tryz.prog 143 #[v] w fun e w' => e = .returned (.bool (goodLn L)) ∧ Below w.heap.size w w' := by
 obtain ⟨nx, st, hi, b0, b1, b2, b3, b4, b5, b6, b7, p, cap, rfl, rfl, hs⟩ := hv.spell
 have hlen := hs.len
 go_enter Tryz.func143, Tryz.ntmps143
 by_cases hh : headLn ⟨nx, st, hi, [b0, b1, b2, b3, b4, b5, b6, b7]⟩ = true
 · rw [QQ] at hh
   obtain ⟨h1, h2, h3, h4, h5⟩ := id hh
   simp only at h1 h2 h3 h4 h5
   have htm : timeB hi = true := by simp [timeB, h3, h4]
   have ht := fun wx => Qca hi wx
   rw [htm] at ht
   go_wp2_with (go_at_call 149; refine (ht _).mono ?_; rintro e w1 ⟨rfl, rfl⟩)
   go_loopw [3, 29] (fun bf i wr => ∃ (k : Nat) (n : Int), k ≤ st.length ∧ bf = .int .i64 n ∧ i = .int .i64 k ∧ rises nx 0 st = rises nx n (st.drop k) ∧ wr.heap[w.heap.size]? = some (.cells #[.int .i64 nx, .slice p st.length cap, .int .i64 hi, .bool b0, .bool b1, .bool b2, .bool b3, .bool b4, .bool b5, .bool b6, .bool b7] 71 (0, 0)) ∧ Below w.heap.size w wr) (fun _ i _ => st.length - (intOf i).toNat)
   case atStart => exact ⟨0, 0, Nat.zero_le _, rfl, rfl, by simp, heap_alloc_new w _, Qd w _⟩
   case round =>
    obtain ⟨k, n, hk, rfl, rfl, hr, hA, hb⟩ := hrel
    have a0 : wr.cell? ⟨w.heap.size, 0, none⟩ = some (.int .i64 nx) := Qa hA 0
    by_cases hlt : k < st.length
    · obtain ⟨bb, o, pl, cl, pg, cg, pc, cc, rfl, hat⟩ := hs.get k hlt
      have hat := hat.below hb
      obtain ⟨c0, c1, c2, c3, c4, c5, c6, c7, c8, c9, c10, c11, c12, _, _, _⟩ := hat
      rw [QhO nx n st k hlt] at hr
      have hI : (k : Int) < (st.length : Int) := by omega
      have htr := fun wx => Qh3 st[k] pl pg pc (st[k]).f.mail.label.length (st[k]).f.mail.grants.length (st[k]).f.certs.length cl cg cc wx
      unfold sntV at htr
      generalize st[k] = s at *
      have HA := hid hA
      have hlt1 := Qw hA
      have hne1 : w.heap.size ≠ wr.heap.size := by omega
      have hne2 : wr.heap.size ≠ w.heap.size := by omega
      clear hA hs hv hat
      have hI2 : (nx < s.f.seq) = ¬ (s.f.seq ≤ nx) := by simp
      by_cases hq1 : n < s.f.seq
      · by_cases hq2 : s.f.seq ≤ nx
        · cases ht5 : triesB s with
          | true =>
           rw [ht5] at htr
           go_wp2_with fail
           refine (htr _).mono ?_
           rintro e w1 ⟨rfl, hw1⟩
           have hbx := Qe (heap_alloc_new wr _) hw1
           have HA1 := hid (Qe (Qz HA.out _) hw1)
           have hb1 := Qc (hb.alloc hb.size _) hw1
           have s2 : w1.cell? ⟨wr.heap.size, 2, none⟩ = some (.int .i64 s.f.seq) := Qa hbx 2
           clear htr HA hbx hw1 hb
           go_wp2
           go_roundw
           case rel => exact ⟨k + 1, s.f.seq, hlt, rfl, by go_num, by rw [hr]; simp [hq1, sentB, hq2, ht5], HA1.out, hb1⟩
           case measure => simp [intOf]; omega
          | false =>
           rw [ht5] at htr
           go_wp2_with fail
           refine (htr _).mono ?_
           rintro e w1 ⟨rfl, hw1⟩
           have hb1 := Qc (hb.alloc hb.size _) hw1
           go_wp2
           go_ret
           exact ⟨Qm (by unfold goodLn; rw [hr]; simp [hq1, sentB, hq2, ht5]), hb1⟩
        · go_wp2
          go_ret
          exact ⟨Qm (by unfold goodLn; rw [hr, show sentB nx s = false by unfold sentB; rw [decide_eq_false (show ¬ s.f.seq ≤ nx by omega)]; rfl]; simp), hb.alloc hb.size _⟩
      · go_wp2
        go_ret
        exact ⟨Qm (by unfold goodLn; rw [hr, decide_eq_false (show ¬ n < s.f.seq by omega)]; simp), hb.alloc hb.size _⟩
    · have hd : st.drop k = [] := List.drop_eq_nil_of_le (by omega)
      rw [hd] at hr
      have hI : ¬ (k : Int) < (st.length : Int) := by omega
      go_wp2
      go_ret
      exact ⟨Qm (by unfold goodLn; rw [(QQ _).2 hh, hr]; rfl), hb⟩
 · have hg : goodLn ⟨nx, st, hi, [b0, b1, b2, b3, b4, b5, b6, b7]⟩ = false := by
    unfold goodLn
    cases e : headLn ⟨nx, st, hi, [b0, b1, b2, b3, b4, b5, b6, b7]⟩ with
    | true => exact absurd e hh
    | false => rfl
   rw [hg]
   rw [QQ] at hh
   simp only at hh
   have ht := fun wx => Qca hi wx
   by_cases h1 : 0 ≤ nx
   · by_cases h2 : nx < 1099511627776
     · cases htm : timeB hi with
       | true =>
        rw [htm] at ht
        have h3 : 8 < (st.length : Int) := by
         simp only [timeB, decide_eq_true_eq] at htm
         omega
        go_wp2_with (go_at_call 149; refine (ht _).mono ?_; rintro e w1 ⟨rfl, rfl⟩)
        go_ret
        exact ⟨rfl, Qd w _⟩
       | false =>
        rw [htm] at ht
        go_wp2_with (go_at_call 149; refine (ht _).mono ?_; rintro e w1 ⟨rfl, rfl⟩)
        go_ret
        exact ⟨rfl, Qd w _⟩
     · go_wp2
       go_ret
       exact ⟨rfl, Qd w _⟩
   · go_wp2
     go_ret
     exact ⟨rfl, Qd w _⟩
theorem Qly (s : Snt) (pl pg pc : Option Addr) (n1 n2 n3 cl cg cc : Nat) (c : Nat) (q : Int) (w : World) (hc : w.cell? ⟨c, 0, none⟩ = some (.int .i64 q)) :
 Calls Tryz.prog 145 #[sntV s (.slice pl n1 cl) (.slice pg n2 cg) (.slice pc n3 cc), .pointer (some ⟨c, 0, none⟩)] w fun e w' => e = .returned (.bool (s.f.seq == q)) ∧ Below w.heap.size w w' := by
 have hlt := Qf hc
 simp only at hlt
 have n1' : c ≠ w.heap.size := by omega
 have n2' : w.heap.size ≠ c := by omega
 unfold sntV
 go_enter Tryz.func145, Tryz.ntmps145
 go_wp2
 go_ret
 exact ⟨rfl, Qd w _⟩
theorem QgM (q : Int) (l : List Snt) (k : Nat) (hk : k < l.length) : firstN q k (l.drop k) = if (l[k]).f.seq = q then (k : Int) else firstN q (k + 1) (l.drop (k + 1)) := by
 rw [List.drop_eq_getElem_cons hk]
 rfl
set_option maxRecDepth 100000 in
set_option maxHeartbeats 1600000 in
theorem Qh6 (v : Value) (l : List Snt) (c : Nat) (q : Int) (w : World) (hv : SntsAt w v l) (hc : w.cell? ⟨c, 0, none⟩ = some (.int .i64 q)) :
 Calls Tryz.prog 144 #[v, .func (.func 145) #[] #[.pointer (some ⟨c, 0, none⟩)]] w fun e w' => e = .returned (.int .i64 (firstN q 0 l)) ∧ Below w.heap.size w w' := by
 have hlen := hv.len
 obtain ⟨p, cap, rfl⟩ := hv.slice
 go_enter Tryz.func144, Tryz.ntmps144
 go_wp2
 go_loopw [8] (fun i wr => ∃ k : Nat, k ≤ l.length ∧ i = .int .i64 k ∧ firstN q 0 l = firstN q k (l.drop k) ∧ Below w.heap.size w wr) (fun i _ => l.length - (intOf i).toNat)
 case atStart => exact ⟨0, Nat.zero_le _, rfl, by simp, Below.refl _ _⟩
 case round =>
  obtain ⟨k, hk, rfl, hf, hb⟩ := hrel
  by_cases hlt : k < l.length
  · have hI : (k : Int) < (l.length : Int) := by omega
    obtain ⟨bb, o, pl, cl, pg, cg, pc, cc, rfl, hat⟩ := hv.get k hlt
    have hat := hat.below hb
    obtain ⟨c0, c1, c2, c3, c4, c5, c6, c7, c8, c9, c10, c11, c12, _, _, _⟩ := hat
    rw [QgM q l k hlt] at hf
    have hcc : wr.cell? ⟨c, 0, none⟩ = some (.int .i64 q) := by rw [hb.cell (Qf hc), hc]
    have hh := fun wx (h : wx.cell? ⟨c, 0, none⟩ = some (.int .i64 q)) => Qly l[k] pl pg pc (l[k]).f.mail.label.length (l[k]).f.mail.grants.length (l[k]).f.certs.length cl cg cc c q wx h
    unfold sntV at hh
    have HF := hid hf
    generalize l[k] = s at *
    clear hv hf
    by_cases hq : s.f.seq = q
    · have hqb : (s.f.seq == q) = true := beq_iff_eq.2 hq
      rw [hqb] at hh
      have HQ := hid hq
      clear hq hqb
      go_wp2_with (go_at_call 145; refine (hh _ hcc).mono ?_; rintro e w1 ⟨rfl, hw1⟩)
      go_ret
      exact ⟨QE (by rw [HF.out, if_pos HQ.out]), Qc hb hw1⟩
    · have hqb : (s.f.seq == q) = false := beq_eq_false_iff_ne.2 hq
      rw [hqb] at hh
      have HQ := hid hq
      clear hq hqb
      go_wp2_with (go_at_call 145; refine (hh _ hcc).mono ?_; rintro e w1 ⟨rfl, hw1⟩)
      go_roundw
      case rel => exact ⟨k + 1, hlt, by go_num, by rw [HF.out, if_neg HQ.out], Qc hb hw1⟩
      case measure => simp [intOf]; omega
  · have hI : ¬ (k : Int) < (l.length : Int) := by omega
    have hd : l.drop k = [] := List.drop_eq_nil_of_le (by omega)
    rw [hd] at hf
    go_wp2
    go_ret
    exact ⟨QE rfl, hb⟩
end Go.Proofs.YtpdijobakfpnbaaGreat
