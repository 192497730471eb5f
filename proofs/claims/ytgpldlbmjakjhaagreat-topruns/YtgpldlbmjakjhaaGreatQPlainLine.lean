/- Plain facts on lines: which are good, what is sent, answered, sent again and taken; no program is named here. -/
import Derived.Test.YtgpldlbmjakjhaaGreatQPlainWire
import Derived.Laws.ResultCell
import Derived.Laws.CopyOwn
import Derived.Deep.RegionLaw
namespace Go.Proofs.Parclose

structure Snt where
  f : Frm
  tries : Int
  due : Int

structure Lne where
  next : Int
  sent : List Snt
  high : Int
  seen : List Bool

def zeroLne : Lne := ⟨0, [], 0, [false, false, false, false, false, false, false, false]⟩
def triesB (s : Snt) : Bool := decide (1 ≤ s.tries ∧ s.tries ≤ 5 ∧ 0 ≤ s.due ∧ s.due ≤ 2199023255552)
def sentB (next : Int) (s : Snt) : Bool := decide (s.f.seq ≤ next) && triesB s
/-- the numbers rise from a number on -/
def rises (next : Int) : Int → List Snt → Bool
  | _, [] => true
  | n, s :: r => decide (n < s.f.seq) && sentB next s && rises next s.f.seq r
def headLn (l : Lne) : Bool := decide (0 ≤ l.next ∧ l.next < 1099511627776 ∧ 0 ≤ l.high ∧ l.high ≤ 1099511627776 ∧ l.sent.length ≤ 8)
def goodLn (l : Lne) : Bool := headLn l && rises l.next 0 l.sent

/-- what was seen, when the greatest number grows by n -/
def shiftL (n : Nat) (s : List Bool) : List Bool := (List.replicate (min n 8) false ++ s).take 8
def takeLn (l : Lne) (q : Int) : Lne × Int :=
  if goodLn l && decide (1 ≤ q ∧ q ≤ 1099511627776) then
    if q ≤ l.high - 8 then (l, 11)
    else if l.high < q then ({ l with high := q, seen := (shiftL (q - l.high).toNat l.seen).set 0 true }, 0)
    else if l.seen[(l.high - q).toNat]? = some true then (l, 10)
    else ({ l with seen := l.seen.set (l.high - q).toNat true }, 0)
  else (l, 2)
def sendLn (l : Lne) (f : Frm) (now : Int) : Lne × Frm × Int :=
  if goodLn l && timeB now then
    if l.sent.length = 8 ∨ l.next = 1099511627775 then (l, zeroFrm, 5)
    else ({ l with next := l.next + 1, sent := l.sent ++ [⟨{ f with seq := l.next + 1 }, 1, now + 2⟩] }, { f with seq := l.next + 1 }, 0)
  else (l, zeroFrm, 2)
def ansLn (l : Lne) (q : Int) : Lne × Int :=
  if goodLn l then
    if l.sent.all (fun s => !(s.f.seq == q)) then (l, 4)
    else ({ l with sent := l.sent.filter (fun s => !(s.f.seq == q)) }, 0)
  else (l, 2)
def againS (now : Int) (s : Snt) : List Snt := if now < s.due then [s] else if s.tries = 5 then [] else [{ s with tries := s.tries + 1, due := now + 2 ^ (s.tries + 1).toNat }]
def againF (now : Int) (s : Snt) : List Frm := if now < s.due then [] else if s.tries = 5 then [] else [s.f]
def againLn (l : Lne) (now : Int) : Lne × List Frm × Int :=
  if goodLn l && timeB now then ({ l with sent := l.sent.flatMap (againS now) }, l.sent.flatMap (againF now), 0) else (l, [], 2)

theorem rises_drop (next n : Int) (l : List Snt) (k : Nat) (hk : k < l.length) : rises next n (l.drop k) = (decide (n < (l[k]).f.seq) && sentB next l[k] && rises next (l[k]).f.seq (l.drop (k + 1))) := by
  rw [List.drop_eq_getElem_cons hk]
  rfl

theorem headLn_iff (l : Lne) : headLn l = true ↔ 0 ≤ l.next ∧ l.next < 1099511627776 ∧ 0 ≤ l.high ∧ l.high ≤ 1099511627776 ∧ l.sent.length ≤ 8 := by simp [headLn]
theorem goodLn_head {l : Lne} (h : goodLn l = true) : headLn l = true := by
  unfold goodLn at h
  simp only [Bool.and_eq_true] at h
  exact h.1
theorem goodLn_rises {l : Lne} (h : goodLn l = true) : rises l.next 0 l.sent = true := by
  unfold goodLn at h
  simp only [Bool.and_eq_true] at h
  exact h.2

theorem rises_mem {next : Int} : ∀ {l : List Snt} {n : Int}, rises next n l = true → ∀ s ∈ l, n < s.f.seq ∧ s.f.seq ≤ next ∧ triesB s = true
  | [], _, _, s, h => by cases h
  | x :: r, n, h, s, hs => by
    simp only [rises, sentB, Bool.and_eq_true, decide_eq_true_eq] at h
    rcases List.mem_cons.1 hs with rfl | hm
    · exact ⟨h.1.1, h.1.2.1, h.1.2.2⟩
    · have := rises_mem h.2 s hm
      exact ⟨by omega, this.2⟩
/-- one that is in a row that rises is the only one with its number -/
theorem rises_only {next : Int} : ∀ {l : List Snt} {n : Int} (_ : rises next n l = true) (i : Nat) (hi : i < l.length), l.filter (fun s => !(s.f.seq == (l[i]).f.seq)) = l.take i ++ l.drop (i + 1)
  | x :: r, n, h, 0, _ => by
    simp only [rises, Bool.and_eq_true] at h
    have hm := rises_mem h.2
    rw [List.filter_cons]
    simp only [List.getElem_cons_zero, beq_self_eq_true, Bool.not_true, Bool.false_eq_true, if_false, List.take_zero, List.nil_append, List.drop_succ_cons, List.drop_zero]
    rw [List.filter_eq_self]
    intro s hs
    have := (hm s hs).1
    simp
    omega
  | x :: r, n, h, i + 1, hi => by
    simp only [rises, Bool.and_eq_true] at h
    have hm := rises_mem h.2
    have hir : i < r.length := by simpa using hi
    have hne := (hm r[i] (List.getElem_mem hir)).1
    rw [List.filter_cons]
    simp only [List.getElem_cons_succ]
    rw [if_pos (by simp; omega), rises_only h.2 i hir]
    simp

theorem again_length (now : Int) : ∀ l : List Snt, (l.flatMap (againS now)).length ≤ l.length
  | [] => Nat.le_refl _
  | x :: r => by
    have ih := again_length now r
    have hx : (againS now x).length ≤ 1 := by
      unfold againS
      split
      · simp
      · split <;> simp
    simp only [List.flatMap_cons, List.length_append, List.length_cons]
    omega

theorem shiftL_length {s : List Bool} (hs : s.length = 8) (n : Nat) : (shiftL n s).length = 8 := by
  simp only [shiftL, List.length_take, List.length_append, List.length_replicate, hs]
  omega
theorem take_length (l : Lne) (q : Int) (h : l.seen.length = 8) : (takeLn l q).1.seen.length = 8 := by
  unfold takeLn
  split
  · split
    · exact h
    · split
      · simp [shiftL_length h]
      · split
        · exact h
        · simpa using h
  · exact h
theorem shiftL_get {s : List Bool} (n k : Nat) (hk : k < 8) : (shiftL n s)[k]? = if k < n then some false else s[k - n]? := by
  unfold shiftL
  rw [List.getElem?_take, if_pos hk]
  by_cases h : k < n
  · rw [if_pos h, List.getElem?_append_left (by simp; omega), List.getElem?_replicate, if_pos (by omega)]
  · rw [if_neg h, List.getElem?_append_right (by simp; omega), List.length_replicate, show min n 8 = n by omega]

end Go.Proofs.Parclose

namespace Go.Proofs.YtgpldlbmjakjhaaGreat
open Go.RowKit Go.Proofs.Parclose

/-- what was sent, and the values of its lists -/
structure SntV where
  s : Snt
  vl : Value
  vg : Value
  vc : Value
def SntV.cells (x : SntV) : List Value := [.int .i64 x.s.f.fr, .int .i64 x.s.f.to, .int .i64 x.s.f.seq, .bool x.s.f.ack, .int .i64 x.s.f.thread, .int .i64 x.s.f.mail.host, .int .i64 x.s.f.mail.thread, x.vl, x.vg, .string ⟨x.s.f.mail.text.toArray⟩, x.vc, .int .i64 x.s.tries, .int .i64 x.s.due]
structure SntV.Ok (w : World) (x : SntV) : Prop where
  lab : LabAt w x.vl x.s.f.mail.label
  nums : IntsAt w x.vg x.s.f.mail.grants
  crts : CrtsAt w x.vc x.s.f.certs
theorem SntV.Ok.below {w wr : World} {x : SntV} (h : x.Ok w) (hb : Below w.heap.size w wr) : x.Ok wr := ⟨h.lab.below hb, h.nums.below hb, h.crts.below hb⟩
def flatS (q : List SntV) : List Value := q.flatMap SntV.cells

theorem flatS_cons (x : SntV) (q : List SntV) : flatS (x :: q) = x.cells ++ flatS q := rfl
theorem flatS_app (a b : List SntV) : flatS (a ++ b) = flatS a ++ flatS b := by simp [flatS]
theorem flatS_len (q : List SntV) : (flatS q).length = q.length * 13 := by
  induction q with
  | nil => rfl
  | cons x r ih =>
    rw [flatS_cons, List.length_append, ih, List.length_cons]
    show 13 + r.length * 13 = _
    omega
theorem flatS_get : ∀ (q : List SntV) (j : Nat) (hj : j < q.length) (i : Nat) (_ : i < 13), (flatS q)[j * 13 + i]? = (q[j]).cells[i]?
  | x :: r, 0, _, i, hi => by
    rw [flatS_cons, List.getElem?_append_left (by show _ < 13; omega)]
    simp
  | x :: r, j + 1, hj, i, hi => by
    rw [flatS_cons, List.getElem?_append_right (by show 13 ≤ _; omega), show (j + 1) * 13 + i - x.cells.length = j * 13 + i by show (j + 1) * 13 + i - 13 = _; omega, flatS_get r j (by simpa using hj) i hi]
    simp
theorem flatS_one {w : World} {q : List SntV} (h : ∀ x ∈ q, x.Ok w) : ∀ u ∈ flatS q, u.oneCell' = true := by
  intro u hu
  obtain ⟨x, hx, hu⟩ := List.mem_flatMap.1 hu
  obtain ⟨⟨pl, cl, el, _⟩, ⟨pg, cg, eg, _⟩, ⟨pc, cc, ec, _⟩⟩ := h x hx
  unfold SntV.cells at hu
  rw [el, eg, ec] at hu
  simp only [List.mem_cons, List.not_mem_nil, or_false] at hu
  rcases hu with h | h | h | h | h | h | h | h | h | h | h | h | h <;> rw [h] <;> rfl

/-- v is a slice whose elements are what was sent, as q has it -/
def RowAt (w : World) (v : Value) (q : List SntV) : Prop :=
  ∃ p cap, v = .slice p q.length cap ∧ (q.length ≤ cap ∧ (p = none → cap = 0)) ∧ q.length ≤ 879609302220 ∧ (0 < q.length → ∃ b o, p = some ⟨b, o, none⟩ ∧ ∀ j u, (flatS q)[j]? = some u → w.cell? ⟨b, o + j, none⟩ = some u)
/-- v is a slice whose elements are what was sent, l -/
def SntsAt (w : World) (v : Value) (l : List Snt) : Prop := ∃ q : List SntV, q.map (·.s) = l ∧ (∀ x ∈ q, x.Ok w) ∧ RowAt w v q

theorem RowAt.below {w wr : World} {v : Value} {q : List SntV} (h : RowAt w v q) (hb : Below w.heap.size w wr) : RowAt wr v q := by
  obtain ⟨p, cap, h1, h2, h3, h4⟩ := h
  refine ⟨p, cap, h1, h2, h3, fun h0 => ?_⟩
  obtain ⟨b, o, h5, h6⟩ := h4 h0
  exact ⟨b, o, h5, fun j u hu => by rw [hb.cell (cell_block (h6 j u hu)), h6 j u hu]⟩
theorem SntsAt.below {w wr : World} {v : Value} {l : List Snt} (h : SntsAt w v l) (hb : Below w.heap.size w wr) : SntsAt wr v l := by
  obtain ⟨q, h1, h2, h3⟩ := h
  exact ⟨q, h1, fun x hx => (h2 x hx).below hb, h3.below hb⟩
theorem SntsAt.len {w : World} {v : Value} {l : List Snt} (h : SntsAt w v l) : l.length ≤ 879609302220 := by
  obtain ⟨q, rfl, _, p, cap, _, _, h3, _⟩ := h
  simpa using h3
theorem SntsAt.slice {w : World} {v : Value} {l : List Snt} (h : SntsAt w v l) : ∃ p cap, v = .slice p l.length cap := by
  obtain ⟨q, rfl, _, p, cap, rfl, _⟩ := h
  exact ⟨p, cap, by simp⟩
theorem SntsAt.nil (w : World) (p : Option Addr) (cap : Nat) (hp : p = none → cap = 0) : SntsAt w (.slice p 0 cap) [] :=
  ⟨[], rfl, fun x hx => absurd hx (by simp), p, cap, rfl, ⟨Nat.zero_le _, hp⟩, Nat.zero_le _, fun h => absurd h (by simp)⟩

/-- one that was sent: the cells from o on -/
structure SntAt (w : World) (b o : Nat) (s : Snt) (vl vg vc : Value) : Prop where
  c0 : w.cell? ⟨b, o, none⟩ = some (.int .i64 s.f.fr)
  c1 : w.cell? ⟨b, o + 1, none⟩ = some (.int .i64 s.f.to)
  c2 : w.cell? ⟨b, o + 2, none⟩ = some (.int .i64 s.f.seq)
  c3 : w.cell? ⟨b, o + 3, none⟩ = some (.bool s.f.ack)
  c4 : w.cell? ⟨b, o + 4, none⟩ = some (.int .i64 s.f.thread)
  c5 : w.cell? ⟨b, o + 5, none⟩ = some (.int .i64 s.f.mail.host)
  c6 : w.cell? ⟨b, o + 6, none⟩ = some (.int .i64 s.f.mail.thread)
  c7 : w.cell? ⟨b, o + 7, none⟩ = some vl
  c8 : w.cell? ⟨b, o + 8, none⟩ = some vg
  c9 : w.cell? ⟨b, o + 9, none⟩ = some (.string ⟨s.f.mail.text.toArray⟩)
  c10 : w.cell? ⟨b, o + 10, none⟩ = some vc
  c11 : w.cell? ⟨b, o + 11, none⟩ = some (.int .i64 s.tries)
  c12 : w.cell? ⟨b, o + 12, none⟩ = some (.int .i64 s.due)
  lab : LabAt w vl s.f.mail.label
  nums : IntsAt w vg s.f.mail.grants
  crts : CrtsAt w vc s.f.certs

theorem RowAt.get {w : World} {p : Option Addr} {n cap : Nat} {q : List SntV} (h : RowAt w (.slice p n cap) q) (hok : ∀ x ∈ q, x.Ok w) (j : Nat) (hj : j < q.length) :
    ∃ b o, p = some ⟨b, o, none⟩ ∧ SntAt w b (o + j * 13) (q[j]).s (q[j]).vl (q[j]).vg (q[j]).vc := by
  obtain ⟨p', cap', e, h2, h3, h4⟩ := h
  cases e
  obtain ⟨b, o, rfl, hc⟩ := h4 (by omega)
  have ho := hok _ (List.getElem_mem hj)
  have g : ∀ i, i < 13 → ∀ u, (q[j]).cells[i]? = some u → w.cell? ⟨b, o + j * 13 + i, none⟩ = some u := fun i hi u hu => by
    rw [Nat.add_assoc]
    exact hc _ _ (by rw [flatS_get q j hj i hi, hu])
  exact ⟨b, o, rfl, g 0 (by omega) _ rfl, g 1 (by omega) _ rfl, g 2 (by omega) _ rfl, g 3 (by omega) _ rfl, g 4 (by omega) _ rfl, g 5 (by omega) _ rfl, g 6 (by omega) _ rfl, g 7 (by omega) _ rfl, g 8 (by omega) _ rfl, g 9 (by omega) _ rfl, g 10 (by omega) _ rfl, g 11 (by omega) _ rfl, g 12 (by omega) _ rfl, ho.lab, ho.nums, ho.crts⟩
theorem SntsAt.get {w : World} {p : Option Addr} {n cap : Nat} {l : List Snt} (h : SntsAt w (.slice p n cap) l) (j : Nat) (hj : j < l.length) :
    ∃ b o pl cl pg cg pc cc, p = some ⟨b, o, none⟩ ∧ SntAt w b (o + j * 13) l[j] (.slice pl (l[j]).f.mail.label.length cl) (.slice pg (l[j]).f.mail.grants.length cg) (.slice pc (l[j]).f.certs.length cc) := by
  obtain ⟨q, rfl, hok, hr⟩ := h
  have hjq : j < q.length := by simpa using hj
  obtain ⟨b, o, hp, hs⟩ := hr.get hok j hjq
  obtain ⟨pl, cl, el, _⟩ := id hs.lab
  obtain ⟨pg, cg, eg, _⟩ := id hs.nums
  obtain ⟨pc, cc, ec, _⟩ := id hs.crts
  rw [el, eg, ec] at hs
  refine ⟨b, o, pl, cl, pg, cg, pc, cc, hp, ?_⟩
  simpa using hs

def lneV (l : Lne) (vs : Value) : Value := .agg #[.int .i64 l.next, vs, .int .i64 l.high, .bool (l.seen.getD 0 false), .bool (l.seen.getD 1 false), .bool (l.seen.getD 2 false), .bool (l.seen.getD 3 false), .bool (l.seen.getD 4 false), .bool (l.seen.getD 5 false), .bool (l.seen.getD 6 false), .bool (l.seen.getD 7 false)]
/-- v is the line l -/
def LneAt (w : World) (v : Value) (l : Lne) : Prop := ∃ vs, v = lneV l vs ∧ l.seen.length = 8 ∧ SntsAt w vs l.sent
theorem LneAt.below {w wr : World} {v : Value} {l : Lne} (h : LneAt w v l) (hb : Below w.heap.size w wr) : LneAt wr v l := by
  obtain ⟨vs, h1, h2, h3⟩ := h
  exact ⟨vs, h1, h2, h3.below hb⟩
theorem list8 {α : Type} {l : List α} (h : l.length = 8) : ∃ b0 b1 b2 b3 b4 b5 b6 b7, l = [b0, b1, b2, b3, b4, b5, b6, b7] := by
  match l, h with
  | [b0, b1, b2, b3, b4, b5, b6, b7], _ => exact ⟨b0, b1, b2, b3, b4, b5, b6, b7, rfl⟩
/-- a line, spelled -/
theorem LneAt.spell {w : World} {v : Value} {l : Lne} (h : LneAt w v l) : ∃ nx st hi b0 b1 b2 b3 b4 b5 b6 b7 p cap, l = ⟨nx, st, hi, [b0, b1, b2, b3, b4, b5, b6, b7]⟩ ∧ v = .agg #[.int .i64 nx, .slice p st.length cap, .int .i64 hi, .bool b0, .bool b1, .bool b2, .bool b3, .bool b4, .bool b5, .bool b6, .bool b7] ∧ SntsAt w (.slice p st.length cap) st := by
  obtain ⟨vs, rfl, h8, hs⟩ := h
  obtain ⟨nx, st, hi, sn⟩ := l
  obtain ⟨b0, b1, b2, b3, b4, b5, b6, b7, e⟩ := list8 h8
  replace e : sn = [b0, b1, b2, b3, b4, b5, b6, b7] := e
  subst e
  obtain ⟨p, cap, rfl⟩ := hs.slice
  exact ⟨nx, st, hi, b0, b1, b2, b3, b4, b5, b6, b7, p, cap, rfl, rfl, hs⟩
theorem lne_of {w : World} {vs : Value} {st : List Snt} (h : SntsAt w vs st) (nx hi : Int) (b0 b1 b2 b3 b4 b5 b6 b7 : Bool) : LneAt w (.agg #[.int .i64 nx, vs, .int .i64 hi, .bool b0, .bool b1, .bool b2, .bool b3, .bool b4, .bool b5, .bool b6, .bool b7]) ⟨nx, st, hi, [b0, b1, b2, b3, b4, b5, b6, b7]⟩ := ⟨vs, rfl, rfl, h⟩
end Go.Proofs.YtgpldlbmjakjhaaGreat

namespace Go.Proofs.YtgpldlbmjakjhaaGreat
open Go.RowKit Go.Proofs.Parclose

theorem ltime_any (n : Int) (w : World) : Calls Tryz.prog 120 #[.int .i64 n] w fun e w' => e = .returned (.bool (timeB n)) ∧ w' = w := by
  go_enter Tryz.func120, Tryz.ntmps120
  by_cases h1 : 0 ≤ n
  · by_cases h2 : n ≤ 1099511627776
    · go_wp2
      go_ret
      exact ⟨ret_bool (by simp [timeB]; omega), rfl⟩
    · go_wp2
      go_ret
      exact ⟨ret_bool (by simp [timeB]; omega), rfl⟩
  · go_wp2
    go_ret
    exact ⟨ret_bool (by simp [timeB]; omega), rfl⟩

def sntV (s : Snt) (vl vg vc : Value) : Value := .agg #[.int .i64 s.f.fr, .int .i64 s.f.to, .int .i64 s.f.seq, .bool s.f.ack, .int .i64 s.f.thread, .int .i64 s.f.mail.host, .int .i64 s.f.mail.thread, vl, vg, .string ⟨s.f.mail.text.toArray⟩, vc, .int .i64 s.tries, .int .i64 s.due]

theorem ltries_any (s : Snt) (pl pg pc : Option Addr) (n1 n2 n3 cl cg cc : Nat) (w : World) :
    Calls Tryz.prog 142 #[sntV s (.slice pl n1 cl) (.slice pg n2 cg) (.slice pc n3 cc)] w fun e w' => e = .returned (.bool (triesB s)) ∧ Below w.heap.size w w' := by
  unfold sntV
  go_enter Tryz.func142, Tryz.ntmps142
  by_cases h1 : 1 ≤ s.tries
  · by_cases h2 : s.tries ≤ 5
    · by_cases h3 : 0 ≤ s.due
      · go_wp2
        go_ret
        exact ⟨ret_bool (by simp [triesB, h1, h2, h3]), below_box w _⟩
      · go_wp2
        go_ret
        exact ⟨ret_bool (by simp [triesB]; omega), below_box w _⟩
    · go_wp2
      go_ret
      exact ⟨ret_bool (by simp [triesB]; omega), below_box w _⟩
  · go_wp2
    go_ret
    exact ⟨ret_bool (by simp [triesB]; omega), below_box w _⟩

theorem SntAt.below {w wr : World} {b o : Nat} {s : Snt} {vl vg vc : Value} (h : SntAt w b o s vl vg vc) (hb : Below w.heap.size w wr) : SntAt wr b o s vl vg vc := by
  have k : ∀ {j : Nat} {u : Value}, w.cell? ⟨b, j, none⟩ = some u → wr.cell? ⟨b, j, none⟩ = some u := fun hc => by rw [hb.cell (cell_block hc), hc]
  exact ⟨k h.c0, k h.c1, k h.c2, k h.c3, k h.c4, k h.c5, k h.c6, k h.c7, k h.c8, k h.c9, k h.c10, k h.c11, k h.c12, h.lab.below hb, h.nums.below hb, h.crts.below hb⟩

set_option maxRecDepth 100000 in
set_option maxHeartbeats 1600000 in
theorem lgood_any (v : Value) (L : Lne) (w : World) (hv : LneAt w v L) :
    Calls Tryz.prog 114 #[v] w fun e w' => e = .returned (.bool (goodLn L)) ∧ Below w.heap.size w w' := by
  obtain ⟨nx, st, hi, b0, b1, b2, b3, b4, b5, b6, b7, p, cap, rfl, rfl, hs⟩ := hv.spell
  have hlen := hs.len
  go_enter Tryz.func114, Tryz.ntmps114
  by_cases hh : headLn ⟨nx, st, hi, [b0, b1, b2, b3, b4, b5, b6, b7]⟩ = true
  · rw [headLn_iff] at hh
    obtain ⟨h1, h2, h3, h4, h5⟩ := id hh
    simp only at h1 h2 h3 h4 h5
    have htm : timeB hi = true := by simp [timeB, h3, h4]
    have ht := fun wx => ltime_any hi wx
    rw [htm] at ht
    go_wp2_with (go_at_call 120; refine (ht _).mono ?_; rintro e w1 ⟨rfl, rfl⟩)
    go_loopw [3, 29] (fun bf i wr => ∃ (k : Nat) (n : Int), k ≤ st.length ∧ bf = .int .i64 n ∧ i = .int .i64 k ∧ rises nx 0 st = rises nx n (st.drop k) ∧ wr.heap[w.heap.size]? = some (.cells #[.int .i64 nx, .slice p st.length cap, .int .i64 hi, .bool b0, .bool b1, .bool b2, .bool b3, .bool b4, .bool b5, .bool b6, .bool b7] 89 (0, 0)) ∧ Below w.heap.size w wr) (fun _ i _ => st.length - (intOf i).toNat)
    case atStart => exact ⟨0, 0, Nat.zero_le _, rfl, rfl, by simp, heap_alloc_new w _, below_box w _⟩
    case round =>
      obtain ⟨k, n, hk, rfl, rfl, hr, hA, hb⟩ := hrel
      have a0 : wr.cell? ⟨w.heap.size, 0, none⟩ = some (.int .i64 nx) := heap_cell hA 0
      by_cases hlt : k < st.length
      · obtain ⟨bb, o, pl, cl, pg, cg, pc, cc, rfl, hat⟩ := hs.get k hlt
        have hat := hat.below hb
        obtain ⟨c0, c1, c2, c3, c4, c5, c6, c7, c8, c9, c10, c11, c12, _, _, _⟩ := hat
        rw [rises_drop nx n st k hlt] at hr
        have hI : (k : Int) < (st.length : Int) := by omega
        have htr := fun wx => ltries_any st[k] pl pg pc (st[k]).f.mail.label.length (st[k]).f.mail.grants.length (st[k]).f.certs.length cl cg cc wx
        unfold sntV at htr
        generalize st[k] = s at *
        have HA := hid hA
        have hlt1 := heap_lt hA
        have hne1 : w.heap.size ≠ wr.heap.size := by omega
        have hne2 : wr.heap.size ≠ w.heap.size := by omega
        clear hA hs hv hat
        have hI2 : (nx < s.f.seq) = ¬ (s.f.seq ≤ nx) := by simp
        by_cases hq1 : n < s.f.seq
        · by_cases hq2 : s.f.seq ≤ nx
          · cases ht5 : triesB s with
            | true =>
              rw [ht5] at htr
              go_wp2_with fail
              refine (htr _).mono ?_
              rintro e w1 ⟨rfl, hw1⟩
              have hbx := heap_keep (heap_alloc_new wr _) hw1
              have HA1 := hid (heap_keep (heap_new HA.out _) hw1)
              have hb1 := below_then (hb.alloc hb.size _) hw1
              have s2 : w1.cell? ⟨wr.heap.size, 2, none⟩ = some (.int .i64 s.f.seq) := heap_cell hbx 2
              clear htr HA hbx hw1 hb
              go_wp2
              go_roundw
              case rel => exact ⟨k + 1, s.f.seq, hlt, rfl, by go_num, by rw [hr]; simp [hq1, sentB, hq2, ht5], HA1.out, hb1⟩
              case measure => simp [intOf]; omega
            | false =>
              rw [ht5] at htr
              go_wp2_with fail
              refine (htr _).mono ?_
              rintro e w1 ⟨rfl, hw1⟩
              have hb1 := below_then (hb.alloc hb.size _) hw1
              go_wp2
              go_ret
              exact ⟨ret_bool (by unfold goodLn; rw [hr]; simp [hq1, sentB, hq2, ht5]), hb1⟩
          · go_wp2
            go_ret
            exact ⟨ret_bool (by unfold goodLn; rw [hr, show sentB nx s = false by unfold sentB; rw [decide_eq_false (show ¬ s.f.seq ≤ nx by omega)]; rfl]; simp), hb.alloc hb.size _⟩
        · go_wp2
          go_ret
          exact ⟨ret_bool (by unfold goodLn; rw [hr, decide_eq_false (show ¬ n < s.f.seq by omega)]; simp), hb.alloc hb.size _⟩
      · have hd : st.drop k = [] := List.drop_eq_nil_of_le (by omega)
        rw [hd] at hr
        have hI : ¬ (k : Int) < (st.length : Int) := by omega
        go_wp2
        go_ret
        exact ⟨ret_bool (by unfold goodLn; rw [(headLn_iff _).2 hh, hr]; rfl), hb⟩
  · have hg : goodLn ⟨nx, st, hi, [b0, b1, b2, b3, b4, b5, b6, b7]⟩ = false := by
      unfold goodLn
      cases e : headLn ⟨nx, st, hi, [b0, b1, b2, b3, b4, b5, b6, b7]⟩ with
      | true => exact absurd e hh
      | false => rfl
    rw [hg]
    rw [headLn_iff] at hh
    simp only at hh
    have ht := fun wx => ltime_any hi wx
    by_cases h1 : 0 ≤ nx
    · by_cases h2 : nx < 1099511627776
      · cases htm : timeB hi with
        | true =>
          rw [htm] at ht
          have h3 : 8 < (st.length : Int) := by
            simp only [timeB, decide_eq_true_eq] at htm
            omega
          go_wp2_with (go_at_call 120; refine (ht _).mono ?_; rintro e w1 ⟨rfl, rfl⟩)
          go_ret
          exact ⟨rfl, below_box w _⟩
        | false =>
          rw [htm] at ht
          go_wp2_with (go_at_call 120; refine (ht _).mono ?_; rintro e w1 ⟨rfl, rfl⟩)
          go_ret
          exact ⟨rfl, below_box w _⟩
      · go_wp2
        go_ret
        exact ⟨rfl, below_box w _⟩
    · go_wp2
      go_ret
      exact ⟨rfl, below_box w _⟩
end Go.Proofs.YtgpldlbmjakjhaaGreat

namespace Go.Proofs.YtgpldlbmjakjhaaGreat
open Go.RowKit Go.Proofs.Parclose

theorem info_bool1 : (Tryz.prog.info? 4).map (·.size) = some 1 := by kernel_rfl

set_option maxRecDepth 100000 in
set_option maxHeartbeats 1600000 in
theorem lshift_1 (b0 b1 b2 b3 b4 b5 b6 b7 : Bool) (w : World) :
    Calls Tryz.prog 118 #[.agg #[.bool b0, .bool b1, .bool b2, .bool b3, .bool b4, .bool b5, .bool b6, .bool b7], .int .i64 1] w fun e w' => e = .returned (.agg #[.bool false, .bool b0, .bool b1, .bool b2, .bool b3, .bool b4, .bool b5, .bool b6]) ∧ Below w.heap.size w w' := by
  have hb0 : Below w.heap.size w (((w.alloc (.cells #[.bool b0, .bool b1, .bool b2, .bool b3, .bool b4, .bool b5, .bool b6, .bool b7] 87)).alloc (.cells #[.bool false, .bool false, .bool false, .bool false, .bool false, .bool false, .bool false, .bool false] 87)).alloc (.cells #[.bool false, .bool false, .bool false, .bool false, .bool false, .bool false, .bool false, .bool false] 87)) := ((below_box w _).alloc (by simp) _).alloc (by simp; omega) _
  have hA : (((w.alloc (.cells #[.bool b0, .bool b1, .bool b2, .bool b3, .bool b4, .bool b5, .bool b6, .bool b7] 87)).alloc (.cells #[.bool false, .bool false, .bool false, .bool false, .bool false, .bool false, .bool false, .bool false] 87)).alloc (.cells #[.bool false, .bool false, .bool false, .bool false, .bool false, .bool false, .bool false, .bool false] 87)).heap[w.heap.size]? = some (.cells #[.bool b0, .bool b1, .bool b2, .bool b3, .bool b4, .bool b5, .bool b6, .bool b7] 87 (0, 0)) := heap_new (heap_alloc2_old w _ _) _
  have hR : (((w.alloc (.cells #[.bool b0, .bool b1, .bool b2, .bool b3, .bool b4, .bool b5, .bool b6, .bool b7] 87)).alloc (.cells #[.bool false, .bool false, .bool false, .bool false, .bool false, .bool false, .bool false, .bool false] 87)).alloc (.cells #[.bool false, .bool false, .bool false, .bool false, .bool false, .bool false, .bool false, .bool false] 87)).heap[w.heap.size + 1]? = some (.cells #[.bool false, .bool false, .bool false, .bool false, .bool false, .bool false, .bool false, .bool false] 87 (0, 0)) := heap_new (heap_alloc2_new w _ _) _
  have hM : (((w.alloc (.cells #[.bool b0, .bool b1, .bool b2, .bool b3, .bool b4, .bool b5, .bool b6, .bool b7] 87)).alloc (.cells #[.bool false, .bool false, .bool false, .bool false, .bool false, .bool false, .bool false, .bool false] 87)).alloc (.cells #[.bool false, .bool false, .bool false, .bool false, .bool false, .bool false, .bool false, .bool false] 87)).heap[w.heap.size + 2]? = some (.cells [.bool false, .bool false, .bool false, .bool false, .bool false, .bool false, .bool false, .bool false].toArray 87 (0, 0)) := by
    have := heap_alloc_new ((w.alloc (.cells #[.bool b0, .bool b1, .bool b2, .bool b3, .bool b4, .bool b5, .bool b6, .bool b7] 87)).alloc (.cells #[.bool false, .bool false, .bool false, .bool false, .bool false, .bool false, .bool false, .bool false] 87)) (.cells #[.bool false, .bool false, .bool false, .bool false, .bool false, .bool false, .bool false, .bool false] 87)
    simpa using this
  have hsrc : ∀ j v, ([.bool b0, .bool b1, .bool b2, .bool b3, .bool b4, .bool b5, .bool b6] : List Value)[j]? = some v → (((w.alloc (.cells #[.bool b0, .bool b1, .bool b2, .bool b3, .bool b4, .bool b5, .bool b6, .bool b7] 87)).alloc (.cells #[.bool false, .bool false, .bool false, .bool false, .bool false, .bool false, .bool false, .bool false] 87)).alloc (.cells #[.bool false, .bool false, .bool false, .bool false, .bool false, .bool false, .bool false, .bool false] 87)).cell? ((⟨w.heap.size, 0, none⟩ : Addr).add j) = some v := by
    intro j v hv
    rw [WideShapes.add_plain, Nat.zero_add]
    match j, hv with
    | 0, hv => cases hv; exact heap_cell hA 0
    | 1, hv => cases hv; exact heap_cell hA 1
    | 2, hv => cases hv; exact heap_cell hA 2
    | 3, hv => cases hv; exact heap_cell hA 3
    | 4, hv => cases hv; exact heap_cell hA 4
    | 5, hv => cases hv; exact heap_cell hA 5
    | 6, hv => cases hv; exact heap_cell hA 6
  go_enter Tryz.func118, Tryz.ntmps118
  go_wp2
  generalize (((w.alloc (.cells #[.bool b0, .bool b1, .bool b2, .bool b3, .bool b4, .bool b5, .bool b6, .bool b7] 87)).alloc (.cells #[.bool false, .bool false, .bool false, .bool false, .bool false, .bool false, .bool false, .bool false] 87)).alloc (.cells #[.bool false, .bool false, .bool false, .bool false, .bool false, .bool false, .bool false, .bool false] 87)) = W at *

  go_region_law (first | (refine step_copy_splice (by rfl) (.tmp 8) (.tmp 9) 207 207 (by rfl) 4 Tryz.underlying207 info_bool1 (some ⟨w.heap.size + 2, 1, none⟩) (some ⟨w.heap.size, 0, none⟩) 7 7 8 8 (by rfl) (by rfl) (w.heap.size + 2) 1 [.bool false, .bool false, .bool false, .bool false, .bool false, .bool false, .bool false, .bool false] 87 hM [.bool b0, .bool b1, .bool b2, .bool b3, .bool b4, .bool b5, .bool b6] (by rfl) (fun _ => ⟨rfl, ⟨w.heap.size, 0, none⟩, rfl, hsrc⟩) (by simp) (by simp [Value.oneCell']) (w.heap.size + 2) W ⟨rfl, rfl, rfl, Nat.le_refl _, fun _ _ => rfl⟩ (Nat.le_refl _) ?_; intro w4 hg4 hb4) | fail)
  all_goals
    have hm4 : w4.heap[w.heap.size + 2]? = some (.cells #[.bool false, .bool b0, .bool b1, .bool b2, .bool b3, .bool b4, .bool b5, .bool b6] 87 (0, 0)) := hg4.out
    have hr4 : w4.heap[w.heap.size + 1]? = some (.cells #[.bool false, .bool false, .bool false, .bool false, .bool false, .bool false, .bool false, .bool false] 87 (0, 0)) := by rw [hb4.block _ (by omega), hR]
    have hbw : Below w.heap.size w w4 := hb0.trans (hb4.mono (by omega))
    clear hg4 hb4 hA hR hM hsrc hb0
    have m0 := heap_cell hm4 0
    have d0 := heap_cell hr4 0
    have g0 := heap_frozen hr4 0
    have m1 := heap_cell hm4 1
    have d1 := heap_cell hr4 1
    have g1 := heap_frozen hr4 1
    have m2 := heap_cell hm4 2
    have d2 := heap_cell hr4 2
    have g2 := heap_frozen hr4 2
    have m3 := heap_cell hm4 3
    have d3 := heap_cell hr4 3
    have g3 := heap_frozen hr4 3
    have m4 := heap_cell hm4 4
    have d4 := heap_cell hr4 4
    have g4 := heap_frozen hr4 4
    have m5 := heap_cell hm4 5
    have d5 := heap_cell hr4 5
    have g5 := heap_frozen hr4 5
    have m6 := heap_cell hm4 6
    have d6 := heap_cell hr4 6
    have g6 := heap_frozen hr4 6
    have m7 := heap_cell hm4 7
    have d7 := heap_cell hr4 7
    have g7 := heap_frozen hr4 7
    have HR := hid hr4
    clear hm4 hr4
    have hne : w.heap.size + 1 ≠ w.heap.size + 2 := by omega
    have hne2 : w.heap.size + 2 ≠ w.heap.size + 1 := by omega
    go_wp2
    have hW := heap_setCell (j := 7) (heap_setCell (j := 6) (heap_setCell (j := 5) (heap_setCell (j := 4) (heap_setCell (j := 3) (heap_setCell (j := 2) (heap_setCell (j := 1) (heap_setCell (j := 0) HR.out (.bool false)) (.bool b0)) (.bool b1)) (.bool b2)) (.bool b3)) (.bool b4)) (.bool b5)) (.bool b6)
    have hS := grown_trans (grown_trans (grown_trans (grown_trans (grown_trans (grown_trans (grown_trans (grown_setCell w4 (w.heap.size + 1) 0 (.bool false)) (grown_setCell _ (w.heap.size + 1) 1 (.bool b0))) (grown_setCell _ (w.heap.size + 1) 2 (.bool b1))) (grown_setCell _ (w.heap.size + 1) 3 (.bool b2))) (grown_setCell _ (w.heap.size + 1) 4 (.bool b3))) (grown_setCell _ (w.heap.size + 1) 5 (.bool b4))) (grown_setCell _ (w.heap.size + 1) 6 (.bool b5))) (grown_setCell _ (w.heap.size + 1) 7 (.bool b6))
    exact bodyPost_ret (results_cell_row rfl _ _ (w.heap.size + 1) 87 _ (0, 0) _ rfl hW Tryz.underlying87 rfl (by kernel_rfl)) rfl ⟨rfl, hbw.grown hS hbw.size (fun k hk => by have := Option.some.inj hk; omega)⟩

set_option maxRecDepth 100000 in
set_option maxHeartbeats 1600000 in
theorem lshift_2 (b0 b1 b2 b3 b4 b5 b6 b7 : Bool) (w : World) :
    Calls Tryz.prog 118 #[.agg #[.bool b0, .bool b1, .bool b2, .bool b3, .bool b4, .bool b5, .bool b6, .bool b7], .int .i64 2] w fun e w' => e = .returned (.agg #[.bool false, .bool false, .bool b0, .bool b1, .bool b2, .bool b3, .bool b4, .bool b5]) ∧ Below w.heap.size w w' := by
  have hb0 : Below w.heap.size w (((w.alloc (.cells #[.bool b0, .bool b1, .bool b2, .bool b3, .bool b4, .bool b5, .bool b6, .bool b7] 87)).alloc (.cells #[.bool false, .bool false, .bool false, .bool false, .bool false, .bool false, .bool false, .bool false] 87)).alloc (.cells #[.bool false, .bool false, .bool false, .bool false, .bool false, .bool false, .bool false, .bool false] 87)) := ((below_box w _).alloc (by simp) _).alloc (by simp; omega) _
  have hA : (((w.alloc (.cells #[.bool b0, .bool b1, .bool b2, .bool b3, .bool b4, .bool b5, .bool b6, .bool b7] 87)).alloc (.cells #[.bool false, .bool false, .bool false, .bool false, .bool false, .bool false, .bool false, .bool false] 87)).alloc (.cells #[.bool false, .bool false, .bool false, .bool false, .bool false, .bool false, .bool false, .bool false] 87)).heap[w.heap.size]? = some (.cells #[.bool b0, .bool b1, .bool b2, .bool b3, .bool b4, .bool b5, .bool b6, .bool b7] 87 (0, 0)) := heap_new (heap_alloc2_old w _ _) _
  have hR : (((w.alloc (.cells #[.bool b0, .bool b1, .bool b2, .bool b3, .bool b4, .bool b5, .bool b6, .bool b7] 87)).alloc (.cells #[.bool false, .bool false, .bool false, .bool false, .bool false, .bool false, .bool false, .bool false] 87)).alloc (.cells #[.bool false, .bool false, .bool false, .bool false, .bool false, .bool false, .bool false, .bool false] 87)).heap[w.heap.size + 1]? = some (.cells #[.bool false, .bool false, .bool false, .bool false, .bool false, .bool false, .bool false, .bool false] 87 (0, 0)) := heap_new (heap_alloc2_new w _ _) _
  have hM : (((w.alloc (.cells #[.bool b0, .bool b1, .bool b2, .bool b3, .bool b4, .bool b5, .bool b6, .bool b7] 87)).alloc (.cells #[.bool false, .bool false, .bool false, .bool false, .bool false, .bool false, .bool false, .bool false] 87)).alloc (.cells #[.bool false, .bool false, .bool false, .bool false, .bool false, .bool false, .bool false, .bool false] 87)).heap[w.heap.size + 2]? = some (.cells [.bool false, .bool false, .bool false, .bool false, .bool false, .bool false, .bool false, .bool false].toArray 87 (0, 0)) := by
    have := heap_alloc_new ((w.alloc (.cells #[.bool b0, .bool b1, .bool b2, .bool b3, .bool b4, .bool b5, .bool b6, .bool b7] 87)).alloc (.cells #[.bool false, .bool false, .bool false, .bool false, .bool false, .bool false, .bool false, .bool false] 87)) (.cells #[.bool false, .bool false, .bool false, .bool false, .bool false, .bool false, .bool false, .bool false] 87)
    simpa using this
  have hsrc : ∀ j v, ([.bool b0, .bool b1, .bool b2, .bool b3, .bool b4, .bool b5] : List Value)[j]? = some v → (((w.alloc (.cells #[.bool b0, .bool b1, .bool b2, .bool b3, .bool b4, .bool b5, .bool b6, .bool b7] 87)).alloc (.cells #[.bool false, .bool false, .bool false, .bool false, .bool false, .bool false, .bool false, .bool false] 87)).alloc (.cells #[.bool false, .bool false, .bool false, .bool false, .bool false, .bool false, .bool false, .bool false] 87)).cell? ((⟨w.heap.size, 0, none⟩ : Addr).add j) = some v := by
    intro j v hv
    rw [WideShapes.add_plain, Nat.zero_add]
    match j, hv with
    | 0, hv => cases hv; exact heap_cell hA 0
    | 1, hv => cases hv; exact heap_cell hA 1
    | 2, hv => cases hv; exact heap_cell hA 2
    | 3, hv => cases hv; exact heap_cell hA 3
    | 4, hv => cases hv; exact heap_cell hA 4
    | 5, hv => cases hv; exact heap_cell hA 5
  go_enter Tryz.func118, Tryz.ntmps118
  go_wp2
  generalize (((w.alloc (.cells #[.bool b0, .bool b1, .bool b2, .bool b3, .bool b4, .bool b5, .bool b6, .bool b7] 87)).alloc (.cells #[.bool false, .bool false, .bool false, .bool false, .bool false, .bool false, .bool false, .bool false] 87)).alloc (.cells #[.bool false, .bool false, .bool false, .bool false, .bool false, .bool false, .bool false, .bool false] 87)) = W at *

  go_region_law (first | (refine step_copy_splice (by rfl) (.tmp 8) (.tmp 9) 207 207 (by rfl) 4 Tryz.underlying207 info_bool1 (some ⟨w.heap.size + 2, 2, none⟩) (some ⟨w.heap.size, 0, none⟩) 6 6 8 8 (by rfl) (by rfl) (w.heap.size + 2) 2 [.bool false, .bool false, .bool false, .bool false, .bool false, .bool false, .bool false, .bool false] 87 hM [.bool b0, .bool b1, .bool b2, .bool b3, .bool b4, .bool b5] (by rfl) (fun _ => ⟨rfl, ⟨w.heap.size, 0, none⟩, rfl, hsrc⟩) (by simp) (by simp [Value.oneCell']) (w.heap.size + 2) W ⟨rfl, rfl, rfl, Nat.le_refl _, fun _ _ => rfl⟩ (Nat.le_refl _) ?_; intro w4 hg4 hb4) | fail)
  all_goals
    have hm4 : w4.heap[w.heap.size + 2]? = some (.cells #[.bool false, .bool false, .bool b0, .bool b1, .bool b2, .bool b3, .bool b4, .bool b5] 87 (0, 0)) := hg4.out
    have hr4 : w4.heap[w.heap.size + 1]? = some (.cells #[.bool false, .bool false, .bool false, .bool false, .bool false, .bool false, .bool false, .bool false] 87 (0, 0)) := by rw [hb4.block _ (by omega), hR]
    have hbw : Below w.heap.size w w4 := hb0.trans (hb4.mono (by omega))
    clear hg4 hb4 hA hR hM hsrc hb0
    have m0 := heap_cell hm4 0
    have d0 := heap_cell hr4 0
    have g0 := heap_frozen hr4 0
    have m1 := heap_cell hm4 1
    have d1 := heap_cell hr4 1
    have g1 := heap_frozen hr4 1
    have m2 := heap_cell hm4 2
    have d2 := heap_cell hr4 2
    have g2 := heap_frozen hr4 2
    have m3 := heap_cell hm4 3
    have d3 := heap_cell hr4 3
    have g3 := heap_frozen hr4 3
    have m4 := heap_cell hm4 4
    have d4 := heap_cell hr4 4
    have g4 := heap_frozen hr4 4
    have m5 := heap_cell hm4 5
    have d5 := heap_cell hr4 5
    have g5 := heap_frozen hr4 5
    have m6 := heap_cell hm4 6
    have d6 := heap_cell hr4 6
    have g6 := heap_frozen hr4 6
    have m7 := heap_cell hm4 7
    have d7 := heap_cell hr4 7
    have g7 := heap_frozen hr4 7
    have HR := hid hr4
    clear hm4 hr4
    have hne : w.heap.size + 1 ≠ w.heap.size + 2 := by omega
    have hne2 : w.heap.size + 2 ≠ w.heap.size + 1 := by omega
    go_wp2
    have hW := heap_setCell (j := 7) (heap_setCell (j := 6) (heap_setCell (j := 5) (heap_setCell (j := 4) (heap_setCell (j := 3) (heap_setCell (j := 2) (heap_setCell (j := 1) (heap_setCell (j := 0) HR.out (.bool false)) (.bool false)) (.bool b0)) (.bool b1)) (.bool b2)) (.bool b3)) (.bool b4)) (.bool b5)
    have hS := grown_trans (grown_trans (grown_trans (grown_trans (grown_trans (grown_trans (grown_trans (grown_setCell w4 (w.heap.size + 1) 0 (.bool false)) (grown_setCell _ (w.heap.size + 1) 1 (.bool false))) (grown_setCell _ (w.heap.size + 1) 2 (.bool b0))) (grown_setCell _ (w.heap.size + 1) 3 (.bool b1))) (grown_setCell _ (w.heap.size + 1) 4 (.bool b2))) (grown_setCell _ (w.heap.size + 1) 5 (.bool b3))) (grown_setCell _ (w.heap.size + 1) 6 (.bool b4))) (grown_setCell _ (w.heap.size + 1) 7 (.bool b5))
    exact bodyPost_ret (results_cell_row rfl _ _ (w.heap.size + 1) 87 _ (0, 0) _ rfl hW Tryz.underlying87 rfl (by kernel_rfl)) rfl ⟨rfl, hbw.grown hS hbw.size (fun k hk => by have := Option.some.inj hk; omega)⟩

set_option maxRecDepth 100000 in
set_option maxHeartbeats 1600000 in
theorem lshift_3 (b0 b1 b2 b3 b4 b5 b6 b7 : Bool) (w : World) :
    Calls Tryz.prog 118 #[.agg #[.bool b0, .bool b1, .bool b2, .bool b3, .bool b4, .bool b5, .bool b6, .bool b7], .int .i64 3] w fun e w' => e = .returned (.agg #[.bool false, .bool false, .bool false, .bool b0, .bool b1, .bool b2, .bool b3, .bool b4]) ∧ Below w.heap.size w w' := by
  have hb0 : Below w.heap.size w (((w.alloc (.cells #[.bool b0, .bool b1, .bool b2, .bool b3, .bool b4, .bool b5, .bool b6, .bool b7] 87)).alloc (.cells #[.bool false, .bool false, .bool false, .bool false, .bool false, .bool false, .bool false, .bool false] 87)).alloc (.cells #[.bool false, .bool false, .bool false, .bool false, .bool false, .bool false, .bool false, .bool false] 87)) := ((below_box w _).alloc (by simp) _).alloc (by simp; omega) _
  have hA : (((w.alloc (.cells #[.bool b0, .bool b1, .bool b2, .bool b3, .bool b4, .bool b5, .bool b6, .bool b7] 87)).alloc (.cells #[.bool false, .bool false, .bool false, .bool false, .bool false, .bool false, .bool false, .bool false] 87)).alloc (.cells #[.bool false, .bool false, .bool false, .bool false, .bool false, .bool false, .bool false, .bool false] 87)).heap[w.heap.size]? = some (.cells #[.bool b0, .bool b1, .bool b2, .bool b3, .bool b4, .bool b5, .bool b6, .bool b7] 87 (0, 0)) := heap_new (heap_alloc2_old w _ _) _
  have hR : (((w.alloc (.cells #[.bool b0, .bool b1, .bool b2, .bool b3, .bool b4, .bool b5, .bool b6, .bool b7] 87)).alloc (.cells #[.bool false, .bool false, .bool false, .bool false, .bool false, .bool false, .bool false, .bool false] 87)).alloc (.cells #[.bool false, .bool false, .bool false, .bool false, .bool false, .bool false, .bool false, .bool false] 87)).heap[w.heap.size + 1]? = some (.cells #[.bool false, .bool false, .bool false, .bool false, .bool false, .bool false, .bool false, .bool false] 87 (0, 0)) := heap_new (heap_alloc2_new w _ _) _
  have hM : (((w.alloc (.cells #[.bool b0, .bool b1, .bool b2, .bool b3, .bool b4, .bool b5, .bool b6, .bool b7] 87)).alloc (.cells #[.bool false, .bool false, .bool false, .bool false, .bool false, .bool false, .bool false, .bool false] 87)).alloc (.cells #[.bool false, .bool false, .bool false, .bool false, .bool false, .bool false, .bool false, .bool false] 87)).heap[w.heap.size + 2]? = some (.cells [.bool false, .bool false, .bool false, .bool false, .bool false, .bool false, .bool false, .bool false].toArray 87 (0, 0)) := by
    have := heap_alloc_new ((w.alloc (.cells #[.bool b0, .bool b1, .bool b2, .bool b3, .bool b4, .bool b5, .bool b6, .bool b7] 87)).alloc (.cells #[.bool false, .bool false, .bool false, .bool false, .bool false, .bool false, .bool false, .bool false] 87)) (.cells #[.bool false, .bool false, .bool false, .bool false, .bool false, .bool false, .bool false, .bool false] 87)
    simpa using this
  have hsrc : ∀ j v, ([.bool b0, .bool b1, .bool b2, .bool b3, .bool b4] : List Value)[j]? = some v → (((w.alloc (.cells #[.bool b0, .bool b1, .bool b2, .bool b3, .bool b4, .bool b5, .bool b6, .bool b7] 87)).alloc (.cells #[.bool false, .bool false, .bool false, .bool false, .bool false, .bool false, .bool false, .bool false] 87)).alloc (.cells #[.bool false, .bool false, .bool false, .bool false, .bool false, .bool false, .bool false, .bool false] 87)).cell? ((⟨w.heap.size, 0, none⟩ : Addr).add j) = some v := by
    intro j v hv
    rw [WideShapes.add_plain, Nat.zero_add]
    match j, hv with
    | 0, hv => cases hv; exact heap_cell hA 0
    | 1, hv => cases hv; exact heap_cell hA 1
    | 2, hv => cases hv; exact heap_cell hA 2
    | 3, hv => cases hv; exact heap_cell hA 3
    | 4, hv => cases hv; exact heap_cell hA 4
  go_enter Tryz.func118, Tryz.ntmps118
  go_wp2
  generalize (((w.alloc (.cells #[.bool b0, .bool b1, .bool b2, .bool b3, .bool b4, .bool b5, .bool b6, .bool b7] 87)).alloc (.cells #[.bool false, .bool false, .bool false, .bool false, .bool false, .bool false, .bool false, .bool false] 87)).alloc (.cells #[.bool false, .bool false, .bool false, .bool false, .bool false, .bool false, .bool false, .bool false] 87)) = W at *

  go_region_law (first | (refine step_copy_splice (by rfl) (.tmp 8) (.tmp 9) 207 207 (by rfl) 4 Tryz.underlying207 info_bool1 (some ⟨w.heap.size + 2, 3, none⟩) (some ⟨w.heap.size, 0, none⟩) 5 5 8 8 (by rfl) (by rfl) (w.heap.size + 2) 3 [.bool false, .bool false, .bool false, .bool false, .bool false, .bool false, .bool false, .bool false] 87 hM [.bool b0, .bool b1, .bool b2, .bool b3, .bool b4] (by rfl) (fun _ => ⟨rfl, ⟨w.heap.size, 0, none⟩, rfl, hsrc⟩) (by simp) (by simp [Value.oneCell']) (w.heap.size + 2) W ⟨rfl, rfl, rfl, Nat.le_refl _, fun _ _ => rfl⟩ (Nat.le_refl _) ?_; intro w4 hg4 hb4) | fail)
  all_goals
    have hm4 : w4.heap[w.heap.size + 2]? = some (.cells #[.bool false, .bool false, .bool false, .bool b0, .bool b1, .bool b2, .bool b3, .bool b4] 87 (0, 0)) := hg4.out
    have hr4 : w4.heap[w.heap.size + 1]? = some (.cells #[.bool false, .bool false, .bool false, .bool false, .bool false, .bool false, .bool false, .bool false] 87 (0, 0)) := by rw [hb4.block _ (by omega), hR]
    have hbw : Below w.heap.size w w4 := hb0.trans (hb4.mono (by omega))
    clear hg4 hb4 hA hR hM hsrc hb0
    have m0 := heap_cell hm4 0
    have d0 := heap_cell hr4 0
    have g0 := heap_frozen hr4 0
    have m1 := heap_cell hm4 1
    have d1 := heap_cell hr4 1
    have g1 := heap_frozen hr4 1
    have m2 := heap_cell hm4 2
    have d2 := heap_cell hr4 2
    have g2 := heap_frozen hr4 2
    have m3 := heap_cell hm4 3
    have d3 := heap_cell hr4 3
    have g3 := heap_frozen hr4 3
    have m4 := heap_cell hm4 4
    have d4 := heap_cell hr4 4
    have g4 := heap_frozen hr4 4
    have m5 := heap_cell hm4 5
    have d5 := heap_cell hr4 5
    have g5 := heap_frozen hr4 5
    have m6 := heap_cell hm4 6
    have d6 := heap_cell hr4 6
    have g6 := heap_frozen hr4 6
    have m7 := heap_cell hm4 7
    have d7 := heap_cell hr4 7
    have g7 := heap_frozen hr4 7
    have HR := hid hr4
    clear hm4 hr4
    have hne : w.heap.size + 1 ≠ w.heap.size + 2 := by omega
    have hne2 : w.heap.size + 2 ≠ w.heap.size + 1 := by omega
    go_wp2
    have hW := heap_setCell (j := 7) (heap_setCell (j := 6) (heap_setCell (j := 5) (heap_setCell (j := 4) (heap_setCell (j := 3) (heap_setCell (j := 2) (heap_setCell (j := 1) (heap_setCell (j := 0) HR.out (.bool false)) (.bool false)) (.bool false)) (.bool b0)) (.bool b1)) (.bool b2)) (.bool b3)) (.bool b4)
    have hS := grown_trans (grown_trans (grown_trans (grown_trans (grown_trans (grown_trans (grown_trans (grown_setCell w4 (w.heap.size + 1) 0 (.bool false)) (grown_setCell _ (w.heap.size + 1) 1 (.bool false))) (grown_setCell _ (w.heap.size + 1) 2 (.bool false))) (grown_setCell _ (w.heap.size + 1) 3 (.bool b0))) (grown_setCell _ (w.heap.size + 1) 4 (.bool b1))) (grown_setCell _ (w.heap.size + 1) 5 (.bool b2))) (grown_setCell _ (w.heap.size + 1) 6 (.bool b3))) (grown_setCell _ (w.heap.size + 1) 7 (.bool b4))
    exact bodyPost_ret (results_cell_row rfl _ _ (w.heap.size + 1) 87 _ (0, 0) _ rfl hW Tryz.underlying87 rfl (by kernel_rfl)) rfl ⟨rfl, hbw.grown hS hbw.size (fun k hk => by have := Option.some.inj hk; omega)⟩

set_option maxRecDepth 100000 in
set_option maxHeartbeats 1600000 in
theorem lshift_4 (b0 b1 b2 b3 b4 b5 b6 b7 : Bool) (w : World) :
    Calls Tryz.prog 118 #[.agg #[.bool b0, .bool b1, .bool b2, .bool b3, .bool b4, .bool b5, .bool b6, .bool b7], .int .i64 4] w fun e w' => e = .returned (.agg #[.bool false, .bool false, .bool false, .bool false, .bool b0, .bool b1, .bool b2, .bool b3]) ∧ Below w.heap.size w w' := by
  have hb0 : Below w.heap.size w (((w.alloc (.cells #[.bool b0, .bool b1, .bool b2, .bool b3, .bool b4, .bool b5, .bool b6, .bool b7] 87)).alloc (.cells #[.bool false, .bool false, .bool false, .bool false, .bool false, .bool false, .bool false, .bool false] 87)).alloc (.cells #[.bool false, .bool false, .bool false, .bool false, .bool false, .bool false, .bool false, .bool false] 87)) := ((below_box w _).alloc (by simp) _).alloc (by simp; omega) _
  have hA : (((w.alloc (.cells #[.bool b0, .bool b1, .bool b2, .bool b3, .bool b4, .bool b5, .bool b6, .bool b7] 87)).alloc (.cells #[.bool false, .bool false, .bool false, .bool false, .bool false, .bool false, .bool false, .bool false] 87)).alloc (.cells #[.bool false, .bool false, .bool false, .bool false, .bool false, .bool false, .bool false, .bool false] 87)).heap[w.heap.size]? = some (.cells #[.bool b0, .bool b1, .bool b2, .bool b3, .bool b4, .bool b5, .bool b6, .bool b7] 87 (0, 0)) := heap_new (heap_alloc2_old w _ _) _
  have hR : (((w.alloc (.cells #[.bool b0, .bool b1, .bool b2, .bool b3, .bool b4, .bool b5, .bool b6, .bool b7] 87)).alloc (.cells #[.bool false, .bool false, .bool false, .bool false, .bool false, .bool false, .bool false, .bool false] 87)).alloc (.cells #[.bool false, .bool false, .bool false, .bool false, .bool false, .bool false, .bool false, .bool false] 87)).heap[w.heap.size + 1]? = some (.cells #[.bool false, .bool false, .bool false, .bool false, .bool false, .bool false, .bool false, .bool false] 87 (0, 0)) := heap_new (heap_alloc2_new w _ _) _
  have hM : (((w.alloc (.cells #[.bool b0, .bool b1, .bool b2, .bool b3, .bool b4, .bool b5, .bool b6, .bool b7] 87)).alloc (.cells #[.bool false, .bool false, .bool false, .bool false, .bool false, .bool false, .bool false, .bool false] 87)).alloc (.cells #[.bool false, .bool false, .bool false, .bool false, .bool false, .bool false, .bool false, .bool false] 87)).heap[w.heap.size + 2]? = some (.cells [.bool false, .bool false, .bool false, .bool false, .bool false, .bool false, .bool false, .bool false].toArray 87 (0, 0)) := by
    have := heap_alloc_new ((w.alloc (.cells #[.bool b0, .bool b1, .bool b2, .bool b3, .bool b4, .bool b5, .bool b6, .bool b7] 87)).alloc (.cells #[.bool false, .bool false, .bool false, .bool false, .bool false, .bool false, .bool false, .bool false] 87)) (.cells #[.bool false, .bool false, .bool false, .bool false, .bool false, .bool false, .bool false, .bool false] 87)
    simpa using this
  have hsrc : ∀ j v, ([.bool b0, .bool b1, .bool b2, .bool b3] : List Value)[j]? = some v → (((w.alloc (.cells #[.bool b0, .bool b1, .bool b2, .bool b3, .bool b4, .bool b5, .bool b6, .bool b7] 87)).alloc (.cells #[.bool false, .bool false, .bool false, .bool false, .bool false, .bool false, .bool false, .bool false] 87)).alloc (.cells #[.bool false, .bool false, .bool false, .bool false, .bool false, .bool false, .bool false, .bool false] 87)).cell? ((⟨w.heap.size, 0, none⟩ : Addr).add j) = some v := by
    intro j v hv
    rw [WideShapes.add_plain, Nat.zero_add]
    match j, hv with
    | 0, hv => cases hv; exact heap_cell hA 0
    | 1, hv => cases hv; exact heap_cell hA 1
    | 2, hv => cases hv; exact heap_cell hA 2
    | 3, hv => cases hv; exact heap_cell hA 3
  go_enter Tryz.func118, Tryz.ntmps118
  go_wp2
  generalize (((w.alloc (.cells #[.bool b0, .bool b1, .bool b2, .bool b3, .bool b4, .bool b5, .bool b6, .bool b7] 87)).alloc (.cells #[.bool false, .bool false, .bool false, .bool false, .bool false, .bool false, .bool false, .bool false] 87)).alloc (.cells #[.bool false, .bool false, .bool false, .bool false, .bool false, .bool false, .bool false, .bool false] 87)) = W at *

  go_region_law (first | (refine step_copy_splice (by rfl) (.tmp 8) (.tmp 9) 207 207 (by rfl) 4 Tryz.underlying207 info_bool1 (some ⟨w.heap.size + 2, 4, none⟩) (some ⟨w.heap.size, 0, none⟩) 4 4 8 8 (by rfl) (by rfl) (w.heap.size + 2) 4 [.bool false, .bool false, .bool false, .bool false, .bool false, .bool false, .bool false, .bool false] 87 hM [.bool b0, .bool b1, .bool b2, .bool b3] (by rfl) (fun _ => ⟨rfl, ⟨w.heap.size, 0, none⟩, rfl, hsrc⟩) (by simp) (by simp [Value.oneCell']) (w.heap.size + 2) W ⟨rfl, rfl, rfl, Nat.le_refl _, fun _ _ => rfl⟩ (Nat.le_refl _) ?_; intro w4 hg4 hb4) | fail)
  all_goals
    have hm4 : w4.heap[w.heap.size + 2]? = some (.cells #[.bool false, .bool false, .bool false, .bool false, .bool b0, .bool b1, .bool b2, .bool b3] 87 (0, 0)) := hg4.out
    have hr4 : w4.heap[w.heap.size + 1]? = some (.cells #[.bool false, .bool false, .bool false, .bool false, .bool false, .bool false, .bool false, .bool false] 87 (0, 0)) := by rw [hb4.block _ (by omega), hR]
    have hbw : Below w.heap.size w w4 := hb0.trans (hb4.mono (by omega))
    clear hg4 hb4 hA hR hM hsrc hb0
    have m0 := heap_cell hm4 0
    have d0 := heap_cell hr4 0
    have g0 := heap_frozen hr4 0
    have m1 := heap_cell hm4 1
    have d1 := heap_cell hr4 1
    have g1 := heap_frozen hr4 1
    have m2 := heap_cell hm4 2
    have d2 := heap_cell hr4 2
    have g2 := heap_frozen hr4 2
    have m3 := heap_cell hm4 3
    have d3 := heap_cell hr4 3
    have g3 := heap_frozen hr4 3
    have m4 := heap_cell hm4 4
    have d4 := heap_cell hr4 4
    have g4 := heap_frozen hr4 4
    have m5 := heap_cell hm4 5
    have d5 := heap_cell hr4 5
    have g5 := heap_frozen hr4 5
    have m6 := heap_cell hm4 6
    have d6 := heap_cell hr4 6
    have g6 := heap_frozen hr4 6
    have m7 := heap_cell hm4 7
    have d7 := heap_cell hr4 7
    have g7 := heap_frozen hr4 7
    have HR := hid hr4
    clear hm4 hr4
    have hne : w.heap.size + 1 ≠ w.heap.size + 2 := by omega
    have hne2 : w.heap.size + 2 ≠ w.heap.size + 1 := by omega
    go_wp2
    have hW := heap_setCell (j := 7) (heap_setCell (j := 6) (heap_setCell (j := 5) (heap_setCell (j := 4) (heap_setCell (j := 3) (heap_setCell (j := 2) (heap_setCell (j := 1) (heap_setCell (j := 0) HR.out (.bool false)) (.bool false)) (.bool false)) (.bool false)) (.bool b0)) (.bool b1)) (.bool b2)) (.bool b3)
    have hS := grown_trans (grown_trans (grown_trans (grown_trans (grown_trans (grown_trans (grown_trans (grown_setCell w4 (w.heap.size + 1) 0 (.bool false)) (grown_setCell _ (w.heap.size + 1) 1 (.bool false))) (grown_setCell _ (w.heap.size + 1) 2 (.bool false))) (grown_setCell _ (w.heap.size + 1) 3 (.bool false))) (grown_setCell _ (w.heap.size + 1) 4 (.bool b0))) (grown_setCell _ (w.heap.size + 1) 5 (.bool b1))) (grown_setCell _ (w.heap.size + 1) 6 (.bool b2))) (grown_setCell _ (w.heap.size + 1) 7 (.bool b3))
    exact bodyPost_ret (results_cell_row rfl _ _ (w.heap.size + 1) 87 _ (0, 0) _ rfl hW Tryz.underlying87 rfl (by kernel_rfl)) rfl ⟨rfl, hbw.grown hS hbw.size (fun k hk => by have := Option.some.inj hk; omega)⟩

set_option maxRecDepth 100000 in
set_option maxHeartbeats 1600000 in
theorem lshift_5 (b0 b1 b2 b3 b4 b5 b6 b7 : Bool) (w : World) :
    Calls Tryz.prog 118 #[.agg #[.bool b0, .bool b1, .bool b2, .bool b3, .bool b4, .bool b5, .bool b6, .bool b7], .int .i64 5] w fun e w' => e = .returned (.agg #[.bool false, .bool false, .bool false, .bool false, .bool false, .bool b0, .bool b1, .bool b2]) ∧ Below w.heap.size w w' := by
  have hb0 : Below w.heap.size w (((w.alloc (.cells #[.bool b0, .bool b1, .bool b2, .bool b3, .bool b4, .bool b5, .bool b6, .bool b7] 87)).alloc (.cells #[.bool false, .bool false, .bool false, .bool false, .bool false, .bool false, .bool false, .bool false] 87)).alloc (.cells #[.bool false, .bool false, .bool false, .bool false, .bool false, .bool false, .bool false, .bool false] 87)) := ((below_box w _).alloc (by simp) _).alloc (by simp; omega) _
  have hA : (((w.alloc (.cells #[.bool b0, .bool b1, .bool b2, .bool b3, .bool b4, .bool b5, .bool b6, .bool b7] 87)).alloc (.cells #[.bool false, .bool false, .bool false, .bool false, .bool false, .bool false, .bool false, .bool false] 87)).alloc (.cells #[.bool false, .bool false, .bool false, .bool false, .bool false, .bool false, .bool false, .bool false] 87)).heap[w.heap.size]? = some (.cells #[.bool b0, .bool b1, .bool b2, .bool b3, .bool b4, .bool b5, .bool b6, .bool b7] 87 (0, 0)) := heap_new (heap_alloc2_old w _ _) _
  have hR : (((w.alloc (.cells #[.bool b0, .bool b1, .bool b2, .bool b3, .bool b4, .bool b5, .bool b6, .bool b7] 87)).alloc (.cells #[.bool false, .bool false, .bool false, .bool false, .bool false, .bool false, .bool false, .bool false] 87)).alloc (.cells #[.bool false, .bool false, .bool false, .bool false, .bool false, .bool false, .bool false, .bool false] 87)).heap[w.heap.size + 1]? = some (.cells #[.bool false, .bool false, .bool false, .bool false, .bool false, .bool false, .bool false, .bool false] 87 (0, 0)) := heap_new (heap_alloc2_new w _ _) _
  have hM : (((w.alloc (.cells #[.bool b0, .bool b1, .bool b2, .bool b3, .bool b4, .bool b5, .bool b6, .bool b7] 87)).alloc (.cells #[.bool false, .bool false, .bool false, .bool false, .bool false, .bool false, .bool false, .bool false] 87)).alloc (.cells #[.bool false, .bool false, .bool false, .bool false, .bool false, .bool false, .bool false, .bool false] 87)).heap[w.heap.size + 2]? = some (.cells [.bool false, .bool false, .bool false, .bool false, .bool false, .bool false, .bool false, .bool false].toArray 87 (0, 0)) := by
    have := heap_alloc_new ((w.alloc (.cells #[.bool b0, .bool b1, .bool b2, .bool b3, .bool b4, .bool b5, .bool b6, .bool b7] 87)).alloc (.cells #[.bool false, .bool false, .bool false, .bool false, .bool false, .bool false, .bool false, .bool false] 87)) (.cells #[.bool false, .bool false, .bool false, .bool false, .bool false, .bool false, .bool false, .bool false] 87)
    simpa using this
  have hsrc : ∀ j v, ([.bool b0, .bool b1, .bool b2] : List Value)[j]? = some v → (((w.alloc (.cells #[.bool b0, .bool b1, .bool b2, .bool b3, .bool b4, .bool b5, .bool b6, .bool b7] 87)).alloc (.cells #[.bool false, .bool false, .bool false, .bool false, .bool false, .bool false, .bool false, .bool false] 87)).alloc (.cells #[.bool false, .bool false, .bool false, .bool false, .bool false, .bool false, .bool false, .bool false] 87)).cell? ((⟨w.heap.size, 0, none⟩ : Addr).add j) = some v := by
    intro j v hv
    rw [WideShapes.add_plain, Nat.zero_add]
    match j, hv with
    | 0, hv => cases hv; exact heap_cell hA 0
    | 1, hv => cases hv; exact heap_cell hA 1
    | 2, hv => cases hv; exact heap_cell hA 2
  go_enter Tryz.func118, Tryz.ntmps118
  go_wp2
  generalize (((w.alloc (.cells #[.bool b0, .bool b1, .bool b2, .bool b3, .bool b4, .bool b5, .bool b6, .bool b7] 87)).alloc (.cells #[.bool false, .bool false, .bool false, .bool false, .bool false, .bool false, .bool false, .bool false] 87)).alloc (.cells #[.bool false, .bool false, .bool false, .bool false, .bool false, .bool false, .bool false, .bool false] 87)) = W at *

  go_region_law (first | (refine step_copy_splice (by rfl) (.tmp 8) (.tmp 9) 207 207 (by rfl) 4 Tryz.underlying207 info_bool1 (some ⟨w.heap.size + 2, 5, none⟩) (some ⟨w.heap.size, 0, none⟩) 3 3 8 8 (by rfl) (by rfl) (w.heap.size + 2) 5 [.bool false, .bool false, .bool false, .bool false, .bool false, .bool false, .bool false, .bool false] 87 hM [.bool b0, .bool b1, .bool b2] (by rfl) (fun _ => ⟨rfl, ⟨w.heap.size, 0, none⟩, rfl, hsrc⟩) (by simp) (by simp [Value.oneCell']) (w.heap.size + 2) W ⟨rfl, rfl, rfl, Nat.le_refl _, fun _ _ => rfl⟩ (Nat.le_refl _) ?_; intro w4 hg4 hb4) | fail)
  all_goals
    have hm4 : w4.heap[w.heap.size + 2]? = some (.cells #[.bool false, .bool false, .bool false, .bool false, .bool false, .bool b0, .bool b1, .bool b2] 87 (0, 0)) := hg4.out
    have hr4 : w4.heap[w.heap.size + 1]? = some (.cells #[.bool false, .bool false, .bool false, .bool false, .bool false, .bool false, .bool false, .bool false] 87 (0, 0)) := by rw [hb4.block _ (by omega), hR]
    have hbw : Below w.heap.size w w4 := hb0.trans (hb4.mono (by omega))
    clear hg4 hb4 hA hR hM hsrc hb0
    have m0 := heap_cell hm4 0
    have d0 := heap_cell hr4 0
    have g0 := heap_frozen hr4 0
    have m1 := heap_cell hm4 1
    have d1 := heap_cell hr4 1
    have g1 := heap_frozen hr4 1
    have m2 := heap_cell hm4 2
    have d2 := heap_cell hr4 2
    have g2 := heap_frozen hr4 2
    have m3 := heap_cell hm4 3
    have d3 := heap_cell hr4 3
    have g3 := heap_frozen hr4 3
    have m4 := heap_cell hm4 4
    have d4 := heap_cell hr4 4
    have g4 := heap_frozen hr4 4
    have m5 := heap_cell hm4 5
    have d5 := heap_cell hr4 5
    have g5 := heap_frozen hr4 5
    have m6 := heap_cell hm4 6
    have d6 := heap_cell hr4 6
    have g6 := heap_frozen hr4 6
    have m7 := heap_cell hm4 7
    have d7 := heap_cell hr4 7
    have g7 := heap_frozen hr4 7
    have HR := hid hr4
    clear hm4 hr4
    have hne : w.heap.size + 1 ≠ w.heap.size + 2 := by omega
    have hne2 : w.heap.size + 2 ≠ w.heap.size + 1 := by omega
    go_wp2
    have hW := heap_setCell (j := 7) (heap_setCell (j := 6) (heap_setCell (j := 5) (heap_setCell (j := 4) (heap_setCell (j := 3) (heap_setCell (j := 2) (heap_setCell (j := 1) (heap_setCell (j := 0) HR.out (.bool false)) (.bool false)) (.bool false)) (.bool false)) (.bool false)) (.bool b0)) (.bool b1)) (.bool b2)
    have hS := grown_trans (grown_trans (grown_trans (grown_trans (grown_trans (grown_trans (grown_trans (grown_setCell w4 (w.heap.size + 1) 0 (.bool false)) (grown_setCell _ (w.heap.size + 1) 1 (.bool false))) (grown_setCell _ (w.heap.size + 1) 2 (.bool false))) (grown_setCell _ (w.heap.size + 1) 3 (.bool false))) (grown_setCell _ (w.heap.size + 1) 4 (.bool false))) (grown_setCell _ (w.heap.size + 1) 5 (.bool b0))) (grown_setCell _ (w.heap.size + 1) 6 (.bool b1))) (grown_setCell _ (w.heap.size + 1) 7 (.bool b2))
    exact bodyPost_ret (results_cell_row rfl _ _ (w.heap.size + 1) 87 _ (0, 0) _ rfl hW Tryz.underlying87 rfl (by kernel_rfl)) rfl ⟨rfl, hbw.grown hS hbw.size (fun k hk => by have := Option.some.inj hk; omega)⟩

set_option maxRecDepth 100000 in
set_option maxHeartbeats 1600000 in
theorem lshift_6 (b0 b1 b2 b3 b4 b5 b6 b7 : Bool) (w : World) :
    Calls Tryz.prog 118 #[.agg #[.bool b0, .bool b1, .bool b2, .bool b3, .bool b4, .bool b5, .bool b6, .bool b7], .int .i64 6] w fun e w' => e = .returned (.agg #[.bool false, .bool false, .bool false, .bool false, .bool false, .bool false, .bool b0, .bool b1]) ∧ Below w.heap.size w w' := by
  have hb0 : Below w.heap.size w (((w.alloc (.cells #[.bool b0, .bool b1, .bool b2, .bool b3, .bool b4, .bool b5, .bool b6, .bool b7] 87)).alloc (.cells #[.bool false, .bool false, .bool false, .bool false, .bool false, .bool false, .bool false, .bool false] 87)).alloc (.cells #[.bool false, .bool false, .bool false, .bool false, .bool false, .bool false, .bool false, .bool false] 87)) := ((below_box w _).alloc (by simp) _).alloc (by simp; omega) _
  have hA : (((w.alloc (.cells #[.bool b0, .bool b1, .bool b2, .bool b3, .bool b4, .bool b5, .bool b6, .bool b7] 87)).alloc (.cells #[.bool false, .bool false, .bool false, .bool false, .bool false, .bool false, .bool false, .bool false] 87)).alloc (.cells #[.bool false, .bool false, .bool false, .bool false, .bool false, .bool false, .bool false, .bool false] 87)).heap[w.heap.size]? = some (.cells #[.bool b0, .bool b1, .bool b2, .bool b3, .bool b4, .bool b5, .bool b6, .bool b7] 87 (0, 0)) := heap_new (heap_alloc2_old w _ _) _
  have hR : (((w.alloc (.cells #[.bool b0, .bool b1, .bool b2, .bool b3, .bool b4, .bool b5, .bool b6, .bool b7] 87)).alloc (.cells #[.bool false, .bool false, .bool false, .bool false, .bool false, .bool false, .bool false, .bool false] 87)).alloc (.cells #[.bool false, .bool false, .bool false, .bool false, .bool false, .bool false, .bool false, .bool false] 87)).heap[w.heap.size + 1]? = some (.cells #[.bool false, .bool false, .bool false, .bool false, .bool false, .bool false, .bool false, .bool false] 87 (0, 0)) := heap_new (heap_alloc2_new w _ _) _
  have hM : (((w.alloc (.cells #[.bool b0, .bool b1, .bool b2, .bool b3, .bool b4, .bool b5, .bool b6, .bool b7] 87)).alloc (.cells #[.bool false, .bool false, .bool false, .bool false, .bool false, .bool false, .bool false, .bool false] 87)).alloc (.cells #[.bool false, .bool false, .bool false, .bool false, .bool false, .bool false, .bool false, .bool false] 87)).heap[w.heap.size + 2]? = some (.cells [.bool false, .bool false, .bool false, .bool false, .bool false, .bool false, .bool false, .bool false].toArray 87 (0, 0)) := by
    have := heap_alloc_new ((w.alloc (.cells #[.bool b0, .bool b1, .bool b2, .bool b3, .bool b4, .bool b5, .bool b6, .bool b7] 87)).alloc (.cells #[.bool false, .bool false, .bool false, .bool false, .bool false, .bool false, .bool false, .bool false] 87)) (.cells #[.bool false, .bool false, .bool false, .bool false, .bool false, .bool false, .bool false, .bool false] 87)
    simpa using this
  have hsrc : ∀ j v, ([.bool b0, .bool b1] : List Value)[j]? = some v → (((w.alloc (.cells #[.bool b0, .bool b1, .bool b2, .bool b3, .bool b4, .bool b5, .bool b6, .bool b7] 87)).alloc (.cells #[.bool false, .bool false, .bool false, .bool false, .bool false, .bool false, .bool false, .bool false] 87)).alloc (.cells #[.bool false, .bool false, .bool false, .bool false, .bool false, .bool false, .bool false, .bool false] 87)).cell? ((⟨w.heap.size, 0, none⟩ : Addr).add j) = some v := by
    intro j v hv
    rw [WideShapes.add_plain, Nat.zero_add]
    match j, hv with
    | 0, hv => cases hv; exact heap_cell hA 0
    | 1, hv => cases hv; exact heap_cell hA 1
  go_enter Tryz.func118, Tryz.ntmps118
  go_wp2
  generalize (((w.alloc (.cells #[.bool b0, .bool b1, .bool b2, .bool b3, .bool b4, .bool b5, .bool b6, .bool b7] 87)).alloc (.cells #[.bool false, .bool false, .bool false, .bool false, .bool false, .bool false, .bool false, .bool false] 87)).alloc (.cells #[.bool false, .bool false, .bool false, .bool false, .bool false, .bool false, .bool false, .bool false] 87)) = W at *

  go_region_law (first | (refine step_copy_splice (by rfl) (.tmp 8) (.tmp 9) 207 207 (by rfl) 4 Tryz.underlying207 info_bool1 (some ⟨w.heap.size + 2, 6, none⟩) (some ⟨w.heap.size, 0, none⟩) 2 2 8 8 (by rfl) (by rfl) (w.heap.size + 2) 6 [.bool false, .bool false, .bool false, .bool false, .bool false, .bool false, .bool false, .bool false] 87 hM [.bool b0, .bool b1] (by rfl) (fun _ => ⟨rfl, ⟨w.heap.size, 0, none⟩, rfl, hsrc⟩) (by simp) (by simp [Value.oneCell']) (w.heap.size + 2) W ⟨rfl, rfl, rfl, Nat.le_refl _, fun _ _ => rfl⟩ (Nat.le_refl _) ?_; intro w4 hg4 hb4) | fail)
  all_goals
    have hm4 : w4.heap[w.heap.size + 2]? = some (.cells #[.bool false, .bool false, .bool false, .bool false, .bool false, .bool false, .bool b0, .bool b1] 87 (0, 0)) := hg4.out
    have hr4 : w4.heap[w.heap.size + 1]? = some (.cells #[.bool false, .bool false, .bool false, .bool false, .bool false, .bool false, .bool false, .bool false] 87 (0, 0)) := by rw [hb4.block _ (by omega), hR]
    have hbw : Below w.heap.size w w4 := hb0.trans (hb4.mono (by omega))
    clear hg4 hb4 hA hR hM hsrc hb0
    have m0 := heap_cell hm4 0
    have d0 := heap_cell hr4 0
    have g0 := heap_frozen hr4 0
    have m1 := heap_cell hm4 1
    have d1 := heap_cell hr4 1
    have g1 := heap_frozen hr4 1
    have m2 := heap_cell hm4 2
    have d2 := heap_cell hr4 2
    have g2 := heap_frozen hr4 2
    have m3 := heap_cell hm4 3
    have d3 := heap_cell hr4 3
    have g3 := heap_frozen hr4 3
    have m4 := heap_cell hm4 4
    have d4 := heap_cell hr4 4
    have g4 := heap_frozen hr4 4
    have m5 := heap_cell hm4 5
    have d5 := heap_cell hr4 5
    have g5 := heap_frozen hr4 5
    have m6 := heap_cell hm4 6
    have d6 := heap_cell hr4 6
    have g6 := heap_frozen hr4 6
    have m7 := heap_cell hm4 7
    have d7 := heap_cell hr4 7
    have g7 := heap_frozen hr4 7
    have HR := hid hr4
    clear hm4 hr4
    have hne : w.heap.size + 1 ≠ w.heap.size + 2 := by omega
    have hne2 : w.heap.size + 2 ≠ w.heap.size + 1 := by omega
    go_wp2
    have hW := heap_setCell (j := 7) (heap_setCell (j := 6) (heap_setCell (j := 5) (heap_setCell (j := 4) (heap_setCell (j := 3) (heap_setCell (j := 2) (heap_setCell (j := 1) (heap_setCell (j := 0) HR.out (.bool false)) (.bool false)) (.bool false)) (.bool false)) (.bool false)) (.bool false)) (.bool b0)) (.bool b1)
    have hS := grown_trans (grown_trans (grown_trans (grown_trans (grown_trans (grown_trans (grown_trans (grown_setCell w4 (w.heap.size + 1) 0 (.bool false)) (grown_setCell _ (w.heap.size + 1) 1 (.bool false))) (grown_setCell _ (w.heap.size + 1) 2 (.bool false))) (grown_setCell _ (w.heap.size + 1) 3 (.bool false))) (grown_setCell _ (w.heap.size + 1) 4 (.bool false))) (grown_setCell _ (w.heap.size + 1) 5 (.bool false))) (grown_setCell _ (w.heap.size + 1) 6 (.bool b0))) (grown_setCell _ (w.heap.size + 1) 7 (.bool b1))
    exact bodyPost_ret (results_cell_row rfl _ _ (w.heap.size + 1) 87 _ (0, 0) _ rfl hW Tryz.underlying87 rfl (by kernel_rfl)) rfl ⟨rfl, hbw.grown hS hbw.size (fun k hk => by have := Option.some.inj hk; omega)⟩

set_option maxRecDepth 100000 in
set_option maxHeartbeats 1600000 in
theorem lshift_7 (b0 b1 b2 b3 b4 b5 b6 b7 : Bool) (w : World) :
    Calls Tryz.prog 118 #[.agg #[.bool b0, .bool b1, .bool b2, .bool b3, .bool b4, .bool b5, .bool b6, .bool b7], .int .i64 7] w fun e w' => e = .returned (.agg #[.bool false, .bool false, .bool false, .bool false, .bool false, .bool false, .bool false, .bool b0]) ∧ Below w.heap.size w w' := by
  have hb0 : Below w.heap.size w (((w.alloc (.cells #[.bool b0, .bool b1, .bool b2, .bool b3, .bool b4, .bool b5, .bool b6, .bool b7] 87)).alloc (.cells #[.bool false, .bool false, .bool false, .bool false, .bool false, .bool false, .bool false, .bool false] 87)).alloc (.cells #[.bool false, .bool false, .bool false, .bool false, .bool false, .bool false, .bool false, .bool false] 87)) := ((below_box w _).alloc (by simp) _).alloc (by simp; omega) _
  have hA : (((w.alloc (.cells #[.bool b0, .bool b1, .bool b2, .bool b3, .bool b4, .bool b5, .bool b6, .bool b7] 87)).alloc (.cells #[.bool false, .bool false, .bool false, .bool false, .bool false, .bool false, .bool false, .bool false] 87)).alloc (.cells #[.bool false, .bool false, .bool false, .bool false, .bool false, .bool false, .bool false, .bool false] 87)).heap[w.heap.size]? = some (.cells #[.bool b0, .bool b1, .bool b2, .bool b3, .bool b4, .bool b5, .bool b6, .bool b7] 87 (0, 0)) := heap_new (heap_alloc2_old w _ _) _
  have hR : (((w.alloc (.cells #[.bool b0, .bool b1, .bool b2, .bool b3, .bool b4, .bool b5, .bool b6, .bool b7] 87)).alloc (.cells #[.bool false, .bool false, .bool false, .bool false, .bool false, .bool false, .bool false, .bool false] 87)).alloc (.cells #[.bool false, .bool false, .bool false, .bool false, .bool false, .bool false, .bool false, .bool false] 87)).heap[w.heap.size + 1]? = some (.cells #[.bool false, .bool false, .bool false, .bool false, .bool false, .bool false, .bool false, .bool false] 87 (0, 0)) := heap_new (heap_alloc2_new w _ _) _
  have hM : (((w.alloc (.cells #[.bool b0, .bool b1, .bool b2, .bool b3, .bool b4, .bool b5, .bool b6, .bool b7] 87)).alloc (.cells #[.bool false, .bool false, .bool false, .bool false, .bool false, .bool false, .bool false, .bool false] 87)).alloc (.cells #[.bool false, .bool false, .bool false, .bool false, .bool false, .bool false, .bool false, .bool false] 87)).heap[w.heap.size + 2]? = some (.cells [.bool false, .bool false, .bool false, .bool false, .bool false, .bool false, .bool false, .bool false].toArray 87 (0, 0)) := by
    have := heap_alloc_new ((w.alloc (.cells #[.bool b0, .bool b1, .bool b2, .bool b3, .bool b4, .bool b5, .bool b6, .bool b7] 87)).alloc (.cells #[.bool false, .bool false, .bool false, .bool false, .bool false, .bool false, .bool false, .bool false] 87)) (.cells #[.bool false, .bool false, .bool false, .bool false, .bool false, .bool false, .bool false, .bool false] 87)
    simpa using this
  have hsrc : ∀ j v, ([.bool b0] : List Value)[j]? = some v → (((w.alloc (.cells #[.bool b0, .bool b1, .bool b2, .bool b3, .bool b4, .bool b5, .bool b6, .bool b7] 87)).alloc (.cells #[.bool false, .bool false, .bool false, .bool false, .bool false, .bool false, .bool false, .bool false] 87)).alloc (.cells #[.bool false, .bool false, .bool false, .bool false, .bool false, .bool false, .bool false, .bool false] 87)).cell? ((⟨w.heap.size, 0, none⟩ : Addr).add j) = some v := by
    intro j v hv
    rw [WideShapes.add_plain, Nat.zero_add]
    match j, hv with
    | 0, hv => cases hv; exact heap_cell hA 0
  go_enter Tryz.func118, Tryz.ntmps118
  go_wp2
  generalize (((w.alloc (.cells #[.bool b0, .bool b1, .bool b2, .bool b3, .bool b4, .bool b5, .bool b6, .bool b7] 87)).alloc (.cells #[.bool false, .bool false, .bool false, .bool false, .bool false, .bool false, .bool false, .bool false] 87)).alloc (.cells #[.bool false, .bool false, .bool false, .bool false, .bool false, .bool false, .bool false, .bool false] 87)) = W at *

  go_region_law (first | (refine step_copy_splice (by rfl) (.tmp 8) (.tmp 9) 207 207 (by rfl) 4 Tryz.underlying207 info_bool1 (some ⟨w.heap.size + 2, 7, none⟩) (some ⟨w.heap.size, 0, none⟩) 1 1 8 8 (by rfl) (by rfl) (w.heap.size + 2) 7 [.bool false, .bool false, .bool false, .bool false, .bool false, .bool false, .bool false, .bool false] 87 hM [.bool b0] (by rfl) (fun _ => ⟨rfl, ⟨w.heap.size, 0, none⟩, rfl, hsrc⟩) (by simp) (by simp [Value.oneCell']) (w.heap.size + 2) W ⟨rfl, rfl, rfl, Nat.le_refl _, fun _ _ => rfl⟩ (Nat.le_refl _) ?_; intro w4 hg4 hb4) | fail)
  all_goals
    have hm4 : w4.heap[w.heap.size + 2]? = some (.cells #[.bool false, .bool false, .bool false, .bool false, .bool false, .bool false, .bool false, .bool b0] 87 (0, 0)) := hg4.out
    have hr4 : w4.heap[w.heap.size + 1]? = some (.cells #[.bool false, .bool false, .bool false, .bool false, .bool false, .bool false, .bool false, .bool false] 87 (0, 0)) := by rw [hb4.block _ (by omega), hR]
    have hbw : Below w.heap.size w w4 := hb0.trans (hb4.mono (by omega))
    clear hg4 hb4 hA hR hM hsrc hb0
    have m0 := heap_cell hm4 0
    have d0 := heap_cell hr4 0
    have g0 := heap_frozen hr4 0
    have m1 := heap_cell hm4 1
    have d1 := heap_cell hr4 1
    have g1 := heap_frozen hr4 1
    have m2 := heap_cell hm4 2
    have d2 := heap_cell hr4 2
    have g2 := heap_frozen hr4 2
    have m3 := heap_cell hm4 3
    have d3 := heap_cell hr4 3
    have g3 := heap_frozen hr4 3
    have m4 := heap_cell hm4 4
    have d4 := heap_cell hr4 4
    have g4 := heap_frozen hr4 4
    have m5 := heap_cell hm4 5
    have d5 := heap_cell hr4 5
    have g5 := heap_frozen hr4 5
    have m6 := heap_cell hm4 6
    have d6 := heap_cell hr4 6
    have g6 := heap_frozen hr4 6
    have m7 := heap_cell hm4 7
    have d7 := heap_cell hr4 7
    have g7 := heap_frozen hr4 7
    have HR := hid hr4
    clear hm4 hr4
    have hne : w.heap.size + 1 ≠ w.heap.size + 2 := by omega
    have hne2 : w.heap.size + 2 ≠ w.heap.size + 1 := by omega
    go_wp2
    have hW := heap_setCell (j := 7) (heap_setCell (j := 6) (heap_setCell (j := 5) (heap_setCell (j := 4) (heap_setCell (j := 3) (heap_setCell (j := 2) (heap_setCell (j := 1) (heap_setCell (j := 0) HR.out (.bool false)) (.bool false)) (.bool false)) (.bool false)) (.bool false)) (.bool false)) (.bool false)) (.bool b0)
    have hS := grown_trans (grown_trans (grown_trans (grown_trans (grown_trans (grown_trans (grown_trans (grown_setCell w4 (w.heap.size + 1) 0 (.bool false)) (grown_setCell _ (w.heap.size + 1) 1 (.bool false))) (grown_setCell _ (w.heap.size + 1) 2 (.bool false))) (grown_setCell _ (w.heap.size + 1) 3 (.bool false))) (grown_setCell _ (w.heap.size + 1) 4 (.bool false))) (grown_setCell _ (w.heap.size + 1) 5 (.bool false))) (grown_setCell _ (w.heap.size + 1) 6 (.bool false))) (grown_setCell _ (w.heap.size + 1) 7 (.bool b0))
    exact bodyPost_ret (results_cell_row rfl _ _ (w.heap.size + 1) 87 _ (0, 0) _ rfl hW Tryz.underlying87 rfl (by kernel_rfl)) rfl ⟨rfl, hbw.grown hS hbw.size (fun k hk => by have := Option.some.inj hk; omega)⟩

set_option maxRecDepth 100000 in
set_option maxHeartbeats 1600000 in
theorem lshift_8 (b0 b1 b2 b3 b4 b5 b6 b7 : Bool) (w : World) :
    Calls Tryz.prog 118 #[.agg #[.bool b0, .bool b1, .bool b2, .bool b3, .bool b4, .bool b5, .bool b6, .bool b7], .int .i64 8] w fun e w' => e = .returned (.agg #[.bool false, .bool false, .bool false, .bool false, .bool false, .bool false, .bool false, .bool false]) ∧ Below w.heap.size w w' := by
  have hb0 : Below w.heap.size w (((w.alloc (.cells #[.bool b0, .bool b1, .bool b2, .bool b3, .bool b4, .bool b5, .bool b6, .bool b7] 87)).alloc (.cells #[.bool false, .bool false, .bool false, .bool false, .bool false, .bool false, .bool false, .bool false] 87)).alloc (.cells #[.bool false, .bool false, .bool false, .bool false, .bool false, .bool false, .bool false, .bool false] 87)) := ((below_box w _).alloc (by simp) _).alloc (by simp; omega) _
  have hA : (((w.alloc (.cells #[.bool b0, .bool b1, .bool b2, .bool b3, .bool b4, .bool b5, .bool b6, .bool b7] 87)).alloc (.cells #[.bool false, .bool false, .bool false, .bool false, .bool false, .bool false, .bool false, .bool false] 87)).alloc (.cells #[.bool false, .bool false, .bool false, .bool false, .bool false, .bool false, .bool false, .bool false] 87)).heap[w.heap.size]? = some (.cells #[.bool b0, .bool b1, .bool b2, .bool b3, .bool b4, .bool b5, .bool b6, .bool b7] 87 (0, 0)) := heap_new (heap_alloc2_old w _ _) _
  have hR : (((w.alloc (.cells #[.bool b0, .bool b1, .bool b2, .bool b3, .bool b4, .bool b5, .bool b6, .bool b7] 87)).alloc (.cells #[.bool false, .bool false, .bool false, .bool false, .bool false, .bool false, .bool false, .bool false] 87)).alloc (.cells #[.bool false, .bool false, .bool false, .bool false, .bool false, .bool false, .bool false, .bool false] 87)).heap[w.heap.size + 1]? = some (.cells #[.bool false, .bool false, .bool false, .bool false, .bool false, .bool false, .bool false, .bool false] 87 (0, 0)) := heap_new (heap_alloc2_new w _ _) _
  have hM : (((w.alloc (.cells #[.bool b0, .bool b1, .bool b2, .bool b3, .bool b4, .bool b5, .bool b6, .bool b7] 87)).alloc (.cells #[.bool false, .bool false, .bool false, .bool false, .bool false, .bool false, .bool false, .bool false] 87)).alloc (.cells #[.bool false, .bool false, .bool false, .bool false, .bool false, .bool false, .bool false, .bool false] 87)).heap[w.heap.size + 2]? = some (.cells [.bool false, .bool false, .bool false, .bool false, .bool false, .bool false, .bool false, .bool false].toArray 87 (0, 0)) := by
    have := heap_alloc_new ((w.alloc (.cells #[.bool b0, .bool b1, .bool b2, .bool b3, .bool b4, .bool b5, .bool b6, .bool b7] 87)).alloc (.cells #[.bool false, .bool false, .bool false, .bool false, .bool false, .bool false, .bool false, .bool false] 87)) (.cells #[.bool false, .bool false, .bool false, .bool false, .bool false, .bool false, .bool false, .bool false] 87)
    simpa using this
  go_enter Tryz.func118, Tryz.ntmps118
  go_wp2
  generalize (((w.alloc (.cells #[.bool b0, .bool b1, .bool b2, .bool b3, .bool b4, .bool b5, .bool b6, .bool b7] 87)).alloc (.cells #[.bool false, .bool false, .bool false, .bool false, .bool false, .bool false, .bool false, .bool false] 87)).alloc (.cells #[.bool false, .bool false, .bool false, .bool false, .bool false, .bool false, .bool false, .bool false] 87)) = W at *
  go_region_law (first | (refine step_copy_splice (by rfl) (.tmp 8) (.tmp 9) 207 207 (by rfl) 4 Tryz.underlying207 info_bool1 _ _ _ _ _ _ (by rfl) (by rfl) (w.heap.size + 2) 8 [.bool false, .bool false, .bool false, .bool false, .bool false, .bool false, .bool false, .bool false] 87 hM [] (by rfl) (fun h => absurd h (by simp)) (by simp) (by simp [Value.oneCell']) (w.heap.size + 2) W ⟨rfl, rfl, rfl, Nat.le_refl _, fun _ _ => rfl⟩ (Nat.le_refl _) ?_; intro w4 hg4 hb4) | fail)
  all_goals
    have hm4 : w4.heap[w.heap.size + 2]? = some (.cells #[.bool false, .bool false, .bool false, .bool false, .bool false, .bool false, .bool false, .bool false] 87 (0, 0)) := hg4.out
    have hr4 : w4.heap[w.heap.size + 1]? = some (.cells #[.bool false, .bool false, .bool false, .bool false, .bool false, .bool false, .bool false, .bool false] 87 (0, 0)) := by rw [hb4.block _ (by omega), hR]
    have hbw : Below w.heap.size w w4 := hb0.trans (hb4.mono (by omega))
    clear hg4 hb4 hA hR hM hb0
    have m0 := heap_cell hm4 0
    have d0 := heap_cell hr4 0
    have g0 := heap_frozen hr4 0
    have m1 := heap_cell hm4 1
    have d1 := heap_cell hr4 1
    have g1 := heap_frozen hr4 1
    have m2 := heap_cell hm4 2
    have d2 := heap_cell hr4 2
    have g2 := heap_frozen hr4 2
    have m3 := heap_cell hm4 3
    have d3 := heap_cell hr4 3
    have g3 := heap_frozen hr4 3
    have m4 := heap_cell hm4 4
    have d4 := heap_cell hr4 4
    have g4 := heap_frozen hr4 4
    have m5 := heap_cell hm4 5
    have d5 := heap_cell hr4 5
    have g5 := heap_frozen hr4 5
    have m6 := heap_cell hm4 6
    have d6 := heap_cell hr4 6
    have g6 := heap_frozen hr4 6
    have m7 := heap_cell hm4 7
    have d7 := heap_cell hr4 7
    have g7 := heap_frozen hr4 7
    have HR := hid hr4
    clear hm4 hr4
    have hne : w.heap.size + 1 ≠ w.heap.size + 2 := by omega
    have hne2 : w.heap.size + 2 ≠ w.heap.size + 1 := by omega
    go_wp2
    have hW := heap_setCell (j := 7) (heap_setCell (j := 6) (heap_setCell (j := 5) (heap_setCell (j := 4) (heap_setCell (j := 3) (heap_setCell (j := 2) (heap_setCell (j := 1) (heap_setCell (j := 0) HR.out (.bool false)) (.bool false)) (.bool false)) (.bool false)) (.bool false)) (.bool false)) (.bool false)) (.bool false)
    have hS := grown_trans (grown_trans (grown_trans (grown_trans (grown_trans (grown_trans (grown_trans (grown_setCell w4 (w.heap.size + 1) 0 (.bool false)) (grown_setCell _ (w.heap.size + 1) 1 (.bool false))) (grown_setCell _ (w.heap.size + 1) 2 (.bool false))) (grown_setCell _ (w.heap.size + 1) 3 (.bool false))) (grown_setCell _ (w.heap.size + 1) 4 (.bool false))) (grown_setCell _ (w.heap.size + 1) 5 (.bool false))) (grown_setCell _ (w.heap.size + 1) 6 (.bool false))) (grown_setCell _ (w.heap.size + 1) 7 (.bool false))
    exact bodyPost_ret (results_cell_row rfl _ _ (w.heap.size + 1) 87 _ (0, 0) _ rfl hW Tryz.underlying87 rfl (by kernel_rfl)) rfl ⟨rfl, hbw.grown hS hbw.size (fun k hk => by have := Option.some.inj hk; omega)⟩

set_option maxRecDepth 100000 in
set_option maxHeartbeats 1600000 in
theorem lshift_9 (b0 b1 b2 b3 b4 b5 b6 b7 : Bool) (n : Int) (hn : 8 < n) (w : World) :
    Calls Tryz.prog 118 #[.agg #[.bool b0, .bool b1, .bool b2, .bool b3, .bool b4, .bool b5, .bool b6, .bool b7], .int .i64 n] w fun e w' => e = .returned (.agg #[.bool false, .bool false, .bool false, .bool false, .bool false, .bool false, .bool false, .bool false]) ∧ Below w.heap.size w w' := by
  have hb0 : Below w.heap.size w (((w.alloc (.cells #[.bool b0, .bool b1, .bool b2, .bool b3, .bool b4, .bool b5, .bool b6, .bool b7] 87)).alloc (.cells #[.bool false, .bool false, .bool false, .bool false, .bool false, .bool false, .bool false, .bool false] 87)).alloc (.cells #[.bool false, .bool false, .bool false, .bool false, .bool false, .bool false, .bool false, .bool false] 87)) := ((below_box w _).alloc (by simp) _).alloc (by simp; omega) _
  have hA : (((w.alloc (.cells #[.bool b0, .bool b1, .bool b2, .bool b3, .bool b4, .bool b5, .bool b6, .bool b7] 87)).alloc (.cells #[.bool false, .bool false, .bool false, .bool false, .bool false, .bool false, .bool false, .bool false] 87)).alloc (.cells #[.bool false, .bool false, .bool false, .bool false, .bool false, .bool false, .bool false, .bool false] 87)).heap[w.heap.size]? = some (.cells #[.bool b0, .bool b1, .bool b2, .bool b3, .bool b4, .bool b5, .bool b6, .bool b7] 87 (0, 0)) := heap_new (heap_alloc2_old w _ _) _
  have hR : (((w.alloc (.cells #[.bool b0, .bool b1, .bool b2, .bool b3, .bool b4, .bool b5, .bool b6, .bool b7] 87)).alloc (.cells #[.bool false, .bool false, .bool false, .bool false, .bool false, .bool false, .bool false, .bool false] 87)).alloc (.cells #[.bool false, .bool false, .bool false, .bool false, .bool false, .bool false, .bool false, .bool false] 87)).heap[w.heap.size + 1]? = some (.cells #[.bool false, .bool false, .bool false, .bool false, .bool false, .bool false, .bool false, .bool false] 87 (0, 0)) := heap_new (heap_alloc2_new w _ _) _
  have hM : (((w.alloc (.cells #[.bool b0, .bool b1, .bool b2, .bool b3, .bool b4, .bool b5, .bool b6, .bool b7] 87)).alloc (.cells #[.bool false, .bool false, .bool false, .bool false, .bool false, .bool false, .bool false, .bool false] 87)).alloc (.cells #[.bool false, .bool false, .bool false, .bool false, .bool false, .bool false, .bool false, .bool false] 87)).heap[w.heap.size + 2]? = some (.cells [.bool false, .bool false, .bool false, .bool false, .bool false, .bool false, .bool false, .bool false].toArray 87 (0, 0)) := by
    have := heap_alloc_new ((w.alloc (.cells #[.bool b0, .bool b1, .bool b2, .bool b3, .bool b4, .bool b5, .bool b6, .bool b7] 87)).alloc (.cells #[.bool false, .bool false, .bool false, .bool false, .bool false, .bool false, .bool false, .bool false] 87)) (.cells #[.bool false, .bool false, .bool false, .bool false, .bool false, .bool false, .bool false, .bool false] 87)
    simpa using this
  go_enter Tryz.func118, Tryz.ntmps118
  go_wp2
  generalize (((w.alloc (.cells #[.bool b0, .bool b1, .bool b2, .bool b3, .bool b4, .bool b5, .bool b6, .bool b7] 87)).alloc (.cells #[.bool false, .bool false, .bool false, .bool false, .bool false, .bool false, .bool false, .bool false] 87)).alloc (.cells #[.bool false, .bool false, .bool false, .bool false, .bool false, .bool false, .bool false, .bool false] 87)) = W at *
  go_region_law (first | (refine step_copy_splice (by rfl) (.tmp 8) (.tmp 9) 207 207 (by rfl) 4 Tryz.underlying207 info_bool1 _ _ _ _ _ _ (by rfl) (by rfl) (w.heap.size + 2) 8 [.bool false, .bool false, .bool false, .bool false, .bool false, .bool false, .bool false, .bool false] 87 hM [] (by rfl) (fun h => absurd h (by simp)) (by simp) (by simp [Value.oneCell']) (w.heap.size + 2) W ⟨rfl, rfl, rfl, Nat.le_refl _, fun _ _ => rfl⟩ (Nat.le_refl _) ?_; intro w4 hg4 hb4) | fail)
  all_goals
    have hm4 : w4.heap[w.heap.size + 2]? = some (.cells #[.bool false, .bool false, .bool false, .bool false, .bool false, .bool false, .bool false, .bool false] 87 (0, 0)) := hg4.out
    have hr4 : w4.heap[w.heap.size + 1]? = some (.cells #[.bool false, .bool false, .bool false, .bool false, .bool false, .bool false, .bool false, .bool false] 87 (0, 0)) := by rw [hb4.block _ (by omega), hR]
    have hbw : Below w.heap.size w w4 := hb0.trans (hb4.mono (by omega))
    clear hg4 hb4 hA hR hM hb0
    have m0 := heap_cell hm4 0
    have d0 := heap_cell hr4 0
    have g0 := heap_frozen hr4 0
    have m1 := heap_cell hm4 1
    have d1 := heap_cell hr4 1
    have g1 := heap_frozen hr4 1
    have m2 := heap_cell hm4 2
    have d2 := heap_cell hr4 2
    have g2 := heap_frozen hr4 2
    have m3 := heap_cell hm4 3
    have d3 := heap_cell hr4 3
    have g3 := heap_frozen hr4 3
    have m4 := heap_cell hm4 4
    have d4 := heap_cell hr4 4
    have g4 := heap_frozen hr4 4
    have m5 := heap_cell hm4 5
    have d5 := heap_cell hr4 5
    have g5 := heap_frozen hr4 5
    have m6 := heap_cell hm4 6
    have d6 := heap_cell hr4 6
    have g6 := heap_frozen hr4 6
    have m7 := heap_cell hm4 7
    have d7 := heap_cell hr4 7
    have g7 := heap_frozen hr4 7
    have HR := hid hr4
    clear hm4 hr4
    have hne : w.heap.size + 1 ≠ w.heap.size + 2 := by omega
    have hne2 : w.heap.size + 2 ≠ w.heap.size + 1 := by omega
    go_wp2
    have hW := heap_setCell (j := 7) (heap_setCell (j := 6) (heap_setCell (j := 5) (heap_setCell (j := 4) (heap_setCell (j := 3) (heap_setCell (j := 2) (heap_setCell (j := 1) (heap_setCell (j := 0) HR.out (.bool false)) (.bool false)) (.bool false)) (.bool false)) (.bool false)) (.bool false)) (.bool false)) (.bool false)
    have hS := grown_trans (grown_trans (grown_trans (grown_trans (grown_trans (grown_trans (grown_trans (grown_setCell w4 (w.heap.size + 1) 0 (.bool false)) (grown_setCell _ (w.heap.size + 1) 1 (.bool false))) (grown_setCell _ (w.heap.size + 1) 2 (.bool false))) (grown_setCell _ (w.heap.size + 1) 3 (.bool false))) (grown_setCell _ (w.heap.size + 1) 4 (.bool false))) (grown_setCell _ (w.heap.size + 1) 5 (.bool false))) (grown_setCell _ (w.heap.size + 1) 6 (.bool false))) (grown_setCell _ (w.heap.size + 1) 7 (.bool false))
    exact bodyPost_ret (results_cell_row rfl _ _ (w.heap.size + 1) 87 _ (0, 0) _ rfl hW Tryz.underlying87 rfl (by kernel_rfl)) rfl ⟨rfl, hbw.grown hS hbw.size (fun k hk => by have := Option.some.inj hk; omega)⟩

theorem lshift_any (b0 b1 b2 b3 b4 b5 b6 b7 : Bool) (n : Int) (hn : 1 ≤ n) (w : World) :
    Calls Tryz.prog 118 #[.agg #[.bool b0, .bool b1, .bool b2, .bool b3, .bool b4, .bool b5, .bool b6, .bool b7], .int .i64 n] w fun e w' => ∃ c0 c1 c2 c3 c4 c5 c6 c7, shiftL n.toNat [b0, b1, b2, b3, b4, b5, b6, b7] = [c0, c1, c2, c3, c4, c5, c6, c7] ∧ e = .returned (.agg #[.bool c0, .bool c1, .bool c2, .bool c3, .bool c4, .bool c5, .bool c6, .bool c7]) ∧ Below w.heap.size w w' := by
  by_cases h1 : n = 1
  · subst h1
    refine (lshift_1 b0 b1 b2 b3 b4 b5 b6 b7 w).mono ?_
    rintro e w' ⟨rfl, hw⟩
    exact ⟨false, b0, b1, b2, b3, b4, b5, b6, rfl, rfl, hw⟩
  by_cases h2 : n = 2
  · subst h2
    refine (lshift_2 b0 b1 b2 b3 b4 b5 b6 b7 w).mono ?_
    rintro e w' ⟨rfl, hw⟩
    exact ⟨false, false, b0, b1, b2, b3, b4, b5, rfl, rfl, hw⟩
  by_cases h3 : n = 3
  · subst h3
    refine (lshift_3 b0 b1 b2 b3 b4 b5 b6 b7 w).mono ?_
    rintro e w' ⟨rfl, hw⟩
    exact ⟨false, false, false, b0, b1, b2, b3, b4, rfl, rfl, hw⟩
  by_cases h4 : n = 4
  · subst h4
    refine (lshift_4 b0 b1 b2 b3 b4 b5 b6 b7 w).mono ?_
    rintro e w' ⟨rfl, hw⟩
    exact ⟨false, false, false, false, b0, b1, b2, b3, rfl, rfl, hw⟩
  by_cases h5 : n = 5
  · subst h5
    refine (lshift_5 b0 b1 b2 b3 b4 b5 b6 b7 w).mono ?_
    rintro e w' ⟨rfl, hw⟩
    exact ⟨false, false, false, false, false, b0, b1, b2, rfl, rfl, hw⟩
  by_cases h6 : n = 6
  · subst h6
    refine (lshift_6 b0 b1 b2 b3 b4 b5 b6 b7 w).mono ?_
    rintro e w' ⟨rfl, hw⟩
    exact ⟨false, false, false, false, false, false, b0, b1, rfl, rfl, hw⟩
  by_cases h7 : n = 7
  · subst h7
    refine (lshift_7 b0 b1 b2 b3 b4 b5 b6 b7 w).mono ?_
    rintro e w' ⟨rfl, hw⟩
    exact ⟨false, false, false, false, false, false, false, b0, rfl, rfl, hw⟩
  by_cases h8 : n = 8
  · subst h8
    refine (lshift_8 b0 b1 b2 b3 b4 b5 b6 b7 w).mono ?_
    rintro e w' ⟨rfl, hw⟩
    exact ⟨false, false, false, false, false, false, false, false, rfl, rfl, hw⟩
  refine (lshift_9 b0 b1 b2 b3 b4 b5 b6 b7 n (by omega) w).mono ?_
  rintro e w' ⟨rfl, hw⟩
  refine ⟨false, false, false, false, false, false, false, false, ?_, rfl, hw⟩
  unfold shiftL
  rw [show min n.toNat 8 = 8 by omega]
  rfl

theorem ldue_any (t now : Int) (h1 : 1 ≤ t) (h2 : t ≤ 5) (h3 : 0 ≤ now) (h4 : now ≤ 1099511627776) (w : World) : Calls Tryz.prog 121 #[.int .i64 t, .int .i64 now] w fun e w' => e = .returned (.int .i64 (now + 2 ^ t.toNat)) ∧ w' = w := by
  have h : t = 1 ∨ t = 2 ∨ t = 3 ∨ t = 4 ∨ t = 5 := by omega
  rcases h with rfl | rfl | rfl | rfl | rfl
  all_goals
    go_enter Tryz.func121, Tryz.ntmps121
    go_wp2
    go_ret
    exact ⟨ret_int (by go_num), rfl⟩
end Go.Proofs.YtgpldlbmjakjhaaGreat

namespace Go.Proofs.Parclose

/-- where the first with the number q stands, from k on -/
def firstN (q : Int) : Nat → List Snt → Int
  | _, [] => -1
  | k, s :: r => if s.f.seq = q then k else firstN q (k + 1) r
theorem firstN_or (q : Int) : ∀ (l : List Snt) (k : Nat), (firstN q k l = -1 ∧ ∀ s ∈ l, s.f.seq ≠ q) ∨ ∃ (i : Nat) (h : i < l.length), firstN q k l = ((k + i : Nat) : Int) ∧ (l[i]).f.seq = q
  | [], _ => Or.inl ⟨rfl, fun s hs => absurd hs (by simp)⟩
  | s :: r, k => by
    by_cases hs : s.f.seq = q
    · exact Or.inr ⟨0, by simp, by simp [firstN, hs], hs⟩
    · rcases firstN_or q r (k + 1) with ⟨h1, h2⟩ | ⟨i, hi, h1, h2⟩
      · refine Or.inl ⟨by simp [firstN, hs, h1], fun x hx => ?_⟩
        rcases List.mem_cons.1 hx with e | hx
        · rw [e]; exact hs
        · exact h2 x hx
      · refine Or.inr ⟨i + 1, by simpa using hi, ?_, by simpa using h2⟩
        simp only [firstN, hs, if_false]
        rw [h1]
        congr 1
        omega
theorem ans_none {l : Lne} {q : Int} (hg : goodLn l = true) (h : ∀ s ∈ l.sent, s.f.seq ≠ q) : ansLn l q = (l, 4) := by
  unfold ansLn
  rw [if_pos hg, if_pos]
  rw [List.all_eq_true]
  intro s hs
  simpa using h s hs
theorem ans_some {l : Lne} {q : Int} (hg : goodLn l = true) (i : Nat) (hi : i < l.sent.length) (h : (l.sent[i]).f.seq = q) : ansLn l q = ({ l with sent := l.sent.take i ++ l.sent.drop (i + 1) }, 0) := by
  unfold ansLn
  have hne : ¬ (l.sent.all (fun s => !(s.f.seq == q)) = true) := fun ha => by
    have := List.all_eq_true.1 ha _ (List.getElem_mem hi)
    simp [h] at this
  rw [if_pos hg, if_neg hne, ← h, rises_only (goodLn_rises hg) i hi]
theorem ans_bad {l : Lne} {q : Int} (hg : goodLn l = false) : ansLn l q = (l, 2) := by
  unfold ansLn
  rw [hg]
  rfl
end Go.Proofs.Parclose

namespace Go.Proofs.YtgpldlbmjakjhaaGreat
open Go.RowKit Go.Proofs.Parclose

theorem lhas_any (s : Snt) (pl pg pc : Option Addr) (n1 n2 n3 cl cg cc : Nat) (c : Nat) (q : Int) (w : World) (hc : w.cell? ⟨c, 0, none⟩ = some (.int .i64 q)) :
    Calls Tryz.prog 116 #[sntV s (.slice pl n1 cl) (.slice pg n2 cg) (.slice pc n3 cc), .pointer (some ⟨c, 0, none⟩)] w fun e w' => e = .returned (.bool (s.f.seq == q)) ∧ Below w.heap.size w w' := by
  have hlt := cell_block hc
  simp only at hlt
  have n1' : c ≠ w.heap.size := by omega
  have n2' : w.heap.size ≠ c := by omega
  unfold sntV
  go_enter Tryz.func116, Tryz.ntmps116
  go_wp2
  go_ret
  exact ⟨rfl, below_box w _⟩

theorem firstN_drop (q : Int) (l : List Snt) (k : Nat) (hk : k < l.length) : firstN q k (l.drop k) = if (l[k]).f.seq = q then (k : Int) else firstN q (k + 1) (l.drop (k + 1)) := by
  rw [List.drop_eq_getElem_cons hk]
  rfl

set_option maxRecDepth 100000 in
set_option maxHeartbeats 1600000 in
theorem lindex_any (v : Value) (l : List Snt) (c : Nat) (q : Int) (w : World) (hv : SntsAt w v l) (hc : w.cell? ⟨c, 0, none⟩ = some (.int .i64 q)) :
    Calls Tryz.prog 115 #[v, .func (.func 116) #[] #[.pointer (some ⟨c, 0, none⟩)]] w fun e w' => e = .returned (.int .i64 (firstN q 0 l)) ∧ Below w.heap.size w w' := by
  have hlen := hv.len
  obtain ⟨p, cap, rfl⟩ := hv.slice
  go_enter Tryz.func115, Tryz.ntmps115
  go_wp2
  go_loopw [8] (fun i wr => ∃ k : Nat, k ≤ l.length ∧ i = .int .i64 k ∧ firstN q 0 l = firstN q k (l.drop k) ∧ Below w.heap.size w wr) (fun i _ => l.length - (intOf i).toNat)
  case atStart => exact ⟨0, Nat.zero_le _, rfl, by simp, Below.refl _ _⟩
  case round =>
    obtain ⟨k, hk, rfl, hf, hb⟩ := hrel
    by_cases hlt : k < l.length
    · have hI : (k : Int) < (l.length : Int) := by omega
      obtain ⟨bb, o, pl, cl, pg, cg, pc, cc, rfl, hat⟩ := hv.get k hlt
      have hat := hat.below hb
      obtain ⟨c0, c1, c2, c3, c4, c5, c6, c7, c8, c9, c10, c11, c12, _, _, _⟩ := hat
      rw [firstN_drop q l k hlt] at hf
      have hcc : wr.cell? ⟨c, 0, none⟩ = some (.int .i64 q) := by rw [hb.cell (cell_block hc), hc]
      have hh := fun wx (h : wx.cell? ⟨c, 0, none⟩ = some (.int .i64 q)) => lhas_any l[k] pl pg pc (l[k]).f.mail.label.length (l[k]).f.mail.grants.length (l[k]).f.certs.length cl cg cc c q wx h
      unfold sntV at hh
      have HF := hid hf
      generalize l[k] = s at *
      clear hv hf
      by_cases hq : s.f.seq = q
      · have hqb : (s.f.seq == q) = true := beq_iff_eq.2 hq
        rw [hqb] at hh
        have HQ := hid hq
        clear hq hqb
        go_wp2_with (go_at_call 116; refine (hh _ hcc).mono ?_; rintro e w1 ⟨rfl, hw1⟩)
        go_ret
        exact ⟨ret_int (by rw [HF.out, if_pos HQ.out]), below_then hb hw1⟩
      · have hqb : (s.f.seq == q) = false := beq_eq_false_iff_ne.2 hq
        rw [hqb] at hh
        have HQ := hid hq
        clear hq hqb
        go_wp2_with (go_at_call 116; refine (hh _ hcc).mono ?_; rintro e w1 ⟨rfl, hw1⟩)
        go_roundw
        case rel => exact ⟨k + 1, hlt, by go_num, by rw [HF.out, if_neg HQ.out], below_then hb hw1⟩
        case measure => simp [intOf]; omega
    · have hI : ¬ (k : Int) < (l.length : Int) := by omega
      have hd : l.drop k = [] := List.drop_eq_nil_of_le (by omega)
      rw [hd] at hf
      go_wp2
      go_ret
      exact ⟨ret_int rfl, hb⟩
end Go.Proofs.YtgpldlbmjakjhaaGreat
