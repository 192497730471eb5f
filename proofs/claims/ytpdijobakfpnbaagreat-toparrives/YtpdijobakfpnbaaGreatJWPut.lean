/- wire.put and putTime lay bytes behind a list of bytes of the call, and turn nothing else. -/
import Derived.Test.YtpdijobakfpnbaaGreatJWHost
import Derived.Laws.AppendOwn
import Derived.Laws.AppendOwnNone
import Derived.Maps.AppendAt
import Derived.Lib.AppendStr
import Derived.Laws.BitsLemmas
namespace Go.Proofs.YtpdijobakfpnbaaGreat
open Go.RowKit Go.Proofs.Parclose
theorem Qei {e : TypeId} {z : Value} {s b : Nat} (h : (Tryz.prog.info? e).map (fun i => (i.zero, i.size, i.bytes)) = some (some z, s, b)) : ∃ i, Tryz.prog.info? e = some i ∧ i.zero = some z ∧ i.size = s ∧ i.bytes = b := by
 obtain ⟨i, h1, h2⟩ := Option.map_eq_some_iff.1 h
 simp only [Prod.mk.injEq] at h2
 exact ⟨i, h1, h2.1, h2.2.1, h2.2.2⟩
theorem Qfe : (Tryz.prog.info? 5).map (fun i => (i.zero, i.size, i.bytes)) = some (some (.int .u8 0), 1, 1) := by kernel_rfl
def byteCell (b : UInt8) : Value := .int .u8 b.toNat
def BytesAt (base : Nat) (w : World) (v : Value) (bs : List UInt8) : Prop := w.ownsRow base 5 1 v bs.length (bs.map byteCell)
theorem Qb0 (n : Int) : Value.int .u8 (n % 256) = byteCell (byteL n) := by
 unfold byteCell
 rw [QbM]
def isRow (w : World) (k : Nat) : Prop := ∃ cur, w.heap[k]? = some (.cells cur 5 (0, 0))
structure Kept (base : Nat) (w w' : World) : Prop where
 os : w'.os = w.os
 tape : w'.tape = w.tape
 output : w'.output = w.output
 size : w.heap.size ≤ w'.heap.size
 block : ∀ k, k < w.heap.size → (k < base ∨ ¬ isRow w k) → w'.heap[k]? = w.heap[k]?
theorem Kept.refl (base : Nat) (w : World) : Kept base w w := ⟨rfl, rfl, rfl, Nat.le_refl _, fun _ _ _ => rfl⟩
theorem Kept.trans {base : Nat} {a b c : World} (h : Kept base a b) (k : Kept base b c) : Kept base a c :=
 ⟨k.os.trans h.os, k.tape.trans h.tape, k.output.trans h.output, Nat.le_trans h.size k.size, fun i hi hr => by
  have e := h.block i hi hr
  rw [k.block i (by have := h.size; omega) (hr.imp id fun hn ⟨cur, hc⟩ => hn ⟨cur, by rw [← e, hc]⟩), e]⟩
theorem Kept.below {base : Nat} {w w' : World} (h : Kept base w w') (hb : base ≤ w.heap.size) : Below base w w' := ⟨h.os, h.tape, h.output, h.size, fun k hk => h.block k (by omega) (Or.inl hk)⟩
theorem Kept.of_below {base : Nat} {w w' : World} (h : Below w.heap.size w w') : Kept base w w' := ⟨h.os, h.tape, h.output, h.size, fun k hk _ => h.block k hk⟩
theorem Kept.alloc {base : Nat} {a w : World} (h : Kept base a w) (o : Obj) : Kept base a (w.alloc o) := h.trans (Kept.of_below (Qd w o))
theorem Kept.grown {base : Nat} {a w w' : World} {v : Value} {bs : List UInt8} (h : Kept base a w) (ho : BytesAt base w v bs) (hg : w.grownBy w' v.ownBlock) : Kept base a w' :=
 h.trans ⟨hg.os, hg.tape, hg.output, hg.size, fun k hk hr => hg.block k hk (fun e => by
  rcases ho.2 with ⟨rfl, _⟩ | ⟨g, cap, cur, rfl, hb, hh, _⟩
  · cases e
  · have e' : k = g := Option.some.inj e
    subst e'
    rcases hr with hr | hr
    · omega
    · exact hr ⟨cur, hh⟩)⟩
theorem Kept.cell {base : Nat} {w w' : World} (h : Kept base w w') {p : Addr} {C : Array Value} {t : TypeId} {fr : Nat × Nat} (hp : w.heap[p.block]? = some (.cells C t fr)) (ht : t ≠ 5) : w'.cell? p = w.cell? p := by
 have hk : p.block < w.heap.size := by
  by_cases hb : p.block < w.heap.size
  · exact hb
  · rw [Array.getElem?_eq_none (by omega)] at hp
    cases hp
 refine World.cell?_of_block (w := w) (h.block p.block hk (Or.inr ?_))
 rintro ⟨cur, hc⟩
 rw [hp] at hc
 injection hc with hc
 injection hc with _ h2 _
 exact ht h2
theorem Qq {base : Nat} {w w' : World} {C : Array Value} {t : TypeId} (h : Kept base (w.alloc (.cells C t)) w') (ht : t ≠ 5) (j : Nat) : w'.cell? ⟨w.heap.size, j, none⟩ = C[j]? := by
 rw [h.cell (p := ⟨w.heap.size, j, none⟩) (C := C) (t := t) (fr := (0, 0)) (heap_alloc_new w _) ht]
 exact World.cell?_alloc_mark w C t _ j
theorem BytesAt.alloc {base : Nat} {w : World} {v : Value} {bs : List UInt8} (h : BytesAt base w v bs) (o : Obj) : BytesAt base (w.alloc o) v bs := World.ownsRow.alloc h o
theorem BytesAt.nil (base : Nat) (w : World) : BytesAt base w (.slice none 0 0) [] := World.ownsRow_nil _ _ _ _
theorem Qa8 {w : World} {ops : Array Oper} {rest : List Oper} {o : Oper} {a : Act} {Q : Exit → Act → World → Prop} (hgd : o.guard = none) (s x : Operand)
 (ho : o.op = .call { callee := .builtin .append, args := #[s, x], argTypes := #[186, 186] }) (base : Nat) (v : Value) (bs : List UInt8) (hs : a.eval s = v) (hown : BytesAt base w v bs)
 (b : UInt8) (g of c : Nat) (hx : a.eval x = .slice (some ⟨g, of, none⟩) 1 c) (hu : w.cell? ⟨g, of, none⟩ = some (byteCell b)) (hn : bs.length + 1 ≤ 1000000) (hbase : base ≤ w.heap.size)
 (h : ∀ v' w', BytesAt base w' v' (bs ++ [b]) → w.grownBy w' v.ownBlock → wpList Tryz.prog ops Q rest (a.put o.dst v') w') : wpList Tryz.prog ops Q (o :: rest) a w := by
 obtain ⟨i0, hi, hz0, hz1, hz2⟩ := Qei Qfe
 refine wpList_append_own w hgd s x 186 ho base 5 i0 _ 1 1 Tryz.underlying186 hi hz0 hz1 hz2 rfl (by decide) v bs.length (bs.map byteCell) hs hown ⟨g, of, none⟩ 1 c [byteCell b] hx rfl ?_ ?_ (by unfold maxLen; omega) (by omega) hbase
  (fun v' w' h1 h2 _ => h v' w' (by unfold BytesAt; simpa using h1) h2)
 · intro j u hj
   match j, hj with
   | 0, hj =>
    cases hj
    rw [WideShapes.add_plain]
    exact hu
 · intro u hu
   simp only [List.mem_singleton] at hu
   subst hu
   rfl
theorem Qf5 (w : World) (v : Value) (t : TypeId) : (w.alloc (.cells #[v] t)).cell? ⟨w.heap.size, 0, none⟩ = some v := by simp
def bytesTo (bs : List UInt8) (l : List Int) (k : Nat) : List UInt8 := bs ++ (l.take k).map byteL
theorem QfR (bs : List UInt8) (l : List Int) : bytesTo bs l 0 = bs := by simp [bytesTo]
theorem QfS (bs : List UInt8) (l : List Int) (k : Nat) (hk : k < l.length) : bytesTo bs l (k + 1) = bytesTo bs l k ++ [byteL l[k]] := by
 unfold bytesTo
 rw [List.take_succ_eq_append_getElem hk, List.map_append, List.append_assoc]
 rfl
theorem Qhe (bs : List UInt8) (l : List Int) : bytesTo bs l l.length = bs ++ l.map byteL := by
 unfold bytesTo
 rw [List.take_length]
theorem QeH (bs : List UInt8) (l : List Int) (k : Nat) : (bytesTo bs l k).length ≤ bs.length + l.length := by
 unfold bytesTo
 simp
 omega
set_option maxHeartbeats 800000 in
theorem Qi6 (base : Nat) (v vl : Value) (bs : List UInt8) (l : List Int) (w : World) (hown : BytesAt base w v bs) (hbase : base ≤ w.heap.size) (hl : ∀ wr, Kept base w wr → IntsAt wr vl l) (hn : bs.length + l.length ≤ 100000) :
 Calls Tryz.prog 191 #[v, vl] w fun e w' => ∃ v', e = .returned v' ∧ BytesAt base w' v' (bs ++ l.map byteL) ∧ Kept base w w' := by
 obtain ⟨p, cap, rfl, _⟩ := id (hl w (Kept.refl _ _))
 have HL : Hid (∀ wr, Kept base w wr → IntsAt wr (.slice p l.length cap) l) := hl
 clear hl
 go_enter Tryz.func191, Tryz.ntmps191
 go_wp2
 go_loopw [0, 9] (fun v i wr => ∃ k : Nat, k ≤ l.length ∧ i = .int .i64 k ∧ BytesAt base wr v (bytesTo bs l k) ∧ Kept base w wr) (fun _ i _ => l.length - (intOf i).toNat)
 case atStart => exact ⟨0, Nat.zero_le _, rfl, by rw [QfR]; exact hown, Kept.refl _ _⟩
 case round =>
  clear hown
  obtain ⟨k, hk, rfl, hown, hb⟩ := hrel
  have hsz := hb.size
  by_cases hlt : k < l.length
  · obtain ⟨b, o, rfl, hc⟩ := (HL.out _ hb).cells (by omega)
    have hc1 := hc k hlt
    have hlen : (bytesTo bs l k).length ≤ 100000 := by have := QeH bs l k; omega
    have hcb : Hid (Value.int .u8 (l[k] % 256) = byteCell (byteL l[k])) := Qb0 l[k]
    have HS2 : Hid (bytesTo bs l (k + 1) = bytesTo bs l k ++ [byteL l[k]]) := QfS bs l k hlt
    clear hc
    generalize hout : bytesTo bs l k = out at hown hlen
    have HO : Hid (bytesTo bs l k = out) := hout
    clear hout
    go_wp2_with (at_builtin; refine Qa8 rfl _ _ rfl base _ out rfl (hown.alloc _) (byteL l[k]) wr.heap.size 0 1 rfl ?_ (by omega) (by simp; omega) ?_; (rw [← hcb.out]; exact Qf5 _ _ _); intro v2 w2 hown2 hgrow2)
    go_roundw
    case rel =>
     have hfin : BytesAt base w2 v2 (bytesTo bs l (k + 1)) := by rw [HS2.out, HO.out]; exact hown2
     have hkept : Kept base w w2 := (hb.alloc _).grown (hown.alloc _) hgrow2
     first | exact ⟨k + 1, hlt, by go_num, hfin, hkept⟩ | ((repeat apply Exists.intro); exact ⟨⟨k + 1, hlt, by go_num, hfin, hkept⟩, rfl⟩)
    case measure => simp [intOf]; omega
  · have hkl : k = l.length := by omega
    subst hkl
    go_wp2
    go_ret
    exact ⟨_, rfl, by rw [← Qhe]; exact hown, hb⟩
def timeFrom (n : Int) (k : Nat) : List UInt8 := (timeL n).take (6 - k)
set_option maxHeartbeats 800000 in
theorem Qdn (base : Nat) (v : Value) (bs : List UInt8) (n : Int) (w : World) (hown : BytesAt base w v bs) (hbase : base ≤ w.heap.size) (hn : bs.length ≤ 100000) :
 Calls Tryz.prog 211 #[v, .int .i64 n] w fun e w' => ∃ v', e = .returned v' ∧ BytesAt base w' v' (bs ++ timeL n) ∧ Kept base w w' := by
 go_enter Tryz.func211, Tryz.ntmps211
 go_wp2
 go_loopw [0, 5] (fun v i wr => ∃ k : Nat, k ≤ 6 ∧ i = .int .i64 ((k : Int) - 1) ∧ BytesAt base wr v (bs ++ timeFrom n k) ∧ Kept base w wr) (fun _ i _ => ((intOf i) + 1).toNat)
 case atStart => exact ⟨6, Nat.le_refl _, rfl, by simpa [timeFrom] using hown, Kept.refl _ _⟩
 case round =>
  clear hown
  obtain ⟨k, hk, rfl, hown, hb⟩ := hrel
  have hsz := hb.size
  by_cases hlt : k = 0
  · subst hlt
    go_wp2
    go_ret
    exact ⟨_, rfl, hown, hb⟩
  · obtain ⟨m, rfl⟩ : ∃ m, k = m + 1 := ⟨k - 1, by omega⟩
    have e1 : ((m + 1 : Nat) : Int) - 1 = (m : Int) := by omega
    rw [e1]
    have hge : (0 : Int) ≤ (m : Int) := by omega
    have hlen : (bs ++ timeFrom n (m + 1)).length ≤ 100006 := by simp [timeFrom]; omega
    have hw1 : IntKind.i64.wrap (8 * (m : Int)) = 8 * (m : Int) := wrap_small (by omega) (by omega)
    have hw2 : IntKind.i64.wrap ((m : Int) - 1) = (m : Int) - 1 := by simp [IntKind.wrap, IntKind.signed, IntKind.bits]; omega
    have hcb : Hid (Value.int .u8 (n / 2 ^ (8 * m) % 256) = byteCell (byteL (n / 2 ^ (8 * m)))) := Qb0 _
    have HS2 : Hid (timeFrom n m = timeFrom n (m + 1) ++ [byteL (n / 2 ^ (8 * m))]) := hid (by
     have hm : m ≤ 5 := by omega
     clear hcb hw1 hw2 hlen hown hb e1 hge hlt hsz hk
     match m, hm with
     | 0, _ => simp [timeFrom, timeL]
     | 1, _ => simp [timeFrom, timeL]
     | 2, _ => simp [timeFrom, timeL]
     | 3, _ => simp [timeFrom, timeL]
     | 4, _ => simp [timeFrom, timeL]
     | 5, _ => simp [timeFrom, timeL])
    generalize hout : bs ++ timeFrom n (m + 1) = out at hown hlen
    have HO : Hid (bs ++ timeFrom n (m + 1) = out) := hout
    clear hout e1
    go_wp2_with (at_builtin; refine Qa8 rfl _ _ rfl base _ out rfl (hown.alloc _) (byteL (n / 2 ^ (8 * m))) wr.heap.size 0 1 rfl ?_ (by omega) (by simp; omega) ?_; (rw [← hcb.out]; exact Qf5 _ _ _); intro v2 w2 hown2 hgrow2)
    go_roundw
    case rel =>
     have hfin : BytesAt base w2 v2 (bs ++ timeFrom n m) := by rw [HS2.out, ← List.append_assoc, HO.out]; exact hown2
     have hkept : Kept base w w2 := (hb.alloc _).grown (hown.alloc _) hgrow2
     first | exact ⟨m, by omega, rfl, hfin, hkept⟩ | ((repeat apply Exists.intro); exact ⟨⟨m, by omega, rfl, hfin, hkept⟩, rfl⟩)
    case measure => simp [intOf]
end Go.Proofs.YtpdijobakfpnbaaGreat
