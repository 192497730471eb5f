/- Sixteen threads as they were, in an array that a look keeps beside a cluster. -/
import Derived.Test.YtlbdaklmlknmbaaGreatJCCome
import Derived.Test.YtlbdaklmlknmbaaGreatJKTake
import Derived.Test.YtlbdaklmlknmbaaGreatJKAns
import Derived.Test.YtlbdaklmlknmbaaGreatJTIn
import Derived.Test.YtlbdaklmlknmbaaGreatJNamed
import Derived.Test.YtlbdaklmlknmbaaGreatJMem
import Derived.Test.YtlbdaklmlknmbaaGreatJPlain
namespace Go.Proofs.YtlbdaklmlknmbaaGreat
open Go.RowKit Go.Proofs.Parclose
structure WasD where
 pl : Option Addr
 cl : Nat
 po : Option Addr
 co : Nat
 pj : Option Addr
 cj : Nat
 pm : Option Addr
 cm : Nat
def WasD.vals (d : WasD) (th : Thr) : List Value := [.slice d.pl th.label.length d.cl, .slice d.po th.own.length d.co, .string ⟨th.text.toArray⟩, .slice d.pj th.objs.length d.cj, .slice d.pm th.mails.length d.cm]
def WasD.New (d : WasD) (w : World) (B : Nat) (th : Thr) : Prop := ThrNew w B (.slice d.pl th.label.length d.cl) (.slice d.po th.own.length d.co) (.slice d.pj th.objs.length d.cj) (.slice d.pm th.mails.length d.cm) th
def Held (w : World) (Bw cb : Nat) (Z : CluV) (d : WasD) (th : Thr) : Prop := ∃ (B : Nat) (wc : World), Bw < B ∧ d.New wc B th ∧ KeptF (List.range B) wc w ∧ ∀ k ∈ cownL cb Z, k < B ∨ wc.heap.size ≤ k
theorem Held.new {w : World} {Bw cb : Nat} {Z : CluV} {d : WasD} {th : Thr} (h : Held w Bw cb Z d th) : d.New w 0 th := by
 obtain ⟨B, wc, _, h1, h2, _⟩ := h
 exact (ThrNew.keep h1 (Qmw fun k hk => List.mem_range.1 hk) h2).base (Nat.zero_le _)
theorem Held.below {w w' : World} {Bw cb : Nat} {Z : CluV} {d : WasD} {th : Thr} (h : Held w Bw cb Z d th) (hb : Below w.heap.size w w') : Held w' Bw cb Z d th := by
 obtain ⟨B, wc, h0, h1, h2, h3⟩ := h
 exact ⟨B, wc, h0, h1, h2.more hb, h3⟩
theorem Held.step {w w' : World} {Bw cb : Nat} {F G : List Nat} {Z Z' : CluV} {d : WasD} {th : Thr} (h : Held w Bw cb Z d th) (hs : CStep cb w F Z w' G Z') : Held w' Bw cb Z' d th := by
 obtain ⟨B, wc, h0, h1, h2, h3⟩ := h
 refine ⟨B, wc, h0, h1, ⟨hs.kept.os.trans h2.os, hs.kept.tape.trans h2.tape, hs.kept.output.trans h2.output, Nat.le_trans h2.size hs.kept.size, fun k hk hn => ?_⟩, fun k hk => ?_⟩
 · rw [hs.kept.block k (Nat.lt_of_lt_of_le hk h2.size) (fun e => ?_), h2.block k hk hn]
   rcases h3 k e with g | g
   · exact hn (List.mem_range.2 g)
   · omega
 · rcases hs.own k hk with e | e
   · exact h3 k e
   · exact .inr (Nat.le_trans h2.size e)
theorem Held.put {w w' : World} {Bw cb : Nat} {Z : CluV} {d : WasD} {th : Thr} (h : Held w Bw cb Z d th) (hg : w.grownBy w' (some Bw)) : Held w' Bw cb Z d th := by
 obtain ⟨B, wc, h0, h1, h2, h3⟩ := h
 have hk := QK (F := [Bw]) hg fun k e => .inl (by have := Option.some.inj e; simp; omega)
 refine ⟨B, wc, h0, h1, ⟨hk.os.trans h2.os, hk.tape.trans h2.tape, hk.output.trans h2.output, Nat.le_trans h2.size hk.size, fun k hk1 hn => ?_⟩, h3⟩
 rw [hk.block k (Nat.lt_of_lt_of_le hk1 h2.size) (fun e => hn (List.mem_range.2 (by simp at e; omega))), h2.block k hk1 hn]
def mixT (n : Nat) (C C0 : Clu) (h t : Nat) : Thr := if h * 4 + t < n then thrC C h t else thrC C0 h t
def WasG (w : World) (Bw cb : Nat) (Z : CluV) (th : Nat → Nat → Thr) : Prop := ∃ (A : Array Value) (D : Nat → Nat → WasD), w.heap[Bw]? = some (.cells A 62 (0, 0)) ∧ A.size = 80 ∧ ∀ h t, h < 4 → t < 4 → (∀ i, i < 5 → A[h * 20 + t * 5 + i]? = ((D h t).vals (th h t))[i]?) ∧ Held w Bw cb Z (D h t) (th h t)
theorem WasG.below {w w' : World} {Bw cb : Nat} {Z : CluV} {th : Nat → Nat → Thr} (h : WasG w Bw cb Z th) (hb : Below w.heap.size w w') : WasG w' Bw cb Z th := by
 obtain ⟨A, D, h1, h2, h3⟩ := h
 exact ⟨A, D, Qf h1 hb, h2, fun x t hx ht => ⟨(h3 x t hx ht).1, (h3 x t hx ht).2.below hb⟩⟩
theorem WasG.step {w w' : World} {cb Bw : Nat} {F G : List Nat} {Z Z' : CluV} {C : Clu} {th : Nat → Nat → Thr} (h : WasG w Bw cb Z th) (hs : CStep cb w F Z w' G Z') (hc : CluAt w cb F Z C) : WasG w' Bw cb Z' th := by
 obtain ⟨A, D, h1, h2, h3⟩ := h
 exact ⟨A, D, QI hs hc h1 (by decide) (by decide) (by decide) (by decide) (by decide) (by decide), h2, fun x t hx ht => ⟨(h3 x t hx ht).1, (h3 x t hx ht).2.step hs⟩⟩
theorem WasG.lt {w : World} {Bw cb : Nat} {Z : CluV} {th : Nat → Nat → Thr} (h : WasG w Bw cb Z th) : Bw < w.heap.size := by
 obtain ⟨A, D, h1, _⟩ := h
 exact Qs h1
theorem WasG.slot {w : World} {Bw cb : Nat} {Z : CluV} {th : Nat → Nat → Thr} (hw : WasG w Bw cb Z th) {h t : Nat} (hh : h < 4) (ht : t < 4) : ∃ d : WasD, (w.cell? ⟨Bw, h * 20 + t * 5, none⟩ = some (.slice d.pl (th h t).label.length d.cl) ∧ w.cell? ⟨Bw, h * 20 + t * 5 + 1, none⟩ = some (.slice d.po (th h t).own.length d.co) ∧ w.cell? ⟨Bw, h * 20 + t * 5 + 2, none⟩ = some (.string ⟨(th h t).text.toArray⟩) ∧ w.cell? ⟨Bw, h * 20 + t * 5 + 3, none⟩ = some (.slice d.pj (th h t).objs.length d.cj) ∧ w.cell? ⟨Bw, h * 20 + t * 5 + 4, none⟩ = some (.slice d.pm (th h t).mails.length d.cm)) ∧ Held w Bw cb Z d (th h t) := by
 obtain ⟨A, D, h1, h2, h3⟩ := hw
 obtain ⟨g, hnew⟩ := h3 h t hh ht
 exact ⟨D h t, ⟨(Qa h1 _).trans (g 0 (by omega)), (Qa h1 _).trans (g 1 (by omega)), (Qa h1 _).trans (g 2 (by omega)), (Qa h1 _).trans (g 3 (by omega)), (Qa h1 _).trans (g 4 (by omega))⟩, hnew⟩
theorem WasG.cells {w : World} {Bw cb : Nat} {Z : CluV} {th : Nat → Nat → Thr} (hw : WasG w Bw cb Z th) (j : Nat) (hj : j < 80) : (∃ u, w.cell? ⟨Bw, j, none⟩ = some u) ∧ w.frozen? ⟨Bw, j, none⟩ = false := by
 obtain ⟨A, D, h1, h2, _⟩ := hw
 exact ⟨⟨A[j]'(by omega), (Qa h1 j).trans (Array.getElem?_eq_getElem _)⟩, Qb h1 j⟩
theorem Qjo {w : World} {Bw cb i j : Nat} {Z : CluV} {th : Nat → Nat → Thr} {x : Thr} (hw : WasG w Bw cb Z th) (hi : i < 4) (hj : j < 4) (d : WasD) (hd : Held w Bw cb Z d x) :
 WasG (w.setCells Bw (i * 20 + j * 5) (d.vals x)) Bw cb Z (fun h t => if h = i ∧ t = j then x else th h t) := by
 obtain ⟨A, D, h1, h2, h3⟩ := hw
 obtain ⟨A', k1, k2, k3⟩ := QS (d.vals x) (i * 20 + j * 5) w A h1
 have hl : (d.vals x).length = 5 := rfl
 rw [hl] at k3
 refine ⟨A', fun h t => if h = i ∧ t = j then d else D h t, k1, by omega, fun h t hh ht => ?_⟩
 by_cases e : h = i ∧ t = j
 · obtain ⟨rfl, rfl⟩ := e
   simp only [and_self, if_true]
   refine ⟨fun y hy => ?_, hd.put (Qx _ _ w)⟩
   rw [k3, if_pos (by omega), show h * 20 + t * 5 + y - (h * 20 + t * 5) = y by omega]
 · simp only [if_neg e]
   obtain ⟨g, hnew⟩ := h3 h t hh ht
   refine ⟨fun y hy => ?_, hnew.put (Qx _ _ w)⟩
   rw [k3, if_neg (by omega)]
   exact g y hy
theorem WasG.congr {w : World} {Bw cb : Nat} {Z : CluV} {th th' : Nat → Nat → Thr} (h : WasG w Bw cb Z th) (e : ∀ i j, i < 4 → j < 4 → th i j = th' i j) : WasG w Bw cb Z th' := by
 obtain ⟨A, D, h1, h2, h3⟩ := h
 exact ⟨A, D, h1, h2, fun i j hi hj => by rw [← e i j hi hj]; exact h3 i j hi hj⟩
theorem Qll {n i j : Nat} {C C0 : Clu} (hn : n = i * 4 + j) (hj : j < 4) (h t : Nat) (ht : t < 4) : (if h = i ∧ t = j then thrC C i j else mixT n C C0 h t) = mixT (n + 1) C C0 h t := by
 unfold mixT
 by_cases e : h = i ∧ t = j
 · rw [if_pos e, if_pos (by omega), e.1, e.2]
 · rw [if_neg e]
   by_cases g : h * 4 + t < n
   · rw [if_pos g, if_pos (by omega)]
   · rw [if_neg g, if_neg (by omega)]
theorem Qmn {i j : Nat} {C C0 : Clu} : mixT (i * 4 + j) C C0 i j = thrC C0 i j := by unfold mixT; rw [if_neg (Nat.lt_irrefl _)]
theorem QlH {w wc w' : World} {Bw cb : Nat} {F : List Nat} {Z : CluV} {C : Clu} {d : WasD} {th : Thr} (hc : CluAt w cb F Z C) (hB : Bw < w.heap.size) (hn : d.New wc w.heap.size th) (hb : Below wc.heap.size wc w') : Held w' Bw cb Z d th :=
 ⟨w.heap.size, wc, hB, hn, Qy _ hb, fun k hk => .inl (hc.fin k (hc.ownF k hk))⟩
def JG (Bw : Nat) (w : World) (F : List Nat) (cb : Nat) (Z : CluV) (C : Clu) : Prop := Bw ∈ F ∧ WasG w Bw cb Z (fun h t => thrC C h t)
theorem JG.below {Bw cb : Nat} {w w' : World} {F : List Nat} {Z : CluV} {C : Clu} (h : JG Bw w F cb Z C) (hb : Below w.heap.size w w') : JG Bw w' F cb Z C := ⟨h.1, h.2.below hb⟩
theorem JG.step {Bw cb : Nat} {w w' : World} {F G : List Nat} {Z Z' : CluV} {C D : Clu} (h : JG Bw w F cb Z C) (hs : CStep cb w F Z w' G Z') (hc : CluAt w cb F Z D) : JG Bw w' G cb Z' C := ⟨hs.more.1 _ h.1, h.2.step hs hc⟩
def givB (ms : List Mal) (g : Int) (n : Nat) : Bool := (ms.take n).any fun m => decide (g ∈ m.grants)
theorem Qfl (ms : List Mal) (g : Int) (n : Nat) (h : n < ms.length) : givB ms g (n + 1) = (givB ms g n || decide (g ∈ (ms[n]).grants)) := by
 unfold givB
 rw [← List.take_append_getElem h, List.any_append]
 simp
theorem QlJ {ms : List Mal} {g : Int} (h : ∃ m ∈ ms, g ∈ m.grants) : givB ms g ms.length = true := by
 unfold givB
 rw [List.take_length, List.any_eq_true]
 obtain ⟨m, h1, h2⟩ := h
 exact ⟨m, h1, decide_eq_true h2⟩
structure GraF (C0 C : Clu) (a : Ac) (r : Rep) (i j : Nat) : Prop where
 new : ∀ g ∈ (thrC C i j).own, g ∈ (thrC C0 i j).own ∨ ((a.kind = 1 ∧ a.h = i ∧ a.t = j ∧ r.code = 0) ∧ ((a.call.kind = 1 ∧ r.n = g) ∨ (a.call.kind = 7 ∧ ∃ m ∈ (thrC C0 i j).mails, g ∈ m.grants)))
 old : ∀ g ∈ (thrC C0 i j).own, g ∈ (thrC C i j).own
 flo : flowsL (thrC C0 i j).label (thrC C i j).label (thrC C0 i j).own = true
theorem graF {C : Clu} (hg : GoodC C) (a : Ac) (i j : Nat) (hi : i < 4) : GraF C (doC C a).1 a (doC C a).2 i j := by
 have h1 : hostB (i : Int) = true := decide_eq_true ⟨by omega, by omega⟩
 have e : ∀ D : Clu, thrC D i j = thrOf (D.ks i) j := fun D => by unfold thrC; rw [if_pos h1, Int.toNat_natCast]
 refine ⟨fun g hgm => ?_, fun g hgm => ?_, ?_⟩
 · rw [e] at hgm ⊢
   rcases (QbR hg a i hi j g).1 hgm with q | ⟨q1, q2, q3, q4, q5⟩
   · exact .inl q
   · exact .inr ⟨⟨q1, q2, q3, q4⟩, q5⟩
 · rw [e] at hgm ⊢
   exact (QbR hg a i hi j g).2.1 hgm
 · rw [e, e]
   exact (QbR hg a i hi j 0).2.2
theorem Q6 {w w' : World} {B b : Nat} {vl vo vj vm : Value} {th : Thr} (h : ThrNew w B vl vo vj vm th) (hg : w.grownBy w' (some b)) {A : Array Value} (hA : w.heap[b]? = some (.cells A 36 (0, 0))) : ThrNew w' B vl vo vj vm th :=
 ThrNew.keep (R := [b]) h (fun k hk => .inr ⟨_, _, by simp at hk; subst hk; exact hA, by decide, by decide, by decide, by decide⟩) (QK hg fun k e => .inl (by have := Option.some.inj e; simp; omega))
set_option maxRecDepth 100000 in
set_option maxHeartbeats 12800000 in
theorem QdG (cb Bw : Nat) (F : List Nat) (Z : CluV) (C0 C : Clu) (a : Ac) (r : Rep) (pl pg : Option Addr) (cl cg : Nat) (w : World) (hc : CluAt w cb F Z C) (hg0 : GoodC C0) (hg : GoodC C) (hj : JG Bw w F cb Z C0) (ht : ∀ i j : Nat, i < 4 → GraF C0 C a r i j) :
 Calls Tryz.prog 23 #[.pointer (some ⟨cb, 0, none⟩), (.agg #[.int .i64 a.kind, .int .i64 a.h, .int .i64 a.t, .int .i64 a.n, .int .i64 a.call.kind, .int .i64 a.call.h, .int .i64 a.call.t, .int .i64 a.call.n, .int .i64 a.call.c, .slice pl a.call.label.length cl, .slice pg a.call.grants.length cg, .string ⟨a.call.text.toArray⟩]), (.agg #[.int .i64 r.code, .int .i64 r.n, .string ⟨r.text.toArray⟩]), .pointer (some ⟨Bw, 0, none⟩)] w fun e w' => e = .returned (.bool true) ∧ JG Bw w' F cb Z C ∧ CluAt w' cb F Z C ∧ KeptF [Bw] w w' := by
 obtain ⟨hB, hN⟩ := hj
 have HG0 := hid hg0
 have HG := hid hg
 have HT := hid ht
 have HBF := hid hB
 have hb1 := Qc w (.cells #[.int .i64 a.kind, .int .i64 a.h, .int .i64 a.t, .int .i64 a.n, .int .i64 a.call.kind, .int .i64 a.call.h, .int .i64 a.call.t, .int .i64 a.call.n, .int .i64 a.call.c, .slice pl a.call.label.length cl, .slice pg a.call.grants.length cg, .string ⟨a.call.text.toArray⟩] 32)
 have hb2 := Qc (w.alloc (.cells #[.int .i64 a.kind, .int .i64 a.h, .int .i64 a.t, .int .i64 a.n, .int .i64 a.call.kind, .int .i64 a.call.h, .int .i64 a.call.t, .int .i64 a.call.n, .int .i64 a.call.c, .slice pl a.call.label.length cl, .slice pg a.call.grants.length cg, .string ⟨a.call.text.toArray⟩] 32)) (.cells #[.int .i64 r.code, .int .i64 r.n, .string ⟨r.text.toArray⟩] 43)
 have HXA := hid (Qf (heap_alloc_new w (.cells #[.int .i64 a.kind, .int .i64 a.h, .int .i64 a.t, .int .i64 a.n, .int .i64 a.call.kind, .int .i64 a.call.h, .int .i64 a.call.t, .int .i64 a.call.n, .int .i64 a.call.c, .slice pl a.call.label.length cl, .slice pg a.call.grants.length cg, .string ⟨a.call.text.toArray⟩] 32)) hb2)
 have HXR := hid (heap_alloc_new (w.alloc (.cells #[.int .i64 a.kind, .int .i64 a.h, .int .i64 a.t, .int .i64 a.n, .int .i64 a.call.kind, .int .i64 a.call.h, .int .i64 a.call.t, .int .i64 a.call.n, .int .i64 a.call.c, .slice pl a.call.label.length cl, .slice pg a.call.grants.length cg, .string ⟨a.call.text.toArray⟩] 32)) (.cells #[.int .i64 r.code, .int .i64 r.n, .string ⟨r.text.toArray⟩] 43))
 rw [World.size_alloc] at HXR
 have hb3 := Qd hb1 hb2
 have HC1 := hid (hc.below hb3)
 have HN1 := hid (hN.below hb3)
 have HK1 := hid (Qy [Bw] hb3)
 have HW1 := hid hN.lt
 clear hg0 hg ht hB hc hN hb1 hb2 hb3
 go_enter Tryz.func23, Tryz.ntmps23
 go_upto_region 1 with fail
 generalize (w.alloc (.cells #[.int .i64 a.kind, .int .i64 a.h, .int .i64 a.t, .int .i64 a.n, .int .i64 a.call.kind, .int .i64 a.call.h, .int .i64 a.call.t, .int .i64 a.call.n, .int .i64 a.call.c, .slice pl a.call.label.length cl, .slice pg a.call.grants.length cg, .string ⟨a.call.text.toArray⟩] 32)).alloc (.cells #[.int .i64 r.code, .int .i64 r.n, .string ⟨r.text.toArray⟩] 43) = w1 at *
 go_wp2_with fail
 go_loopw [21] (fun c wr => ∃ i : Nat, i ≤ 4 ∧ c = .int .i64 i ∧ WasG wr Bw cb Z (mixT (i * 4) C C0) ∧ CluAt wr cb F Z C ∧ KeptF [Bw] w1 wr) (fun c _ => 4 - (intOf c).toNat)
 case atStart => exact ⟨0, by omega, rfl, HN1.out.congr (fun h t _ _ => by unfold mixT; rw [if_neg (by omega)]), HC1.out, KeptF.refl _ _⟩
 case round =>
  clear HC1 HN1
  obtain ⟨i, hi, rfl, hnb, hcl, hkp⟩ := hrel
  obtain ⟨wo, hwo⟩ : ∃ wo, wo = wr := ⟨_, rfl⟩
  subst hwo
  have HNBo := hid hnb
  have HCo := hid hcl
  have HKo := hid hkp
  clear hnb hcl hkp
  by_cases hi4 : i < 4
  · have hI : (i : Int) < 4 := by omega
    have i0 : (0 : Int) ≤ i := by omega
    go_wp2_with fail
    go_loopw [24] (fun c wr => ∃ j : Nat, j ≤ 4 ∧ c = .int .i64 j ∧ WasG wr Bw cb Z (mixT (i * 4 + j) C C0) ∧ CluAt wr cb F Z C ∧ KeptF [Bw] w1 wr) (fun c _ => 4 - (intOf c).toNat)
    case atStart => exact ⟨0, by omega, rfl, HNBo.out, HCo.out, HKo.out⟩
    case round =>
     clear HNBo HCo HKo
     obtain ⟨j, hj, rfl, hnb, hcl, hkp⟩ := hrel
     obtain ⟨wi, hwi⟩ : ∃ wi, wi = wr := ⟨_, rfl⟩
     subst hwi
     have HWG := hid hnb
     have HCi := hid hcl
     have HKi := hid hkp
     clear hnb hcl hkp
     by_cases hj4 : j < 4
     · have hJ : (j : Int) < 4 := by omega
       have j0 : (0 : Int) ≤ j := by omega
       have HF := hid (HT.out i j hi4)
       have hthr := fun wx (hb : Below wi.heap.size wi wx) => Qdu cb i j F Z C wx (HCi.out.below hb) HG.out
       have HGT := hid (QcX HG.out i j)
       have HGO := hid (QcX HG0.out i j)
       obtain ⟨dd, ⟨c0, c1, c2, c3, c4⟩, hhe⟩ := HWG.out.slot hi4 hj4
       rw [Qmn] at c0 c1 c2 c3 c4 hhe
       obtain ⟨hfn, hfo, hff⟩ := HF.out
       have HNW : Hid (thrC C i j = thrC C i j) := hid rfl
       generalize thrC C0 i j = od at *
       generalize hnw : thrC C i j = nw at *
       replace HNW : Hid (thrC C i j = nw) := hid hnw
       clear hnw HF
       obtain ⟨s1, t1, s2, t2, s3, t3, s4, t4⟩ := dd
       simp only at c0 c1 c2 c3 c4
       have HON : Hid (ThrNew wi 0 (.slice s1 od.label.length t1) (.slice s2 od.own.length t2) (.slice s3 od.objs.length t3) (.slice s4 od.mails.length t4) od) := hid hhe.new
       have HFN := hid hfn
       have HFO := hid hfo
       have HFF := hid hff
       have HBwi := hid HWG.out.lt
       have hbwi := HBwi.out
       have HS : Hid (∀ w', Below wi.heap.size wi w' → w'.cell? ⟨Bw, i * 20 + j * 5, none⟩ = some (.slice s1 od.label.length t1) ∧ w'.cell? ⟨Bw, i * 20 + j * 5 + 1, none⟩ = some (.slice s2 od.own.length t2) ∧ w'.cell? ⟨Bw, i * 20 + j * 5 + 2, none⟩ = some (.string ⟨od.text.toArray⟩) ∧ w'.cell? ⟨Bw, i * 20 + j * 5 + 3, none⟩ = some (.slice s3 od.objs.length t3) ∧ w'.cell? ⟨Bw, i * 20 + j * 5 + 4, none⟩ = some (.slice s4 od.mails.length t4)) := hid (fun w' hw => ⟨(hw.cell (Qg c0)).trans c0, (hw.cell (Qg c1)).trans c1, (hw.cell (Qg c2)).trans c2, (hw.cell (Qg c3)).trans c3, (hw.cell (Qg c4)).trans c4⟩)
       have hob5 : od.mails.length ≤ 6 := HGO.out.mails
       have hoo8 : od.own.length ≤ 8 := HGO.out.own
       have hon8 : nw.own.length ≤ 8 := HGT.out.own
       have hol8 := HGO.out.label.1
       have hnl8 := HGT.out.label.1
       clear c0 c1 c2 c3 c4 hhe hfn hfo hff
       go_upto_region 7 with fail
       go_cut [10, 11] (fun va vb wx => ∃ (b1 b2 : Nat) (p1 : Option Addr) (q1 : Nat) (p2 : Option Addr) (q2 : Nat) (p3 : Option Addr) (q3 : Nat) (p4 : Option Addr) (q4 : Nat), va = .pointer (some ⟨b1, 0, none⟩) ∧ vb = .pointer (some ⟨b2, 0, none⟩) ∧ wx.heap[b1]? = some (.cells #[.slice p1 nw.label.length q1, .slice p2 nw.own.length q2, .string ⟨nw.text.toArray⟩, .slice p3 nw.objs.length q3, .slice p4 nw.mails.length q4] 36 (0, 0)) ∧ wx.heap[b2]? = some (.cells #[.slice s1 od.label.length t1, .slice s2 od.own.length t2, .string ⟨od.text.toArray⟩, .slice s3 od.objs.length t3, .slice s4 od.mails.length t4] 36 (0, 0)) ∧ ThrNew wx wi.heap.size (.slice p1 nw.label.length q1) (.slice p2 nw.own.length q2) (.slice p3 nw.objs.length q3) (.slice p4 nw.mails.length q4) nw ∧ Below wi.heap.size wi wx)
       case first =>
        refine wp_region_held_drew (S := (fun w' => w'.cell? ⟨Bw, i * 20 + j * 5, none⟩ = some (.slice s1 od.label.length t1) ∧ w'.cell? ⟨Bw, i * 20 + j * 5 + 1, none⟩ = some (.slice s2 od.own.length t2) ∧ w'.cell? ⟨Bw, i * 20 + j * 5 + 2, none⟩ = some (.string ⟨od.text.toArray⟩) ∧ w'.cell? ⟨Bw, i * 20 + j * 5 + 3, none⟩ = some (.slice s3 od.objs.length t3) ∧ w'.cell? ⟨Bw, i * 20 + j * 5 + 4, none⟩ = some (.slice s4 od.mails.length t4))) (by as_aux_lemma => kernel_rfl) (HS.out _ (Below.refl _ _).drew) (fun _hHeld => ?_)
        refine takeF 0 27 ?v1 rfl (Or.inl ⟨by rfl, ?hy1⟩) ?rest1
        case hy1 => intro wz hSw; (try dsimp only at hSw); go_simp; try with_reducible rfl
        simp only [Act.put, List.setIfInBounds_toArray, List.set_cons_zero, List.set_cons_succ]
        refine takeF 1 28 ?v2 rfl (Or.inl ⟨by rfl, ?hy2⟩) ?rest2
        case hy2 => intro wz hSw; (try dsimp only at hSw); go_simp; try with_reducible rfl
        simp only [Act.put, List.setIfInBounds_toArray, List.set_cons_zero, List.set_cons_succ]
        refine takeF 2 29 ?v3 rfl (Or.inl ⟨by rfl, ?hy3⟩) ?rest3
        case hy3 => intro wz hSw; (try dsimp only at hSw); go_simp; try with_reducible rfl
        simp only [Act.put, List.setIfInBounds_toArray, List.set_cons_zero, List.set_cons_succ]
        refine takeF 4 31 ?v4 rfl (Or.inl ⟨by rfl, ?hy4⟩) ?rest4
        case hy4 => intro wz hSw; (try dsimp only at hSw); go_simp; try with_reducible rfl
        simp only [Act.put, List.setIfInBounds_toArray, List.set_cons_zero, List.set_cons_succ]
        refine takeF 5 32 ?v5 rfl (Or.inl ⟨by rfl, ?hy5⟩) ?rest5
        case hy5 => intro wz hSw; (try dsimp only at hSw); go_simp; try with_reducible rfl
        simp only [Act.put, List.setIfInBounds_toArray, List.set_cons_zero, List.set_cons_succ]
        refine takeF 6 33 ?v6 rfl (Or.inl ⟨by rfl, ?hy6⟩) ?rest6
        case hy6 => intro wz hSw; (try dsimp only at hSw); go_simp; try with_reducible rfl
        simp only [Act.put, List.setIfInBounds_toArray, List.set_cons_zero, List.set_cons_succ]
        refine takeF 7 34 ?v7 rfl (Or.inl ⟨by rfl, ?hy7⟩) ?rest7
        case hy7 => intro wz hSw; (try dsimp only at hSw); go_simp; try with_reducible rfl
        simp only [Act.put, List.setIfInBounds_toArray, List.set_cons_zero, List.set_cons_succ]
        refine takeF 8 35 ?v8 rfl (Or.inl ⟨by rfl, ?hy8⟩) ?rest8
        case hy8 => intro wz hSw; (try dsimp only at hSw); go_simp; try with_reducible rfl
        simp only [Act.put, List.setIfInBounds_toArray, List.set_cons_zero, List.set_cons_succ]
        obtain ⟨wd, hwd⟩ : ∃ wd, wd = wi.drew := ⟨_, rfl⟩
        rw [← hwd]
        have hb0 : Below wi.heap.size wi wd := by rw [hwd]; exact (Below.refl _ _).drew
        clear hwd
        refine wpAnyH_ready (rs := [3, 9, 10]) (by as_aux_lemma => kernel_rfl) (by simp) ?_
        refine (AllReadyH.cons rfl (fun K' hK => ?_) (AllReadyH.cons rfl (fun K' hK => ?_) (AllReadyH.cons rfl (fun K' hK => ?_) AllReadyH.nil)))
        · skip
          go_simp
          go_wp2_with (go_at_call 11; refine (hthr _ hb0).mono ?_; rintro e wv1 ⟨p1, q1, p2, q2, p3, q3, p4, q4, rfl, hnew, hw2⟩)
          have HN4 : Hid (ThrNew wv1 wi.heap.size (.slice p1 nw.label.length q1) (.slice p2 nw.own.length q2) (.slice p3 nw.objs.length q3) (.slice p4 nw.mails.length q4) nw) := hid (hnew.base hb0.size)
          have hb3 := Qd hb0 hw2
          refine hK.out _ _ (HS.out _ hb3) (fun _ => ?_)
          clear hK K'
          have hl5 := hw2.size
          clear hw2 hnew
          refine wpAnyH_ready (rs := [9, 10]) (by as_aux_lemma => kernel_rfl) (by simp) ?_
          refine (AllReadyH.cons rfl (fun K' hK => ?_) (AllReadyH.cons rfl (fun K' hK => ?_) AllReadyH.nil))
          · skip
            go_simp
            have hl10 : wv1.heap.size < (wv1.alloc (.cells #[.slice none 0 0, .slice none 0 0, .string ⟨#[]⟩, .slice none 0 0, .slice none 0 0] 36)).heap.size := by simp
            have HX8 := hid (heap_alloc_new wv1 (.cells #[.slice none 0 0, .slice none 0 0, .string ⟨#[]⟩, .slice none 0 0, .slice none 0 0] 36))
            have hz7 := Qc wv1 (.cells #[.slice none 0 0, .slice none 0 0, .string ⟨#[]⟩, .slice none 0 0, .slice none 0 0] 36)
            have hb9 := Qd hb3 hz7
            refine hK.out _ _ (HS.out _ hb9) (fun _ => ?_)
            clear hK K'
            have HN11 := hid (HN4.out.below hz7)
            clear hz7
            generalize wv1.alloc (.cells #[.slice none 0 0, .slice none 0 0, .string ⟨#[]⟩, .slice none 0 0, .slice none 0 0] 36) = wz6 at *
            refine wpAnyH_ready (rs := [10]) (by as_aux_lemma => kernel_rfl) (by simp) ?_
            refine (AllReadyH.cons rfl (fun K' hK => ?_) AllReadyH.nil)
            go_simp
            have hl16 : wz6.heap.size < (wz6.alloc (.cells #[.slice none 0 0, .slice none 0 0, .string ⟨#[]⟩, .slice none 0 0, .slice none 0 0] 36)).heap.size := by simp
            have HX14 := hid (heap_alloc_new wz6 (.cells #[.slice none 0 0, .slice none 0 0, .string ⟨#[]⟩, .slice none 0 0, .slice none 0 0] 36))
            have hz13 := Qc wz6 (.cells #[.slice none 0 0, .slice none 0 0, .string ⟨#[]⟩, .slice none 0 0, .slice none 0 0] 36)
            have hb15 := Qd hb9 hz13
            refine hK.out _ _ (HS.out _ hb15) (fun _ => ?_)
            clear hK K'
            have HX17 := hid (Qf HX8.out hz13)
            have HN18 := hid (HN11.out.below hz13)
            clear hz13
            generalize wz6.alloc (.cells #[.slice none 0 0, .slice none 0 0, .string ⟨#[]⟩, .slice none 0 0, .slice none 0 0] 36) = wz12 at *
            have hac : wv1.heap.size ≠ wz6.heap.size := by omega
            have hwa : wi.heap.size ≤ wv1.heap.size := by have := hb0.size; omega
            have hwc : wi.heap.size ≤ wz6.heap.size := by have := hb0.size; omega
            have d0 := Qa HX17.out 0
            have df0 := Qb HX17.out 0
            have d1 := Qa HX17.out 1
            have df1 := Qb HX17.out 1
            have d2 := Qa HX17.out 2
            have df2 := Qb HX17.out 2
            have d3 := Qa HX17.out 3
            have df3 := Qb HX17.out 3
            have d4 := Qa HX17.out 4
            have df4 := Qb HX17.out 4
            refine wpAnyH_ready (rs := [11]) (by as_aux_lemma => kernel_rfl) (by simp) ?_
            refine (AllReadyH.cons rfl (fun K' hK => ?_) AllReadyH.nil)
            go_simp
            have hS1 : wz12.grownBy (((((wz12.setCell ⟨wv1.heap.size, 0, none⟩ (.slice p1 nw.label.length q1)).setCell ⟨wv1.heap.size, 1, none⟩ (.slice p2 nw.own.length q2)).setCell ⟨wv1.heap.size, 2, none⟩ (.string ⟨nw.text.toArray⟩)).setCell ⟨wv1.heap.size, 3, none⟩ (.slice p3 nw.objs.length q3)).setCell ⟨wv1.heap.size, 4, none⟩ (.slice p4 nw.mails.length q4)) (some (wv1.heap.size)) := Qx (b := wv1.heap.size) [.slice p1 nw.label.length q1, .slice p2 nw.own.length q2, .string ⟨nw.text.toArray⟩, .slice p3 nw.objs.length q3, .slice p4 nw.mails.length q4] 0 wz12
            have hbA := hb15.grown hS1 hb15.size (fun k hk => by have := Option.some.inj hk; omega)
            refine hK.out _ _ (HS.out _ hbA) (fun _ => ?_)
            clear hK K'
            have hX1 : (((((wz12.setCell ⟨wv1.heap.size, 0, none⟩ (.slice p1 nw.label.length q1)).setCell ⟨wv1.heap.size, 1, none⟩ (.slice p2 nw.own.length q2)).setCell ⟨wv1.heap.size, 2, none⟩ (.string ⟨nw.text.toArray⟩)).setCell ⟨wv1.heap.size, 3, none⟩ (.slice p3 nw.objs.length q3)).setCell ⟨wv1.heap.size, 4, none⟩ (.slice p4 nw.mails.length q4)).heap[wv1.heap.size]? = some (.cells #[.slice p1 nw.label.length q1, .slice p2 nw.own.length q2, .string ⟨nw.text.toArray⟩, .slice p3 nw.objs.length q3, .slice p4 nw.mails.length q4] 36 (0, 0)) := by have := QY (.slice p1 nw.label.length q1) (.slice p2 nw.own.length q2) (.string ⟨nw.text.toArray⟩) (.slice p3 nw.objs.length q3) (.slice p4 nw.mails.length q4) HX17.out; exact this
            have hY1 := Qj HX14.out (Ne.symm hac) hS1
            have hN1 := hid (Q6 HN18.out hS1 HX17.out)
            clear d0 df0 d1 df1 d2 df2 d3 df3 d4 df4
            have HX1 := hid hX1
            have HY1 := hid hY1
            clear hX1 hY1 hS1
            obtain ⟨wm, hwm⟩ : ∃ wm, wm = (((((wz12.setCell ⟨wv1.heap.size, 0, none⟩ (.slice p1 nw.label.length q1)).setCell ⟨wv1.heap.size, 1, none⟩ (.slice p2 nw.own.length q2)).setCell ⟨wv1.heap.size, 2, none⟩ (.string ⟨nw.text.toArray⟩)).setCell ⟨wv1.heap.size, 3, none⟩ (.slice p3 nw.objs.length q3)).setCell ⟨wv1.heap.size, 4, none⟩ (.slice p4 nw.mails.length q4)) := ⟨_, rfl⟩
            rw [← hwm] at HX1 HY1 hN1 hbA ⊢
            clear hwm
            have d0 := Qa HY1.out 0
            have df0 := Qb HY1.out 0
            have d1 := Qa HY1.out 1
            have df1 := Qb HY1.out 1
            have d2 := Qa HY1.out 2
            have df2 := Qb HY1.out 2
            have d3 := Qa HY1.out 3
            have df3 := Qb HY1.out 3
            have d4 := Qa HY1.out 4
            have df4 := Qb HY1.out 4
            refine wpAnyH_ready (rs := [12]) (by as_aux_lemma => kernel_rfl) (by simp) ?_
            refine (AllReadyH.cons rfl (fun K' hK => ?_) AllReadyH.nil)
            go_simp
            have hS2 : wm.grownBy (((((wm.setCell ⟨wz6.heap.size, 0, none⟩ (.slice s1 od.label.length t1)).setCell ⟨wz6.heap.size, 1, none⟩ (.slice s2 od.own.length t2)).setCell ⟨wz6.heap.size, 2, none⟩ (.string ⟨od.text.toArray⟩)).setCell ⟨wz6.heap.size, 3, none⟩ (.slice s3 od.objs.length t3)).setCell ⟨wz6.heap.size, 4, none⟩ (.slice s4 od.mails.length t4)) (some (wz6.heap.size)) := Qx (b := wz6.heap.size) [.slice s1 od.label.length t1, .slice s2 od.own.length t2, .string ⟨od.text.toArray⟩, .slice s3 od.objs.length t3, .slice s4 od.mails.length t4] 0 wm
            have hbC := hbA.grown hS2 hbA.size (fun k hk => by have := Option.some.inj hk; omega)
            refine hK.out _ _ (HS.out _ hbC) (fun _ => ?_)
            clear hK K'
            have hX2 := Qj HX1.out hac hS2
            have hY2 : (((((wm.setCell ⟨wz6.heap.size, 0, none⟩ (.slice s1 od.label.length t1)).setCell ⟨wz6.heap.size, 1, none⟩ (.slice s2 od.own.length t2)).setCell ⟨wz6.heap.size, 2, none⟩ (.string ⟨od.text.toArray⟩)).setCell ⟨wz6.heap.size, 3, none⟩ (.slice s3 od.objs.length t3)).setCell ⟨wz6.heap.size, 4, none⟩ (.slice s4 od.mails.length t4)).heap[wz6.heap.size]? = some (.cells #[.slice s1 od.label.length t1, .slice s2 od.own.length t2, .string ⟨od.text.toArray⟩, .slice s3 od.objs.length t3, .slice s4 od.mails.length t4] 36 (0, 0)) := by have := QY (.slice s1 od.label.length t1) (.slice s2 od.own.length t2) (.string ⟨od.text.toArray⟩) (.slice s3 od.objs.length t3) (.slice s4 od.mails.length t4) HY1.out; exact this
            have hN2 := Q6 hN1.out hS2 HY1.out
            refine wpAnyH_done (by as_aux_lemma => kernel_rfl) ?_ _
            go_wp2_with fail
            go_meet
            exact ⟨_, _, p1, q1, p2, q2, p3, q3, p4, q4, rfl, rfl, hX2, hY2, hN2, hbC⟩
          · skip
            go_simp
            have hl23 : wv1.heap.size < (wv1.alloc (.cells #[.slice none 0 0, .slice none 0 0, .string ⟨#[]⟩, .slice none 0 0, .slice none 0 0] 36)).heap.size := by simp
            have HX21 := hid (heap_alloc_new wv1 (.cells #[.slice none 0 0, .slice none 0 0, .string ⟨#[]⟩, .slice none 0 0, .slice none 0 0] 36))
            have hz20 := Qc wv1 (.cells #[.slice none 0 0, .slice none 0 0, .string ⟨#[]⟩, .slice none 0 0, .slice none 0 0] 36)
            have hb22 := Qd hb3 hz20
            refine hK.out _ _ (HS.out _ hb22) (fun _ => ?_)
            clear hK K'
            have HN24 := hid (HN4.out.below hz20)
            clear hz20
            generalize wv1.alloc (.cells #[.slice none 0 0, .slice none 0 0, .string ⟨#[]⟩, .slice none 0 0, .slice none 0 0] 36) = wz19 at *
            refine wpAnyH_ready (rs := [9]) (by as_aux_lemma => kernel_rfl) (by simp) ?_
            refine (AllReadyH.cons rfl (fun K' hK => ?_) AllReadyH.nil)
            go_simp
            have hl29 : wz19.heap.size < (wz19.alloc (.cells #[.slice none 0 0, .slice none 0 0, .string ⟨#[]⟩, .slice none 0 0, .slice none 0 0] 36)).heap.size := by simp
            have HX27 := hid (heap_alloc_new wz19 (.cells #[.slice none 0 0, .slice none 0 0, .string ⟨#[]⟩, .slice none 0 0, .slice none 0 0] 36))
            have hz26 := Qc wz19 (.cells #[.slice none 0 0, .slice none 0 0, .string ⟨#[]⟩, .slice none 0 0, .slice none 0 0] 36)
            have hb28 := Qd hb22 hz26
            refine hK.out _ _ (HS.out _ hb28) (fun _ => ?_)
            clear hK K'
            have HX30 := hid (Qf HX21.out hz26)
            have HN31 := hid (HN24.out.below hz26)
            clear hz26
            generalize wz19.alloc (.cells #[.slice none 0 0, .slice none 0 0, .string ⟨#[]⟩, .slice none 0 0, .slice none 0 0] 36) = wz25 at *
            have hac : wz19.heap.size ≠ wv1.heap.size := by omega
            have hwa : wi.heap.size ≤ wz19.heap.size := by have := hb0.size; omega
            have hwc : wi.heap.size ≤ wv1.heap.size := by have := hb0.size; omega
            have d0 := Qa HX27.out 0
            have df0 := Qb HX27.out 0
            have d1 := Qa HX27.out 1
            have df1 := Qb HX27.out 1
            have d2 := Qa HX27.out 2
            have df2 := Qb HX27.out 2
            have d3 := Qa HX27.out 3
            have df3 := Qb HX27.out 3
            have d4 := Qa HX27.out 4
            have df4 := Qb HX27.out 4
            refine wpAnyH_ready (rs := [11]) (by as_aux_lemma => kernel_rfl) (by simp) ?_
            refine (AllReadyH.cons rfl (fun K' hK => ?_) AllReadyH.nil)
            go_simp
            have hS1 : wz25.grownBy (((((wz25.setCell ⟨wz19.heap.size, 0, none⟩ (.slice p1 nw.label.length q1)).setCell ⟨wz19.heap.size, 1, none⟩ (.slice p2 nw.own.length q2)).setCell ⟨wz19.heap.size, 2, none⟩ (.string ⟨nw.text.toArray⟩)).setCell ⟨wz19.heap.size, 3, none⟩ (.slice p3 nw.objs.length q3)).setCell ⟨wz19.heap.size, 4, none⟩ (.slice p4 nw.mails.length q4)) (some (wz19.heap.size)) := Qx (b := wz19.heap.size) [.slice p1 nw.label.length q1, .slice p2 nw.own.length q2, .string ⟨nw.text.toArray⟩, .slice p3 nw.objs.length q3, .slice p4 nw.mails.length q4] 0 wz25
            have hbA := hb28.grown hS1 hb28.size (fun k hk => by have := Option.some.inj hk; omega)
            refine hK.out _ _ (HS.out _ hbA) (fun _ => ?_)
            clear hK K'
            have hX1 : (((((wz25.setCell ⟨wz19.heap.size, 0, none⟩ (.slice p1 nw.label.length q1)).setCell ⟨wz19.heap.size, 1, none⟩ (.slice p2 nw.own.length q2)).setCell ⟨wz19.heap.size, 2, none⟩ (.string ⟨nw.text.toArray⟩)).setCell ⟨wz19.heap.size, 3, none⟩ (.slice p3 nw.objs.length q3)).setCell ⟨wz19.heap.size, 4, none⟩ (.slice p4 nw.mails.length q4)).heap[wz19.heap.size]? = some (.cells #[.slice p1 nw.label.length q1, .slice p2 nw.own.length q2, .string ⟨nw.text.toArray⟩, .slice p3 nw.objs.length q3, .slice p4 nw.mails.length q4] 36 (0, 0)) := by have := QY (.slice p1 nw.label.length q1) (.slice p2 nw.own.length q2) (.string ⟨nw.text.toArray⟩) (.slice p3 nw.objs.length q3) (.slice p4 nw.mails.length q4) HX27.out; exact this
            have hY1 := Qj HX30.out (Ne.symm hac) hS1
            have hN1 := hid (Q6 HN31.out hS1 HX27.out)
            clear d0 df0 d1 df1 d2 df2 d3 df3 d4 df4
            have HX1 := hid hX1
            have HY1 := hid hY1
            clear hX1 hY1 hS1
            obtain ⟨wm, hwm⟩ : ∃ wm, wm = (((((wz25.setCell ⟨wz19.heap.size, 0, none⟩ (.slice p1 nw.label.length q1)).setCell ⟨wz19.heap.size, 1, none⟩ (.slice p2 nw.own.length q2)).setCell ⟨wz19.heap.size, 2, none⟩ (.string ⟨nw.text.toArray⟩)).setCell ⟨wz19.heap.size, 3, none⟩ (.slice p3 nw.objs.length q3)).setCell ⟨wz19.heap.size, 4, none⟩ (.slice p4 nw.mails.length q4)) := ⟨_, rfl⟩
            rw [← hwm] at HX1 HY1 hN1 hbA ⊢
            clear hwm
            have d0 := Qa HY1.out 0
            have df0 := Qb HY1.out 0
            have d1 := Qa HY1.out 1
            have df1 := Qb HY1.out 1
            have d2 := Qa HY1.out 2
            have df2 := Qb HY1.out 2
            have d3 := Qa HY1.out 3
            have df3 := Qb HY1.out 3
            have d4 := Qa HY1.out 4
            have df4 := Qb HY1.out 4
            refine wpAnyH_ready (rs := [12]) (by as_aux_lemma => kernel_rfl) (by simp) ?_
            refine (AllReadyH.cons rfl (fun K' hK => ?_) AllReadyH.nil)
            go_simp
            have hS2 : wm.grownBy (((((wm.setCell ⟨wv1.heap.size, 0, none⟩ (.slice s1 od.label.length t1)).setCell ⟨wv1.heap.size, 1, none⟩ (.slice s2 od.own.length t2)).setCell ⟨wv1.heap.size, 2, none⟩ (.string ⟨od.text.toArray⟩)).setCell ⟨wv1.heap.size, 3, none⟩ (.slice s3 od.objs.length t3)).setCell ⟨wv1.heap.size, 4, none⟩ (.slice s4 od.mails.length t4)) (some (wv1.heap.size)) := Qx (b := wv1.heap.size) [.slice s1 od.label.length t1, .slice s2 od.own.length t2, .string ⟨od.text.toArray⟩, .slice s3 od.objs.length t3, .slice s4 od.mails.length t4] 0 wm
            have hbC := hbA.grown hS2 hbA.size (fun k hk => by have := Option.some.inj hk; omega)
            refine hK.out _ _ (HS.out _ hbC) (fun _ => ?_)
            clear hK K'
            have hX2 := Qj HX1.out hac hS2
            have hY2 : (((((wm.setCell ⟨wv1.heap.size, 0, none⟩ (.slice s1 od.label.length t1)).setCell ⟨wv1.heap.size, 1, none⟩ (.slice s2 od.own.length t2)).setCell ⟨wv1.heap.size, 2, none⟩ (.string ⟨od.text.toArray⟩)).setCell ⟨wv1.heap.size, 3, none⟩ (.slice s3 od.objs.length t3)).setCell ⟨wv1.heap.size, 4, none⟩ (.slice s4 od.mails.length t4)).heap[wv1.heap.size]? = some (.cells #[.slice s1 od.label.length t1, .slice s2 od.own.length t2, .string ⟨od.text.toArray⟩, .slice s3 od.objs.length t3, .slice s4 od.mails.length t4] 36 (0, 0)) := by have := QY (.slice s1 od.label.length t1) (.slice s2 od.own.length t2) (.string ⟨od.text.toArray⟩) (.slice s3 od.objs.length t3) (.slice s4 od.mails.length t4) HY1.out; exact this
            have hN2 := Q6 hN1.out hS2 HY1.out
            refine wpAnyH_done (by as_aux_lemma => kernel_rfl) ?_ _
            go_wp2_with fail
            go_meet
            exact ⟨_, _, p1, q1, p2, q2, p3, q3, p4, q4, rfl, rfl, hX2, hY2, hN2, hbC⟩
        · skip
          go_simp
          have hl36 : wd.heap.size < (wd.alloc (.cells #[.slice none 0 0, .slice none 0 0, .string ⟨#[]⟩, .slice none 0 0, .slice none 0 0] 36)).heap.size := by simp
          have HX34 := hid (heap_alloc_new wd (.cells #[.slice none 0 0, .slice none 0 0, .string ⟨#[]⟩, .slice none 0 0, .slice none 0 0] 36))
          have hz33 := Qc wd (.cells #[.slice none 0 0, .slice none 0 0, .string ⟨#[]⟩, .slice none 0 0, .slice none 0 0] 36)
          have hb35 := Qd hb0 hz33
          refine hK.out _ _ (HS.out _ hb35) (fun _ => ?_)
          clear hK K'
          clear hz33
          generalize wd.alloc (.cells #[.slice none 0 0, .slice none 0 0, .string ⟨#[]⟩, .slice none 0 0, .slice none 0 0] 36) = wz32 at *
          refine wpAnyH_ready (rs := [3, 10]) (by as_aux_lemma => kernel_rfl) (by simp) ?_
          refine (AllReadyH.cons rfl (fun K' hK => ?_) (AllReadyH.cons rfl (fun K' hK => ?_) AllReadyH.nil))
          · skip
            go_simp
            go_wp2_with (go_at_call 11; refine (hthr _ hb35).mono ?_; rintro e wv37 ⟨p1, q1, p2, q2, p3, q3, p4, q4, rfl, hnew, hw38⟩)
            have HN40 : Hid (ThrNew wv37 wi.heap.size (.slice p1 nw.label.length q1) (.slice p2 nw.own.length q2) (.slice p3 nw.objs.length q3) (.slice p4 nw.mails.length q4) nw) := hid (hnew.base hb35.size)
            have hb39 := Qd hb35 hw38
            refine hK.out _ _ (HS.out _ hb39) (fun _ => ?_)
            clear hK K'
            have HX41 := hid (Qf HX34.out hw38)
            have hl42 := hw38.size
            clear hw38 hnew
            refine wpAnyH_ready (rs := [10]) (by as_aux_lemma => kernel_rfl) (by simp) ?_
            refine (AllReadyH.cons rfl (fun K' hK => ?_) AllReadyH.nil)
            go_simp
            have hl47 : wv37.heap.size < (wv37.alloc (.cells #[.slice none 0 0, .slice none 0 0, .string ⟨#[]⟩, .slice none 0 0, .slice none 0 0] 36)).heap.size := by simp
            have HX45 := hid (heap_alloc_new wv37 (.cells #[.slice none 0 0, .slice none 0 0, .string ⟨#[]⟩, .slice none 0 0, .slice none 0 0] 36))
            have hz44 := Qc wv37 (.cells #[.slice none 0 0, .slice none 0 0, .string ⟨#[]⟩, .slice none 0 0, .slice none 0 0] 36)
            have hb46 := Qd hb39 hz44
            refine hK.out _ _ (HS.out _ hb46) (fun _ => ?_)
            clear hK K'
            have HX48 := hid (Qf HX41.out hz44)
            have HN49 := hid (HN40.out.below hz44)
            clear hz44
            generalize wv37.alloc (.cells #[.slice none 0 0, .slice none 0 0, .string ⟨#[]⟩, .slice none 0 0, .slice none 0 0] 36) = wz43 at *
            have hac : wd.heap.size ≠ wv37.heap.size := by omega
            have hwa : wi.heap.size ≤ wd.heap.size := by have := hb0.size; omega
            have hwc : wi.heap.size ≤ wv37.heap.size := by have := hb0.size; omega
            have d0 := Qa HX48.out 0
            have df0 := Qb HX48.out 0
            have d1 := Qa HX48.out 1
            have df1 := Qb HX48.out 1
            have d2 := Qa HX48.out 2
            have df2 := Qb HX48.out 2
            have d3 := Qa HX48.out 3
            have df3 := Qb HX48.out 3
            have d4 := Qa HX48.out 4
            have df4 := Qb HX48.out 4
            refine wpAnyH_ready (rs := [11]) (by as_aux_lemma => kernel_rfl) (by simp) ?_
            refine (AllReadyH.cons rfl (fun K' hK => ?_) AllReadyH.nil)
            go_simp
            have hS1 : wz43.grownBy (((((wz43.setCell ⟨wd.heap.size, 0, none⟩ (.slice p1 nw.label.length q1)).setCell ⟨wd.heap.size, 1, none⟩ (.slice p2 nw.own.length q2)).setCell ⟨wd.heap.size, 2, none⟩ (.string ⟨nw.text.toArray⟩)).setCell ⟨wd.heap.size, 3, none⟩ (.slice p3 nw.objs.length q3)).setCell ⟨wd.heap.size, 4, none⟩ (.slice p4 nw.mails.length q4)) (some (wd.heap.size)) := Qx (b := wd.heap.size) [.slice p1 nw.label.length q1, .slice p2 nw.own.length q2, .string ⟨nw.text.toArray⟩, .slice p3 nw.objs.length q3, .slice p4 nw.mails.length q4] 0 wz43
            have hbA := hb46.grown hS1 hb46.size (fun k hk => by have := Option.some.inj hk; omega)
            refine hK.out _ _ (HS.out _ hbA) (fun _ => ?_)
            clear hK K'
            have hX1 : (((((wz43.setCell ⟨wd.heap.size, 0, none⟩ (.slice p1 nw.label.length q1)).setCell ⟨wd.heap.size, 1, none⟩ (.slice p2 nw.own.length q2)).setCell ⟨wd.heap.size, 2, none⟩ (.string ⟨nw.text.toArray⟩)).setCell ⟨wd.heap.size, 3, none⟩ (.slice p3 nw.objs.length q3)).setCell ⟨wd.heap.size, 4, none⟩ (.slice p4 nw.mails.length q4)).heap[wd.heap.size]? = some (.cells #[.slice p1 nw.label.length q1, .slice p2 nw.own.length q2, .string ⟨nw.text.toArray⟩, .slice p3 nw.objs.length q3, .slice p4 nw.mails.length q4] 36 (0, 0)) := by have := QY (.slice p1 nw.label.length q1) (.slice p2 nw.own.length q2) (.string ⟨nw.text.toArray⟩) (.slice p3 nw.objs.length q3) (.slice p4 nw.mails.length q4) HX48.out; exact this
            have hY1 := Qj HX45.out (Ne.symm hac) hS1
            have hN1 := hid (Q6 HN49.out hS1 HX48.out)
            clear d0 df0 d1 df1 d2 df2 d3 df3 d4 df4
            have HX1 := hid hX1
            have HY1 := hid hY1
            clear hX1 hY1 hS1
            obtain ⟨wm, hwm⟩ : ∃ wm, wm = (((((wz43.setCell ⟨wd.heap.size, 0, none⟩ (.slice p1 nw.label.length q1)).setCell ⟨wd.heap.size, 1, none⟩ (.slice p2 nw.own.length q2)).setCell ⟨wd.heap.size, 2, none⟩ (.string ⟨nw.text.toArray⟩)).setCell ⟨wd.heap.size, 3, none⟩ (.slice p3 nw.objs.length q3)).setCell ⟨wd.heap.size, 4, none⟩ (.slice p4 nw.mails.length q4)) := ⟨_, rfl⟩
            rw [← hwm] at HX1 HY1 hN1 hbA ⊢
            clear hwm
            have d0 := Qa HY1.out 0
            have df0 := Qb HY1.out 0
            have d1 := Qa HY1.out 1
            have df1 := Qb HY1.out 1
            have d2 := Qa HY1.out 2
            have df2 := Qb HY1.out 2
            have d3 := Qa HY1.out 3
            have df3 := Qb HY1.out 3
            have d4 := Qa HY1.out 4
            have df4 := Qb HY1.out 4
            refine wpAnyH_ready (rs := [12]) (by as_aux_lemma => kernel_rfl) (by simp) ?_
            refine (AllReadyH.cons rfl (fun K' hK => ?_) AllReadyH.nil)
            go_simp
            have hS2 : wm.grownBy (((((wm.setCell ⟨wv37.heap.size, 0, none⟩ (.slice s1 od.label.length t1)).setCell ⟨wv37.heap.size, 1, none⟩ (.slice s2 od.own.length t2)).setCell ⟨wv37.heap.size, 2, none⟩ (.string ⟨od.text.toArray⟩)).setCell ⟨wv37.heap.size, 3, none⟩ (.slice s3 od.objs.length t3)).setCell ⟨wv37.heap.size, 4, none⟩ (.slice s4 od.mails.length t4)) (some (wv37.heap.size)) := Qx (b := wv37.heap.size) [.slice s1 od.label.length t1, .slice s2 od.own.length t2, .string ⟨od.text.toArray⟩, .slice s3 od.objs.length t3, .slice s4 od.mails.length t4] 0 wm
            have hbC := hbA.grown hS2 hbA.size (fun k hk => by have := Option.some.inj hk; omega)
            refine hK.out _ _ (HS.out _ hbC) (fun _ => ?_)
            clear hK K'
            have hX2 := Qj HX1.out hac hS2
            have hY2 : (((((wm.setCell ⟨wv37.heap.size, 0, none⟩ (.slice s1 od.label.length t1)).setCell ⟨wv37.heap.size, 1, none⟩ (.slice s2 od.own.length t2)).setCell ⟨wv37.heap.size, 2, none⟩ (.string ⟨od.text.toArray⟩)).setCell ⟨wv37.heap.size, 3, none⟩ (.slice s3 od.objs.length t3)).setCell ⟨wv37.heap.size, 4, none⟩ (.slice s4 od.mails.length t4)).heap[wv37.heap.size]? = some (.cells #[.slice s1 od.label.length t1, .slice s2 od.own.length t2, .string ⟨od.text.toArray⟩, .slice s3 od.objs.length t3, .slice s4 od.mails.length t4] 36 (0, 0)) := by have := QY (.slice s1 od.label.length t1) (.slice s2 od.own.length t2) (.string ⟨od.text.toArray⟩) (.slice s3 od.objs.length t3) (.slice s4 od.mails.length t4) HY1.out; exact this
            have hN2 := Q6 hN1.out hS2 HY1.out
            refine wpAnyH_done (by as_aux_lemma => kernel_rfl) ?_ _
            go_wp2_with fail
            go_meet
            exact ⟨_, _, p1, q1, p2, q2, p3, q3, p4, q4, rfl, rfl, hX2, hY2, hN2, hbC⟩
          · skip
            go_simp
            have hl54 : wz32.heap.size < (wz32.alloc (.cells #[.slice none 0 0, .slice none 0 0, .string ⟨#[]⟩, .slice none 0 0, .slice none 0 0] 36)).heap.size := by simp
            have HX52 := hid (heap_alloc_new wz32 (.cells #[.slice none 0 0, .slice none 0 0, .string ⟨#[]⟩, .slice none 0 0, .slice none 0 0] 36))
            have hz51 := Qc wz32 (.cells #[.slice none 0 0, .slice none 0 0, .string ⟨#[]⟩, .slice none 0 0, .slice none 0 0] 36)
            have hb53 := Qd hb35 hz51
            refine hK.out _ _ (HS.out _ hb53) (fun _ => ?_)
            clear hK K'
            have HX55 := hid (Qf HX34.out hz51)
            clear hz51
            generalize wz32.alloc (.cells #[.slice none 0 0, .slice none 0 0, .string ⟨#[]⟩, .slice none 0 0, .slice none 0 0] 36) = wz50 at *
            refine wpAnyH_ready (rs := [3]) (by as_aux_lemma => kernel_rfl) (by simp) ?_
            refine (AllReadyH.cons rfl (fun K' hK => ?_) AllReadyH.nil)
            go_simp
            go_wp2_with (go_at_call 11; refine (hthr _ hb53).mono ?_; rintro e wv56 ⟨p1, q1, p2, q2, p3, q3, p4, q4, rfl, hnew, hw57⟩)
            have HN59 : Hid (ThrNew wv56 wi.heap.size (.slice p1 nw.label.length q1) (.slice p2 nw.own.length q2) (.slice p3 nw.objs.length q3) (.slice p4 nw.mails.length q4) nw) := hid (hnew.base hb53.size)
            have hb58 := Qd hb53 hw57
            refine hK.out _ _ (HS.out _ hb58) (fun _ => ?_)
            clear hK K'
            have HX60 := hid (Qf HX55.out hw57)
            have HX61 := hid (Qf HX52.out hw57)
            have hl62 := hw57.size
            clear hw57 hnew
            have hac : wd.heap.size ≠ wz32.heap.size := by omega
            have hwa : wi.heap.size ≤ wd.heap.size := by have := hb0.size; omega
            have hwc : wi.heap.size ≤ wz32.heap.size := by have := hb0.size; omega
            have d0 := Qa HX60.out 0
            have df0 := Qb HX60.out 0
            have d1 := Qa HX60.out 1
            have df1 := Qb HX60.out 1
            have d2 := Qa HX60.out 2
            have df2 := Qb HX60.out 2
            have d3 := Qa HX60.out 3
            have df3 := Qb HX60.out 3
            have d4 := Qa HX60.out 4
            have df4 := Qb HX60.out 4
            refine wpAnyH_ready (rs := [11]) (by as_aux_lemma => kernel_rfl) (by simp) ?_
            refine (AllReadyH.cons rfl (fun K' hK => ?_) AllReadyH.nil)
            go_simp
            have hS1 : wv56.grownBy (((((wv56.setCell ⟨wd.heap.size, 0, none⟩ (.slice p1 nw.label.length q1)).setCell ⟨wd.heap.size, 1, none⟩ (.slice p2 nw.own.length q2)).setCell ⟨wd.heap.size, 2, none⟩ (.string ⟨nw.text.toArray⟩)).setCell ⟨wd.heap.size, 3, none⟩ (.slice p3 nw.objs.length q3)).setCell ⟨wd.heap.size, 4, none⟩ (.slice p4 nw.mails.length q4)) (some (wd.heap.size)) := Qx (b := wd.heap.size) [.slice p1 nw.label.length q1, .slice p2 nw.own.length q2, .string ⟨nw.text.toArray⟩, .slice p3 nw.objs.length q3, .slice p4 nw.mails.length q4] 0 wv56
            have hbA := hb58.grown hS1 hb58.size (fun k hk => by have := Option.some.inj hk; omega)
            refine hK.out _ _ (HS.out _ hbA) (fun _ => ?_)
            clear hK K'
            have hX1 : (((((wv56.setCell ⟨wd.heap.size, 0, none⟩ (.slice p1 nw.label.length q1)).setCell ⟨wd.heap.size, 1, none⟩ (.slice p2 nw.own.length q2)).setCell ⟨wd.heap.size, 2, none⟩ (.string ⟨nw.text.toArray⟩)).setCell ⟨wd.heap.size, 3, none⟩ (.slice p3 nw.objs.length q3)).setCell ⟨wd.heap.size, 4, none⟩ (.slice p4 nw.mails.length q4)).heap[wd.heap.size]? = some (.cells #[.slice p1 nw.label.length q1, .slice p2 nw.own.length q2, .string ⟨nw.text.toArray⟩, .slice p3 nw.objs.length q3, .slice p4 nw.mails.length q4] 36 (0, 0)) := by have := QY (.slice p1 nw.label.length q1) (.slice p2 nw.own.length q2) (.string ⟨nw.text.toArray⟩) (.slice p3 nw.objs.length q3) (.slice p4 nw.mails.length q4) HX60.out; exact this
            have hY1 := Qj HX61.out (Ne.symm hac) hS1
            have hN1 := hid (Q6 HN59.out hS1 HX60.out)
            clear d0 df0 d1 df1 d2 df2 d3 df3 d4 df4
            have HX1 := hid hX1
            have HY1 := hid hY1
            clear hX1 hY1 hS1
            obtain ⟨wm, hwm⟩ : ∃ wm, wm = (((((wv56.setCell ⟨wd.heap.size, 0, none⟩ (.slice p1 nw.label.length q1)).setCell ⟨wd.heap.size, 1, none⟩ (.slice p2 nw.own.length q2)).setCell ⟨wd.heap.size, 2, none⟩ (.string ⟨nw.text.toArray⟩)).setCell ⟨wd.heap.size, 3, none⟩ (.slice p3 nw.objs.length q3)).setCell ⟨wd.heap.size, 4, none⟩ (.slice p4 nw.mails.length q4)) := ⟨_, rfl⟩
            rw [← hwm] at HX1 HY1 hN1 hbA ⊢
            clear hwm
            have d0 := Qa HY1.out 0
            have df0 := Qb HY1.out 0
            have d1 := Qa HY1.out 1
            have df1 := Qb HY1.out 1
            have d2 := Qa HY1.out 2
            have df2 := Qb HY1.out 2
            have d3 := Qa HY1.out 3
            have df3 := Qb HY1.out 3
            have d4 := Qa HY1.out 4
            have df4 := Qb HY1.out 4
            refine wpAnyH_ready (rs := [12]) (by as_aux_lemma => kernel_rfl) (by simp) ?_
            refine (AllReadyH.cons rfl (fun K' hK => ?_) AllReadyH.nil)
            go_simp
            have hS2 : wm.grownBy (((((wm.setCell ⟨wz32.heap.size, 0, none⟩ (.slice s1 od.label.length t1)).setCell ⟨wz32.heap.size, 1, none⟩ (.slice s2 od.own.length t2)).setCell ⟨wz32.heap.size, 2, none⟩ (.string ⟨od.text.toArray⟩)).setCell ⟨wz32.heap.size, 3, none⟩ (.slice s3 od.objs.length t3)).setCell ⟨wz32.heap.size, 4, none⟩ (.slice s4 od.mails.length t4)) (some (wz32.heap.size)) := Qx (b := wz32.heap.size) [.slice s1 od.label.length t1, .slice s2 od.own.length t2, .string ⟨od.text.toArray⟩, .slice s3 od.objs.length t3, .slice s4 od.mails.length t4] 0 wm
            have hbC := hbA.grown hS2 hbA.size (fun k hk => by have := Option.some.inj hk; omega)
            refine hK.out _ _ (HS.out _ hbC) (fun _ => ?_)
            clear hK K'
            have hX2 := Qj HX1.out hac hS2
            have hY2 : (((((wm.setCell ⟨wz32.heap.size, 0, none⟩ (.slice s1 od.label.length t1)).setCell ⟨wz32.heap.size, 1, none⟩ (.slice s2 od.own.length t2)).setCell ⟨wz32.heap.size, 2, none⟩ (.string ⟨od.text.toArray⟩)).setCell ⟨wz32.heap.size, 3, none⟩ (.slice s3 od.objs.length t3)).setCell ⟨wz32.heap.size, 4, none⟩ (.slice s4 od.mails.length t4)).heap[wz32.heap.size]? = some (.cells #[.slice s1 od.label.length t1, .slice s2 od.own.length t2, .string ⟨od.text.toArray⟩, .slice s3 od.objs.length t3, .slice s4 od.mails.length t4] 36 (0, 0)) := by have := QY (.slice s1 od.label.length t1) (.slice s2 od.own.length t2) (.string ⟨od.text.toArray⟩) (.slice s3 od.objs.length t3) (.slice s4 od.mails.length t4) HY1.out; exact this
            have hN2 := Q6 hN1.out hS2 HY1.out
            refine wpAnyH_done (by as_aux_lemma => kernel_rfl) ?_ _
            go_wp2_with fail
            go_meet
            exact ⟨_, _, p1, q1, p2, q2, p3, q3, p4, q4, rfl, rfl, hX2, hY2, hN2, hbC⟩
        · skip
          go_simp
          have hl67 : wd.heap.size < (wd.alloc (.cells #[.slice none 0 0, .slice none 0 0, .string ⟨#[]⟩, .slice none 0 0, .slice none 0 0] 36)).heap.size := by simp
          have HX65 := hid (heap_alloc_new wd (.cells #[.slice none 0 0, .slice none 0 0, .string ⟨#[]⟩, .slice none 0 0, .slice none 0 0] 36))
          have hz64 := Qc wd (.cells #[.slice none 0 0, .slice none 0 0, .string ⟨#[]⟩, .slice none 0 0, .slice none 0 0] 36)
          have hb66 := Qd hb0 hz64
          refine hK.out _ _ (HS.out _ hb66) (fun _ => ?_)
          clear hK K'
          clear hz64
          generalize wd.alloc (.cells #[.slice none 0 0, .slice none 0 0, .string ⟨#[]⟩, .slice none 0 0, .slice none 0 0] 36) = wz63 at *
          refine wpAnyH_ready (rs := [3, 9]) (by as_aux_lemma => kernel_rfl) (by simp) ?_
          refine (AllReadyH.cons rfl (fun K' hK => ?_) (AllReadyH.cons rfl (fun K' hK => ?_) AllReadyH.nil))
          · skip
            go_simp
            go_wp2_with (go_at_call 11; refine (hthr _ hb66).mono ?_; rintro e wv68 ⟨p1, q1, p2, q2, p3, q3, p4, q4, rfl, hnew, hw69⟩)
            have HN71 : Hid (ThrNew wv68 wi.heap.size (.slice p1 nw.label.length q1) (.slice p2 nw.own.length q2) (.slice p3 nw.objs.length q3) (.slice p4 nw.mails.length q4) nw) := hid (hnew.base hb66.size)
            have hb70 := Qd hb66 hw69
            refine hK.out _ _ (HS.out _ hb70) (fun _ => ?_)
            clear hK K'
            have HX72 := hid (Qf HX65.out hw69)
            have hl73 := hw69.size
            clear hw69 hnew
            refine wpAnyH_ready (rs := [9]) (by as_aux_lemma => kernel_rfl) (by simp) ?_
            refine (AllReadyH.cons rfl (fun K' hK => ?_) AllReadyH.nil)
            go_simp
            have hl78 : wv68.heap.size < (wv68.alloc (.cells #[.slice none 0 0, .slice none 0 0, .string ⟨#[]⟩, .slice none 0 0, .slice none 0 0] 36)).heap.size := by simp
            have HX76 := hid (heap_alloc_new wv68 (.cells #[.slice none 0 0, .slice none 0 0, .string ⟨#[]⟩, .slice none 0 0, .slice none 0 0] 36))
            have hz75 := Qc wv68 (.cells #[.slice none 0 0, .slice none 0 0, .string ⟨#[]⟩, .slice none 0 0, .slice none 0 0] 36)
            have hb77 := Qd hb70 hz75
            refine hK.out _ _ (HS.out _ hb77) (fun _ => ?_)
            clear hK K'
            have HX79 := hid (Qf HX72.out hz75)
            have HN80 := hid (HN71.out.below hz75)
            clear hz75
            generalize wv68.alloc (.cells #[.slice none 0 0, .slice none 0 0, .string ⟨#[]⟩, .slice none 0 0, .slice none 0 0] 36) = wz74 at *
            have hac : wv68.heap.size ≠ wd.heap.size := by omega
            have hwa : wi.heap.size ≤ wv68.heap.size := by have := hb0.size; omega
            have hwc : wi.heap.size ≤ wd.heap.size := by have := hb0.size; omega
            have d0 := Qa HX76.out 0
            have df0 := Qb HX76.out 0
            have d1 := Qa HX76.out 1
            have df1 := Qb HX76.out 1
            have d2 := Qa HX76.out 2
            have df2 := Qb HX76.out 2
            have d3 := Qa HX76.out 3
            have df3 := Qb HX76.out 3
            have d4 := Qa HX76.out 4
            have df4 := Qb HX76.out 4
            refine wpAnyH_ready (rs := [11]) (by as_aux_lemma => kernel_rfl) (by simp) ?_
            refine (AllReadyH.cons rfl (fun K' hK => ?_) AllReadyH.nil)
            go_simp
            have hS1 : wz74.grownBy (((((wz74.setCell ⟨wv68.heap.size, 0, none⟩ (.slice p1 nw.label.length q1)).setCell ⟨wv68.heap.size, 1, none⟩ (.slice p2 nw.own.length q2)).setCell ⟨wv68.heap.size, 2, none⟩ (.string ⟨nw.text.toArray⟩)).setCell ⟨wv68.heap.size, 3, none⟩ (.slice p3 nw.objs.length q3)).setCell ⟨wv68.heap.size, 4, none⟩ (.slice p4 nw.mails.length q4)) (some (wv68.heap.size)) := Qx (b := wv68.heap.size) [.slice p1 nw.label.length q1, .slice p2 nw.own.length q2, .string ⟨nw.text.toArray⟩, .slice p3 nw.objs.length q3, .slice p4 nw.mails.length q4] 0 wz74
            have hbA := hb77.grown hS1 hb77.size (fun k hk => by have := Option.some.inj hk; omega)
            refine hK.out _ _ (HS.out _ hbA) (fun _ => ?_)
            clear hK K'
            have hX1 : (((((wz74.setCell ⟨wv68.heap.size, 0, none⟩ (.slice p1 nw.label.length q1)).setCell ⟨wv68.heap.size, 1, none⟩ (.slice p2 nw.own.length q2)).setCell ⟨wv68.heap.size, 2, none⟩ (.string ⟨nw.text.toArray⟩)).setCell ⟨wv68.heap.size, 3, none⟩ (.slice p3 nw.objs.length q3)).setCell ⟨wv68.heap.size, 4, none⟩ (.slice p4 nw.mails.length q4)).heap[wv68.heap.size]? = some (.cells #[.slice p1 nw.label.length q1, .slice p2 nw.own.length q2, .string ⟨nw.text.toArray⟩, .slice p3 nw.objs.length q3, .slice p4 nw.mails.length q4] 36 (0, 0)) := by have := QY (.slice p1 nw.label.length q1) (.slice p2 nw.own.length q2) (.string ⟨nw.text.toArray⟩) (.slice p3 nw.objs.length q3) (.slice p4 nw.mails.length q4) HX76.out; exact this
            have hY1 := Qj HX79.out (Ne.symm hac) hS1
            have hN1 := hid (Q6 HN80.out hS1 HX76.out)
            clear d0 df0 d1 df1 d2 df2 d3 df3 d4 df4
            have HX1 := hid hX1
            have HY1 := hid hY1
            clear hX1 hY1 hS1
            obtain ⟨wm, hwm⟩ : ∃ wm, wm = (((((wz74.setCell ⟨wv68.heap.size, 0, none⟩ (.slice p1 nw.label.length q1)).setCell ⟨wv68.heap.size, 1, none⟩ (.slice p2 nw.own.length q2)).setCell ⟨wv68.heap.size, 2, none⟩ (.string ⟨nw.text.toArray⟩)).setCell ⟨wv68.heap.size, 3, none⟩ (.slice p3 nw.objs.length q3)).setCell ⟨wv68.heap.size, 4, none⟩ (.slice p4 nw.mails.length q4)) := ⟨_, rfl⟩
            rw [← hwm] at HX1 HY1 hN1 hbA ⊢
            clear hwm
            have d0 := Qa HY1.out 0
            have df0 := Qb HY1.out 0
            have d1 := Qa HY1.out 1
            have df1 := Qb HY1.out 1
            have d2 := Qa HY1.out 2
            have df2 := Qb HY1.out 2
            have d3 := Qa HY1.out 3
            have df3 := Qb HY1.out 3
            have d4 := Qa HY1.out 4
            have df4 := Qb HY1.out 4
            refine wpAnyH_ready (rs := [12]) (by as_aux_lemma => kernel_rfl) (by simp) ?_
            refine (AllReadyH.cons rfl (fun K' hK => ?_) AllReadyH.nil)
            go_simp
            have hS2 : wm.grownBy (((((wm.setCell ⟨wd.heap.size, 0, none⟩ (.slice s1 od.label.length t1)).setCell ⟨wd.heap.size, 1, none⟩ (.slice s2 od.own.length t2)).setCell ⟨wd.heap.size, 2, none⟩ (.string ⟨od.text.toArray⟩)).setCell ⟨wd.heap.size, 3, none⟩ (.slice s3 od.objs.length t3)).setCell ⟨wd.heap.size, 4, none⟩ (.slice s4 od.mails.length t4)) (some (wd.heap.size)) := Qx (b := wd.heap.size) [.slice s1 od.label.length t1, .slice s2 od.own.length t2, .string ⟨od.text.toArray⟩, .slice s3 od.objs.length t3, .slice s4 od.mails.length t4] 0 wm
            have hbC := hbA.grown hS2 hbA.size (fun k hk => by have := Option.some.inj hk; omega)
            refine hK.out _ _ (HS.out _ hbC) (fun _ => ?_)
            clear hK K'
            have hX2 := Qj HX1.out hac hS2
            have hY2 : (((((wm.setCell ⟨wd.heap.size, 0, none⟩ (.slice s1 od.label.length t1)).setCell ⟨wd.heap.size, 1, none⟩ (.slice s2 od.own.length t2)).setCell ⟨wd.heap.size, 2, none⟩ (.string ⟨od.text.toArray⟩)).setCell ⟨wd.heap.size, 3, none⟩ (.slice s3 od.objs.length t3)).setCell ⟨wd.heap.size, 4, none⟩ (.slice s4 od.mails.length t4)).heap[wd.heap.size]? = some (.cells #[.slice s1 od.label.length t1, .slice s2 od.own.length t2, .string ⟨od.text.toArray⟩, .slice s3 od.objs.length t3, .slice s4 od.mails.length t4] 36 (0, 0)) := by have := QY (.slice s1 od.label.length t1) (.slice s2 od.own.length t2) (.string ⟨od.text.toArray⟩) (.slice s3 od.objs.length t3) (.slice s4 od.mails.length t4) HY1.out; exact this
            have hN2 := Q6 hN1.out hS2 HY1.out
            refine wpAnyH_done (by as_aux_lemma => kernel_rfl) ?_ _
            go_wp2_with fail
            go_meet
            exact ⟨_, _, p1, q1, p2, q2, p3, q3, p4, q4, rfl, rfl, hX2, hY2, hN2, hbC⟩
          · skip
            go_simp
            have hl85 : wz63.heap.size < (wz63.alloc (.cells #[.slice none 0 0, .slice none 0 0, .string ⟨#[]⟩, .slice none 0 0, .slice none 0 0] 36)).heap.size := by simp
            have HX83 := hid (heap_alloc_new wz63 (.cells #[.slice none 0 0, .slice none 0 0, .string ⟨#[]⟩, .slice none 0 0, .slice none 0 0] 36))
            have hz82 := Qc wz63 (.cells #[.slice none 0 0, .slice none 0 0, .string ⟨#[]⟩, .slice none 0 0, .slice none 0 0] 36)
            have hb84 := Qd hb66 hz82
            refine hK.out _ _ (HS.out _ hb84) (fun _ => ?_)
            clear hK K'
            have HX86 := hid (Qf HX65.out hz82)
            clear hz82
            generalize wz63.alloc (.cells #[.slice none 0 0, .slice none 0 0, .string ⟨#[]⟩, .slice none 0 0, .slice none 0 0] 36) = wz81 at *
            refine wpAnyH_ready (rs := [3]) (by as_aux_lemma => kernel_rfl) (by simp) ?_
            refine (AllReadyH.cons rfl (fun K' hK => ?_) AllReadyH.nil)
            go_simp
            go_wp2_with (go_at_call 11; refine (hthr _ hb84).mono ?_; rintro e wv87 ⟨p1, q1, p2, q2, p3, q3, p4, q4, rfl, hnew, hw88⟩)
            have HN90 : Hid (ThrNew wv87 wi.heap.size (.slice p1 nw.label.length q1) (.slice p2 nw.own.length q2) (.slice p3 nw.objs.length q3) (.slice p4 nw.mails.length q4) nw) := hid (hnew.base hb84.size)
            have hb89 := Qd hb84 hw88
            refine hK.out _ _ (HS.out _ hb89) (fun _ => ?_)
            clear hK K'
            have HX91 := hid (Qf HX83.out hw88)
            have HX92 := hid (Qf HX86.out hw88)
            have hl93 := hw88.size
            clear hw88 hnew
            have hac : wz63.heap.size ≠ wd.heap.size := by omega
            have hwa : wi.heap.size ≤ wz63.heap.size := by have := hb0.size; omega
            have hwc : wi.heap.size ≤ wd.heap.size := by have := hb0.size; omega
            have d0 := Qa HX91.out 0
            have df0 := Qb HX91.out 0
            have d1 := Qa HX91.out 1
            have df1 := Qb HX91.out 1
            have d2 := Qa HX91.out 2
            have df2 := Qb HX91.out 2
            have d3 := Qa HX91.out 3
            have df3 := Qb HX91.out 3
            have d4 := Qa HX91.out 4
            have df4 := Qb HX91.out 4
            refine wpAnyH_ready (rs := [11]) (by as_aux_lemma => kernel_rfl) (by simp) ?_
            refine (AllReadyH.cons rfl (fun K' hK => ?_) AllReadyH.nil)
            go_simp
            have hS1 : wv87.grownBy (((((wv87.setCell ⟨wz63.heap.size, 0, none⟩ (.slice p1 nw.label.length q1)).setCell ⟨wz63.heap.size, 1, none⟩ (.slice p2 nw.own.length q2)).setCell ⟨wz63.heap.size, 2, none⟩ (.string ⟨nw.text.toArray⟩)).setCell ⟨wz63.heap.size, 3, none⟩ (.slice p3 nw.objs.length q3)).setCell ⟨wz63.heap.size, 4, none⟩ (.slice p4 nw.mails.length q4)) (some (wz63.heap.size)) := Qx (b := wz63.heap.size) [.slice p1 nw.label.length q1, .slice p2 nw.own.length q2, .string ⟨nw.text.toArray⟩, .slice p3 nw.objs.length q3, .slice p4 nw.mails.length q4] 0 wv87
            have hbA := hb89.grown hS1 hb89.size (fun k hk => by have := Option.some.inj hk; omega)
            refine hK.out _ _ (HS.out _ hbA) (fun _ => ?_)
            clear hK K'
            have hX1 : (((((wv87.setCell ⟨wz63.heap.size, 0, none⟩ (.slice p1 nw.label.length q1)).setCell ⟨wz63.heap.size, 1, none⟩ (.slice p2 nw.own.length q2)).setCell ⟨wz63.heap.size, 2, none⟩ (.string ⟨nw.text.toArray⟩)).setCell ⟨wz63.heap.size, 3, none⟩ (.slice p3 nw.objs.length q3)).setCell ⟨wz63.heap.size, 4, none⟩ (.slice p4 nw.mails.length q4)).heap[wz63.heap.size]? = some (.cells #[.slice p1 nw.label.length q1, .slice p2 nw.own.length q2, .string ⟨nw.text.toArray⟩, .slice p3 nw.objs.length q3, .slice p4 nw.mails.length q4] 36 (0, 0)) := by have := QY (.slice p1 nw.label.length q1) (.slice p2 nw.own.length q2) (.string ⟨nw.text.toArray⟩) (.slice p3 nw.objs.length q3) (.slice p4 nw.mails.length q4) HX91.out; exact this
            have hY1 := Qj HX92.out (Ne.symm hac) hS1
            have hN1 := hid (Q6 HN90.out hS1 HX91.out)
            clear d0 df0 d1 df1 d2 df2 d3 df3 d4 df4
            have HX1 := hid hX1
            have HY1 := hid hY1
            clear hX1 hY1 hS1
            obtain ⟨wm, hwm⟩ : ∃ wm, wm = (((((wv87.setCell ⟨wz63.heap.size, 0, none⟩ (.slice p1 nw.label.length q1)).setCell ⟨wz63.heap.size, 1, none⟩ (.slice p2 nw.own.length q2)).setCell ⟨wz63.heap.size, 2, none⟩ (.string ⟨nw.text.toArray⟩)).setCell ⟨wz63.heap.size, 3, none⟩ (.slice p3 nw.objs.length q3)).setCell ⟨wz63.heap.size, 4, none⟩ (.slice p4 nw.mails.length q4)) := ⟨_, rfl⟩
            rw [← hwm] at HX1 HY1 hN1 hbA ⊢
            clear hwm
            have d0 := Qa HY1.out 0
            have df0 := Qb HY1.out 0
            have d1 := Qa HY1.out 1
            have df1 := Qb HY1.out 1
            have d2 := Qa HY1.out 2
            have df2 := Qb HY1.out 2
            have d3 := Qa HY1.out 3
            have df3 := Qb HY1.out 3
            have d4 := Qa HY1.out 4
            have df4 := Qb HY1.out 4
            refine wpAnyH_ready (rs := [12]) (by as_aux_lemma => kernel_rfl) (by simp) ?_
            refine (AllReadyH.cons rfl (fun K' hK => ?_) AllReadyH.nil)
            go_simp
            have hS2 : wm.grownBy (((((wm.setCell ⟨wd.heap.size, 0, none⟩ (.slice s1 od.label.length t1)).setCell ⟨wd.heap.size, 1, none⟩ (.slice s2 od.own.length t2)).setCell ⟨wd.heap.size, 2, none⟩ (.string ⟨od.text.toArray⟩)).setCell ⟨wd.heap.size, 3, none⟩ (.slice s3 od.objs.length t3)).setCell ⟨wd.heap.size, 4, none⟩ (.slice s4 od.mails.length t4)) (some (wd.heap.size)) := Qx (b := wd.heap.size) [.slice s1 od.label.length t1, .slice s2 od.own.length t2, .string ⟨od.text.toArray⟩, .slice s3 od.objs.length t3, .slice s4 od.mails.length t4] 0 wm
            have hbC := hbA.grown hS2 hbA.size (fun k hk => by have := Option.some.inj hk; omega)
            refine hK.out _ _ (HS.out _ hbC) (fun _ => ?_)
            clear hK K'
            have hX2 := Qj HX1.out hac hS2
            have hY2 : (((((wm.setCell ⟨wd.heap.size, 0, none⟩ (.slice s1 od.label.length t1)).setCell ⟨wd.heap.size, 1, none⟩ (.slice s2 od.own.length t2)).setCell ⟨wd.heap.size, 2, none⟩ (.string ⟨od.text.toArray⟩)).setCell ⟨wd.heap.size, 3, none⟩ (.slice s3 od.objs.length t3)).setCell ⟨wd.heap.size, 4, none⟩ (.slice s4 od.mails.length t4)).heap[wd.heap.size]? = some (.cells #[.slice s1 od.label.length t1, .slice s2 od.own.length t2, .string ⟨od.text.toArray⟩, .slice s3 od.objs.length t3, .slice s4 od.mails.length t4] 36 (0, 0)) := by have := QY (.slice s1 od.label.length t1) (.slice s2 od.own.length t2) (.string ⟨od.text.toArray⟩) (.slice s3 od.objs.length t3) (.slice s4 od.mails.length t4) HY1.out; exact this
            have hN2 := Q6 hN1.out hS2 HY1.out
            refine wpAnyH_done (by as_aux_lemma => kernel_rfl) ?_ _
            go_wp2_with fail
            go_meet
            exact ⟨_, _, p1, q1, p2, q2, p3, q3, p4, q4, rfl, rfl, hX2, hY2, hN2, hbC⟩
       case rest =>
        obtain ⟨b1, b2, p1, q1, p2, q2, p3, q3, p4, q4, rfl, rfl, hx1, hx2, hn5, hb5⟩ := hcut
        have HXN := hid hx1
        have HXO := hid hx2
        have HNN := hid hn5
        have HB5 := hid hb5
        have HWG5 := hid (HWG.out.below hb5)
        have HC5 := hid (HCi.out.below hb5)
        have HK5 := hid (HKi.out.more hb5)
        have HNE : Hid (¬ (Bw = b1)) := hid (fun e => by have := HWG5.out; obtain ⟨A9, _, h9, _⟩ := this; rw [e, HXN.out] at h9; cases h9)
        have HAX := hid (HK5.out.heap HXA.out (fun e => by simp at e; have := HW1.out; omega))
        have HRX := hid (HK5.out.heap HXR.out (fun e => by simp at e; have := HW1.out; omega))
        replace HON := hid (HON.out.below hb5)
        clear hx1 hx2 hn5 hb5 hthr HS
        generalize hw5 : wc = w5 at *
        clear hw5
        have n1 : w5.cell? ⟨b1, 1, none⟩ = some (.slice p2 nw.own.length q2) := Qa HXN.out 1
        go_wp2_with fail
        go_loopw [39] (fun c wr => ∃ k : Nat, k ≤ nw.own.length ∧ c = .int .i64 k ∧ Below w5.heap.size w5 wr) (fun c _ => nw.own.length - (intOf c).toNat)
        case atStart => exact ⟨0, Nat.zero_le _, rfl, Below.refl _ _⟩
        case round =>
         clear n1
         obtain ⟨k, hk, rfl, hbr⟩ := hrel
         obtain ⟨wk, hwk⟩ : ∃ wk, wk = wr := ⟨_, rfl⟩
         subst hwk
         have HBk := hid hbr
         clear hbr
         by_cases hlt : k < nw.own.length
         · have hK : (k : Int) < (nw.own.length : Int) := by omega
           have K0 : (0 : Int) ≤ k := by omega
           obtain ⟨pz, cz, e3, _, _, hcz⟩ := QP (HNN.out.below HBk.out).own (by omega)
           injection e3 with e3 e4 e5
           subst e3 e5
           clear e4
           obtain ⟨bg, og, e6, hcg⟩ := hcz (by omega)
           subst e6
           have g0 := hcg k hlt
           have HFG := hid (HFN.out _ (List.getElem_mem hlt))
           generalize nw.own[k] = g at *
           obtain ⟨n1, o1, o4⟩ : wk.cell? ⟨b1, 1, none⟩ = some (.slice (some ⟨bg, og, none⟩) nw.own.length q2) ∧ wk.cell? ⟨b2, 1, none⟩ = some (.slice s2 od.own.length t2) ∧ wk.cell? ⟨b2, 4, none⟩ = some (.slice s4 od.mails.length t4) := ⟨Qa (Qf HXN.out HBk.out) 1, Qa (Qf HXO.out HBk.out) 1, Qa (Qf HXO.out HBk.out) 4⟩
           have HOI := hid (QP (HON.out.below HBk.out).own (by omega))
           clear hcz hcg
           by_cases hin : g ∈ od.own
           · have HDM := hid (decide_eq_true hin)
             clear hin HFG
             go_wp2_with (go_at_call 12; refine (Qcz _ od.own g wk HOI.out).mono ?_; rw [HDM.out]; rintro e w9 ⟨rfl, hwe⟩; rw [hwe]; clear hwe)
             go_roundw
             case rel => exact ⟨k + 1, hlt, by go_num, HBk.out⟩
             case measure => simp [intOf]; omega
           · have HDM := hid (decide_eq_false hin)
             obtain ⟨⟨h1, h2, h3, h4⟩, hway⟩ := HFG.out.resolve_left hin
             have HAK := hid (Qf HAX.out HBk.out)
             have HRK := hid (Qf HRX.out HBk.out)
             obtain ⟨x0, x1, x2, x4⟩ : wk.cell? ⟨w.heap.size, 0, none⟩ = some (.int .i64 1) ∧ wk.cell? ⟨w.heap.size, 1, none⟩ = some (.int .i64 (i : Int)) ∧ wk.cell? ⟨w.heap.size, 2, none⟩ = some (.int .i64 (j : Int)) ∧ wk.cell? ⟨w.heap.size, 4, none⟩ = some (.int .i64 a.call.kind) := ⟨by rw [← h1]; exact Qa HAK.out 0, by rw [← h2]; exact Qa HAK.out 1, by rw [← h3]; exact Qa HAK.out 2, Qa HAK.out 4⟩
             obtain ⟨y0, y1⟩ : wk.cell? ⟨w.heap.size + 1, 0, none⟩ = some (.int .i64 0) ∧ wk.cell? ⟨w.heap.size + 1, 1, none⟩ = some (.int .i64 r.n) := ⟨by rw [← h4]; exact Qa HRK.out 0, Qa HRK.out 1⟩
             clear hin HFG h1 h2 h3 h4
             go_upto_region 12 with (go_at_call 12; refine (Qcz _ od.own g wk HOI.out).mono ?_; rw [HDM.out]; rintro e w9 ⟨rfl, hwe⟩; rw [hwe]; clear hwe)
             rcases hway with ⟨hk1, hrn⟩ | ⟨hk7, hgiv⟩
             · rw [hk1] at x4
               rw [hrn] at y1
               have HX4q := hid x4
               clear hk1 hrn
               go_upto_region 16 with fail
               go_loopw [16, 83] (fun d c wr => ∃ n : Nat, n ≤ od.mails.length ∧ c = .int .i64 n ∧ d = .bool (givB od.mails g n) ∧ Below wk.heap.size wk wr) (fun _ c _ => od.mails.length - (intOf c).toNat)
               case atStart => exact ⟨0, Nat.zero_le _, rfl, rfl, Below.refl _ _⟩
               case round =>
                clear x0 x1 x2 x4 y0 y1 n1 o1 o4
                obtain ⟨n, hn, rfl, rfl, hbr⟩ := hrel
                have HBn := hid hbr
                clear hbr
                by_cases hl2 : n < od.mails.length
                · have hN : (n : Int) < (od.mails.length : Int) := by omega
                  have N0 : (0 : Int) ≤ n := by omega
                  obtain ⟨ga, la, ka, na, ma, e1, c0, c1, c2, c3, c4, _, og⟩ := (HON.out.below (Qd HBk.out HBn.out)).mails.get n hl2
                  have hme := HGO.out.mail _ (List.getElem_mem hl2)
                  have HSU := hid (Qfl od.mails g n hl2)
                  subst e1
                  generalize od.mails[n] = x at *
                  have hlg := (Qgh hme).2
                  have HIN := hid (QP og (by omega))
                  have hlb := Qg c0
                  clear og hme
                  go_upto_region 18 with fail
                  have hbx := Qc wr (.cells #[.int .i64 x.host, .int .i64 x.thread, .slice la x.label.length ka, .slice na x.grants.length ma, .string ⟨x.text.toArray⟩] 51)
                  have HXM := hid (heap_alloc_new wr (.cells #[.int .i64 x.host, .int .i64 x.thread, .slice la x.label.length ka, .slice na x.grants.length ma, .string ⟨x.text.toArray⟩] 51))
                  have HIM := hid (HIN.out.below hbx)
                  have HBm := hid (Qd HBn.out hbx)
                  generalize wr.alloc (.cells #[.int .i64 x.host, .int .i64 x.thread, .slice la x.label.length ka, .slice na x.grants.length ma, .string ⟨x.text.toArray⟩] 51) = w7 at *
                  have d3 : w7.cell? ⟨wr.heap.size, 3, none⟩ = some (.slice na x.grants.length ma) := Qa HXM.out 3
                  clear hbx c0 c1 c2 c3 c4 hlb HIN hlg
                  cases hob : givB od.mails g n with
                  | true =>
                   rw [hob] at HSU
                   go_wp2_with fail
                   go_roundw
                   case rel => exact ⟨n + 1, hl2, by go_num, by rw [HSU.out]; rfl, HBm.out⟩
                   case measure => simp [intOf]; omega
                  | false =>
                   rw [hob] at HSU
                   go_wp2_with (go_at_call 12; refine (Qcz _ x.grants g w7 HIM.out).mono ?_; rintro e w9 ⟨rfl, hwe⟩; rw [hwe]; clear hwe)
                   go_roundw
                   case rel => exact ⟨n + 1, hl2, by go_num, by rw [HSU.out]; simp, HBm.out⟩
                   case measure => simp [intOf]; omega
                · have hnl : n = od.mails.length := by omega
                  subst hnl
                  have HBq := hid (Qd HBk.out HBn.out)
                  have x4 := (HBn.out.cell (Qg HX4q.out)).trans HX4q.out
                  go_wp2_with fail
                  go_roundw
                  case rel => exact ⟨k + 1, hlt, by go_num, HBq.out⟩
                  case measure => simp [intOf]; omega
             · rw [hk7] at x4
               have HX4q := hid x4
               have HGI := hid hgiv
               clear hk7 hgiv
               go_upto_region 16 with fail
               go_loopw [16, 83] (fun d c wr => ∃ n : Nat, n ≤ od.mails.length ∧ c = .int .i64 n ∧ d = .bool (givB od.mails g n) ∧ Below wk.heap.size wk wr) (fun _ c _ => od.mails.length - (intOf c).toNat)
               case atStart => exact ⟨0, Nat.zero_le _, rfl, rfl, Below.refl _ _⟩
               case round =>
                clear x0 x1 x2 x4 y0 y1 n1 o1 o4
                obtain ⟨n, hn, rfl, rfl, hbr⟩ := hrel
                have HBn := hid hbr
                clear hbr
                by_cases hl2 : n < od.mails.length
                · have hN : (n : Int) < (od.mails.length : Int) := by omega
                  have N0 : (0 : Int) ≤ n := by omega
                  obtain ⟨ga, la, ka, na, ma, e1, c0, c1, c2, c3, c4, _, og⟩ := (HON.out.below (Qd HBk.out HBn.out)).mails.get n hl2
                  have hme := HGO.out.mail _ (List.getElem_mem hl2)
                  have HSU := hid (Qfl od.mails g n hl2)
                  subst e1
                  generalize od.mails[n] = x at *
                  have hlg := (Qgh hme).2
                  have HIN := hid (QP og (by omega))
                  have hlb := Qg c0
                  clear og hme
                  go_upto_region 18 with fail
                  have hbx := Qc wr (.cells #[.int .i64 x.host, .int .i64 x.thread, .slice la x.label.length ka, .slice na x.grants.length ma, .string ⟨x.text.toArray⟩] 51)
                  have HXM := hid (heap_alloc_new wr (.cells #[.int .i64 x.host, .int .i64 x.thread, .slice la x.label.length ka, .slice na x.grants.length ma, .string ⟨x.text.toArray⟩] 51))
                  have HIM := hid (HIN.out.below hbx)
                  have HBm := hid (Qd HBn.out hbx)
                  generalize wr.alloc (.cells #[.int .i64 x.host, .int .i64 x.thread, .slice la x.label.length ka, .slice na x.grants.length ma, .string ⟨x.text.toArray⟩] 51) = w7 at *
                  have d3 : w7.cell? ⟨wr.heap.size, 3, none⟩ = some (.slice na x.grants.length ma) := Qa HXM.out 3
                  clear hbx c0 c1 c2 c3 c4 hlb HIN hlg
                  cases hob : givB od.mails g n with
                  | true =>
                   rw [hob] at HSU
                   go_wp2_with fail
                   go_roundw
                   case rel => exact ⟨n + 1, hl2, by go_num, by rw [HSU.out]; rfl, HBm.out⟩
                   case measure => simp [intOf]; omega
                  | false =>
                   rw [hob] at HSU
                   go_wp2_with (go_at_call 12; refine (Qcz _ x.grants g w7 HIM.out).mono ?_; rintro e w9 ⟨rfl, hwe⟩; rw [hwe]; clear hwe)
                   go_roundw
                   case rel => exact ⟨n + 1, hl2, by go_num, by rw [HSU.out]; simp, HBm.out⟩
                   case measure => simp [intOf]; omega
                · have hnl : n = od.mails.length := by omega
                  subst hnl
                  have HBq := hid (Qd HBk.out HBn.out)
                  have x4 := (HBn.out.cell (Qg HX4q.out)).trans HX4q.out
                  have HGV := hid HGI.out
                  rw [QlJ HGI.out]
                  go_wp2_with fail
                  go_roundw
                  case rel => exact ⟨k + 1, hlt, by go_num, HBq.out⟩
                  case measure => simp [intOf]; omega
         · have hkl : k = nw.own.length := by omega
           subst hkl
           have o1 : wk.cell? ⟨b2, 1, none⟩ = some (.slice s2 od.own.length t2) := Qa (Qf HXO.out HBk.out) 1
           go_wp2_with fail
           go_loopw [114] (fun c wr => ∃ k : Nat, k ≤ od.own.length ∧ c = .int .i64 k ∧ Below w5.heap.size w5 wr) (fun c _ => od.own.length - (intOf c).toNat)
           case atStart => exact ⟨0, Nat.zero_le _, rfl, HBk.out⟩
           case round =>
            clear o1 HBk
            obtain ⟨k, hk, rfl, hbr⟩ := hrel
            obtain ⟨wl, hwl⟩ : ∃ wl, wl = wr := ⟨_, rfl⟩
            subst hwl
            have HBl := hid hbr
            clear hbr
            by_cases hlt : k < od.own.length
            · have hK : (k : Int) < (od.own.length : Int) := by omega
              have K0 : (0 : Int) ≤ k := by omega
              obtain ⟨pz, cz, e3, _, _, hcz⟩ := QP (HON.out.below HBl.out).own (by omega)
              injection e3 with e3 e4 e5
              subst e3 e5
              clear e4
              obtain ⟨bg, og, e6, hcg⟩ := hcz (by omega)
              subst e6
              have g0 := hcg k hlt
              have HDM := hid (decide_eq_true (HFO.out _ (List.getElem_mem hlt)))
              generalize od.own[k] = g at *
              have n1 : wl.cell? ⟨b1, 1, none⟩ = some (.slice p2 nw.own.length q2) := Qa (Qf HXN.out HBl.out) 1
              have HNI := hid (QP (HNN.out.below HBl.out).own (by omega))
              clear hcz hcg
              go_wp2_with (go_at_call 12; refine (Qcz _ nw.own g wl HNI.out).mono ?_; rw [HDM.out]; rintro e w9 ⟨rfl, hwe⟩; rw [hwe]; clear hwe)
              go_roundw
              case rel => exact ⟨k + 1, hlt, by go_num, HBl.out⟩
              case measure => simp [intOf]; omega
            · have hkl : k = od.own.length := by omega
              subst hkl
              obtain ⟨n0, o0, o1⟩ : wl.cell? ⟨b1, 0, none⟩ = some (.slice p1 nw.label.length q1) ∧ wl.cell? ⟨b2, 0, none⟩ = some (.slice s1 od.label.length t1) ∧ wl.cell? ⟨b2, 1, none⟩ = some (.slice s2 od.own.length t2) := ⟨Qa (Qf HXN.out HBl.out) 0, Qa (Qf HXO.out HBl.out) 0, Qa (Qf HXO.out HBl.out) 1⟩
              have hfl := Q4 _ _ _ od.label nw.label od.own wl (Qal (HON.out.below HBl.out).lab (by omega)) (Qal (HNN.out.below HBl.out).lab (by omega)) (QP (HON.out.below HBl.out).own (by omega))
              rw [HFF.out] at hfl
              go_upto_region 31 with (go_at_call 24; refine hfl.mono ?_; rintro e w8 ⟨rfl, hw8⟩)
              replace HBl := hid (Qd HBl.out hw8)
              clear hfl hw8 n0 o0 o1
              generalize hwq : w8 = wl2 at *
              clear hwq
              have HSN : Hid (∀ w', Below wl2.heap.size wl2 w' → w'.cell? ⟨b1, 0, none⟩ = some (.slice p1 nw.label.length q1) ∧ w'.cell? ⟨b1, 1, none⟩ = some (.slice p2 nw.own.length q2) ∧ w'.cell? ⟨b1, 2, none⟩ = some (.string ⟨nw.text.toArray⟩) ∧ w'.cell? ⟨b1, 3, none⟩ = some (.slice p3 nw.objs.length q3) ∧ w'.cell? ⟨b1, 4, none⟩ = some (.slice p4 nw.mails.length q4)) := hid (fun w' hw => ⟨Qa (Qf (Qf HXN.out HBl.out) hw) 0, Qa (Qf (Qf HXN.out HBl.out) hw) 1, Qa (Qf (Qf HXN.out HBl.out) hw) 2, Qa (Qf (Qf HXN.out HBl.out) hw) 3, Qa (Qf (Qf HXN.out HBl.out) hw) 4⟩)
              refine wp_region_held_drew (S := (fun w' => w'.cell? ⟨b1, 0, none⟩ = some (.slice p1 nw.label.length q1) ∧ w'.cell? ⟨b1, 1, none⟩ = some (.slice p2 nw.own.length q2) ∧ w'.cell? ⟨b1, 2, none⟩ = some (.string ⟨nw.text.toArray⟩) ∧ w'.cell? ⟨b1, 3, none⟩ = some (.slice p3 nw.objs.length q3) ∧ w'.cell? ⟨b1, 4, none⟩ = some (.slice p4 nw.mails.length q4))) (by as_aux_lemma => kernel_rfl) (HSN.out _ (Below.refl _ _).drew) (fun _hHeld => ?_)
              refine takeF 0 132 ?v9 rfl (Or.inl ⟨by rfl, ?hy9⟩) ?rest9
              case hy9 => intro wz hSw; (try dsimp only at hSw); go_simp; try with_reducible rfl
              simp only [Act.put, List.setIfInBounds_toArray, List.set_cons_zero, List.set_cons_succ]
              refine takeF 1 133 ?v10 rfl (Or.inl ⟨by rfl, ?hy10⟩) ?rest10
              case hy10 => intro wz hSw; (try dsimp only at hSw); go_simp; try with_reducible rfl
              simp only [Act.put, List.setIfInBounds_toArray, List.set_cons_zero, List.set_cons_succ]
              refine takeF 2 134 ?v11 rfl (Or.inl ⟨by rfl, ?hy11⟩) ?rest11
              case hy11 => intro wz hSw; (try dsimp only at hSw); go_simp; try with_reducible rfl
              simp only [Act.put, List.setIfInBounds_toArray, List.set_cons_zero, List.set_cons_succ]
              refine takeF 3 135 ?v12 rfl (Or.inl ⟨by rfl, ?hy12⟩) ?rest12
              case hy12 => intro wz hSw; (try dsimp only at hSw); go_simp; try with_reducible rfl
              simp only [Act.put, List.setIfInBounds_toArray, List.set_cons_zero, List.set_cons_succ]
              refine takeF 4 136 ?v13 rfl (Or.inl ⟨by rfl, ?hy13⟩) ?rest13
              case hy13 => intro wz hSw; (try dsimp only at hSw); go_simp; try with_reducible rfl
              simp only [Act.put, List.setIfInBounds_toArray, List.set_cons_zero, List.set_cons_succ]
              obtain ⟨wd, hwd⟩ : ∃ wd, wd = wl2.drew := ⟨_, rfl⟩
              rw [← hwd]
              have hbd : Below wl2.heap.size wl2 wd := by rw [hwd]; exact (Below.refl _ _).drew
              clear hwd
              have HG9 := hid (HWG5.out.below (Qd HBl.out hbd))
              have HC9 := hid (HC5.out.below (Qd HBl.out hbd))
              have HK9 := hid (HK5.out.more (Qd HBl.out hbd))
              have HX9 := hid (Qf HXN.out (Qd HBl.out hbd))
              have hlb9 := HG9.out.lt
              have hlb1 := Qs HX9.out
              obtain ⟨⟨u0, x0⟩, f0⟩ := HG9.out.cells (i * 20 + j * 5) (by omega)
              obtain ⟨⟨u1, x1⟩, f1⟩ := HG9.out.cells (i * 20 + j * 5 + 1) (by omega)
              obtain ⟨⟨u2, x2⟩, f2⟩ := HG9.out.cells (i * 20 + j * 5 + 2) (by omega)
              obtain ⟨⟨u3, x3⟩, f3⟩ := HG9.out.cells (i * 20 + j * 5 + 3) (by omega)
              obtain ⟨⟨u4, x4⟩, f4⟩ := HG9.out.cells (i * 20 + j * 5 + 4) (by omega)
              refine wpAnyH_ready (rs := [5]) (by as_aux_lemma => kernel_rfl) (by simp) ?_
              refine (AllReadyH.cons rfl (fun K' hK => ?_) AllReadyH.nil)
              go_simp
              have hgc : wd.grownBy (((((wd.setCell ⟨Bw, i * 20 + j * 5, none⟩ (.slice p1 nw.label.length q1)).setCell ⟨Bw, i * 20 + j * 5 + 1, none⟩ (.slice p2 nw.own.length q2)).setCell ⟨Bw, i * 20 + j * 5 + 2, none⟩ (.string ⟨nw.text.toArray⟩)).setCell ⟨Bw, i * 20 + j * 5 + 3, none⟩ (.slice p3 nw.objs.length q3)).setCell ⟨Bw, i * 20 + j * 5 + 4, none⟩ (.slice p4 nw.mails.length q4)) (some Bw) := Qx (b := Bw) [.slice p1 nw.label.length q1, .slice p2 nw.own.length q2, .string ⟨nw.text.toArray⟩, .slice p3 nw.objs.length q3, .slice p4 nw.mails.length q4] (i * 20 + j * 5) wd
              have hws : WasG (((((wd.setCell ⟨Bw, i * 20 + j * 5, none⟩ (.slice p1 nw.label.length q1)).setCell ⟨Bw, i * 20 + j * 5 + 1, none⟩ (.slice p2 nw.own.length q2)).setCell ⟨Bw, i * 20 + j * 5 + 2, none⟩ (.string ⟨nw.text.toArray⟩)).setCell ⟨Bw, i * 20 + j * 5 + 3, none⟩ (.slice p3 nw.objs.length q3)).setCell ⟨Bw, i * 20 + j * 5 + 4, none⟩ (.slice p4 nw.mails.length q4)) Bw cb Z _ := Qjo HG9.out hi4 hj4 ⟨p1, q1, p2, q2, p3, q3, p4, q4⟩ (QlH HCi.out HBwi.out HNN.out (Qd HBl.out hbd))
              obtain ⟨A9, _, hA9, _⟩ := HG9.out
              have HCC := hid (HC9.out.boxed hgc HBF.out hA9 (by decide) (by decide) (by decide) (by decide) (by decide) (by decide))
              have HKC : Hid (KeptF [Bw] w1 (((((wd.setCell ⟨Bw, i * 20 + j * 5, none⟩ (.slice p1 nw.label.length q1)).setCell ⟨Bw, i * 20 + j * 5 + 1, none⟩ (.slice p2 nw.own.length q2)).setCell ⟨Bw, i * 20 + j * 5 + 2, none⟩ (.string ⟨nw.text.toArray⟩)).setCell ⟨Bw, i * 20 + j * 5 + 3, none⟩ (.slice p3 nw.objs.length q3)).setCell ⟨Bw, i * 20 + j * 5 + 4, none⟩ (.slice p4 nw.mails.length q4))) := hid (HK9.out.trans (QK (F := [Bw]) hgc fun k e => .inl (by have := Option.some.inj e; simp; omega)))
              have hne9 : ¬ (Bw = b1) := HNE.out
              have hx9 := Qj HX9.out (Ne.symm hne9) hgc
              refine hK.out _ _ ⟨Qa hx9 0, Qa hx9 1, Qa hx9 2, Qa hx9 3, Qa hx9 4⟩ (fun _ => ?_)
              clear hK K'
              refine wpAnyH_done (by as_aux_lemma => kernel_rfl) ?_ _
              have HWS := hid hws
              clear hws hgc hx9 hA9
              go_wp2
              go_roundw
              case rel => exact ⟨j + 1, hj4, by go_num, HWS.out.congr (fun h t _ ht => by have e := Qll (n := i * 4 + j) (C := C) (C0 := C0) rfl hj4 h t ht; rw [HNW.out] at e; rw [← Nat.add_assoc, ← e]), HCC.out, HKC.out⟩
              case measure => simp [intOf]; omega
     · have hj5 : j = 4 := by omega
       subst hj5
       go_wp2
       go_roundw
       case rel => exact ⟨i + 1, hi4, by go_num, by rw [show (i + 1) * 4 = i * 4 + 4 by omega]; exact HWG.out, HCi.out, HKi.out⟩
       case measure => simp [intOf]; omega
  · have hi5 : i = 4 := by omega
    subst hi5
    go_wp2
    go_ret
    exact ⟨rfl, ⟨HBF.out, HNBo.out.congr (fun h t h4 t4 => by unfold mixT; rw [if_pos (by omega)])⟩, HCo.out, HK1.out.trans HKo.out⟩
end Go.Proofs.YtlbdaklmlknmbaaGreat
