/- parclosekeep.sameNumbers and sameMail answer true of two that are the same, and turn nothing. -/
import Derived.Test.YtichphepfmafjacQWGoodM
import Derived.Test.YtichphepfmafjacQLabelAll
import Derived.BigQuiet
import Derived.Test.YtichphepfmafjacQLookAll
import Derived.Deep.DeepCutAuto
import Derived.Deep.RegionHeld3
namespace Go.Proofs.Ytichphepfmafjac
open Go.RowKit Go.Proofs.Parclose

set_option maxHeartbeats 800000 in
theorem ksameNumbers_eq (va vb : Value) (l : List Int) (w : World) (ha : IntsAt w va l) (hb : IntsAt w vb l) :
    Calls Try.prog 20 #[va, vb] w fun e w' => e = .returned (.bool true) ∧ Below w.heap.size w w' := by
  obtain ⟨p, cap, rfl, _, _, hca⟩ := ha
  obtain ⟨q, cap', rfl, _, _, hcb⟩ := hb
  go_enter Try.func20, Try.ntmps20
  go_wp2
  go_loopw [5] (fun i wr => ∃ k n : Nat, k ≤ l.length ∧ i = .int .i64 k ∧ wr = w.drewN n) (fun i _ => l.length - (intOf i).toNat)
  case atStart => exact ⟨0, 0, Nat.zero_le _, rfl, rfl⟩
  case round =>
    obtain ⟨k, n, hk, rfl, rfl⟩ := hrel
    by_cases hlt : k < l.length
    · obtain ⟨ba, oa, rfl, hcA⟩ := hca (by omega)
      obtain ⟨bb, ob, rfl, hcB⟩ := hcb (by omega)
      have ga := hcA k hlt
      have gb := hcB k hlt
      have hI : (k : Int) < (l.length : Int) := by omega
      clear hca hcb hcA hcB
      go_wp2_with fail
      go_quiet (fail)
      go_wp2
      go_roundw
      case rel => exact ⟨k + 1, _, hlt, by go_num, by first | rfl | (rw [World.drewN_drewN])⟩
      case measure => simp [intOf]; omega
    · go_wp2
      go_ret
      exact ⟨rfl, below_drewN _ _⟩

theorem ksameMail_eq (va vb : Value) (m : Mal) (w : World) (ha : MalAt w va m) (hb : MalAt w vb m) :
    Calls Try.prog 22 #[va, vb] w fun e w' => e = .returned (.bool true) ∧ Below w.heap.size w w' := by
  obtain ⟨vl, vg, rfl, hl, hg⟩ := ha
  obtain ⟨vl', vg', rfl, hl', hg'⟩ := hb
  obtain ⟨pl, cl, rfl, _⟩ := id hl
  obtain ⟨pg, cg, rfl, _⟩ := id hg
  obtain ⟨pl', cl', rfl, _⟩ := id hl'
  obtain ⟨pg', cg', rfl, _⟩ := id hg'
  unfold malV
  have hsame : sameB m.label m.label = true := (sameB_iff _ _).2 rfl
  have hsl := fun wx (h : Below w.heap.size w wx) => same_any _ _ m.label m.label wx (hl.below h) (hl'.below h)
  rw [hsame] at hsl
  have hsn := fun wx (h : Below w.heap.size w wx) => ksameNumbers_eq _ _ m.grants wx (hg.below h) (hg'.below h)
  go_enter Try.func22, Try.ntmps22
  go_wp2_with fail
  refine (hsl _ ((below_box w _).alloc (by simp) _)).mono ?_
  rintro e w1 ⟨rfl, hw1⟩
  have c3 : w1.cell? ⟨w.heap.size, 3, none⟩ = some (.slice pg m.grants.length cg) := by rw [hw1.cell (p := ⟨w.heap.size, 3, none⟩) (by simp; omega)]; simp
  have d3 : w1.cell? ⟨w.heap.size + 1, 3, none⟩ = some (.slice pg' m.grants.length cg') := by rw [hw1.cell (p := ⟨w.heap.size + 1, 3, none⟩) (by simp)]; simp
  have hb1 := below_then ((below_box w _).alloc (by simp) _) hw1
  clear hw1
  go_wp2_with fail
  refine (hsn _ hb1).mono ?_
  rintro e w2 ⟨rfl, hw2⟩
  go_wp2
  go_ret
  exact ⟨rfl, below_then hb1 hw2⟩
end Go.Proofs.Ytichphepfmafjac

namespace Go.Proofs.Ytichphepfmafjac
open Go.RowKit Go.Proofs.Parclose

theorem step_come {K : Ker} {n : Nat} (hn : n < K.ths.length) (x : Stp) (hc : x.come = true) :
    (thrOf (stepL K n x).1 n).text = (thrOf K n).text ∧
    ((thrOf (stepL K n x).1 n).mails = (thrOf K n).mails ∨ ((thrOf (stepL K n x).1 n).mails = (thrOf K n).mails ++ [x.mail] ∧ flowsL x.mail.label (thrOf K n).label (thrOf K n).own = true)) := by
  unfold stepL
  rw [if_pos hc]
  rw [thrOf_set hn (deliver_moves hn x.mail), if_pos rfl, thrOf_nat hn]
  unfold boxL
  split
  · rename_i h
    exact ⟨rfl, .inr ⟨rfl, h.2.1⟩⟩
  · exact ⟨rfl, .inl rfl⟩

theorem step_knows {K : Ker} {n : Nat} (hn : n < K.ths.length) (x : Stp) (hc : x.come = false) :
    (thrOf (stepL K n x).1 n).text = (thrOf K n).text ∨ x.call.kind = 9 ∨ (x.call.kind = 7 ∧ (stepL K n x).2.code = 0) ∨
    (x.call.kind = 4 ∧ (stepL K n x).2.code = 0 ∧ ∃ (i : Nat) (hi : i < (thrOf (stepL K n x).1 x.call.t).objs.length), x.call.n = i ∧ flowsL (thrOf (stepL K n x).1 x.call.t).objs[i].label (thrOf K n).label (thrOf K n).own = true) := by
  unfold stepL
  rw [if_neg (by rw [hc]; decide)]
  rcases call_moves hn x.call with ⟨th2, e, hs⟩ | ⟨_, u, hu, i, hi, y, e, _⟩
  · rw [thrOf_set hn e, if_pos rfl, thrOf_nat hn]
    rcases hs.text with g | g | g | ⟨g1, g2, g3, o, ho, hf⟩
    · exact .inl g
    · exact .inr (.inl g)
    · exact .inr (.inr (.inl g))
    · refine .inr (.inr (.inr ⟨g1, g2, ?_⟩))
      have eo : (thrOf (callL K n x.call).1 x.call.t).objs = (thrOf K x.call.t).objs := by
        rw [thrOf_set hn e]
        split
        · rename_i hq
          rw [g3, hq, thrOf_nat hn]
        · rfl
      unfold objAt at ho
      cases hth : getT K x.call.t with
      | none => rw [hth] at ho; cases ho
      | some tt =>
        rw [hth] at ho
        simp only at ho
        split at ho
        · rename_i h0
          rw [thrOf_some hth] at eo
          obtain ⟨hi, ei⟩ := List.getElem?_eq_some_iff.1 ho
          refine ⟨x.call.n.toNat, by rw [eo]; exact hi, by omega, ?_⟩
          simp only [eo, ei]
          exact hf
        · cases ho
  · left
    rw [thrOf_set hu e, thrOf_nat hn]
    split
    · rename_i hq
      have : n = u := by omega
      subst this
      rfl
    · rfl

/-- the mail at a place of a copy -/
theorem MailsNew.get {w : World} {B : Nat} {p : Option Addr} {n cap : Nat} {ms : List Mal} (h : MailsNew w B (.slice p n cap) ms) (i : Nat) (hi : i < ms.length) :
    ∃ g pl cl pg cg, p = some ⟨g, 0, none⟩ ∧ w.cell? ⟨g, i * 5, none⟩ = some (.int .i64 ms[i].host) ∧ w.cell? ⟨g, i * 5 + 1, none⟩ = some (.int .i64 ms[i].thread) ∧ w.cell? ⟨g, i * 5 + 2, none⟩ = some (.slice pl ms[i].label.length cl) ∧ w.cell? ⟨g, i * 5 + 3, none⟩ = some (.slice pg ms[i].grants.length cg) ∧ w.cell? ⟨g, i * 5 + 4, none⟩ = some (.string ⟨ms[i].text.toArray⟩) ∧
      w.ownsRow B 84 2 (.slice pl ms[i].label.length cl) ms[i].label.length (flat2 ms[i].label) ∧ w.ownsRow B 3 1 (.slice pg ms[i].grants.length cg) ms[i].grants.length (flat1 ms[i].grants) := by
  obtain ⟨vs, r1, r2, r3⟩ := h
  obtain ⟨g, hpe⟩ : ∃ g, p = some ⟨g, 0, none⟩ := by
    rcases r2.2 with ⟨_, hn⟩ | ⟨g, cap, cur, e, _⟩
    · omega
    · cases e; exact ⟨g, rfl⟩
  subst hpe
  have huk : i < vs.length := by omega
  obtain ⟨m0, m1, m2, m3, m4⟩ := flatM_get vs ms r1 i huk hi
  have a0 := World.ownsRow.cells r2 (g := g) rfl _ _ m0
  have a1 := World.ownsRow.cells r2 (g := g) rfl _ _ m1
  have a2 := World.ownsRow.cells r2 (g := g) rfl _ _ m2
  have a3 := World.ownsRow.cells r2 (g := g) rfl _ _ m3
  have a4 := World.ownsRow.cells r2 (g := g) rfl _ _ m4
  rw [WideShapes.add_plain, Nat.zero_add] at a0 a1 a2 a3 a4
  obtain ⟨o1, o2⟩ := r3 i huk hi
  obtain ⟨pl, cl, el⟩ := own_slice o1
  obtain ⟨pg, cg, eg⟩ := own_slice o2
  rw [el] at a2 o1
  rw [eg] at a3 o2
  exact ⟨g, pl, cl, pg, cg, rfl, a0, a1, a2, a3, a4, o1, o2⟩

/-- the object at a place of a copy -/
theorem ObjsNew.get {w : World} {B : Nat} {p : Option Addr} {n cap : Nat} {os : List Obt} (h : ObjsNew w B (.slice p n cap) os) (i : Nat) (hi : i < os.length) :
    ∃ g pl cl, p = some ⟨g, 0, none⟩ ∧ w.cell? ⟨g, i * 2, none⟩ = some (.slice pl os[i].label.length cl) ∧ w.cell? ⟨g, i * 2 + 1, none⟩ = some (.string ⟨os[i].text.toArray⟩) ∧
      w.ownsRow B 84 2 (.slice pl os[i].label.length cl) os[i].label.length (flat2 os[i].label) := by
  obtain ⟨vs, r1, r2, r3⟩ := h
  obtain ⟨g, hpe⟩ : ∃ g, p = some ⟨g, 0, none⟩ := by
    rcases r2.2 with ⟨_, hn⟩ | ⟨g, cap, cur, e, _⟩
    · omega
    · cases e; exact ⟨g, rfl⟩
  subst hpe
  have huk : i < vs.length := by omega
  obtain ⟨m0, m1⟩ := flatO_get vs os r1 i huk hi
  have a0 := World.ownsRow.cells r2 (g := g) rfl _ _ m0
  have a1 := World.ownsRow.cells r2 (g := g) rfl _ _ m1
  rw [WideShapes.add_plain, Nat.zero_add] at a0 a1
  have o1 := r3 i huk hi
  obtain ⟨pl, cl, el⟩ := own_slice o1
  rw [el] at a0 o1
  exact ⟨g, pl, cl, rfl, a0, a1, o1⟩

theorem field_objects (a b c d e : Value) (w : World) : (Instr.field 31 (.agg #[a, b, c, d, e]) 3).run Try.prog w = .ok d w := by kernel_rfl
end Go.Proofs.Ytichphepfmafjac

namespace Go.Proofs.Ytichphepfmafjac
open Go.RowKit Go.Proofs.Parclose

/-- the boxes of a look: was, the step, the reply; and now -/
structure SeenB (w : World) (B N : Nat) (A X R C : Array Value) : Prop where
  was : w.heap[B]? = some (.cells A 31 (0, 0))
  stp : w.heap[B + 1]? = some (.cells X 37 (0, 0))
  rep : w.heap[B + 1 + 1]? = some (.cells R 40 (0, 0))
  now : w.heap[N]? = some (.cells C 31 (0, 0))
theorem SeenB.below {w w' : World} {B N : Nat} {A X R C : Array Value} (h : SeenB w B N A X R C) (hb : Below w.heap.size w w') : SeenB w' B N A X R C :=
  ⟨heap_keep h.was hb, heap_keep h.stp hb, heap_keep h.rep hb, heap_keep h.now hb⟩

theorem cells15 {w : World} {b : Nat} {t : TypeId} {y0 y1 y2 y3 y4 y5 y6 y7 y8 y9 y10 y11 y12 y13 y14 : Value} (h : w.heap[b]? = some (.cells #[y0, y1, y2, y3, y4, y5, y6, y7, y8, y9, y10, y11, y12, y13, y14] t (0, 0))) : w.cell? ⟨b, 0, none⟩ = some y0 ∧ w.cell? ⟨b, 1, none⟩ = some y1 ∧ w.cell? ⟨b, 2, none⟩ = some y2 ∧ w.cell? ⟨b, 3, none⟩ = some y3 ∧ w.cell? ⟨b, 4, none⟩ = some y4 ∧ w.cell? ⟨b, 5, none⟩ = some y5 ∧ w.cell? ⟨b, 6, none⟩ = some y6 ∧ w.cell? ⟨b, 7, none⟩ = some y7 ∧ w.cell? ⟨b, 8, none⟩ = some y8 ∧ w.cell? ⟨b, 9, none⟩ = some y9 ∧ w.cell? ⟨b, 10, none⟩ = some y10 ∧ w.cell? ⟨b, 11, none⟩ = some y11 ∧ w.cell? ⟨b, 12, none⟩ = some y12 ∧ w.cell? ⟨b, 13, none⟩ = some y13 ∧ w.cell? ⟨b, 14, none⟩ = some y14 :=
  ⟨heap_cell h 0, heap_cell h 1, heap_cell h 2, heap_cell h 3, heap_cell h 4, heap_cell h 5, heap_cell h 6, heap_cell h 7, heap_cell h 8, heap_cell h 9, heap_cell h 10, heap_cell h 11, heap_cell h 12, heap_cell h 13, heap_cell h 14⟩

theorem lookB_of {w w1 : World} {A X R C : Array Value} (hw1 : Below (((w.alloc (.cells A 31)).alloc (.cells X 37)).alloc (.cells R 40)).heap.size (((w.alloc (.cells A 31)).alloc (.cells X 37)).alloc (.cells R 40)) w1) : SeenB (w1.alloc (.cells C 31)) w.heap.size w1.heap.size A X R C := by
  refine ⟨heap_keep (heap_keep ?_ hw1) (below_box _ _), heap_keep (heap_keep ?_ hw1) (below_box _ _), heap_keep (heap_keep ?_ hw1) (below_box _ _), heap_alloc_new w1 _⟩
  · exact heap_keep (heap_keep (heap_alloc_new w _) (below_box _ _)) (below_box _ _)
  · have := heap_keep (heap_alloc_new (w.alloc (.cells A 31)) (.cells X 37)) (below_box _ (.cells R 40))
    rwa [size_box] at this
  · have := heap_alloc_new ((w.alloc (.cells A 31)).alloc (.cells X 37)) (.cells R 40)
    rwa [size_box, size_box] at this

set_option maxRecDepth 100000 in
set_option maxHeartbeats 6400000 in
theorem look_come (ka u : Nat) (F : List Nat) (V : List ThrV) (K : Ker) (x : Stp) (w : World) (hg : GoodK K) (hu : u < 4) (hK : KerAt w ka F V (stepL K u x).1) (B : Nat) (pl po pj pm : Option Addr) (cl co cj cm : Nat)
    (hwas : ThrNew w B (.slice pl (thrOf K u).label.length cl) (.slice po (thrOf K u).own.length co) (.slice pj (thrOf K u).objs.length cj) (.slice pm (thrOf K u).mails.length cm) (thrOf K u)) (pe pf px pn : Option Addr) (ce cf cx cn : Nat)
    (hxl : LabAt w (.slice px x.mail.label.length cx) x.mail.label) (hxg : IntsAt w (.slice pn x.mail.grants.length cn) x.mail.grants) (hcm : x.come = true) :
    Calls Try.prog 21 #[.pointer (some ⟨ka, 0, none⟩), .int .i64 u, .agg (thrB pl po pj pm cl co cj cm (thrOf K u)), .agg (stpB pe pf px pn ce cf cx cn x), .agg #[.int .i64 (stepL K u x).2.code, .int .i64 (stepL K u x).2.n, .string ⟨(stepL K u x).2.text.toArray⟩]] w fun e w' => e = .returned (.bool true) ∧ Below w.heap.size w w' := by
  have hn : u < K.ths.length := by rw [hg.four]; exact hu
  obtain ⟨htx, hmm⟩ := step_come hn x hcm
  have hg' := stepL_good hg u x
  have gt := thrOf_good hg u
  have gt' := thrOf_good hg' u
  have hthr := fun wx (hb : Below w.heap.size w wx) => Thread_any ka u F V (stepL K u x).1 wx (hK.below hb) hg'
  have hwl := hwas.labAt gt
  have hwo := hwas.ownAt gt
  skip
  clear hK hg hwas
  generalize thrOf (stepL K u x).1 u = th' at *
  generalize thrOf K u = th at *
  generalize (stepL K u x).2 = r at *
  unfold thrB stpB
  have HTHR := hid hthr
  have HWL := hid hwl
  have HWO := hid hwo
  have HXL := hid hxl
  have HXG := hid hxg
  have HCM := hid hcm
  have HTX := hid htx
  have HMM := hid hmm
  clear htx hmm
  clear hthr hwl hwo hg' hxl hxg hcm
  go_enter Try.func21, Try.ntmps21
  have hb0 : Below w.heap.size w (((w.alloc (.cells #[.slice pl th.label.length cl, .slice po th.own.length co, .string ⟨th.text.toArray⟩, .slice pj th.objs.length cj, .slice pm th.mails.length cm] 31)).alloc (.cells #[.int .i64 x.t, .bool x.come, .int .i64 x.call.kind, .int .i64 x.call.h, .int .i64 x.call.t, .int .i64 x.call.n, .int .i64 x.call.c, .slice pe x.call.label.length ce, .slice pf x.call.grants.length cf, .string ⟨x.call.text.toArray⟩, .int .i64 x.mail.host, .int .i64 x.mail.thread, .slice px x.mail.label.length cx, .slice pn x.mail.grants.length cn, .string ⟨x.mail.text.toArray⟩] 37)).alloc (.cells #[.int .i64 r.code, .int .i64 r.n, .string ⟨r.text.toArray⟩] 40)) := below_then (below_then (below_box w _) (below_box _ _)) (below_box _ _)
  have HB0 := hid hb0
  go_wp2_with fail
  refine (HTHR.out _ hb0).mono ?_
  rintro e w1 ⟨pl1, cl1, po1, co1, pj1, cj1, pm1, cm1, rfl, hnew, hw1⟩
  have hb1 := below_then hb0 hw1
  have hA : SeenB (w1.alloc (.cells #[.slice pl1 th'.label.length cl1, .slice po1 th'.own.length co1, .string ⟨th'.text.toArray⟩, .slice pj1 th'.objs.length cj1, .slice pm1 th'.mails.length cm1] 31)) w.heap.size w1.heap.size #[.slice pl th.label.length cl, .slice po th.own.length co, .string ⟨th.text.toArray⟩, .slice pj th.objs.length cj, .slice pm th.mails.length cm] #[.int .i64 x.t, .bool x.come, .int .i64 x.call.kind, .int .i64 x.call.h, .int .i64 x.call.t, .int .i64 x.call.n, .int .i64 x.call.c, .slice pe x.call.label.length ce, .slice pf x.call.grants.length cf, .string ⟨x.call.text.toArray⟩, .int .i64 x.mail.host, .int .i64 x.mail.thread, .slice px x.mail.label.length cx, .slice pn x.mail.grants.length cn, .string ⟨x.mail.text.toArray⟩] #[.int .i64 r.code, .int .i64 r.n, .string ⟨r.text.toArray⟩] #[.slice pl1 th'.label.length cl1, .slice po1 th'.own.length co1, .string ⟨th'.text.toArray⟩, .slice pj1 th'.objs.length cj1, .slice pm1 th'.mails.length cm1] := lookB_of hw1
  have HA := hid hA
  have HN := hid (hnew.below (below_box w1 (.cells #[.slice pl1 th'.label.length cl1, .slice po1 th'.own.length co1, .string ⟨th'.text.toArray⟩, .slice pj1 th'.objs.length cj1, .slice pm1 th'.mails.length cm1] 31)))
  have HB2 := hid (below_then hb1 (below_box w1 (.cells #[.slice pl1 th'.label.length cl1, .slice po1 th'.own.length co1, .string ⟨th'.text.toArray⟩, .slice pj1 th'.objs.length cj1, .slice pm1 th'.mails.length cm1] 31)))
  clear hnew hw1 hb1 hA hb0 HB0
  obtain ⟨⟨n0, n1, n2, n3, n4⟩, _⟩ := cells5 HA.out.now
  obtain ⟨⟨s0, s1, s2, s3, s4⟩, _⟩ := cells5 HA.out.was
  obtain ⟨x0, x1, x2, x3, x4, x5, x6, x7, x8, x9, x10, x11, x12, x13, x14⟩ := cells15 HA.out.stp
  obtain ⟨r0, r1, r2, _⟩ := cells3 HA.out.rep
  rw [HCM.out] at x1
  go_upto_region 2 with fail
  generalize w1.alloc (.cells #[.slice pl1 th'.label.length cl1, .slice po1 th'.own.length co1, .string ⟨th'.text.toArray⟩, .slice pj1 th'.objs.length cj1, .slice pm1 th'.mails.length cm1] 31) = w2 at *
  rw [HTX.out] at n2
  rcases HMM.out with hmm | ⟨hmm, hfl⟩
  · have hml : th'.mails.length = th.mails.length := by rw [hmm]
    rw [hml] at n4
    clear hml hmm HMM
    go_wp2
    go_ret
    exact ⟨rfl, HB2.out⟩
  · have hml : th'.mails.length = th.mails.length + 1 := by rw [hmm]; simp
    have h6 := gt'.mails
    have hi : th.mails.length < th'.mails.length := by omega
    obtain ⟨g, pl5, cl5, pg5, cg5, hpe, m0, m1, m2, m3, m4, o1, o2⟩ := HN.out.mails.get th.mails.length hi
    have he : th'.mails[th.mails.length] = x.mail := by simp [hmm]
    rw [he] at m0 m1 m2 m3 m4 o1 o2
    subst hpe
    have hlx := HXL.out.len
    have hgx := HXG.out.len
    have HO1 := hid (labs_of_own o1 hlx)
    have HO2 := hid (nums_of_own o2 hgx)
    clear o1 o2 he hmm hlx hgx
    generalize hL : th.mails.length = L at *
    have hL6 : L + 1 ≤ 6 := by omega
    have HML := hid hml
    rw [hml] at n4
    clear hml hi h6 HMM
    go_upto_region 6 with fail
    have HA6 := hid (HA.out.below (below_box w2 (.cells #[.int .i64 x.mail.host, .int .i64 x.mail.thread, .slice pl5 x.mail.label.length cl5, .slice pg5 x.mail.grants.length cg5, .string ⟨x.mail.text.toArray⟩] 35)))
    have HM6 := hid (heap_alloc_new w2 (.cells #[.int .i64 x.mail.host, .int .i64 x.mail.thread, .slice pl5 x.mail.label.length cl5, .slice pg5 x.mail.grants.length cg5, .string ⟨x.mail.text.toArray⟩] 35))
    have HB6 := hid (below_then HB2.out (below_box w2 (.cells #[.int .i64 x.mail.host, .int .i64 x.mail.thread, .slice pl5 x.mail.label.length cl5, .slice pg5 x.mail.grants.length cg5, .string ⟨x.mail.text.toArray⟩] 35)))
    have HO16 := hid (HO1.out.below (below_box w2 (.cells #[.int .i64 x.mail.host, .int .i64 x.mail.thread, .slice pl5 x.mail.label.length cl5, .slice pg5 x.mail.grants.length cg5, .string ⟨x.mail.text.toArray⟩] 35)))
    have HO26 := hid (HO2.out.below (below_box w2 (.cells #[.int .i64 x.mail.host, .int .i64 x.mail.thread, .slice pl5 x.mail.label.length cl5, .slice pg5 x.mail.grants.length cg5, .string ⟨x.mail.text.toArray⟩] 35)))
    clear n0 n1 n2 n3 n4 s0 s1 s2 s3 s4 x0 x1 x2 x3 x4 x5 x6 x7 x8 x9 x10 x11 x12 x13 x14 r0 r1 r2 m0 m1 m2 m3 m4 HA HN HB2 HO1 HO2
    generalize w2.alloc (.cells #[.int .i64 x.mail.host, .int .i64 x.mail.thread, .slice pl5 x.mail.label.length cl5, .slice pg5 x.mail.grants.length cg5, .string ⟨x.mail.text.toArray⟩] 35) = w6 at *
    have n2 := heap_cell HA6.out.now 2
    have n4 := heap_cell HA6.out.now 4
    have s0 := heap_cell HA6.out.was 0
    have s1 := heap_cell HA6.out.was 1
    have s2 := heap_cell HA6.out.was 2
    have s4 := heap_cell HA6.out.was 4
    have m2 := heap_cell HM6.out 2
    simp only [HTX.out] at n2
    simp only [HML.out] at n4
    have hflw := flows_any _ _ _ x.mail.label th.label th.own w6 HO16.out (HWL.out.below HB6.out) (HWO.out.below HB6.out)
    rw [hfl] at hflw
    have HFLW := hid hflw
    clear hflw
    go_wp2_with fail
    refine HFLW.out.mono ?_
    rintro e w7 ⟨rfl, hw7⟩
    have HM7 := hid (heap_keep HM6.out hw7)
    have HA7 := hid (HA6.out.below hw7)
    have HB7 := hid (below_then HB6.out hw7)
    have hsam := ksameMail_eq (.agg #[.int .i64 x.mail.host, .int .i64 x.mail.thread, .slice pl5 x.mail.label.length cl5, .slice pg5 x.mail.grants.length cg5, .string ⟨x.mail.text.toArray⟩]) (.agg #[.int .i64 x.mail.host, .int .i64 x.mail.thread, .slice px x.mail.label.length cx, .slice pn x.mail.grants.length cn, .string ⟨x.mail.text.toArray⟩]) x.mail w7 ⟨_, _, rfl, HO16.out.below hw7, HO26.out.below hw7⟩ ⟨_, _, rfl, HXL.out.below HB7.out, HXG.out.below HB7.out⟩
    have HSAM := hid hsam
    clear hsam hw7 n2 n4 s0 s1 s2 s4 m2 HA6 HM6 HB6 HO16 HO26 HFLW
    obtain ⟨⟨m0, m1, m2, m3, m4⟩, _⟩ := cells5 HM7.out
    obtain ⟨_, _, _, _, _, _, _, _, _, _, x10, x11, x12, x13, x14⟩ := cells15 HA7.out.stp
    go_wp2_with fail
    refine HSAM.out.mono ?_
    rintro e w8 ⟨rfl, hw8⟩
    go_wp2
    go_ret
    exact ⟨rfl, below_then HB7.out hw8⟩
end Go.Proofs.Ytichphepfmafjac

namespace Go.Proofs.Ytichphepfmafjac
open Go.RowKit Go.Proofs.Parclose

theorem text_ne {a b : List UInt8} (h : a ≠ b) : (⟨a.toArray⟩ : ByteArray) ≠ ⟨b.toArray⟩ := fun e => h (by
  have := congrArg ByteArray.data e
  simpa using this)

set_option maxRecDepth 100000 in
set_option maxHeartbeats 6400000 in
theorem look_call (ka u : Nat) (F : List Nat) (V : List ThrV) (K : Ker) (x : Stp) (w : World) (hg : GoodK K) (hu : u < 4) (hK : KerAt w ka F V (stepL K u x).1) (B : Nat) (pl po pj pm : Option Addr) (cl co cj cm : Nat)
    (hwas : ThrNew w B (.slice pl (thrOf K u).label.length cl) (.slice po (thrOf K u).own.length co) (.slice pj (thrOf K u).objs.length cj) (.slice pm (thrOf K u).mails.length cm) (thrOf K u)) (pe pf px pn : Option Addr) (ce cf cx cn : Nat)
    (hxl : LabAt w (.slice px x.mail.label.length cx) x.mail.label) (hxg : IntsAt w (.slice pn x.mail.grants.length cn) x.mail.grants) (hcm : x.come = false) :
    Calls Try.prog 21 #[.pointer (some ⟨ka, 0, none⟩), .int .i64 u, .agg (thrB pl po pj pm cl co cj cm (thrOf K u)), .agg (stpB pe pf px pn ce cf cx cn x), .agg #[.int .i64 (stepL K u x).2.code, .int .i64 (stepL K u x).2.n, .string ⟨(stepL K u x).2.text.toArray⟩]] w fun e w' => e = .returned (.bool true) ∧ Below w.heap.size w w' := by
  have hn : u < K.ths.length := by rw [hg.four]; exact hu
  have hk := step_knows hn x hcm
  have hg' := stepL_good hg u x
  have gt := thrOf_good hg u
  have gt' := thrOf_good hg' u
  have hthr := fun wx (hb : Below w.heap.size w wx) => Thread_any ka u F V (stepL K u x).1 wx (hK.below hb) hg'
  have hwl := hwas.labAt gt
  have hwo := hwas.ownAt gt
  have hthr2 := fun wx (hb : Below w.heap.size w wx) => Thread_any ka x.call.t F V (stepL K u x).1 wx (hK.below hb) hg'
  have gt2 := thrOf_good hg' x.call.t
  generalize thrOf (stepL K u x).1 x.call.t = tq at *
  clear hK hg hwas
  generalize thrOf (stepL K u x).1 u = th' at *
  generalize thrOf K u = th at *
  generalize (stepL K u x).2 = r at *
  unfold thrB stpB
  have HTHR := hid hthr
  have HWL := hid hwl
  have HWO := hid hwo
  have HXL := hid hxl
  have HXG := hid hxg
  have HCM := hid hcm
  have HTHR2 := hid hthr2
  have HK := hid hk
  clear hthr2 hk
  clear hthr hwl hwo hg' hxl hxg hcm
  go_enter Try.func21, Try.ntmps21
  have hb0 : Below w.heap.size w (((w.alloc (.cells #[.slice pl th.label.length cl, .slice po th.own.length co, .string ⟨th.text.toArray⟩, .slice pj th.objs.length cj, .slice pm th.mails.length cm] 31)).alloc (.cells #[.int .i64 x.t, .bool x.come, .int .i64 x.call.kind, .int .i64 x.call.h, .int .i64 x.call.t, .int .i64 x.call.n, .int .i64 x.call.c, .slice pe x.call.label.length ce, .slice pf x.call.grants.length cf, .string ⟨x.call.text.toArray⟩, .int .i64 x.mail.host, .int .i64 x.mail.thread, .slice px x.mail.label.length cx, .slice pn x.mail.grants.length cn, .string ⟨x.mail.text.toArray⟩] 37)).alloc (.cells #[.int .i64 r.code, .int .i64 r.n, .string ⟨r.text.toArray⟩] 40)) := below_then (below_then (below_box w _) (below_box _ _)) (below_box _ _)
  have HB0 := hid hb0
  go_wp2_with fail
  refine (HTHR.out _ hb0).mono ?_
  rintro e w1 ⟨pl1, cl1, po1, co1, pj1, cj1, pm1, cm1, rfl, hnew, hw1⟩
  have hb1 := below_then hb0 hw1
  have hA : SeenB (w1.alloc (.cells #[.slice pl1 th'.label.length cl1, .slice po1 th'.own.length co1, .string ⟨th'.text.toArray⟩, .slice pj1 th'.objs.length cj1, .slice pm1 th'.mails.length cm1] 31)) w.heap.size w1.heap.size #[.slice pl th.label.length cl, .slice po th.own.length co, .string ⟨th.text.toArray⟩, .slice pj th.objs.length cj, .slice pm th.mails.length cm] #[.int .i64 x.t, .bool x.come, .int .i64 x.call.kind, .int .i64 x.call.h, .int .i64 x.call.t, .int .i64 x.call.n, .int .i64 x.call.c, .slice pe x.call.label.length ce, .slice pf x.call.grants.length cf, .string ⟨x.call.text.toArray⟩, .int .i64 x.mail.host, .int .i64 x.mail.thread, .slice px x.mail.label.length cx, .slice pn x.mail.grants.length cn, .string ⟨x.mail.text.toArray⟩] #[.int .i64 r.code, .int .i64 r.n, .string ⟨r.text.toArray⟩] #[.slice pl1 th'.label.length cl1, .slice po1 th'.own.length co1, .string ⟨th'.text.toArray⟩, .slice pj1 th'.objs.length cj1, .slice pm1 th'.mails.length cm1] := lookB_of hw1
  have HA := hid hA
  have HN := hid (hnew.below (below_box w1 (.cells #[.slice pl1 th'.label.length cl1, .slice po1 th'.own.length co1, .string ⟨th'.text.toArray⟩, .slice pj1 th'.objs.length cj1, .slice pm1 th'.mails.length cm1] 31)))
  have HB2 := hid (below_then hb1 (below_box w1 (.cells #[.slice pl1 th'.label.length cl1, .slice po1 th'.own.length co1, .string ⟨th'.text.toArray⟩, .slice pj1 th'.objs.length cj1, .slice pm1 th'.mails.length cm1] 31)))
  clear hnew hw1 hb1 hA hb0 HB0
  obtain ⟨⟨n0, n1, n2, n3, n4⟩, _⟩ := cells5 HA.out.now
  obtain ⟨⟨s0, s1, s2, s3, s4⟩, _⟩ := cells5 HA.out.was
  obtain ⟨x0, x1, x2, x3, x4, x5, x6, x7, x8, x9, x10, x11, x12, x13, x14⟩ := cells15 HA.out.stp
  obtain ⟨r0, r1, r2, _⟩ := cells3 HA.out.rep
  rw [HCM.out] at x1
  go_upto_region 2 with fail
  generalize w1.alloc (.cells #[.slice pl1 th'.label.length cl1, .slice po1 th'.own.length co1, .string ⟨th'.text.toArray⟩, .slice pj1 th'.objs.length cj1, .slice pm1 th'.mails.length cm1] 31) = w2 at *
  by_cases htx : th'.text = th.text
  · rw [htx] at n2
    go_wp2
    go_ret
    exact ⟨rfl, HB2.out⟩
  · have hne := text_ne htx
    have hbq : (th'.text == th.text) = false := by simpa using htx
    rcases HK.out.resolve_left htx with h9 | ⟨h7, hr0⟩ | ⟨h4, hr0, i, hi, hni, hfl⟩
    · rw [h9] at x2
      clear HK h9
      go_wp2
      go_ret
      exact ⟨rfl, HB2.out⟩
    · rw [h7] at x2
      rw [hr0] at r0
      clear HK h7 hr0
      go_wp2
      go_ret
      exact ⟨rfl, HB2.out⟩
    · rw [h4] at x2
      rw [hr0] at r0
      rw [hni] at x5
      have hft := field_objects
      have HI := hid hi
      have HFL := hid hfl
      have HNI := hid hni
      have hi4 : (i : Int) < (tq.objs.length : Int) := by omega
      have ho4 := gt2.objs
      have HG2 := hid gt2
      clear HK h4 hr0 hni gt' hfl gt2
      go_wp2_with fail
      refine (HTHR2.out _ HB2.out).mono ?_
      rintro e w5 ⟨pl2, cl2, po2, co2, pj2, cj2, pm2, cm2, rfl, hnew2, hw5⟩
      obtain ⟨g, pl5, cl5, hpe, o1, _, o3⟩ := hnew2.objs.get i HI.out
      subst hpe
      have HA5 := hid (HA.out.below hw5)
      have HB5 := hid (below_then HB2.out hw5)
      have hgl := (HG2.out.obj _ (List.getElem_mem HI.out)).2.1
      have hlab := labs_of_own o3 (Nat.le_trans hgl (by decide))
      obtain ⟨ol, hol⟩ : ∃ ol, (tq.objs[i]'HI.out).label = ol := ⟨_, rfl⟩
      have hfo : flowsL ol th.label th.own = true := by rw [← hol]; exact HFL.out
      rw [hol] at hlab o1
      have hflw := fun wx (hb : Below w5.heap.size w5 wx) => flows_any _ _ _ ol th.label th.own wx (hlab.below hb) (HWL.out.below (below_then HB5.out hb)) (HWO.out.below (below_then HB5.out hb))
      rw [hfo] at hflw
      have HFLW := hid hflw
      clear hflw hgl hnew2 hw5 o3 n0 n1 n2 n3 n4 s0 s1 s2 s3 s4 x0 x1 x2 x3 x4 x5 x6 x7 x8 x9 x10 x11 x12 x13 x14 r0 r1 r2 hne hbq htx HG2 HFL hol hlab hfo
      obtain ⟨⟨s0, s1, s2, s3, s4⟩, _⟩ := cells5 HA5.out.was
      have x5 := heap_cell HA5.out.stp 5
      simp only [HNI.out] at x5
      clear s2 s3 s4
      go_wp2_with fail
      go_region_held3 (fun w' => w'.cell? ⟨w.heap.size + 1, 5, none⟩ = some (.int .i64 i) ∧ w'.cell? ⟨w.heap.size, 0, none⟩ = some (.slice pl th.label.length cl) ∧ w'.cell? ⟨w.heap.size, 1, none⟩ = some (.slice po th.own.length co) ∧ w'.cell? ⟨g, i * 2, none⟩ = some (.slice pl5 ol.length cl5)) (go_keep)
        (first | (go_at_call 13; refine (HFLW.out _ (Below.refl _ _).drew).mono ?_; rintro e w7 ⟨rfl, hw7d⟩; have hw7 := kundrew hw7d; have HB7 := hid (below_then HB5.out hw7); have z5 := hw7.cell (cell_block x5); rw [x5] at z5; have z0 := hw7.cell (cell_block s0); rw [s0] at z0; have z1 := hw7.cell (cell_block s1); rw [s1] at z1; have z2 := hw7.cell (cell_block o1); rw [o1] at z2; clear hw7d hw7))
      all_goals
        go_wp2
        go_ret
        exact ⟨rfl, HB7.out⟩

theorem look_reads (ka u : Nat) (F : List Nat) (V : List ThrV) (K : Ker) (x : Stp) (w : World) (hg : GoodK K) (hu : u < 4) (hK : KerAt w ka F V (stepL K u x).1) (B : Nat) (pl po pj pm : Option Addr) (cl co cj cm : Nat)
    (hwas : ThrNew w B (.slice pl (thrOf K u).label.length cl) (.slice po (thrOf K u).own.length co) (.slice pj (thrOf K u).objs.length cj) (.slice pm (thrOf K u).mails.length cm) (thrOf K u)) (pe pf px pn : Option Addr) (ce cf cx cn : Nat)
    (hxl : LabAt w (.slice px x.mail.label.length cx) x.mail.label) (hxg : IntsAt w (.slice pn x.mail.grants.length cn) x.mail.grants) :
    Calls Try.prog 21 #[.pointer (some ⟨ka, 0, none⟩), .int .i64 u, .agg (thrB pl po pj pm cl co cj cm (thrOf K u)), .agg (stpB pe pf px pn ce cf cx cn x), .agg #[.int .i64 (stepL K u x).2.code, .int .i64 (stepL K u x).2.n, .string ⟨(stepL K u x).2.text.toArray⟩]] w fun e w' => e = .returned (.bool true) ∧ Below w.heap.size w w' := by
  cases hcm : x.come with
  | true => exact look_come ka u F V K x w hg hu hK B pl po pj pm cl co cj cm hwas pe pf px pn ce cf cx cn hxl hxg hcm
  | false => exact look_call ka u F V K x w hg hu hK B pl po pj pm cl co cj cm hwas pe pf px pn ce cf cx cn hxl hxg hcm
end Go.Proofs.Ytichphepfmafjac
