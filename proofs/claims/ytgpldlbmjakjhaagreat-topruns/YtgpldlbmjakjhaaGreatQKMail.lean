/- kernel.copyMail answers mail in memory of its own; kernel.mayMail what forbids a thread to send it. -/
import Derived.Test.YtgpldlbmjakjhaaGreatQKMem
import Derived.Test.YtgpldlbmjakjhaaGreatQPlainWire
import Derived.Test.YtgpldlbmjakjhaaGreatQWGoodM
import Derived.Test.YtgpldlbmjakjhaaGreatQAt
import Derived.Laws.ResultCell
import Derived.Deep.QuietTactic
import Derived.BigQuiet
import Derived.Deep.RegionHeld3
import Derived.Deep.RegionLaw
import Derived.BigCall
namespace Go.Proofs.YtgpldlbmjakjhaaGreat
open Go.RowKit Go.Proofs.Parclose

theorem own_slice {w : World} {base : Nat} {e : TypeId} {s : Nat} {v : Value} {n : Nat} {xs : List Value} (h : w.ownsRow base e s v n xs) : ∃ p cap, v = .slice p n cap := by
  obtain ⟨p, cap, rfl, _⟩ := owns_cells h
  exact ⟨p, cap, rfl⟩
theorem own_later {w w' : World} {base : Nat} {e : TypeId} {s : Nat} {v : Value} {n : Nat} {xs : List Value} (h : w.ownsRow base e s v n xs) (hb : Below w.heap.size w w') : w'.ownsRow base e s v n xs := by
  refine ⟨h.1, ?_⟩
  rcases h.2 with hn | ⟨g, cap, cur, rfl, hbg, hgg, rest⟩
  · exact .inl hn
  · exact .inr ⟨g, cap, cur, rfl, hbg, heap_keep hgg hb, rest⟩
theorem own_base_le {w : World} {base base' : Nat} {e : TypeId} {s : Nat} {v : Value} {n : Nat} {xs : List Value} (h : w.ownsRow base e s v n xs) (hb : base' ≤ base) : w.ownsRow base' e s v n xs := by
  refine ⟨h.1, ?_⟩
  rcases h.2 with hn | ⟨g, cap, cur, rfl, hbg, rest⟩
  · exact .inl hn
  · exact .inr ⟨g, cap, cur, rfl, by omega, rest⟩

set_option maxRecDepth 100000 in
set_option maxHeartbeats 1600000 in
theorem copyMail_any (v : Value) (m : Mal) (w : World) (hv : MalAt w v m) (hx : m.text.length < 4611686018427387904) :
    Calls Tryz.prog 80 #[v] w fun e w' => ∃ vl vg, e = .returned (malV { m with text := lastL m.text } vl vg) ∧ w'.ownsRow w.heap.size 74 2 vl m.label.length (flat2 m.label) ∧ w'.ownsRow w.heap.size 3 1 vg m.grants.length (flat1 m.grants) ∧ Below w.heap.size w w' := by
  obtain ⟨vl, vg, rfl, hl, hg⟩ := hv
  have HL := hid hl
  have HG := hid hg
  obtain ⟨pl, cl, rfl, _⟩ := id hl
  obtain ⟨pg, cg, rfl, _⟩ := id hg
  unfold malV
  clear hl hg
  have hb0 : Below w.heap.size w ((w.alloc (.cells #[.int .i64 m.host, .int .i64 m.thread, .slice pl m.label.length cl, .slice pg m.grants.length cg, .string ⟨m.text.toArray⟩] 46)).alloc (.cells #[.int .i64 0, .int .i64 0, .slice none 0 0, .slice none 0 0, .string ⟨#[]⟩] 46)) := (below_box w _).alloc (by simp) _
  go_enter Tryz.func80, Tryz.ntmps80
  go_wp2_with fail
  refine (cloneL_any _ m.label _ (HL.out.below hb0)).mono ?_
  rintro e w1 ⟨vl1, rfl, hown1, hw1⟩
  have hbx1 := heap_keep (heap_alloc2_old w _ _) hw1
  have hrs1 := heap_keep (heap_alloc2_new w _ _) hw1
  have hbw1 := below_then hb0 hw1
  have hs1 := hw1.size
  obtain ⟨p1, q1, rfl⟩ := own_slice hown1
  have c2 := heap_cell hbx1 2
  have f2 := heap_frozen hbx1 2
  have c3 := heap_cell hbx1 3
  have hown1 := own_base_le (base' := w.heap.size) hown1 hb0.size
  go_wp2_with fail
  have hbx2 := heap_setCell (j := 2) hbx1 (.slice p1 m.label.length q1)
  have hrs2 := heap_store hrs1 (show w.heap.size + 1 ≠ w.heap.size by omega) 2 (.slice p1 m.label.length q1)
  have hown2 := own_store hown1 hbx1 (by decide) 2 (.slice p1 m.label.length q1)
  have hbw2 := hbw1.grown (grown_setCell w1 w.heap.size 2 (.slice p1 m.label.length q1)) hbw1.size (fun k hk => by cases hk; exact Nat.le_refl _)
  clear hbx1 hrs1 hown1 hbw1 c2 f2 c3 hs1 hw1
  generalize w1.setCell ⟨w.heap.size, 2, none⟩ (.slice p1 m.label.length q1) = w2 at *
  refine (cloneI_any _ m.grants _ (HG.out.below hbw2)).mono ?_
  rintro e w3 ⟨vg3, rfl, hown3, hw3⟩
  have hbx3 := heap_keep hbx2 hw3
  have hrs3 := heap_keep hrs2 hw3
  have hownL3 := own_later hown2 hw3
  have hbw3 := below_then hbw2 hw3
  obtain ⟨p3, q3, rfl⟩ := own_slice hown3
  have hown3 := own_base_le (base' := w.heap.size) hown3 hbw2.size
  have c3 := heap_cell hbx3 3
  have f3 := heap_frozen hbx3 3
  have c4 := heap_cell hbx3 4
  clear hbx2 hrs2 hown2 hbw2 hw3
  go_wp2_with fail
  have hbx4 := heap_setCell (j := 3) hbx3 (.slice p3 m.grants.length q3)
  have hrs4 := heap_store hrs3 (show w.heap.size + 1 ≠ w.heap.size by omega) 3 (.slice p3 m.grants.length q3)
  have hownL4 := own_store hownL3 hbx3 (by decide) 3 (.slice p3 m.grants.length q3)
  have hownG4 := own_store hown3 hbx3 (by decide) 3 (.slice p3 m.grants.length q3)
  have hbw4 := hbw3.grown (grown_setCell w3 w.heap.size 3 (.slice p3 m.grants.length q3)) hbw3.size (fun k hk => by cases hk; exact Nat.le_refl _)
  clear hbx3 hrs3 hown3 hownL3 hbw3 c3 f3 c4
  generalize w3.setCell ⟨w.heap.size, 3, none⟩ (.slice p3 m.grants.length q3) = w4 at *
  refine (last_any m.text _ hx).mono ?_
  rintro e w5 ⟨rfl, hw5⟩
  have hbx5 := heap_keep hbx4 hw5
  have hrs5 := heap_keep hrs4 hw5
  have hownL5 := own_later hownL4 hw5
  have hownG5 := own_later hownG4 hw5
  have hbw5 := below_then hbw4 hw5
  have c0 := heap_cell hbx5 0
  have c1 := heap_cell hbx5 1
  have c2 := heap_cell hbx5 2
  have c3 := heap_cell hbx5 3
  have c4 := heap_cell hbx5 4
  have f4 := heap_frozen hbx5 4
  have d0 := heap_cell hrs5 0
  have d1 := heap_cell hrs5 1
  have d2 := heap_cell hrs5 2
  have d3 := heap_cell hrs5 3
  have d4 := heap_cell hrs5 4
  have e0 := heap_frozen hrs5 0
  have e1 := heap_frozen hrs5 1
  have e2 := heap_frozen hrs5 2
  have e3 := heap_frozen hrs5 3
  have e4 := heap_frozen hrs5 4
  clear hbx4 hrs4 hownL4 hownG4 hbw4 hw5
  have hne : w.heap.size ≠ w.heap.size + 1 := by omega
  have hne2 : w.heap.size + 1 ≠ w.heap.size := by omega
  go_wp2
  have A0 := heap_store hrs5 hne2 4 (.string ⟨(lastL m.text).toArray⟩)
  have hL6 := own_store hownL5 hbx5 (by decide) 4 (.string ⟨(lastL m.text).toArray⟩)
  have hG6 := own_store hownG5 hbx5 (by decide) 4 (.string ⟨(lastL m.text).toArray⟩)
  have hb6 := hbw5.grown (grown_setCell w5 w.heap.size 4 (.string ⟨(lastL m.text).toArray⟩)) hbw5.size (fun k hk => by cases hk; exact Nat.le_refl _)
  clear c0 c1 c2 c3 c4 f4 d0 d1 d2 d3 d4 e0 e1 e2 e3 e4 hbx5 hrs5 hownL5 hownG5 hbw5
  generalize w5.setCell ⟨w.heap.size, 4, none⟩ (.string ⟨(lastL m.text).toArray⟩) = w6 at *
  have hS := grown_trans (grown_trans (grown_trans (grown_trans (grown_setCell w6 (w.heap.size + 1) 0 (.int .i64 m.host)) (grown_setCell _ (w.heap.size + 1) 1 (.int .i64 m.thread))) (grown_setCell _ (w.heap.size + 1) 2 (.slice p1 m.label.length q1))) (grown_setCell _ (w.heap.size + 1) 3 (.slice p3 m.grants.length q3))) (grown_setCell _ (w.heap.size + 1) 4 (.string ⟨(lastL m.text).toArray⟩))
  have hW := heap_setCell (j := 4) (heap_setCell (j := 3) (heap_setCell (j := 2) (heap_setCell (j := 1) (heap_setCell (j := 0) A0 (.int .i64 m.host)) (.int .i64 m.thread)) (.slice p1 m.label.length q1)) (.slice p3 m.grants.length q3)) (.string ⟨(lastL m.text).toArray⟩)
  have hL7 := own_block hL6 A0 (by decide) hS
  have hG7 := own_block hG6 A0 (by decide) hS
  have hb7 := hb6.grown hS hb6.size (fun k hk => by cases hk; omega)
  refine bodyPost_ret (results_cell_row rfl _ _ (w.heap.size + 1) 46 _ (0, 0) _ rfl hW Tryz.underlying46 rfl (by kernel_rfl)) rfl ⟨_, _, rfl, hL7, hG7, hb7⟩

theorem all_bad {l : List Int} {p : Int → Bool} (k : Nat) (hk : k < l.length) (h : p l[k] = false) : l.all p = false := by
  cases e : l.all p with
  | false => rfl
  | true =>
    have := List.all_eq_true.1 e l[k] (List.getElem_mem hk)
    rw [h] at this
    cases this
theorem all_good {l : List Int} {p : Int → Bool} (h : ∀ j (hj : j < l.length), p l[j] = true) : l.all p = true := by
  rw [List.all_eq_true]
  intro x hx
  obtain ⟨j, hj, rfl⟩ := List.mem_iff_getElem.1 hx
  exact h j hj
theorem own_ints {w : World} {v : Value} {l : List Int} (h : OwnAt w v l) (hl : l.length ≤ 1000) : IntsAt w v l := nums_of_own h (by omega)

set_option maxRecDepth 100000 in
set_option maxHeartbeats 1600000 in
theorem mayMail_any (kb o : Nat) (F : List Nat) (v : ThrV) (th : Thr) (vm : Value) (m : Mal) (w : World) (h : TAt w kb o F v th) (hl : th.own.length ≤ 1000) (hm : MalAt w vm m) :
    Calls Tryz.prog 102 #[.pointer (some ⟨kb, o, none⟩), vm] w fun e w' => e = .returned (.int .i64 (mayL th m)) ∧ Below w.heap.size w w' := by
  have hgood := fun wx (hb : Below w.heap.size w wx) => goodMail_any _ m wx (hm.below hb)
  obtain ⟨vl, vg, rfl, hml, hmg⟩ := hm
  have HL := hid hml
  have HG := hid hmg
  have HM : Hid (mayL th m = if mailE m = 0 then (if m.grants.all (th.own.contains ·) then (if flowsL th.label m.label th.own then 0 else 6) else 7) else mailE m) := hid rfl
  obtain ⟨pl, cl, rfl, _⟩ := id hml
  obtain ⟨pg, cg, rfl, _, _, hgc⟩ := id hmg
  have HC := hid hgc
  unfold malV at hgood ⊢
  clear hml hmg hgc
  by_cases h0 : mailE m = 0
  rotate_left
  · have HE : Hid (mayL th m = mailE m) := hid (by rw [HM.out, if_neg h0])
    have hne : (mailE m != 0) = true := by simpa using h0
    clear HM h0
    go_enter Tryz.func102, Tryz.ntmps102
    go_wp2_with (go_at_call 15; refine (hgood _ (below_box _ _)).mono ?_; rintro e w1 ⟨rfl, hw1⟩)
    go_ret
    exact ⟨ret_int HE.out.symm, below_then (below_box _ _) hw1⟩
  have hne : (mailE m != 0) = false := by simpa using h0
  have HM2 : Hid (mayL th m = if m.grants.all (th.own.contains ·) then (if flowsL th.label m.label th.own then 0 else 6) else 7) := hid (by rw [HM.out, if_pos h0])
  clear HM
  have H0 := hid h0
  clear h0
  obtain ⟨po, co, hvo⟩ := ownV h.thr.2.1
  have HO := hid (own_ints h.thr.2.1 hl)
  have HV := hid hvo
  have HT := hid h
  obtain ⟨t0, t1, _, _, _⟩ := h.cells
  rw [hvo] at t1
  obtain ⟨ptl, ctl, hvl, _⟩ := id h.thr.1.1
  have HTL := hid h.thr.1.1
  have HVL := hid hvl
  rw [hvl] at t0
  clear hvo hvl h
  go_enter Tryz.func102, Tryz.ntmps102
  go_wp2_with (go_at_call 15; refine (hgood _ (below_box _ _)).mono ?_; rintro e w1 ⟨rfl, hw1⟩; have k2 := box_cell hw1 (by simp) 2; have k3 := box_cell hw1 (by simp) 3; have hb1 := below_then (below_box _ _) hw1; have HB1 := hid hw1; clear hw1)
  go_loopw [16] (fun i wr => ∃ k : Nat, k ≤ m.grants.length ∧ i = .int .i64 k ∧ (∀ j (hj : j < k) (hj' : j < m.grants.length), th.own.contains m.grants[j] = true) ∧ wr = w1) (fun i _ => m.grants.length - (intOf i).toNat)
  case atStart => exact ⟨0, Nat.zero_le _, rfl, fun j hj => absurd hj (Nat.not_lt_zero _), rfl⟩
  case round =>
    obtain ⟨k, hk, rfl, hno0, rfl⟩ := hrel
    have HN := hid hno0
    clear hno0
    by_cases hlt : k < m.grants.length
    · obtain ⟨b, ob, rfl, hc⟩ := HC.out (by omega)
      have hck := hc.below hb1 k hlt
      have s1 := hb1.cell (cell_block t1)
      rw [t1] at s1
      have hcon := fun wx (hb : Below w.heap.size w wx) => contains_any _ th.own m.grants[k] wx (HO.out.below hb)
      rw [HV.out] at hcon
      cases hh : th.own.contains m.grants[k] with
      | false =>
        have HE : Hid (mayL th m = 7) := hid (by rw [HM2.out, all_bad (p := (th.own.contains ·)) k hlt hh, if_neg (by simp)])
        have hh2 : hasB th.own m.grants[k] = false := hh
        go_wp2_with (go_at_call 53; refine (hcon _ hb1).mono ?_; rintro e w4 ⟨rfl, rfl⟩; rw [hh2])
        go_ret
        exact ⟨ret_int HE.out.symm, hb1⟩
      | true =>
        have HH := hid hh
        have hh2 : hasB th.own m.grants[k] = true := hh
        go_wp2_with (go_at_call 53; refine (hcon _ hb1).mono ?_; rintro e w4 ⟨rfl, rfl⟩; rw [hh2])
        go_roundw
        case rel => exact ⟨k + 1, hlt, by go_num, fun j hj hj' => by
          by_cases e : j = k
          · subst e; exact HH.out
          · exact HN.out j (by omega) hj', by first | rfl | trivial⟩
        case measure => simp [intOf]; omega
    · have HA : Hid (m.grants.all (th.own.contains ·) = true) := hid (all_good (p := (th.own.contains ·)) fun j hj => HN.out j (by omega) hj)
      have HM3 : Hid (mayL th m = if flowsL th.label m.label th.own then 0 else 6) := hid (by rw [HM2.out, HA.out, if_pos rfl])
      have s0 := hb1.cell (cell_block t0)
      rw [t0] at s0
      have s1 := hb1.cell (cell_block t1)
      rw [t1] at s1
      have hfl := fun wx (hb : Below w.heap.size w wx) => flows_any _ _ _ th.label m.label th.own wx (HTL.out.below hb) (HL.out.below hb) (HO.out.below hb)
      rw [HV.out, HVL.out] at hfl
      have k2' : wr.cell? ⟨w.heap.size, 2, none⟩ = some (.slice pl m.label.length cl) := k2
      clear k2
      have k2 := k2'
      clear k2' k3
      cases hf : flowsL th.label m.label th.own with
      | false =>
        have HE : Hid (mayL th m = 6) := hid (by rw [HM3.out, hf]; rfl)
        rw [hf] at hfl
        go_wp2
        go_region_held3 (fun w' => w'.cell? ⟨kb, o, none⟩ = some (.slice ptl th.label.length ctl) ∧ w'.cell? ⟨kb, o + 1, none⟩ = some (.slice po th.own.length co) ∧ w'.cell? ⟨w.heap.size, 2, none⟩ = some (.slice pl m.label.length cl)) (go_keep)
          (first | (go_at_call 23; refine (hfl _ hb1.drew).mono ?_; rintro e w5 ⟨rfl, hw5⟩; have hb5 := below_then hb1.drew hw5; have r0 := hw5.cell (cell_block s0); rw [World.cell?_drew, s0] at r0; have r1 := hw5.cell (cell_block s1); rw [World.cell?_drew, s1] at r1; have r2 := hw5.cell (cell_block k2); rw [World.cell?_drew, k2] at r2))
        all_goals
          go_wp2
          go_ret
          exact ⟨ret_int HE.out.symm, hb5⟩
      | true =>
        have HE : Hid (mayL th m = 0) := hid (by rw [HM3.out, hf]; rfl)
        rw [hf] at hfl
        go_wp2
        go_region_held3 (fun w' => w'.cell? ⟨kb, o, none⟩ = some (.slice ptl th.label.length ctl) ∧ w'.cell? ⟨kb, o + 1, none⟩ = some (.slice po th.own.length co) ∧ w'.cell? ⟨w.heap.size, 2, none⟩ = some (.slice pl m.label.length cl)) (go_keep)
          (first | (go_at_call 23; refine (hfl _ hb1.drew).mono ?_; rintro e w5 ⟨rfl, hw5⟩; have hb5 := below_then hb1.drew hw5; have r0 := hw5.cell (cell_block s0); rw [World.cell?_drew, s0] at r0; have r1 := hw5.cell (cell_block s1); rw [World.cell?_drew, s1] at r1; have r2 := hw5.cell (cell_block k2); rw [World.cell?_drew, k2] at r2))
        all_goals
          go_wp2
          go_ret
          exact ⟨ret_int HE.out.symm, hb5⟩
end Go.Proofs.YtgpldlbmjakjhaaGreat

namespace Go.Proofs.YtgpldlbmjakjhaaGreat
open Go.RowKit Go.Proofs.Parclose

def repV (r : Rep) : Value := .agg #[.int .i64 r.code, .int .i64 r.n, .string ⟨r.text.toArray⟩]

theorem kundrew {w w' : World} (h : Below w.drew.heap.size w.drew w') : Below w.heap.size w w' := ⟨h.os, h.tape, h.output, h.size, h.block⟩

theorem answer_any (e : Int) (w : World) : Calls Tryz.prog 87 #[.int .i64 e] w fun e' w' => e' = .returned (repV (code e)) ∧ Below w.heap.size w w' := by
  go_enter Tryz.func87, Tryz.ntmps87
  go_wp2
  refine bodyPost_ret (results_cell_row rfl _ _ w.heap.size 35 _ (0, 0) _ rfl (heap_alloc_new w _) Tryz.underlying35 rfl (by kernel_rfl)) rfl ⟨rfl, below_box _ _⟩

theorem flatO_snoc (vs : List Value) (os : List Obt) (h : vs.length = os.length) (u : Value) (o : Obt) : flatO (vs ++ [u]) (os ++ [o]) = flatO vs os ++ [u, .string ⟨o.text.toArray⟩] := by
  induction vs generalizing os with
  | nil =>
    have : os = [] := List.length_eq_zero_iff.1 (by simpa using h.symm)
    subst this
    rfl
  | cons x r ih =>
    cases os with
    | nil => simp at h
    | cons y t =>
      show x :: .string ⟨y.text.toArray⟩ :: flatO (r ++ [u]) (t ++ [o]) = _
      rw [ih t (by simpa using h)]
      rfl
theorem flatM_snoc (vs : List (Value × Value)) (ms : List Mal) (h : vs.length = ms.length) (u : Value × Value) (m : Mal) : flatM (vs ++ [u]) (ms ++ [m]) = flatM vs ms ++ [.int .i64 m.host, .int .i64 m.thread, u.1, u.2, .string ⟨m.text.toArray⟩] := by
  induction vs generalizing ms with
  | nil =>
    have : ms = [] := List.length_eq_zero_iff.1 (by simpa using h.symm)
    subst this
    rfl
  | cons x r ih =>
    cases ms with
    | nil => simp at h
    | cons y t =>
      show .int .i64 y.host :: .int .i64 y.thread :: x.1 :: x.2 :: .string ⟨y.text.toArray⟩ :: flatM (r ++ [u]) (t ++ [m]) = _
      rw [ih t (by simpa using h)]
      rfl

/-- where a row lies behind an append -/
theorem append_where {w : World} {t ty e : TypeId} {i : TypeInfo} {z : Value} {size bytes : Nat} (ht : Tryz.prog.underlying t = some (.slice e)) (hi : Tryz.prog.info? e = some i) (hz : i.zero = some z) (hsize : i.size = size) (hby : i.bytes = bytes) (hzs : z.cells.size = size) (hsz : 0 < size)
    {v : Value} {n : Nat} {xs : List Value} (hown : w.ownsRow 0 e size v n xs) {a : Addr} {m c : Nat} {news : List Value} (hl : news.length = m * size) (hnews : ∀ j u, news[j]? = some u → w.cell? (a.add j) = some u) (h1 : ∀ u ∈ news, u.oneCell' = true)
    (h63 : n + m ≤ maxLen) (hbytes : (n + m) * bytes ≤ 140737488355328) :
    ∃ v' w', (Builtin.append_ #[t, t] ty #[v, .slice (some a) m c]).run Tryz.prog w = .ok v' w' ∧ w'.ownsRow 0 e size v' (n + m) (xs ++ news) ∧ w.grownBy w' v.ownBlock ∧ ∀ k, v'.ownBlock = some k → v.ownBlock = some k ∨ w.heap.size ≤ k := by
  obtain ⟨v', w', hr, h2, h3, _⟩ := run_append_own (P := Tryz.prog) w 0 t ty e i z size bytes ht hi hz hsize hby hzs hsz v n xs hown a m c news hl hnews h1 h63 hbytes (Nat.zero_le _)
  refine ⟨v', w', hr, h2, h3, ?_⟩
  rcases hown.2 with ⟨rfl, rfl⟩ | ⟨g, cap, cur, rfl, hbg, hg, hnc, hcm, hcs, htake⟩
  · have hx : xs = [] := List.eq_nil_of_length_eq_zero (by simpa using hown.1)
    subst hx
    obtain ⟨v2, w2, hr2, k2, _, _⟩ := run_append_own (P := Tryz.prog) w w.heap.size t ty e i z size bytes ht hi hz hsize hby hzs hsz (.slice none 0 0) 0 [] (World.ownsRow_nil _ _ _ _) a m c news hl hnews h1 h63 hbytes (Nat.le_refl _)
    rw [hr] at hr2
    injection hr2 with e1 e2
    subst e1
    exact fun k hk => .inr (own_base k2 hk)
  · subst hsize
    subst hby
    by_cases hroom : n + m ≤ cap
    · have hfit : n * i.size + news.length ≤ cur.size := by rw [hl, hcs, ← Nat.add_mul]; exact Nat.mul_le_mul_right _ hroom
      have hr2 := run_append_room (P := Tryz.prog) w t ty e i ht hi g n cap cur hg a m c news hl hnews h1 hroom hfit
      rw [hr] at hr2
      injection hr2 with e1 e2
      subst e1
      exact fun k hk => .inl hk
    · have holds : ∀ j u, xs[j]? = some u → w.cell? ((⟨g, 0, none⟩ : Addr).add j) = some u := hown.cells (g := g) rfl
      have hr2 := run_append_grow (P := Tryz.prog) w t ty e i z ht hi hz ⟨g, 0, none⟩ n cap xs hown.1 holds a m c news hl hnews (by omega) (by simp only [maxLen] at h63; omega) (growslice_fits (by omega) hbytes)
      rw [hr] at hr2
      injection hr2 with e1 e2
      subst e1
      exact fun k hk => .inr (by cases hk; exact Nat.le_refl _)

/-- append of one object, as a step of a region that draws -/
theorem step_object {w : World} {ops : Array Oper} {o : Oper} {a0 : Act} {K : Act → World → Prop} {Q : Exit → Act → World → Prop} {E : Prop} (hgd : o.guard = none) (s x : Operand)
    (ho : o.op = .call { callee := .builtin .append, args := #[s, x], argTypes := #[39, 39] }) (v : Value) (n : Nat) (xs : List Value) (hs : a0.eval s = v) (hown : w.ownsRow 0 76 2 v n xs)
    (g : Nat) (x1 x2 : Value) (hx : a0.eval x = .slice (some ⟨g, 0, none⟩) 1 1) (hc : ∀ j u, [x1, x2][j]? = some u → w.cell? ((⟨g, 0, none⟩ : Addr).add j) = some u) (h1 : ∀ u ∈ [x1, x2], u.oneCell' = true) (hn : n ≤ 1000)
    (h : ∀ v' w', w'.ownsRow 0 76 2 v' (n + 1) (xs ++ [x1, x2]) → w.grownBy w' v.ownBlock → (∀ k, v'.ownBlock = some k → v.ownBlock = some k ∨ w.heap.size ≤ k) → K (a0.put o.dst v') w') :
    if Region.wanted o (yielded ops a0.tmps) = true then Oper.wp Tryz.prog o a0 w K Q else E := by
  have hw : Region.wanted o (yielded ops a0.tmps) = true := by simp [Region.wanted, hgd]
  rw [if_pos hw]
  obtain ⟨i0, hi, hz0, hz1, hz2⟩ := info_parts info_object
  obtain ⟨v', w', hr, k1, k2, k3⟩ := append_where (ty := o.type) (c := 1) Tryz.underlying39 hi hz0 hz1 hz2 rfl (by decide) hown (m := 1) (news := [x1, x2]) rfl hc h1 (by unfold maxLen; omega) (by omega)
  unfold Oper.wp execOp
  simp only [ho, resolve, invoke, builtin, Sem.run_bind, Sem.run_pure, Result.andThen_ok, List.map_toArray, List.map_cons, List.map_nil, hs, hx, hr]
  exact h v' w' k1 k2 k3
theorem enter_cloneL (args : Array Value) (w : World) : (callFunc 76 args).run Tryz.prog w = .ok (.enter 76 args) w := by kernel_rfl
/-- a clone of a label, as a step of a region that draws -/
theorem step_cloneL {w : World} {ops : Array Oper} {o : Oper} {a0 : Act} {K : Act → World → Prop} {Q : Exit → Act → World → Prop} {E : Prop} (hgd : o.guard = none) (x : Operand) (ats : Array TypeId)
    (ho : o.op = .call { callee := .value (.func 76), args := #[x], argTypes := ats }) (v : Value) (l : List (Int × Int)) (hx : a0.eval x = v) (hv : LabAt w v l)
    (h : ∀ v' w', w'.ownsRow w.heap.size 74 2 v' l.length (flat2 l) → Below w.heap.size w w' → K (a0.put o.dst v') w') :
    if Region.wanted o (yielded ops a0.tmps) = true then Oper.wp Tryz.prog o a0 w K Q else E := by
  have hw : Region.wanted o (yielded ops a0.tmps) = true := by simp [Region.wanted, hgd]
  rw [if_pos hw]
  unfold Oper.wp
  obtain ⟨dst, op, ty, pos, after, guard⟩ := o
  simp only at ho
  subst ho
  rw [execOp_call_go]
  have e : (#[] ++ #[x].map a0.eval ++ #[] : Array Value) = #[v] := by simp [hx]
  rw [e, enter_cloneL, Oper.upon_enter]
  refine (cloneL_any v l w hv).mono ?_
  rintro e w' ⟨v', rfl, h1, h2⟩
  exact h v' w' h1 h2
end Go.Proofs.YtgpldlbmjakjhaaGreat

namespace Go.Proofs.YtgpldlbmjakjhaaGreat
open Go.RowKit Go.Proofs.Parclose

theorem more_new (w : World) (F : List Nat) : More w F (F ++ [w.heap.size]) :=
  ⟨fun _ h => List.mem_append_left _ h, fun k h => by
    rcases List.mem_append.1 h with g | g
    · exact .inl g
    · simp at g; exact .inr (by omega)⟩
theorem TAt.reserve {w : World} {kb o : Nat} {F : List Nat} {v : ThrV} {th : Thr} (h : TAt w kb o F v th) (ob : Obj) : TAt (w.alloc ob) kb o (F ++ [w.heap.size]) v th ∧ TStep kb o w F v (w.alloc ob) (F ++ [w.heap.size]) v := by
  have hb := below_box w ob
  have hm := more_new w F
  obtain ⟨⟨C, hC, hc⟩, h2, h3, h4, h5⟩ := h
  refine ⟨⟨⟨C, heap_keep hC hb, hc⟩, h2.keep (R := []) (kept_below _ hb) (fun _ h => by cases h) hm (fun _ _ h => by cases h), fun k hk => hm.1 k (h3 k hk), hm.1 kb h4, fun k hk => ?_⟩, ⟨kept_below _ hb, fun C hC => ⟨C, heap_keep hC hb, rfl, fun _ _ => rfl⟩, fun _ h => .inl h, hm⟩⟩
  rw [World.size_alloc]
  rcases List.mem_append.1 hk with g | g
  · have := h5 k g; omega
  · simp at g; omega
theorem TAt.boxed {w w' : World} {kb o : Nat} {F : List Nat} {v : ThrV} {th : Thr} {B : Nat} {C : Array Value} {t : TypeId} (h : TAt w kb o F v th) (hg : w.grownBy w' (some B)) (hB : B ∈ F) (hC : w.heap[B]? = some (.cells C t (0, 0))) (t1 : (131 : Nat) ≠ t) (t2 : (3 : Nat) ≠ t) (t3 : (76 : Nat) ≠ t) (t4 : (46 : Nat) ≠ t) : TAt w' kb o F v th := by
  obtain ⟨⟨D, hD, hd⟩, h2, h3, h4, h5⟩ := h
  have hk : KeptF [B] w w' := kept_grown hg fun k e => .inl (by cases e; simp)
  have hne : kb ≠ B := fun e => by
    subst e
    rw [hC] at hD
    injection hD with hD
    injection hD with _ e2 _
    exact t1 e2.symm
  obtain ⟨_, o1, ⟨_, _, o2, _⟩, ⟨_, _, o3, _⟩⟩ := id h2
  refine ⟨⟨D, hk.heap hD (by simpa using hne), hd⟩, h2.keep hk (fun k e => by simp at e; subst e; exact hB) (More.refl _ _) (fun k e g => ?_), h3, h4, fun k e => Nat.lt_of_lt_of_le (h5 k e) hg.size⟩
  simp at g
  subst g
  rcases mem_rows.1 e with e | e | e
  · exact own_box o1 hC t2 e
  · exact own_box o2 hC t3 e
  · exact own_box o3 hC t4 e
theorem TStep.boxed {kb o : Nat} {w0 w w' : World} {F G : List Nat} {v0 v : ThrV} {B : Nat} (h : TStep kb o w0 F v0 w G v) (hg : w.grownBy w' (some B)) (hB : w0.heap.size ≤ B) (hne : kb ≠ B) : TStep kb o w0 F v0 w' G v := by
  refine ⟨⟨hg.os.trans h.kept.os, hg.tape.trans h.kept.tape, hg.output.trans h.kept.output, Nat.le_trans h.kept.size hg.size, fun k hk hn => ?_⟩, fun C hC => ?_, h.rows, h.more⟩
  · rw [hg.block k (by have := h.kept.size; omega) (fun e => by have := Option.some.inj e; omega), h.kept.block k hk hn]
  · obtain ⟨C', e1, e2, e3⟩ := h.box C hC
    exact ⟨C', by rw [hg.block kb (heap_lt e1) (fun e => hne (Option.some.inj e)), e1], e2, e3⟩

theorem answer_lit (e : Int) (w : World) : Calls Tryz.prog 87 #[.int .i64 e] w fun e' w' => e' = .returned (.agg #[.int .i64 e, .int .i64 0, .string ⟨#[]⟩]) ∧ Below w.heap.size w w' := answer_any e w

theorem zero_box (w : World) : (w.alloc (.cells #[.int .i64 0, .int .i64 0, .string ⟨#[]⟩] 35)).heap[w.heap.size]? = some (.cells #[.int .i64 0, .int .i64 0, .string ⟨#[]⟩] 35 (0, 0)) := heap_alloc_new w _
abbrev st3 (w : World) (b : Nat) (x0 x1 x2 : Value) : World := ((w.setCell ⟨b, 0, none⟩ x0).setCell ⟨b, 1, none⟩ x1).setCell ⟨b, 2, none⟩ x2
theorem st3_heap {w : World} {b : Nat} {t : TypeId} {y0 y1 y2 : Value} (x0 x1 x2 : Value) (h : w.heap[b]? = some (.cells #[y0, y1, y2] t (0, 0))) : (st3 w b x0 x1 x2).heap[b]? = some (.cells #[x0, x1, x2] t (0, 0)) := by
  have h0 : (w.setCell ⟨b, 0, none⟩ x0).heap[b]? = some (.cells #[x0, y1, y2] t (0, 0)) := by rw [heap_setCell h x0]; rfl
  have h1 : ((w.setCell ⟨b, 0, none⟩ x0).setCell ⟨b, 1, none⟩ x1).heap[b]? = some (.cells #[x0, x1, y2] t (0, 0)) := by rw [heap_setCell h0 x1]; rfl
  rw [heap_setCell h1 x2]; rfl
theorem st3_grown (w : World) (b : Nat) (x0 x1 x2 : Value) : w.grownBy (st3 w b x0 x1 x2) (some b) := grown_trans (grown_trans (grown_setCell w b 0 x0) (grown_setCell _ b 1 x1)) (grown_setCell _ b 2 x2)
theorem cells3 {w : World} {b : Nat} {t : TypeId} {y0 y1 y2 : Value} (h : w.heap[b]? = some (.cells #[y0, y1, y2] t (0, 0))) : w.cell? ⟨b, 0, none⟩ = some y0 ∧ w.cell? ⟨b, 1, none⟩ = some y1 ∧ w.cell? ⟨b, 2, none⟩ = some y2 ∧ w.frozen? ⟨b, 0, none⟩ = false ∧ w.frozen? ⟨b, 1, none⟩ = false ∧ w.frozen? ⟨b, 2, none⟩ = false :=
  ⟨heap_cell h 0, heap_cell h 1, heap_cell h 2, heap_frozen h 0, heap_frozen h 1, heap_frozen h 2⟩

/-- the end of a call of a thread whose reply lies in a box -/
theorem reply_end {kb o : Nat} {w w1 : World} {F G : List Nat} {v v1 : ThrV} {th1 : Thr} {y0 y1 y2 : Value} (x0 x1 : Int) (x2 : List UInt8) (hb : w1.heap[w.heap.size]? = some (.cells #[y0, y1, y2] 35 (0, 0))) (hF : w.heap.size ∈ G) (h1 : TAt w1 kb o G v1 th1) (hs : TStep kb o w F v w1 G v1) (hk : kb < w.heap.size) :
    (st3 w1 w.heap.size (.int .i64 x0) (.int .i64 x1) (.string ⟨x2.toArray⟩)).heap[w.heap.size]? = some (.cells #[.int .i64 x0, .int .i64 x1, .string ⟨x2.toArray⟩] 35 (0, 0)) ∧ TAt (st3 w1 w.heap.size (.int .i64 x0) (.int .i64 x1) (.string ⟨x2.toArray⟩)) kb o G v1 th1 ∧ TStep kb o w F v (st3 w1 w.heap.size (.int .i64 x0) (.int .i64 x1) (.string ⟨x2.toArray⟩)) G v1 :=
  ⟨st3_heap _ _ _ hb, h1.boxed (st3_grown _ _ _ _ _) hF hb (by decide) (by decide) (by decide) (by decide), hs.boxed (st3_grown _ _ _ _ _) (Nat.le_refl _) (by omega)⟩
end Go.Proofs.YtgpldlbmjakjhaaGreat
