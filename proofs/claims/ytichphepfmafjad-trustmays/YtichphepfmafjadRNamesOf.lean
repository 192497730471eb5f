/- The reference: namesOf answers a set of just the categories that a mail names. -/
import Derived.Test.YtichphepfmafjadRNames
import Derived.Test.YtichphepfmafjadWMem
import Derived.Test.YtichphepfmafjadPlainTrust
import Derived.Test.YtichphepfmafjadHeap0
namespace Go.Proofs.Ytichphepfmafjad
open Go.RowKit Go.Proofs.Parclose Go.Maps

/-- the numbers that are keys fit into 64 bits -/
def WfM (m : Mal) : Prop := WfL m.label ∧ ∀ z ∈ m.grants, (Lit.int .i64 z).wf = true

theorem two_boxes0 (w : World) (o p : Obj) : Below w.heap.size w ((w.alloc o).alloc p) := (below_box w o).alloc (by simp) _
theorem one_label {w : World} {va : Value} {a : List (Int × Int)} (ha : LabAt w va a) : LabsAt (w.alloc (.cells #[va] 24)) (.slice (some ⟨w.heap.size, 0, none⟩) 1 1) [a] := by
  refine ⟨_, _, 1, rfl, fun j hj => ?_⟩
  match j, hj with
  | 0, _ => exact ⟨va, by simp, ha.below (below_box _ _)⟩

set_option maxRecDepth 100000 in
set_option maxHeartbeats 1600000 in
theorem rnamesOf_any (v : Value) (m : Mal) (w : World) (hv : MalAt w v m) (hwf : WfM m) :
    Calls Try.prog 27 #[v] w fun e w' => ∃ D, e = .returned (.map (some (w.heap.size + 2))) ∧ w'.ownsMap Try.prog 3 (plainElem (H := Unit) Try.prog 4) (w.heap.size + 2) (m.label.length + m.grants.length) D ∧ TrueSet D (m.label.map (·.1) ++ m.grants) ∧ Below w.heap.size w w' := by
  obtain ⟨vl, vg, rfl, hl, hg⟩ := hv
  obtain ⟨pl, cl, rfl, _, hcapl, _⟩ := id hl
  obtain ⟨pg, cg, rfl, _, hcapg, hcg⟩ := id hg
  have hnames := rnames_true _ _ _ (one_label (hl.below (below_box w (.cells #[.int .i64 m.host, .int .i64 m.thread, .slice pl m.label.length cl, .slice pg m.grants.length cg, .string ⟨m.text.toArray⟩] 27)))) (by simp) (by
    intro l hl
    rw [List.mem_singleton.1 hl]
    exact hwf.1)
  simp only [size_box, List.flatMap_cons, List.flatMap_nil, List.append_nil, List.length_map] at hnames
  have HCG := hid hcg
  have HWF := hid hwf.2
  unfold malV
  clear hl hg hcg hwf
  go_enter Try.func27, Try.ntmps27
  go_wp2_with (go_at_call 36; refine hnames.mono ?_; rintro e w1 ⟨n, D, rfl, hn, hown, hD, hw1⟩; have x3 : w1.cell? ⟨w.heap.size, 3, none⟩ = some (.slice pg m.grants.length cg) := (by rw [hw1.cell (p := ⟨w.heap.size, 3, none⟩) (by simp; omega)]; simp); have HB1 := hid ((two_boxes0 w _ _).trans (hw1.mono (by omega))); have HO1 := hid hown; have HD1 := hid hD; subst hn; clear hw1 hown hD)
  go_loopw [13] (fun i wr => ∃ (k : Nat) (E : DataW Unit), k ≤ m.grants.length ∧ i = .int .i64 k ∧ wr.ownsMap Try.prog 3 (plainElem (H := Unit) Try.prog 4) (w.heap.size + 2) (m.label.length + k) E ∧ TrueSet E (m.label.map (·.1) ++ m.grants.take k) ∧ Below w.heap.size w wr)
    (fun i _ => m.grants.length - (intOf i).toNat)
  case atStart => exact ⟨0, D, Nat.zero_le _, rfl, HO1.out, by simpa using HD1.out, HB1.out⟩
  case round =>
    clear x3 HB1 HO1 HD1
    obtain ⟨k, E, hk, rfl, hown, hD, hb⟩ := hrel
    have HD := hid hD
    have HB := hid hb
    have hsz := hb.size
    by_cases hlt : k < m.grants.length
    · obtain ⟨b, o, rfl, hc⟩ := HCG.out (by omega)
      have hck := hc.below hb k hlt
      have hwk := HWF.out m.grants[k] (List.getElem_mem hlt)
      have HST : Hid (m.label.map (·.1) ++ m.grants.take (k + 1) = (m.label.map (·.1) ++ m.grants.take k) ++ [m.grants[k]]) := hid (by rw [List.take_succ_eq_append_getElem hlt, List.append_assoc])
      have HP := hid (HD.out.put m.grants[k])
      have hkey := keyOf_int_mk Try.underlying3 hwk
      clear hc hb hD
      go_wp2_with (at_mapUpdate; refine wpList_mapUpdate_own _ rfl _ _ _ 49 rfl 3 4 lawInt Try.underlying49 _ (w.heap.size + 2) (m.label.length + k) E rfl hown (by unfold maxLen; omega) _ _ _ rfl rfl hkey (.lit (.bool true)) [] (plainElem_bool Try.underlying4 true) ?_; intro w3 hown3 hgrow3)
      go_roundw
      case rel => exact ⟨k + 1, _, hlt, by go_num, hown3, by rw [HST.out]; exact HP.out, HB.out.grown hgrow3 hsz (fun j hj => by have := Option.some.inj hj; omega)⟩
      case measure => simp [intOf]; omega
    · have hkl : k = m.grants.length := by omega
      subst hkl
      rw [List.take_length] at hD
      go_wp2
      go_ret
      exact ⟨E, rfl, hown, hD, hb⟩
end Go.Proofs.Ytichphepfmafjad
