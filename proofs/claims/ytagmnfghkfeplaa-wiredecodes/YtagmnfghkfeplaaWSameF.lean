/- parclosekeep.sameFrame answers true of two frames that are the same; codes answers true; pick answers a number below. -/
import Derived.Test.YtagmnfghkfeplaaWSameK
import Derived.Test.YtagmnfghkfeplaaWEncode
import Derived.Test.YtagmnfghkfeplaaWTakeM
import Derived.Laws.Rows
import Derived.Test.YtagmnfghkfeplaaPick
namespace Go.Proofs.Ytagmnfghkfeplaa
open Go.RowKit Go.Proofs.Parclose

theorem neq_cert (x : Crt) (w : World) : (binOp .neq 39 (.agg #[.int .i64 x.c, .int .i64 x.b, .int .i64 x.h, .int .i64 x.u]) (.agg #[.int .i64 x.c, .int .i64 x.b, .int .i64 x.h, .int .i64 x.u])).run Try.prog w = .ok (.bool false) w := by
  have u3 := Try.underlying3
  have hS : Try.prog.underlying 39 = some (.struct (Try.prog.fieldsOf 39)) := by kernel_rfl
  have hp : Try.prog.stoodInHeld 39 = false := by kernel_rfl
  rw [run_neq_struct, show (10000 : Nat) = 9999 + 1 from rfl, run_equalIn_agg w 9999 39 _ _ hS hp]
  simp only [Program.fieldsOf, Try.underlying39]
  go_simp

theorem guard_cert (op : BinOp) (a b : Operand) (x y : Array Value) (w : World) : (eqGuard op 39 a b (.agg x) (.agg y)).run Try.prog w = .ok () w :=
  run_eqGuard_agg w op 39 a b x y (by kernel_rfl)

set_option maxHeartbeats 1600000 in
theorem ksameFrame_eq (va vb : Value) (f : Frm) (w : World) (ha : FrmAt w va f) (hb : FrmAt w vb f) :
    Calls Try.prog 23 #[va, vb] w fun e w' => e = .returned (.bool true) ∧ Below w.heap.size w w' := by
  obtain ⟨vl, vg, vc, rfl, hl, hg, hc⟩ := ha
  obtain ⟨vl', vg', vc', rfl, hl', hg', hc'⟩ := hb
  have hm := mal_of_frm hl hg
  have hm' := mal_of_frm hl' hg'
  obtain ⟨pl, cl, rfl, _⟩ := id hl
  obtain ⟨pg, cg, rfl, _⟩ := id hg
  obtain ⟨pc, cc, rfl, _, _, hca⟩ := id hc
  obtain ⟨pl', cl', rfl, _⟩ := id hl'
  obtain ⟨pg', cg', rfl, _⟩ := id hg'
  obtain ⟨pc', cc', rfl, _, _, hcb⟩ := id hc'
  unfold frmV
  have hsm := fun wx (h : Below w.heap.size w wx) => ksameMail_eq _ _ f.mail wx (hm.below h) (hm'.below h)
  have hgd := guard_cert
  go_enter Try.func23, Try.ntmps23
  go_wp2
  go_loopw [5] (fun i wr => ∃ k : Nat, k ≤ f.certs.length ∧ i = .int .i64 k ∧ wr.heap[w.heap.size]? = some (.cells #[.int .i64 f.fr, .int .i64 f.to, .int .i64 f.seq, .bool f.ack, .int .i64 f.thread, .int .i64 f.mail.host, .int .i64 f.mail.thread, .slice pl f.mail.label.length cl, .slice pg f.mail.grants.length cg, .string ⟨f.mail.text.toArray⟩, .slice pc f.certs.length cc] 29 (0, 0)) ∧ wr.heap[w.heap.size + 1]? = some (.cells #[.int .i64 f.fr, .int .i64 f.to, .int .i64 f.seq, .bool f.ack, .int .i64 f.thread, .int .i64 f.mail.host, .int .i64 f.mail.thread, .slice pl' f.mail.label.length cl', .slice pg' f.mail.grants.length cg', .string ⟨f.mail.text.toArray⟩, .slice pc' f.certs.length cc'] 29 (0, 0)) ∧ Below w.heap.size w wr) (fun i _ => f.certs.length - (intOf i).toNat)
  case atStart => exact ⟨0, Nat.zero_le _, rfl, heap_alloc2_old w _ _, heap_alloc2_new w _ _, (below_box w _).alloc (by simp) _⟩
  case round =>
    obtain ⟨k, hk, rfl, hA, hB, hb⟩ := hrel
    have cA := heap_cell hA 10
    have cB := heap_cell hB 10
    by_cases hlt : k < f.certs.length
    · obtain ⟨ba, oa, rfl, hcA⟩ := hca (by omega)
      obtain ⟨bb, ob, rfl, hcB⟩ := hcb (by omega)
      obtain ⟨a1, a2, a3, a4⟩ := hcA.below hb k hlt
      obtain ⟨b1, b2, b3, b4⟩ := hcB.below hb k hlt
      have hI : (k : Int) < (f.certs.length : Int) := by omega
      have hne := fun wx => neq_cert f.certs[k] wx
      have HA := hid hA
      have HB := hid hB
      clear hca hcb hcA hcB hA hB hsm
      go_wp2_with fail
      go_quiet (fail)
      go_wp2
      go_roundw
      case rel => exact ⟨k + 1, hlt, by go_num, HA.out, HB.out, below_then hb (below_drewN _ _)⟩
      case measure => simp [intOf]; omega
    · have a0 := heap_cell hA 0
      have a1 := heap_cell hA 1
      have a2 := heap_cell hA 2
      have a3 := heap_cell hA 3
      have a4 := heap_cell hA 4
      have a5 := heap_cell hA 5
      have a6 := heap_cell hA 6
      have a7 := heap_cell hA 7
      have a8 := heap_cell hA 8
      have a9 := heap_cell hA 9
      have b0 := heap_cell hB 0
      have b1 := heap_cell hB 1
      have b2 := heap_cell hB 2
      have b3 := heap_cell hB 3
      have b4 := heap_cell hB 4
      have b5 := heap_cell hB 5
      have b6 := heap_cell hB 6
      have b7 := heap_cell hB 7
      have b8 := heap_cell hB 8
      have b9 := heap_cell hB 9
      clear hA hB hca hcb
      go_wp2_with (go_at_call 48; refine (hsm _ hb).mono ?_; rintro e w1 ⟨rfl, hw1⟩)
      go_ret
      exact ⟨ret_bool (by simp), below_then hb hw1⟩

def codeF : Frm := ⟨0, 1, 1, true, 0, zeroMal, []⟩
theorem codeF_good : frameE codeF = 0 := by decide
theorem codeF_at (w : World) : FrmAt w (.agg #[.int .i64 0, .int .i64 1, .int .i64 1, .bool true, .int .i64 0, .int .i64 0, .int .i64 0, .slice none 0 0, .slice none 0 0, .string ⟨#[]⟩, .slice none 0 0]) codeF :=
  ⟨.slice none 0 0, .slice none 0 0, .slice none 0 0, rfl, LabAt.nil _ _ _ (fun _ => rfl), IntsAt.nil _ _ _ (fun _ => rfl), CrtsAt.nil _ _ _ (fun _ => rfl)⟩

theorem kcodes_any (w : World) : Calls Try.prog 22 #[] w fun e w' => e = .returned (.bool true) ∧ Below w.heap.size w w' := by
  have henc := fun wx => encode_any _ codeF wx (codeF_at wx)
  have hl : (encE codeF).length = 9 := by unfold encE; rw [if_pos codeF_good]; rfl
  rw [codeF_good] at henc
  generalize encE codeF = x at *
  go_enter Try.func22, Try.ntmps22
  go_wp2_with (go_at_call 8; refine (henc _).mono ?_; rintro e w1 ⟨rfl, hw1⟩)
  go_ret
  exact ⟨ret_bool (by simp), hw1⟩

end Go.Proofs.Ytagmnfghkfeplaa
