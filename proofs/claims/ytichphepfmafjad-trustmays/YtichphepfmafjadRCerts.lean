/- parcloselaw.certs answers the same certs in a list of its own; the reference's SameCerts true of two lists that are the same. -/
import Derived.Test.YtichphepfmafjadTConcat
namespace Go.Proofs.Ytichphepfmafjad
open Go.RowKit Go.Proofs.Parclose

theorem tneq_cert (x : Crt) (w : World) : (binOp .neq 39 (.agg #[.int .i64 x.c, .int .i64 x.b, .int .i64 x.h, .int .i64 x.u]) (.agg #[.int .i64 x.c, .int .i64 x.b, .int .i64 x.h, .int .i64 x.u])).run Try.prog w = .ok (.bool false) w := by
  have u3 := Try.underlying3
  have hS : Try.prog.underlying 39 = some (.struct (Try.prog.fieldsOf 39)) := by kernel_rfl
  have hp : Try.prog.stoodInHeld 39 = false := by kernel_rfl
  rw [run_neq_struct, show (10000 : Nat) = 9999 + 1 from rfl, run_equalIn_agg w 9999 39 _ _ hS hp]
  simp only [Program.fieldsOf, Try.underlying39]
  go_simp

set_option maxHeartbeats 800000 in
theorem rsameCerts_eq (va vb : Value) (l : List Crt) (w : World) (ha : CrtsAt w va l) (hb : CrtsAt w vb l) :
    Calls Try.prog 13 #[va, vb] w fun e w' => e = .returned (.bool true) ∧ Below w.heap.size w w' := by
  obtain ⟨p, cap, rfl, _, _, hca⟩ := ha
  obtain ⟨q, cap', rfl, _, _, hcb⟩ := hb
  have hgd := guard_cert
  go_enter Try.func13, Try.ntmps13
  go_wp2
  go_loopw [13] (fun i wr => ∃ k n : Nat, k ≤ l.length ∧ i = .int .i64 k ∧ wr = w.drewN n) (fun i _ => l.length - (intOf i).toNat)
  case atStart => exact ⟨0, 0, Nat.zero_le _, rfl, rfl⟩
  case round =>
    obtain ⟨k, n, hk, rfl, rfl⟩ := hrel
    by_cases hlt : k < l.length
    · obtain ⟨ba, oa, rfl, hcA⟩ := hca (by omega)
      obtain ⟨bb, ob, rfl, hcB⟩ := hcb (by omega)
      obtain ⟨a1, a2, a3, a4⟩ := hcA k hlt
      obtain ⟨b1, b2, b3, b4⟩ := hcB k hlt
      have hI : (k : Int) < (l.length : Int) := by omega
      have hne := fun wx => tneq_cert l[k] wx
      clear hca hcb hcA hcB
      go_wp2_with fail
      go_quiet (fail)
      go_wp2
      go_roundw
      case rel => exact ⟨k + 1, _, hlt, by go_num, by first | rfl | (rw [World.drewN_drewN])⟩
      case measure => simp [intOf]; omega
    · go_wp2
      go_ret
      exact ⟨rfl, below_drewN _ _⟩

set_option maxRecDepth 100000 in
theorem lcerts_any (v : Value) (l : List Crt) (w : World) (hv : CrtsAt w v l) :
    Calls Try.prog 8 #[v] w fun e w' => ∃ v', e = .returned v' ∧ CrtsAt w' v' l ∧ Below w.heap.size w w' := by
  have hl := hv.len
  obtain ⟨p, cap, rfl, _⟩ := id hv
  go_enter Try.func8, Try.ntmps8
  go_wp2_with (at_builtin; refine wpList_append_crts rfl _ _ rfl w.heap.size _ 0 [] rfl (World.ownsRow_nil _ _ _ _) _ l rfl hv (by omega) (Nat.le_refl _) ?_; intro v2 w2 hown2 hgrow2)
  go_ret
  rw [Nat.zero_add, List.nil_append] at hown2
  exact ⟨_, rfl, crts_of_own hown2 hl, (Below.refl _ _).grown hgrow2 (Nat.le_refl _) (fun k hk => by cases hk)⟩
end Go.Proofs.Ytichphepfmafjad
