/- The statement TrustPlain: with mail that names nothing every host is trusted, and nothing is shown. -/
import Derived.Test.YtichphepfmafjadTAsk
import Derived.Test.YtichphepfmafjadTMay
import Derived.Test.YtichphepfmafjadTShow
import Derived.Test.YtichphepfmafjadPick
namespace Go.Proofs.Ytichphepfmafjad
open Go.RowKit Go.Proofs.Parclose

theorem plain_names (x : List UInt8) : namesL ⟨0, 0, [], [], x⟩ = [] := by
  rw [List.eq_nil_iff_forall_not_mem]
  intro c hc
  rw [mem_namesL] at hc
  simp at hc
theorem plain_may (l : List Crt) (x : List UInt8) (h : Nat) (now : Int) (hh : (h : Int) < 4) : mayB l h ⟨0, 0, [], [], x⟩ now = true := by
  rw [mayB_iff, plain_names]
  exact ⟨decide_eq_true ⟨by omega, hh⟩, fun c hc => by cases hc⟩
theorem plain_show (l : List Crt) (x : List UInt8) : showL l ⟨0, 0, [], [], x⟩ = [] := by
  unfold showL
  rw [plain_names]
  simp

set_option maxRecDepth 100000 in
set_option maxHeartbeats 800000 in
theorem trustPlain_any (v : Value) (l : List Crt) (h now : Int) (x : List UInt8) (w : World) (hv : CrtsAt w v l) :
    Calls Try.prog 6 #[v, .int .i64 h, .int .i64 now, .string ⟨x.toArray⟩] w fun e w' => e = .returned (.bool true) ∧ Below w.heap.size w w' := by
  have hmal : ∀ wx, MalAt wx (malV ⟨0, 0, [], [], x⟩ (.slice none 0 0) (.slice none 0 0)) ⟨0, 0, [], [], x⟩ := fun wx => ⟨_, _, rfl, LabAt.nil _ _ _ (fun _ => rfl), IntsAt.nil _ _ _ (fun _ => rfl)⟩
  have hmay := fun (k : Nat) (hk : (k : Int) < 4) wx (hb : Below w.heap.size w wx) => may_any v _ l k _ now wx (hv.below hb) (hmal wx) (by simp)
  have hshow := fun wx (hb : Below w.heap.size w wx) => show_any v _ l _ wx (hv.below hb) (hmal wx) (by simp)
  simp only [plain_show] at hshow
  have HM := hid (fun (k : Nat) (hk : (k : Int) < 4) => plain_may l x k now hk)
  unfold malV at hmay hshow
  have HP := hid hmay
  have HS := hid hshow
  clear hmay hshow
  go_enter Try.func6, Try.ntmps6
  go_wp2_with (first
    | (go_at_call 22; refine (kpick_any _ _ _ (by omega) (by omega)).mono ?_; rintro e w1 ⟨k, rfl, hk, hq⟩; have hq2 := hq.symm; clear hq; subst hq2; have hmay := HP.out k hk; simp only [HM.out k hk] at hmay)
    | (go_at_call 10; refine (hmay _ (Below.refl _ _)).mono ?_; rintro e w2 ⟨rfl, hw2⟩)
    | (go_at_call 14; refine (HS.out _ hw2).mono ?_; rintro e w3 ⟨v3, rfl, hv3, hw3⟩; obtain ⟨p3, c3, rfl, _⟩ := id hv3; have hb3 := below_then hw2 hw3)
    | (go_at_call 19; refine (ktrusts_any _).mono ?_; rintro e w4 ⟨rfl, hw4⟩))
  go_ret
  exact ⟨rfl, below_then hb3 hw4⟩
end Go.Proofs.Ytichphepfmafjad
