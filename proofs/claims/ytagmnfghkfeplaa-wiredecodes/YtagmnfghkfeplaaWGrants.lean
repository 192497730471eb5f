/- wire.areGrants and hasAnything answer what the document says, and turn nothing. -/
import Derived.Test.YtagmnfghkfeplaaWHost
import Derived.Test.YtagmnfghkfeplaaWGrant
namespace Go.Proofs.Ytagmnfghkfeplaa
open Go.RowKit Go.Proofs.Parclose

set_option maxHeartbeats 1600000 in
theorem hasAny_any (v : Value) (m : Mal) (w : World) (hv : MalAt w v m) :
    Calls Try.prog 50 #[v] w fun e w' => e = .returned (.bool (!emptyB m)) ∧ Below w.heap.size w w' := by
  obtain ⟨vl, vg, rfl, ⟨pl, cl, rfl, _⟩, ⟨pg, cg, rfl, _⟩⟩ := hv
  unfold emptyB malV
  obtain ⟨mh, mt, ml, mg, mx⟩ := m
  have hh : (mh != 0) = !(mh == 0) := rfl
  have ht : (mt != 0) = !(mt == 0) := rfl
  cases h1 : (mh == 0) with
  | false =>
    rw [h1] at hh
    go_enter Try.func50, Try.ntmps50
    go_wp2
    go_ret
    exact ⟨ret_bool (by simp), below_box _ _⟩
  | true =>
    rw [h1] at hh
    cases h2 : (mt == 0) with
    | false =>
      rw [h2] at ht
      go_enter Try.func50, Try.ntmps50
      go_wp2
      go_ret
      exact ⟨ret_bool (by simp), below_box _ _⟩
    | true =>
      rw [h2] at ht
      cases ml with
      | cons x r =>
        go_enter Try.func50, Try.ntmps50
        go_wp2
        go_ret
        exact ⟨ret_bool (by simp), below_box _ _⟩
      | nil =>
        cases mg with
        | cons x r =>
          go_enter Try.func50, Try.ntmps50
          go_wp2
          go_ret
          exact ⟨ret_bool (by simp), below_box _ _⟩
        | nil =>
          cases mx with
          | cons x r =>
            go_enter Try.func50, Try.ntmps50
            go_wp2
            go_ret
            exact ⟨ret_bool (by simp), below_box _ _⟩
          | nil =>
            go_enter Try.func50, Try.ntmps50
            go_wp2
            go_ret
            exact ⟨ret_bool (by simp), below_box _ _⟩
end Go.Proofs.Ytagmnfghkfeplaa
