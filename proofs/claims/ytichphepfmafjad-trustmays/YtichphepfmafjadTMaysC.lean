/- What the statement TrustMays needs: copies of mail, and quotients. -/
import Derived.Test.YtichphepfmafjadLAsk
import Derived.Test.YtichphepfmafjadRCerts
import Derived.Test.YtichphepfmafjadRMay
import Derived.Test.YtichphepfmafjadRShow
import Derived.Test.YtichphepfmafjadWCopyM
namespace Go.Proofs.Ytichphepfmafjad
open Go.RowKit Go.Proofs.Parclose

theorem box5 {w w' : World} {a b c d e : Value} {t : TypeId} (h : Below (w.alloc (.cells #[a, b, c, d, e] t)).heap.size (w.alloc (.cells #[a, b, c, d, e] t)) w') :
    w'.cell? ⟨w.heap.size, 0, none⟩ = some a ∧ w'.cell? ⟨w.heap.size, 1, none⟩ = some b ∧ w'.cell? ⟨w.heap.size, 2, none⟩ = some c ∧ w'.cell? ⟨w.heap.size, 3, none⟩ = some d ∧ w'.cell? ⟨w.heap.size, 4, none⟩ = some e :=
  ⟨box_cell h (by simp) 0, box_cell h (by simp) 1, box_cell h (by simp) 2, box_cell h (by simp) 3, box_cell h (by simp) 4⟩
theorem wf_lt {c : Int} (h : (Lit.int .i64 c).wf = true) : c < 9223372036854775808 := by
  simp [Lit.wf] at h
  omega
theorem wrap_quo {c : Int} (h0 : 0 ≤ c) (h1 : c < 9223372036854775808) : IntKind.i64.wrap (c.tdiv 20) = c / 20 := by
  rw [Int.tdiv_eq_ediv_of_nonneg h0, IntKind.wrap_i64]
  omega
theorem rcopy_at (v : Value) (m : Mal) (w : World) (hv : MalAt w v m) :
    Calls Try.prog 11 #[v] w fun e w' => ∃ pl cl pg cg, e = .returned (.agg #[.int .i64 m.host, .int .i64 m.thread, .slice pl m.label.length cl, .slice pg m.grants.length cg, .string ⟨m.text.toArray⟩]) ∧ MalAt w' (.agg #[.int .i64 m.host, .int .i64 m.thread, .slice pl m.label.length cl, .slice pg m.grants.length cg, .string ⟨m.text.toArray⟩]) m ∧ Below w.heap.size w w' := by
  refine (rcopyMail_any v m w hv).mono ?_
  rintro e w' ⟨v', rfl, h1, h2⟩
  have h3 := h1 w' (Since.refl _ _)
  obtain ⟨vl, vg, rfl, hl, hg⟩ := id h3
  obtain ⟨pl, cl, rfl, _⟩ := id hl
  obtain ⟨pg, cg, rfl, _⟩ := id hg
  exact ⟨pl, cl, pg, cg, rfl, h3, h2⟩

end Go.Proofs.Ytichphepfmafjad
