/- kernel.New and makeCategory. -/
import Derived.Test.YtichphepfmafjacQKKer
namespace Go.Proofs.Ytichphepfmafjac
open Go.RowKit Go.Proofs.Parclose

def nilV : ThrV := ⟨.slice none 0 0, .slice none 0 0, .slice none 0 0, .slice none 0 0⟩
theorem nil_thr (w : World) (F : List Nat) : ThrAt w F nilV zeroThr :=
  ⟨⟨LabAt.nil _ _ _ (fun _ => rfl), fun h => by cases h⟩, World.ownsRow_nil _ _ _ _, ⟨[], rfl, World.ownsRow_nil _ _ _ _, fun j h => by cases h⟩, ⟨[], rfl, World.ownsRow_nil _ _ _ _, fun j h => by cases h⟩⟩

theorem fresh_at (w : World) (host : Int) : KerAt (w.alloc (.cells #[.int .i64 host, .int .i64 0, .slice none 0 0, .slice none 0 0, .string ⟨#[]⟩, .slice none 0 0, .slice none 0 0, .slice none 0 0, .slice none 0 0, .string ⟨#[]⟩, .slice none 0 0, .slice none 0 0, .slice none 0 0, .slice none 0 0, .string ⟨#[]⟩, .slice none 0 0, .slice none 0 0, .slice none 0 0, .slice none 0 0, .string ⟨#[]⟩, .slice none 0 0, .slice none 0 0] 90)) w.heap.size [w.heap.size] [nilV, nilV, nilV, nilV] (freshKer host) := by
  refine ⟨rfl, rfl, ⟨_, heap_alloc_new w _, rfl, rfl, fun t h1 h2 => ?_⟩, fun t h1 h2 => ?_, fun t h1 k hk => ?_, fun s t hs ht _ k hk => ?_, by simp, fun k hk => by simp at hk; subst hk; simp⟩
  · match t, h1, h2 with
    | 0, _, _ => exact ⟨rfl, rfl, rfl, rfl, rfl⟩
    | 1, _, _ => exact ⟨rfl, rfl, rfl, rfl, rfl⟩
    | 2, _, _ => exact ⟨rfl, rfl, rfl, rfl, rfl⟩
    | 3, _, _ => exact ⟨rfl, rfl, rfl, rfl, rfl⟩
  · match t, h1, h2 with
    | 0, _, _ => exact nil_thr _ _
    | 1, _, _ => exact nil_thr _ _
    | 2, _, _ => exact nil_thr _ _
    | 3, _, _ => exact nil_thr _ _
  · match t, h1, hk with
    | 0, _, hk => cases hk
    | 1, _, hk => cases hk
    | 2, _, hk => cases hk
    | 3, _, hk => cases hk
  · match s, hs, hk with
    | 0, _, hk => cases hk
    | 1, _, hk => cases hk
    | 2, _, hk => cases hk
    | 3, _, hk => cases hk

set_option maxRecDepth 100000 in
theorem new_in (host : Int) (w : World) (h : 0 ≤ host ∧ host < 4) : Calls Try.prog 15 #[.int .i64 host] w fun e w' => e = .returned (.tuple #[.pointer (some ⟨w.heap.size, 0, none⟩), .int .i64 0]) ∧ KerAt w' w.heap.size [w.heap.size] [nilV, nilV, nilV, nilV] (freshKer host) ∧ Below w.heap.size w w' := by
  have h0 : ¬ (host < 0) := by omega
  have h4 : ¬ ((4 : Int) ≤ host) := by omega
  go_enter Try.func15, Try.ntmps15
  go_wp2
  go_ret2
  exact ⟨rfl, fresh_at w host, below_box _ _⟩
theorem new_out (host : Int) (w : World) (h : ¬ (0 ≤ host ∧ host < 4)) : Calls Try.prog 15 #[.int .i64 host] w fun e w' => e = .returned (.tuple #[.pointer none, .int .i64 2]) ∧ w' = w := by
  by_cases h0 : host < 0
  · go_enter Try.func15, Try.ntmps15
    go_wp2
    go_ret2
    exact ⟨rfl, rfl⟩
  · have h4 : (4 : Int) ≤ host := by omega
    go_enter Try.func15, Try.ntmps15
    go_wp2
    go_ret2
    exact ⟨rfl, rfl⟩

/-- the kernel's own two cells -/
theorem KerAt.head {w : World} {kb : Nat} {F : List Nat} {V : List ThrV} {K : Ker} (h : KerAt w kb F V K) : w.cell? ⟨kb, 0, none⟩ = some (.int .i64 K.host) ∧ w.cell? ⟨kb, 1, none⟩ = some (.int .i64 K.made) ∧ w.frozen? ⟨kb, 1, none⟩ = false := by
  obtain ⟨C, hC, c0, c1, _⟩ := h.box
  exact ⟨by rw [heap_cell hC, c0], by rw [heap_cell hC, c1], heap_frozen hC 1⟩

/-- one category more is made -/
theorem KerAt.madeMore {w : World} {kb : Nat} {F : List Nat} {V : List ThrV} {K : Ker} (h : KerAt w kb F V K) (n : Int) : KerAt (w.setCell ⟨kb, 1, none⟩ (.int .i64 n)) kb F V { K with made := n } := by
  obtain ⟨C, hC, c0, c1, hc⟩ := h.box
  have hk : KeptF [kb] w (w.setCell ⟨kb, 1, none⟩ (.int .i64 n)) := kept_set w kb _ _ (by simp)
  refine ⟨h.len, h.lenK, ⟨_, heap_setCell hC _, set_other c0 (by omega), set_same c1, fun t h1 h2 => ?_⟩, fun t h1 h2 => ?_, h.rows, h.apart, h.kbF, fun k hk => by simpa using h.fin k hk⟩
  · obtain ⟨d0, d1, d2, d3, d4⟩ := hc t h1 h2
    exact ⟨set_other d0 (by omega), set_other d1 (by omega), set_other d2 (by omega), set_other d3 (by omega), set_other d4 (by omega)⟩
  · exact (h.thr t h1 h2).keep hk (fun k e => by simp at e; subst e; exact h.kbF) (More.refl _ _) (fun k e g => by simp at g; subst g; exact (h.tat t h1 h2).kb_rows e)
end Go.Proofs.Ytichphepfmafjac
