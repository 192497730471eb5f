/- wire.putHead lays the head of a frame behind a list of bytes of the call, and turns nothing else. -/
import Derived.Test.YtagmnfghkfeplaaWPut
import Derived.Deep.RegionHeld3
namespace Go.Proofs.Ytagmnfghkfeplaa
open Go.RowKit Go.Proofs.Parclose

theorem Kept.drew (base : Nat) (w : World) : Kept base w w.drew := ⟨rfl, rfl, rfl, Nat.le_refl _, fun _ _ _ => rfl⟩
theorem BytesAt.drew {base : Nat} {w : World} {v : Value} {bs : List UInt8} (h : BytesAt base w v bs) : BytesAt base w.drew v bs := h

theorem heap2 (w : World) (A B : Obj) : ((w.alloc A).alloc B).drew.heap[w.heap.size + 1]? = some B := by
  have h := heap_alloc_new (w.alloc A) B
  rw [size_box] at h
  exact h
theorem kept2 {base : Nat} {w w1 : World} {A B : Obj} (h : Kept base ((w.alloc A).alloc B).drew w1) : Kept base (w.alloc A) w1 := (((Kept.refl _ _).alloc B).trans (Kept.drew _ _)).trans h
theorem kept2' {base : Nat} {w w1 : World} {A B : Obj} (h : Kept base ((w.alloc A).alloc B) w1) : Kept base (w.alloc A) w1 := ((Kept.refl _ _).alloc B).trans h
theorem kept1 {base : Nat} {w w1 : World} {A : Obj} (h : Kept base (w.alloc A) w1) : Kept base w w1 := ((Kept.refl _ _).alloc A).trans h

/-- put, of numbers that were just laid -/
theorem put_new (base : Nat) (v : Value) (bs : List UInt8) (l : List Int) (n : Nat) (w : World) (hown : BytesAt base w v bs) (hbase : base ≤ w.heap.size) (hC : w.heap[n]? = some (.cells (l.map (Value.int .i64)).toArray 3 (0, 0))) (hn : bs.length + l.length ≤ 100000) :
    Calls Try.prog 26 #[v, .slice (some ⟨n, 0, none⟩) l.length l.length] w fun e w' => ∃ v', e = .returned v' ∧ BytesAt base w' v' (bs ++ l.map byteL) ∧ Kept base w w' := by
  refine put_any base v _ bs l w hown hbase (fun wr hk => ⟨_, _, rfl, ⟨Nat.le_refl _, fun h => by cases h⟩, by omega, fun _ => ⟨_, _, rfl, fun j hj => ?_⟩⟩) hn
  rw [Nat.zero_add, hk.cell (p := ⟨n, j, none⟩) hC (by decide)]
  simp [World.cell?, hC, hj]

theorem bytes_step {base : Nat} {w : World} {v : Value} {bs : List UInt8} {l : List Int} (h : BytesAt base w v (bs ++ l.map byteL)) {xs : List UInt8} (e : l.map byteL = xs) : BytesAt base w v (bs ++ xs) := by rw [← e]; exact h

set_option maxHeartbeats 1600000 in
theorem putHead_any (base : Nat) (v vf : Value) (bs : List UInt8) (k : Int) (f : Frm) (w : World) (hown : BytesAt base w v bs) (hbase : base ≤ w.heap.size) (hv : FrmAt w vf f) (hn : bs.length ≤ 1000) :
    Calls Try.prog 25 #[v, .int .i64 k, vf] w fun e w' => ∃ v', e = .returned v' ∧ BytesAt base w' v' (bs ++ headL k f) ∧ Kept base w w' := by
  obtain ⟨vl, vg, vc, rfl, ⟨pl, cl, rfl, _⟩, ⟨pg, cg, rfl, _⟩, ⟨pc, cc, rfl, _⟩⟩ := hv
  unfold frmV
  have HH : Hid (bs ++ [k, f.fr, f.to].map byteL ++ timeL f.seq = bs ++ headL k f) := hid (by simp [headL])
  go_enter Try.func25, Try.ntmps25
  go_wp2
  go_region_held3 (fun w' => w'.cell? ⟨w.heap.size, 0, none⟩ = some (.int .i64 f.fr) ∧ w'.cell? ⟨w.heap.size, 1, none⟩ = some (.int .i64 f.to) ∧ w'.cell? ⟨w.heap.size, 2, none⟩ = some (.int .i64 f.seq)) (go_keep)
    (first
      | (go_at_call 26; refine (put_new base _ bs [k, f.fr, f.to] _ _ (BytesAt.drew ((hown.alloc _).alloc _)) ?_ (heap2 _ _ _) ?_).mono ?_; (simp; omega); (simp; omega); rintro e w1 ⟨v1, rfl, hown1, hk1⟩; have hk3 := kept2 hk1; have hd0 := kept_box hk3 (by decide) 0; have hd1 := kept_box hk3 (by decide) 1; have hd2 := kept_box hk3 (by decide) 2; clear hk1)
      | (go_at_call 49; refine (putTime_any base _ _ _ _ hown1 ?_ ?_).mono ?_; (have := hk3.size; simp at this; omega); (simp; omega); rintro e w2 ⟨v2, rfl, hown2, hk2⟩; have hk6 := hk3.trans hk2; have hd0 := kept_box hk6 (by decide) 0; have hd1 := kept_box hk6 (by decide) 1; have hd2 := kept_box hk6 (by decide) 2; have hk5 := kept1 hk6; clear hk2 hk3 hk6))
  all_goals
    go_wp2
    go_ret
    exact ⟨_, rfl, by rw [← HH.out]; exact hown2, hk5⟩
end Go.Proofs.Ytagmnfghkfeplaa
