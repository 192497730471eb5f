/- What a kernel that is nil answers; and that a new kernel makes its first category. -/
import Derived.Test.YtichphepfmafjacQKThr0
namespace Go.Proofs.Ytichphepfmafjac
open Go.RowKit Go.Proofs.Parclose

def calV (c : Cal) (vl vg : Value) : Value := .agg #[.int .i64 c.kind, .int .i64 c.h, .int .i64 c.t, .int .i64 c.n, .int .i64 c.c, vl, vg, .string ⟨c.text.toArray⟩]
def CalAt (w : World) (v : Value) (c : Cal) : Prop := ∃ vl vg, v = calV c vl vg ∧ LabAt w vl c.label ∧ IntsAt w vg c.grants
theorem CalAt.below {w wr : World} {v : Value} {c : Cal} (h : CalAt w v c) (hb : Below w.heap.size w wr) : CalAt wr v c := by
  obtain ⟨vl, vg, e, h1, h2⟩ := h
  exact ⟨vl, vg, e, h1.below hb, h2.below hb⟩

set_option maxRecDepth 100000 in
theorem Deliver_none (t : Int) (v : Value) (m : Mal) (w : World) (hv : MalAt w v m) : Calls Try.prog 18 #[.pointer none, .int .i64 t, v] w fun e w' => e = .returned (.tuple #[]) ∧ Below w.heap.size w w' := by
  obtain ⟨vl, vg, rfl, ⟨pl, cl, rfl, _⟩, ⟨pg, cg, rfl, _⟩⟩ := hv
  unfold malV
  go_enter Try.func18, Try.ntmps18
  go_wp2_with (go_at_call 39; refine (thread_none t _).mono ?_; rintro e w1 ⟨rfl, rfl⟩)
  go_quiet (fail)
  go_wp2
  refine bodyPost_ret (results_none rfl _ _ _) rfl ⟨rfl, below_then (below_box _ _) (below_drewN _ _)⟩

theorem results_mail {fn : Func} {p u : Tmp} (h : fn.results = #[.cell p 35, .tmp u]) (tmps : Array Value) (w : World) (g : Nat) (cs : Array Value) (hc : cs.size = 5)
    (hp : tmps.getD p undef = .pointer (some ⟨g, 0, none⟩)) (hg : w.heap[g]? = some (.cells cs 35 (0, 0))) :
    (results fn tmps).run Try.prog w = .ok (.tuple #[.agg cs, tmps.getD u undef]) w := by
  have hl := run_loadVar_row (P := Try.prog) w g 35 35 cs (0, 0) _ hg Try.underlying35 rfl (by rw [hc]; kernel_rfl)
  rw [results_cell_tmp h, hp]
  simp [asAddr, hl]

set_option maxRecDepth 100000 in
theorem Letter_none (t : Int) (v : Value) (c : Cal) (w : World) (hv : CalAt w v c) : Calls Try.prog 24 #[.pointer none, .int .i64 t, v] w fun e w' => e = .returned (.tuple #[.agg #[.int .i64 0, .int .i64 0, .slice none 0 0, .slice none 0 0, .string ⟨#[]⟩], .int .i64 4]) ∧ Below w.heap.size w w' := by
  obtain ⟨vl, vg, rfl, ⟨pl, cl, rfl, _⟩, ⟨pg, cg, rfl, _⟩⟩ := hv
  unfold calV
  go_enter Try.func24, Try.ntmps24
  go_wp2_with (go_at_call 39; refine (thread_none t _).mono ?_; rintro e w1 ⟨rfl, rfl⟩)
  exact bodyPost_ret (results_mail rfl _ _ (w.heap.size + 1) _ rfl rfl (heap_alloc2_new w _ _)) rfl ⟨rfl, (below_box w _).alloc (by simp) _⟩

set_option maxRecDepth 100000 in
theorem Call_none (t : Int) (v : Value) (c : Cal) (w : World) (hv : CalAt w v c) : Calls Try.prog 19 #[.pointer none, .int .i64 t, v] w fun e w' => e = .returned (.agg #[.int .i64 4, .int .i64 0, .string ⟨#[]⟩]) ∧ Below w.heap.size w w' := by
  obtain ⟨vl, vg, rfl, ⟨pl, cl, rfl, _⟩, ⟨pg, cg, rfl, _⟩⟩ := hv
  unfold calV
  go_enter Try.func19, Try.ntmps19
  go_wp2_with (first | (go_at_call 39; refine (thread_none t _).mono ?_; rintro e w1 ⟨rfl, rfl⟩) | (go_at_call 49; refine (answer_lit _ _).mono ?_; rintro e w2 ⟨rfl, hw2⟩; have hb2 := heap_keep (heap_alloc2_new w _ _) hw2; obtain ⟨c0, c1, c2, f0, f1, f2⟩ := cells3 hb2; have HX2 := hid hb2; have HB := hid (below_then ((below_box w _).alloc (by simp) _) hw2); clear hb2 hw2))
  have hb := HB.out.grown (st3_grown w2 (w.heap.size + 1) (.int .i64 4) (.int .i64 0) (.string ⟨#[]⟩)) HB.out.size (fun k hk => by cases hk; omega)
  exact bodyPost_ret (results_cell_row rfl _ _ (w.heap.size + 1) 40 _ (0, 0) _ rfl (st3_heap (.int .i64 4) (.int .i64 0) (.string ⟨#[]⟩) HX2.out) Try.underlying40 rfl (by kernel_rfl)) rfl ⟨rfl, hb⟩

/-- a call of a thread that makes a category -/
abbrev catV : Value := .agg #[.int .i64 1, .int .i64 0, .int .i64 0, .int .i64 0, .int .i64 0, .slice none 0 0, .slice none 0 0, .string ⟨#[]⟩]

set_option maxRecDepth 100000 in
set_option maxHeartbeats 1600000 in
theorem Call_cat (kb t : Nat) (F : List Nat) (V : List ThrV) (K : Ker) (w : World) (h : KerAt w kb F V K) (h1 : t < V.length) (h2 : t < K.ths.length) (h4 : t < 4) (hs : K.ths[t].own.Pairwise (· < ·)) (hl : K.ths[t].own.length ≤ 8) (hh : 0 ≤ K.host ∧ K.host < 4) (hm : 0 ≤ K.made ∧ K.made ≤ 20) :
    Calls Try.prog 19 #[.pointer (some ⟨kb, 0, none⟩), .int .i64 t, catV] w fun e w' => e = .returned (repV (categoryL K t K.ths[t]).2) ∧ ∃ G V', KerAt w' kb G V' (categoryL K t K.ths[t]).1 ∧ KStep kb w F V w' G V' := by
  have HA := hid ((h.reserve (.cells #[.int .i64 1, .int .i64 0, .int .i64 0, .int .i64 0, .int .i64 0, .slice none 0 0, .slice none 0 0, .string ⟨#[]⟩] 33)).reserve (.cells #[.int .i64 0, .int .i64 0, .string ⟨#[]⟩] 40))
  have HS := hid ((KStep.reserve kb w F V (.cells #[.int .i64 1, .int .i64 0, .int .i64 0, .int .i64 0, .int .i64 0, .slice none 0 0, .slice none 0 0, .string ⟨#[]⟩] 33)).trans (KStep.reserve kb _ _ V (.cells #[.int .i64 0, .int .i64 0, .string ⟨#[]⟩] 40)))
  have hcat := makeCat_any kb t _ V K _ HA.out h1 h2 hs hl hh hm
  have HC := hid hcat
  clear h hcat
  generalize categoryL K t K.ths[t] = R at *
  unfold catV
  go_enter Try.func19, Try.ntmps19
  have HBX : Hid (((w.alloc (.cells #[.int .i64 1, .int .i64 0, .int .i64 0, .int .i64 0, .int .i64 0, .slice none 0 0, .slice none 0 0, .string ⟨#[]⟩] 33)).alloc (.cells #[.int .i64 0, .int .i64 0, .string ⟨#[]⟩] 40)).heap[w.heap.size + 1]? = some (.cells #[.int .i64 0, .int .i64 0, .string ⟨#[]⟩] 40 (0, 0))) := hid (heap_alloc2_new w _ _)
  go_wp2_with (first | (go_at_call 39; refine (thread_in kb t _ h4).mono ?_; rintro e w1 ⟨rfl, rfl⟩) | (go_at_call 50; refine HC.out.mono ?_; rintro e w2 ⟨rfl, G, V', hk2, hs2⟩; have hx2 := box_kstep hs2 HA.out HBX.out (by decide) (by decide) (by decide) (by decide); obtain ⟨c0, c1, c2, f0, f1, f2⟩ := cells3 hx2; have HX2 := hid hx2; have HK2 := hid hk2; have HS2 := hid hs2; unfold repV; clear hx2 hk2 hs2))
  have hin : w.heap.size + 1 ∈ G := HS2.out.more.1 _ (by simp)
  have hg := st3_grown w2 (w.heap.size + 1) (.int .i64 R.2.code) (.int .i64 R.2.n) (.string ⟨R.2.text.toArray⟩)
  exact bodyPost_ret (results_cell_row rfl _ _ (w.heap.size + 1) 40 _ (0, 0) _ rfl (st3_heap (.int .i64 R.2.code) (.int .i64 R.2.n) (.string ⟨R.2.text.toArray⟩) HX2.out) Try.underlying40 rfl (by kernel_rfl)) rfl ⟨rfl, G, V', HK2.out.boxed hg hin HX2.out (by decide) (by decide) (by decide) (by decide), (HS.out.trans HS2.out).boxed hg (by omega)⟩
end Go.Proofs.Ytichphepfmafjac
