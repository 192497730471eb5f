/- kernel.Deliver of mail that comes into the box: the walk. -/
import Derived.Test.YtpdijobakfpnbaaQKTake
import Derived.Test.YtpdijobakfpnbaaQPlain
namespace Go.Proofs.Ytpdijobakfpnbaa
open Go.RowKit Go.Proofs.Parclose
theorem laid5 (w : World) (a b c d e : Value) (t : TypeId) : ∀ j u, [a, b, c, d, e][j]? = some u → (w.alloc (.cells #[a, b, c, d, e] t)).cell? ((⟨w.heap.size, 0, none⟩ : Addr).add j) = some u := by
 intro j u hu
 rw [WideShapes.add_plain, Nat.zero_add, World.cell?_alloc_mark]
 simpa using hu
set_option maxRecDepth 100000 in
set_option maxHeartbeats 6400000 in
theorem Qer (kb t : Nat) (F : List Nat) (V : List ThrV) (K : Ker) (m : Mal) (vm : Value) (w : World) (h : KerAt w kb F V K) (h1 : t < V.length) (h2 : t < K.ths.length) (hm : MalAt w vm m) (hl : K.ths[t].own.length ≤ 1000) (he : mailE m = 0) (hf : flowsL m.label K.ths[t].label K.ths[t].own = true) (hroom : K.ths[t].mails.length < 6) :
 Calls Try.prog 10 #[.pointer (some ⟨kb, 0, none⟩), .int .i64 t, vm] w fun e w' => e = .returned (.tuple #[]) ∧ ∃ G V', KerAt w' kb G V' { K with ths := K.ths.set t { K.ths[t] with mails := K.ths[t].mails ++ [m] } } ∧ KStep kb w F V w' G V' := by
 have h4 : t < 4 := by rw [← h.len]; exact h1
 have hT := h.tat t h1 h2
 obtain ⟨t0, t1, t2, t3, t4⟩ := hT.cells
 obtain ⟨ptl, ctl, hvl, _⟩ := id hT.thr.1.1
 obtain ⟨po, co, hvo⟩ := ownV hT.thr.2.1
 obtain ⟨vs, hvs, hmr, hros⟩ := id hT.thr.2.2.2
 obtain ⟨pm, cm, hvm⟩ := Qi hmr
 have hxl : m.text.length ≤ 64 := (Qdm he).2.2
 have hmal := fun wx (hb : Below w.heap.size w wx) => Qao vm m wx (hm.below hb)
 rw [he] at hmal
 have HM := hid hm
 obtain ⟨vl, vg, rfl, hla, hgr⟩ := hm
 have hlen := hla.len
 have hlen2 := hgr.len
 have hfl := fun wx (hb : Below w.heap.size w wx) => QS _ _ _ m.label K.ths[t].label K.ths[t].own wx (hla.below hb) (hT.thr.1.1.below hb) ((QV hT.thr.2.1 hl).below hb)
 rw [hf, hvl, hvo] at hfl
 obtain ⟨pl, cl, rfl, _⟩ := id hla
 obtain ⟨pg, cg, rfl, _⟩ := id hgr
 rw [hvl] at t0
 rw [hvo] at t1
 rw [hvm] at t4
 have hkb := h.fin kb h.kbF
 have s0 := fun ob => Qar ob t0
 have s1 := fun ob => Qar ob t1
 have HVM := hid hvm
 have HOB := hid hmr
 have HVS := hid hvs
 have HROS := hid hros
 have HT := hid hT
 have HK := hid h
 unfold malV at hmal HM ⊢
 clear hT h hla hgr hmr hvm hvs hros
 generalize hth : K.ths[t] = th at *
 have HTH := hid hth
 clear hth
 go_enter Try.func10, Try.ntmps10
 go_wp2_with (go_at_call 17; refine (Qz kb t _ h4).mono ?_; rintro e w1 ⟨rfl, rfl⟩)
 have HW0 := hid (Below.refl (w.alloc (.cells #[.int .i64 m.host, .int .i64 m.thread, .slice pl m.label.length cl, .slice pg m.grants.length cg, .string ⟨m.text.toArray⟩] 42)).heap.size (w.alloc (.cells #[.int .i64 m.host, .int .i64 m.thread, .slice pl m.label.length cl, .slice pg m.grants.length cg, .string ⟨m.text.toArray⟩] 42)))
 have HB0 := hid (Qe w (.cells #[.int .i64 m.host, .int .i64 m.thread, .slice pl m.label.length cl, .slice pg m.grants.length cg, .string ⟨m.text.toArray⟩] 42))
 have HT0 := hid t0
 have HT1 := hid t1
 have HT4 := hid t4
 go_region_held3 (fun w' => (w'.cell? ⟨w.heap.size, 0, none⟩ = some (.int .i64 m.host) ∧ w'.cell? ⟨w.heap.size, 1, none⟩ = some (.int .i64 m.thread) ∧ w'.cell? ⟨w.heap.size, 2, none⟩ = some (.slice pl m.label.length cl) ∧ w'.cell? ⟨w.heap.size, 3, none⟩ = some (.slice pg m.grants.length cg) ∧ w'.cell? ⟨w.heap.size, 4, none⟩ = some (.string ⟨m.text.toArray⟩)) ∧ w'.cell? ⟨kb, 2 + t * 5, none⟩ = some (.slice ptl th.label.length ctl) ∧ w'.cell? ⟨kb, 2 + t * 5 + 1, none⟩ = some (.slice po th.own.length co)) (go_keep)
  (first
   | (go_at_call 30; refine (hmal _ HB0.out.drew).mono ?_; rintro e w2 ⟨rfl, hwd⟩; have hw := kundrew hwd; have HW2 := hid (Qd HW0.out hw); have HB2 := hid (Qd HB0.out hw); obtain ⟨z0, z1, z2, z3, z4⟩ := box5k HW2.out; have u0 := HB2.out.cell (Qb HT0.out); rw [HT0.out] at u0; have u1 := HB2.out.cell (Qb HT1.out); rw [HT1.out] at u1; clear hw hwd)
   | (go_at_call 31; refine (hfl _ HB2.out).mono ?_; rintro e w3 ⟨rfl, hw⟩; have HW3 := hid (Qd HW2.out hw); have HB3 := hid (Qd HB2.out hw); obtain ⟨y0, y1, y2, y3, y4⟩ := box5k HW3.out; have v0 := HB3.out.cell (Qb HT0.out); rw [HT0.out] at v0; have v1 := HB3.out.cell (Qb HT1.out); rw [HT1.out] at v1; clear hw))
 all_goals
  have q4 := HB3.out.cell (Qb HT4.out)
  rw [HT4.out] at q4
  have HT3 := hid (HT.out.below HB3.out)
  have hb3 := HB3.out
  have hroom2 : ((th.mails.length : Int)) < 6 := by omega
  have hdec : (86 : Nat) ≠ 42 := by decide
  clear v0 v1 t0 t1 t4 hmal hfl s0 s1
  go_wp2
  go_region_law ((first
   | (refine Qa8 (by rfl) (.tmp 42) #[42] (by rfl) _ m (by rfl) (HM.out.below hb3.drew) hxl ?_; intro p6 c6 q6 d6 w6 hownL hownG hw6d; have hw6 := kundrew hw6d; have z4 := hw6.cell (Qb q4); rw [q4] at z4; have hlt6 : kb < w6.heap.size := Qb z4; have HOWL := hid hownL; have HOWG := hid hownG; have HW6 := hid hw6; clear hownL hownG hw6d hw6)
   | (refine QfE (by rfl) (.tmp 41) (.tmp 44) (by rfl) (.slice pm th.mails.length cm) th.mails.length (flatM vs th.mails) (by rfl) (by rw [← HVM.out]; exact Ql (Ql HOB.out (Qd hb3 HW6.out)) (Qe w6 _)) w6.heap.size (.int .i64 m.host) (.int .i64 m.thread) (.slice p6 m.label.length c6) (.slice q6 m.grants.length d6) (.string ⟨m.text.toArray⟩) (by rfl) (laid5 w6 _ _ _ _ _ _) (by intro u hu; simp at hu; rcases hu with rfl | rfl | rfl | rfl | rfl <;> rfl) (by omega) ?_; intro v7 w7 hown7 hg7 hwh7; obtain ⟨p7, c7, rfl⟩ := Qi hown7; have HT6 := hid ((HT3.out.below HW6.out).below (Qe w6 (.cells #[.int .i64 m.host, .int .i64 m.thread, .slice p6 m.label.length c6, .slice q6 m.grants.length d6, .string ⟨m.text.toArray⟩] 42))); have haf := HT6.out.after hg7 (fun k hk => mem_rows.2 (.inr (.inr (by rw [HVM.out]; exact hk)))) HT6.out.cells.2.2.2.2; obtain ⟨y5, yf⟩ := haf; have HOWN7 := hid hown7; have HG7 := hid hg7; have HWH7 := hid hwh7; clear hown7 hg7 hwh7)))
  all_goals
   have hmails := QeR (m := m) HVS.out (Ql (Ql HOB.out (Qd hb3 HW6.out)) (Qe w6 (.cells #[.int .i64 m.host, .int .i64 m.thread, .slice p6 m.label.length c6, .slice q6 m.grants.length d6, .string ⟨m.text.toArray⟩] 42))) (fun j g1 g2 => ⟨(HROS.out j g1 g2).1.keep (Qk _ (Qd (Qd hb3 HW6.out) (Qe w6 _))) (More.refl _ _), (HROS.out j g1 g2).2.keep (Qk _ (Qd (Qd hb3 HW6.out) (Qe w6 _))) (More.refl _ _)⟩) (fun k e => HT6.out.rows k (mem_rows.2 (.inr (.inr e)))) (Ql HOWL.out (Qe w6 _)) (Ql HOWG.out (Qe w6 _)) hlen hlen2 (fun k e => HT3.out.fin k e) HOWN7.out (by rw [HVM.out]; exact HG7.out) (by rw [HVM.out]; exact HWH7.out)
   have hst := HT6.out.mails (by rw [HVM.out]; exact HG7.out) hmails (by rw [HVM.out]; exact HWH7.out)
   have HST := hid hst
   clear hst hmails
   go_wp2
   go_end0
   exact ⟨rfl, _, _, ((HK.out.below (Qd (Qd hb3 HW6.out) (Qe w6 _))).step h1 h2 HST.out.1 HST.out.2), (KStep.below (Qd (Qd hb3 HW6.out) (Qe w6 _))).trans (KStep.of h1 HST.out.2)⟩
theorem Qes (kb : Nat) (t : Int) (v : Value) (m : Mal) (w : World) (hv : MalAt w v m) (ht : ¬ (0 ≤ t ∧ t < 4)) : Calls Try.prog 10 #[.pointer (some ⟨kb, 0, none⟩), .int .i64 t, v] w fun e w' => e = .returned (.tuple #[]) ∧ Below w.heap.size w w' := by
 obtain ⟨vl, vg, rfl, ⟨pl, cl, rfl, _⟩, ⟨pg, cg, rfl, _⟩⟩ := hv
 unfold malV
 go_enter Try.func10, Try.ntmps10
 go_wp2_with (go_at_call 17; refine (QaE kb t _ ht).mono ?_; rintro e w1 ⟨rfl, rfl⟩)
 go_quiet (fail)
 go_wp2
 refine bodyPost_ret (results_none rfl _ _ _) rfl ⟨rfl, Qd (Qe _ _) (Qq _ _)⟩
theorem Qev (kb : Nat) (t : Int) (F : List Nat) (V : List ThrV) (K : Ker) (m : Mal) (vm : Value) (w : World) (h : KerAt w kb F V K) (hg : GoodK K) (hm : MalAt w vm m) :
 Calls Try.prog 10 #[.pointer (some ⟨kb, 0, none⟩), .int .i64 t, vm] w fun e w' => e = .returned (.tuple #[]) ∧ ∃ G V', KerAt w' kb G V' (deliverL K t m) ∧ KStep kb w F V w' G V' := by
 have hV : V.length = 4 := h.len
 cases hth : getT K t with
 | none =>
  have e : deliverL K t m = K := by unfold deliverL; rw [hth]
  rw [e]
  exact (Qes kb t vm m w hm (QaB hg.four hth)).mono fun _ _ ⟨h1, h2⟩ => ⟨h1, _, _, h.below h2, KStep.below h2⟩
 | some th =>
  obtain ⟨n, rfl, hn, rfl⟩ := Q5 hth
  have e : deliverL K n m = { K with ths := K.ths.set n (boxL K.ths[n] m) } := by unfold deliverL; rw [hth]; exact QC K n _
  rw [e]
  have h1 : n < V.length := by rw [hV]; have := hg.four; omega
  have gt := hg.ths _ (List.getElem_mem hn)
  have hown : K.ths[n].own.length ≤ 1000 := Nat.le_trans gt.own (by decide)
  by_cases he : mailE m = 0
  rotate_left
  · rw [QdP he, Q1 hn]
    exact (Qeu kb n m vm w (by rw [← hV]; exact h1) hm he).mono fun _ _ ⟨h1, h2⟩ => ⟨h1, _, _, h.below h2, KStep.below h2⟩
  cases hf : flowsL m.label K.ths[n].label K.ths[n].own with
  | false =>
   rw [QdO hf, Q1 hn]
   exact (Qet kb n F V K m vm w h h1 hn hm hown he hf).mono fun _ _ ⟨h1, h2⟩ => ⟨h1, _, _, h.below h2, KStep.below h2⟩
  | true =>
   by_cases hr : 6 ≤ K.ths[n].mails.length
   · rw [Qdj hr, Q1 hn]
     exact (QdI kb n F V K m vm w h h1 hn hm hown he hf hr).mono fun _ _ ⟨h1, h2⟩ => ⟨h1, _, _, h.below h2, KStep.below h2⟩
   · have eb : boxL K.ths[n] m = { K.ths[n] with mails := K.ths[n].mails ++ [m] } := by unfold boxL; rw [if_pos ⟨he, hf, by omega⟩]
     rw [eb]
     exact Qer kb n F V K m vm w h h1 hn hm hown he hf (by omega)
def ObjsNew (w : World) (B : Nat) (v : Value) (os : List Obt) : Prop :=
 ∃ vs, vs.length = os.length ∧ w.ownsRow B 80 2 v os.length (flatO vs os) ∧ ∀ j (h1 : j < vs.length) (h2 : j < os.length), w.ownsRow B 86 2 vs[j] os[j].label.length (flat2 os[j].label)
def MailsNew (w : World) (B : Nat) (v : Value) (ms : List Mal) : Prop :=
 ∃ vs : List (Value × Value), vs.length = ms.length ∧ w.ownsRow B 42 5 v ms.length (flatM vs ms) ∧ ∀ j (h1 : j < vs.length) (h2 : j < ms.length), w.ownsRow B 86 2 vs[j].1 ms[j].label.length (flat2 ms[j].label) ∧ w.ownsRow B 3 1 vs[j].2 ms[j].grants.length (flat1 ms[j].grants)
structure ThrNew (w : World) (B : Nat) (vl vo vj vm : Value) (th : Thr) : Prop where
 lab : w.ownsRow B 86 2 vl th.label.length (flat2 th.label)
 own : w.ownsRow B 3 1 vo th.own.length (flat1 th.own)
 objs : ObjsNew w B vj th.objs
 mails : MailsNew w B vm th.mails
def Far (w : World) (B : Nat) (R : List Nat) : Prop := ∀ k ∈ R, k < B ∨ ∃ C t, w.heap[k]? = some (.cells C t (0, 0)) ∧ (86 : Nat) ≠ t ∧ (3 : Nat) ≠ t ∧ (80 : Nat) ≠ t ∧ (42 : Nat) ≠ t
theorem Qfx {w : World} {B : Nat} {R : List Nat} (h : ∀ k ∈ R, k < B) : Far w B R := fun k hk => .inl (h k hk)
theorem Qds {w w' : World} {B : Nat} {R : List Nat} {v : Value} {n : Nat} {xs : List Value} {s : Nat} (h : w.ownsRow B 86 s v n xs) (hf : Far w B R) (hk : KeptF R w w') : w'.ownsRow B 86 s v n xs :=
 QM h hk fun k e g => by
  rcases hf k g with hlt | ⟨C, t, hC, h1, _⟩
  · have := QE h e; omega
  · exact Qn h hC h1 e
theorem Qfy {w w' : World} {B : Nat} {R : List Nat} {v : Value} {n : Nat} {xs : List Value} {s : Nat} (h : w.ownsRow B 3 s v n xs) (hf : Far w B R) (hk : KeptF R w w') : w'.ownsRow B 3 s v n xs :=
 QM h hk fun k e g => by
  rcases hf k g with hlt | ⟨C, t, hC, _, h1, _⟩
  · have := QE h e; omega
  · exact Qn h hC h1 e
theorem Qg0 {w w' : World} {B : Nat} {R : List Nat} {v : Value} {n : Nat} {xs : List Value} {s : Nat} (h : w.ownsRow B 80 s v n xs) (hf : Far w B R) (hk : KeptF R w w') : w'.ownsRow B 80 s v n xs :=
 QM h hk fun k e g => by
  rcases hf k g with hlt | ⟨C, t, hC, _, _, h1, _⟩
  · have := QE h e; omega
  · exact Qn h hC h1 e
theorem QgC {w w' : World} {B : Nat} {R : List Nat} {v : Value} {n : Nat} {xs : List Value} {s : Nat} (h : w.ownsRow B 42 s v n xs) (hf : Far w B R) (hk : KeptF R w w') : w'.ownsRow B 42 s v n xs :=
 QM h hk fun k e g => by
  rcases hf k g with hlt | ⟨C, t, hC, _, _, _, h1⟩
  · have := QE h e; omega
  · exact Qn h hC h1 e
theorem ObjsNew.keep {w w' : World} {B : Nat} {R : List Nat} {v : Value} {os : List Obt} (h : ObjsNew w B v os) (hf : Far w B R) (hk : KeptF R w w') : ObjsNew w' B v os := by
 obtain ⟨vs, h1, h2, h3⟩ := h
 exact ⟨vs, h1, Qg0 h2 hf hk, fun j g1 g2 => Qds (h3 j g1 g2) hf hk⟩
theorem MailsNew.keep {w w' : World} {B : Nat} {R : List Nat} {v : Value} {ms : List Mal} (h : MailsNew w B v ms) (hf : Far w B R) (hk : KeptF R w w') : MailsNew w' B v ms := by
 obtain ⟨vs, h1, h2, h3⟩ := h
 exact ⟨vs, h1, QgC h2 hf hk, fun j g1 g2 => ⟨Qds (h3 j g1 g2).1 hf hk, Qfy (h3 j g1 g2).2 hf hk⟩⟩
theorem ThrNew.keep {w w' : World} {B : Nat} {R : List Nat} {vl vo vj vm : Value} {th : Thr} (h : ThrNew w B vl vo vj vm th) (hf : Far w B R) (hk : KeptF R w w') : ThrNew w' B vl vo vj vm th :=
 ⟨Qds h.lab hf hk, Qfy h.own hf hk, h.objs.keep hf hk, h.mails.keep hf hk⟩
theorem ThrNew.below {w w' : World} {B : Nat} {vl vo vj vm : Value} {th : Thr} (h : ThrNew w B vl vo vj vm th) (hb : Below w.heap.size w w') : ThrNew w' B vl vo vj vm th :=
 h.keep (R := []) (fun _ h => by cases h) (Qk _ hb)
theorem QeO {w : World} {b B : Nat} {e : TypeId} {s : Nat} {v : Value} {n : Nat} {xs : List Value} (h : w.ownsRow b e s v n xs) (hB : ∀ k, v.ownBlock = some k → B ≤ k) : w.ownsRow B e s v n xs := by
 refine ⟨h.1, ?_⟩
 rcases h.2 with hn | ⟨g, cap, cur, rfl, _, rest⟩
 · exact .inl hn
 · exact .inr ⟨g, cap, cur, rfl, hB g rfl, rest⟩
theorem QaL {w : World} {B : Nat} {e : TypeId} {sz n g cap j : Nat} {xs : List Value} (h : w.ownsRow B e sz (.slice (some ⟨g, 0, none⟩) n cap) n xs) (hj : j < n * sz) (u : Value) : (w.setCell ⟨g, j, none⟩ u).ownsRow B e sz (.slice (some ⟨g, 0, none⟩) n cap) n (xs.set j u) :=
 QeO (Qdo (Qs h (Nat.zero_le _)) hj u) fun _ hk => QE h hk
theorem Qe9 (vs : List Value) (os : List Obt) (h : vs.length = os.length) (i : Nat) (hi : i < os.length) (u : Value) : (flatO vs os).set (i * 2) u = flatO (vs.set i u) os := by
 induction vs generalizing os i with
 | nil => simp at h; omega
 | cons y r ih =>
  cases os with
  | nil => simp at hi
  | cons z t =>
   have e : flatO (y :: r) (z :: t) = y :: .string ⟨z.text.toArray⟩ :: flatO r t := rfl
   cases i with
   | zero => rw [e]; rfl
   | succ i =>
    rw [e, show (i + 1) * 2 = i * 2 + 1 + 1 by omega, List.set_cons_succ, List.set_cons_succ, ih t (by simpa using h) i (by simpa using hi)]
    rfl
theorem QbV (vs : List (Value × Value)) (ms : List Mal) (h : vs.length = ms.length) (i : Nat) (h1 : i < vs.length) (h2 : i < ms.length) : (flatM vs ms)[i * 5]? = some (.int .i64 ms[i].host) ∧ (flatM vs ms)[i * 5 + 1]? = some (.int .i64 ms[i].thread) ∧ (flatM vs ms)[i * 5 + 2]? = some vs[i].1 ∧ (flatM vs ms)[i * 5 + 3]? = some vs[i].2 ∧ (flatM vs ms)[i * 5 + 4]? = some (.string ⟨ms[i].text.toArray⟩) := by
 induction vs generalizing ms i with
 | nil => simp at h1
 | cons x r ih =>
  cases ms with
  | nil => simp at h2
  | cons y t =>
   have e : flatM (x :: r) (y :: t) = .int .i64 y.host :: .int .i64 y.thread :: x.1 :: x.2 :: .string ⟨y.text.toArray⟩ :: flatM r t := rfl
   cases i with
   | zero => rw [e]; exact ⟨rfl, rfl, rfl, rfl, rfl⟩
   | succ i =>
    have := ih t (by simpa using h) i (by simpa using h1) (by simpa using h2)
    rw [e, show (i + 1) * 5 = i * 5 + 1 + 1 + 1 + 1 + 1 by omega]
    simp only [List.getElem?_cons_succ, List.getElem_cons_succ]
    exact ⟨this.1, this.2.1, this.2.2.1, this.2.2.2.1, this.2.2.2.2⟩
theorem Qfa (vs : List (Value × Value)) (ms : List Mal) (h : vs.length = ms.length) (i : Nat) (h1 : i < vs.length) (hi : i < ms.length) (u1 u2 : Value) :
 (((((flatM vs ms).set (i * 5) (.int .i64 ms[i].host)).set (i * 5 + 1) (.int .i64 ms[i].thread)).set (i * 5 + 2) u1).set (i * 5 + 3) u2).set (i * 5 + 4) (.string ⟨ms[i].text.toArray⟩) = flatM (vs.set i (u1, u2)) ms := by
 induction vs generalizing ms i with
 | nil => simp at h; omega
 | cons y r ih =>
  cases ms with
  | nil => simp at hi
  | cons z t =>
   have e : flatM (y :: r) (z :: t) = .int .i64 z.host :: .int .i64 z.thread :: y.1 :: y.2 :: .string ⟨z.text.toArray⟩ :: flatM r t := rfl
   cases i with
   | zero => rw [e]; rfl
   | succ i =>
    have := ih t (by simpa using h) i (by simpa using h1) (by simpa using hi)
    rw [e, show (i + 1) * 5 = i * 5 + 1 + 1 + 1 + 1 + 1 by omega]
    simp only [List.set_cons_succ, List.getElem_cons_succ]
    rw [this]
    rfl
theorem QdK {w : World} {F : List Nat} : ∀ (vs : List Value) (os : List Obt), vs.length = os.length → (∀ j (h1 : j < vs.length) (h2 : j < os.length), RoLab w F vs[j] os[j].label) → ∀ u ∈ flatO vs os, u.oneCell' = true
 | [], _, _, _, u, hu => by simp [flatO] at hu
 | x :: r, [], h, _, _, _ => by simp at h
 | x :: r, y :: t, h, hr, u, hu => by
  have e : flatO (x :: r) (y :: t) = x :: .string ⟨y.text.toArray⟩ :: flatO r t := rfl
  rw [e] at hu
  rcases List.mem_cons.1 hu with rfl | hu
  · obtain ⟨p, c, hp, _⟩ := (hr 0 (by simp) (by simp)).1
    simp only [List.getElem_cons_zero] at hp
    rw [hp]
    rfl
  · rcases List.mem_cons.1 hu with rfl | hu
    · rfl
    · exact QdK r t (by simpa using h) (fun j h1 h2 => hr (j + 1) (Nat.succ_lt_succ h1) (Nat.succ_lt_succ h2)) u hu
theorem Qfd (v : Value) (n : Nat) (xs : List Value) (w : World) (h : w.ownsRow 0 80 2 v n xs) (hn : n ≤ 1000) (h1 : ∀ u ∈ xs, u.oneCell' = true) :
 Calls Try.prog 63 #[v] w fun e w' => ∃ p c, e = .returned (.slice p n c) ∧ w'.ownsRow w.heap.size 80 2 (.slice p n c) n xs ∧ Below w.heap.size w w' := by
 rcases h.2 with ⟨rfl, rfl⟩ | ⟨g, cap, cur, rfl, _⟩
 · have hx : xs = [] := List.length_eq_zero_iff.1 (by simpa using h.1)
   subst hx
   refine (Qcb 0 0 w).mono ?_
   rintro e w' ⟨rfl, rfl⟩
   exact ⟨_, _, rfl, World.ownsRow_nil _ _ _ _, Below.refl _ _⟩
 · refine (Qca _ n cap xs w h.1 hn (fun j u hu => World.ownsRow.cells h (g := g) rfl _ _ hu) h1).mono ?_
   rintro e w' ⟨v', rfl, k1, k2⟩
   obtain ⟨p, c, rfl⟩ := Qi k1
   exact ⟨p, c, rfl, k1, k2⟩
theorem Qfe (v : Value) (n : Nat) (xs : List Value) (w : World) (h : w.ownsRow 0 42 5 v n xs) (hn : n ≤ 1000) (h1 : ∀ u ∈ xs, u.oneCell' = true) :
 Calls Try.prog 64 #[v] w fun e w' => ∃ p c, e = .returned (.slice p n c) ∧ w'.ownsRow w.heap.size 42 5 (.slice p n c) n xs ∧ Below w.heap.size w w' := by
 rcases h.2 with ⟨rfl, rfl⟩ | ⟨g, cap, cur, rfl, _⟩
 · have hx : xs = [] := List.length_eq_zero_iff.1 (by simpa using h.1)
   subst hx
   refine (Qcd 0 0 w).mono ?_
   rintro e w' ⟨rfl, rfl⟩
   exact ⟨_, _, rfl, World.ownsRow_nil _ _ _ _, Below.refl _ _⟩
 · refine (Qcc _ n cap xs w h.1 hn (fun j u hu => World.ownsRow.cells h (g := g) rfl _ _ hu) h1).mono ?_
   rintro e w' ⟨v', rfl, k1, k2⟩
   obtain ⟨p, c, rfl⟩ := Qi k1
   exact ⟨p, c, rfl, k1, k2⟩
structure CpO (w : World) (B : Nat) (vl vo vj vm : Value) (th : Thr) (vs0 : List Value) (k : Nat) (wr : World) : Prop where
 box : wr.heap[B]? = some (.cells #[vl, vo, .string ⟨th.text.toArray⟩, vj, vm] 35 (0, 0))
 res : wr.heap[B + 1]? = some (.cells #[.slice none 0 0, .slice none 0 0, .string ⟨#[]⟩, .slice none 0 0, .slice none 0 0] 35 (0, 0))
 below : Below B w wr
 lab : wr.ownsRow B 86 2 vl th.label.length (flat2 th.label)
 own : wr.ownsRow B 3 1 vo th.own.length (flat1 th.own)
 row : ∃ vs, vs.length = th.objs.length ∧ wr.ownsRow B 80 2 vj th.objs.length (flatO vs th.objs) ∧ ∀ j (h1 : j < vs.length) (h2 : j < th.objs.length), (j < k → wr.ownsRow B 86 2 vs[j] th.objs[j].label.length (flat2 th.objs[j].label)) ∧ (k ≤ j → vs0[j]? = some vs[j])
theorem QdQ {B : Nat} {w a b : World} (h : Below B w a) (hb : Below a.heap.size a b) (hB : B ≤ a.heap.size) : Below B w b := h.trans (hb.mono hB)
theorem CpO.step {w : World} {B : Nat} {vl vo vm : Value} {th : Thr} {vs0 : List Value} {k : Nat} {wr w1 : World} {g cap : Nat} {u : Value} (h : CpO w B vl vo (.slice (some ⟨g, 0, none⟩) th.objs.length cap) vm th vs0 k wr) (hk : k < th.objs.length) (hb : Below wr.heap.size wr w1) (hu : w1.ownsRow B 86 2 u th.objs[k].label.length (flat2 th.objs[k].label)) :
 CpO w B vl vo (.slice (some ⟨g, 0, none⟩) th.objs.length cap) vm th vs0 (k + 1) (w1.setCell ⟨g, k * 2, none⟩ u) := by
 obtain ⟨vs, r1, r2, r3⟩ := h.row
 have q2 := Ql r2 hb
 have hs := QK (F := [g]) w1 g (k * 2) u (by simp)
 have hgB := QE r2 (k := g) rfl
 have hBs : B ≤ wr.heap.size := Nat.le_of_lt (QJ h.box)
 have hlab : ∀ {v : Value} {n : Nat} {xs : List Value}, w1.ownsRow B 86 2 v n xs → (w1.setCell ⟨g, k * 2, none⟩ u).ownsRow B 86 2 v n xs := fun hv => QM hv hs fun i e hi => by
  simp at hi; subst hi; exact Qac hv q2 (by decide) e rfl
 have hbox : ∀ {i : Nat} {C : Array Value}, w1.heap[i]? = some (.cells C 35 (0, 0)) → (w1.setCell ⟨g, k * 2, none⟩ u).heap[i]? = some (.cells C 35 (0, 0)) := fun hi => hs.heap hi fun e => by
  simp at e; subst e; exact Qn q2 hi (by decide) rfl
 refine ⟨hbox (Qc h.box hb), hbox (Qc h.res hb), ?_, hlab (Ql h.lab hb), QM (Ql h.own hb) hs (fun i e hi => by simp at hi; subst hi; exact Qac (Ql h.own hb) q2 (by decide) e rfl), vs.set k u, by simpa using r1, ?_, fun j h1 h2 => ⟨fun hj => ?_, fun hj => ?_⟩⟩
 · exact (QdQ h.below hb hBs).grown (Qg w1 g _ u) (Nat.le_trans hBs hb.size) (fun i hi => by have := Option.some.inj hi; omega)
 · rw [← Qe9 vs th.objs r1 k hk u]
   exact QaL q2 (by omega) u
 · rw [List.length_set] at h1
   by_cases e : k = j
   · subst e
     rw [List.getElem_set_self]
     exact hlab hu
   · rw [List.getElem_set_ne e]
     exact hlab (Ql ((r3 j h1 h2).1 (by omega)) hb)
 · rw [List.length_set] at h1
   rw [List.getElem_set_ne (by omega)]
   exact (r3 j h1 h2).2 (by omega)
structure CpM (w : World) (B : Nat) (vl vo vj vm : Value) (th : Thr) (us0 : List (Value × Value)) (k : Nat) (wr : World) : Prop where
 box : wr.heap[B]? = some (.cells #[vl, vo, .string ⟨th.text.toArray⟩, vj, vm] 35 (0, 0))
 res : wr.heap[B + 1]? = some (.cells #[.slice none 0 0, .slice none 0 0, .string ⟨#[]⟩, .slice none 0 0, .slice none 0 0] 35 (0, 0))
 below : Below B w wr
 lab : wr.ownsRow B 86 2 vl th.label.length (flat2 th.label)
 own : wr.ownsRow B 3 1 vo th.own.length (flat1 th.own)
 objs : ObjsNew wr B vj th.objs
 row : ∃ us : List (Value × Value), us.length = th.mails.length ∧ wr.ownsRow B 42 5 vm th.mails.length (flatM us th.mails) ∧ ∀ j (h1 : j < us.length) (h2 : j < th.mails.length), (j < k → wr.ownsRow B 86 2 us[j].1 th.mails[j].label.length (flat2 th.mails[j].label) ∧ wr.ownsRow B 3 1 us[j].2 th.mails[j].grants.length (flat1 th.mails[j].grants)) ∧ (k ≤ j → us0[j]? = some us[j])
theorem CpM.below' {w : World} {B : Nat} {vl vo vj vm : Value} {th : Thr} {us0 : List (Value × Value)} {k : Nat} {wr w1 : World} (h : CpM w B vl vo vj vm th us0 k wr) (hb : Below wr.heap.size wr w1) : CpM w B vl vo vj vm th us0 k w1 := by
 have hBs : B ≤ wr.heap.size := Nat.le_of_lt (QJ h.box)
 obtain ⟨us, r1, r2, r3⟩ := h.row
 exact ⟨Qc h.box hb, Qc h.res hb, QdQ h.below hb hBs, Ql h.lab hb, Ql h.own hb, h.objs.keep (R := []) (fun _ h => by cases h) (Qk _ hb), us, r1, Ql r2 hb, fun j h1 h2 => ⟨fun hj => ⟨Ql ((r3 j h1 h2).1 hj).1 hb, Ql ((r3 j h1 h2).1 hj).2 hb⟩, (r3 j h1 h2).2⟩⟩
theorem CpM.step {w : World} {B : Nat} {vl vo vj : Value} {th : Thr} {us0 : List (Value × Value)} {k : Nat} {w1 : World} {g cap : Nat} {u1 u2 : Value} (h : CpM w B vl vo vj (.slice (some ⟨g, 0, none⟩) th.mails.length cap) th us0 k w1) (hk : k < th.mails.length) (hu1 : w1.ownsRow B 86 2 u1 th.mails[k].label.length (flat2 th.mails[k].label)) (hu2 : w1.ownsRow B 3 1 u2 th.mails[k].grants.length (flat1 th.mails[k].grants)) :
 CpM w B vl vo vj (.slice (some ⟨g, 0, none⟩) th.mails.length cap) th us0 (k + 1) (((((w1.setCell ⟨g, k * 5, none⟩ (.int .i64 th.mails[k].host)).setCell ⟨g, k * 5 + 1, none⟩ (.int .i64 th.mails[k].thread)).setCell ⟨g, k * 5 + 2, none⟩ u1).setCell ⟨g, k * 5 + 3, none⟩ u2).setCell ⟨g, k * 5 + 4, none⟩ (.string ⟨th.mails[k].text.toArray⟩)) := by
 obtain ⟨us, r1, r2, r3⟩ := h.row
 have hg5 := Qh (Qh (Qh (Qh (Qg w1 g (k * 5) (.int .i64 th.mails[k].host)) (Qg _ g (k * 5 + 1) (.int .i64 th.mails[k].thread))) (Qg _ g (k * 5 + 2) u1)) (Qg _ g (k * 5 + 3) u2)) (Qg _ g (k * 5 + 4) (.string ⟨th.mails[k].text.toArray⟩))
 have hrow := QaL (j := k * 5 + 4) (QaL (j := k * 5 + 3) (QaL (j := k * 5 + 2) (QaL (j := k * 5 + 1) (QaL (j := k * 5) r2 (by omega) (.int .i64 th.mails[k].host)) (by omega) (.int .i64 th.mails[k].thread)) (by omega) u1) (by omega) u2) (by omega) (.string ⟨th.mails[k].text.toArray⟩)
 rw [Qfa us th.mails r1 k (by omega) hk] at hrow
 generalize ((((w1.setCell ⟨g, k * 5, none⟩ (.int .i64 th.mails[k].host)).setCell ⟨g, k * 5 + 1, none⟩ (.int .i64 th.mails[k].thread)).setCell ⟨g, k * 5 + 2, none⟩ u1).setCell ⟨g, k * 5 + 3, none⟩ u2).setCell ⟨g, k * 5 + 4, none⟩ (.string ⟨th.mails[k].text.toArray⟩) = w2 at *
 have hs : KeptF [g] w1 w2 := QD hg5 fun i e => .inl (by have := Option.some.inj e; simp; omega)
 have hgB := QE r2 (k := g) rfl
 have hlab : ∀ {v : Value} {n : Nat} {xs : List Value}, w1.ownsRow B 86 2 v n xs → w2.ownsRow B 86 2 v n xs := fun hv => QM hv hs fun i e hi => by
  simp at hi; subst hi; exact Qac hv r2 (by decide) e rfl
 have hint : ∀ {v : Value} {n : Nat} {xs : List Value}, w1.ownsRow B 3 1 v n xs → w2.ownsRow B 3 1 v n xs := fun hv => QM hv hs fun i e hi => by
  simp at hi; subst hi; exact Qac hv r2 (by decide) e rfl
 have hbox : ∀ {i : Nat} {C : Array Value}, w1.heap[i]? = some (.cells C 35 (0, 0)) → w2.heap[i]? = some (.cells C 35 (0, 0)) := fun hi => hs.heap hi fun e => by
  simp at e; subst e; exact Qn r2 hi (by decide) rfl
 refine ⟨hbox h.box, hbox h.res, ?_, hlab h.lab, hint h.own, ?_, us.set k (u1, u2), by simpa using r1, hrow, fun j h1 h2 => ⟨fun hj => ?_, fun hj => ?_⟩⟩
 · exact h.below.grown hg5 (Nat.le_of_lt (QJ h.box)) (fun i hi => by have := Option.some.inj hi; omega)
 · obtain ⟨vs, o1, o2, o3⟩ := h.objs
   exact ⟨vs, o1, QM o2 hs (fun i e hi => by simp at hi; subst hi; exact Qac o2 r2 (by decide) e rfl), fun j g1 g2 => hlab (o3 j g1 g2)⟩
 · rw [List.length_set] at h1
   by_cases e : k = j
   · subst e
     rw [List.getElem_set_self]
     exact ⟨hlab hu1, hint hu2⟩
   · rw [List.getElem_set_ne e]
     have := (r3 j h1 h2).1 (by omega)
     exact ⟨hlab this.1, hint this.2⟩
 · rw [List.length_set] at h1
   rw [List.getElem_set_ne (by omega)]
   exact (r3 j h1 h2).2 (by omega)
set_option maxRecDepth 100000 in
set_option maxHeartbeats 6400000 in
theorem QcP (v : ThrV) (th : Thr) (F : List Nat) (w : World) (h : ThrAt w F v th) (hown : th.own.length ≤ 1000) (hob : th.objs.length ≤ 1000) (hml : th.mails.length ≤ 1000) (hxs : ∀ m ∈ th.mails, m.text.length ≤ 64) :
 Calls Try.prog 43 #[.agg #[v.vl, v.vo, .string ⟨th.text.toArray⟩, v.vj, v.vm]] w fun e w' => ∃ vl vo vj vm, e = .returned (.agg #[vl, vo, .string ⟨th.text.toArray⟩, vj, vm]) ∧ ThrNew w' w.heap.size vl vo vj vm th ∧ Below w.heap.size w w' := by
 obtain ⟨⟨hl, _⟩, ho, ⟨vs0, hvs, hro, hrl⟩, ⟨us0, hus, hrm, hrml⟩⟩ := h
 have hoi := QV ho hown
 have HL := hid hl
 have HO := hid hoi
 have HRO := hid hro
 have HRM := hid hrm
 have HRL := hid hrl
 have HRML := hid hrml
 have hone := QdK vs0 th.objs hvs hrl
 have hmone := QbP us0 th.mails hus hrml
 obtain ⟨pl, cl, hvl, _⟩ := id hl
 obtain ⟨po, co, hvo, _⟩ := id hoi
 obtain ⟨pj, cj, hvj⟩ := Qi hro
 obtain ⟨pm, cm, hvm⟩ := Qi hrm
 rw [hvl] at HL ⊢
 rw [hvo] at HO ⊢
 rw [hvj] at HRO ⊢
 rw [hvm] at HRM ⊢
 clear hl hoi hro hrm hrl hrml ho hvl hvo hvj hvm
 have hb0 : Below w.heap.size w ((w.alloc (.cells #[.slice pl th.label.length cl, .slice po th.own.length co, .string ⟨th.text.toArray⟩, .slice pj th.objs.length cj, .slice pm th.mails.length cm] 35)).alloc (.cells #[.slice none 0 0, .slice none 0 0, .string ⟨#[]⟩, .slice none 0 0, .slice none 0 0] 35)) := (Qe w _).alloc (by simp) _
 go_enter Try.func43, Try.ntmps43
 go_wp2_with fail
 refine (QaG _ th.label _ (HL.out.below hb0)).mono ?_
 rintro e w1 ⟨v1, rfl, hown1, hw1⟩
 obtain ⟨p1, q1, rfl⟩ := Qi hown1
 have hbx1 := Qc (heap_alloc2_old w _ _) hw1
 have hrs1 := Qc (heap_alloc2_new w _ _) hw1
 have hbw1 := Qd hb0 hw1
 have hown1 := Qs (base' := w.heap.size) hown1 hb0.size
 obtain ⟨⟨c0, c1, c2, c3, c4⟩, f0, f1, f2, f3, f4⟩ := cells5 hbx1
 clear hw1 hb0
 go_wp2_with fail
 have hbx2 := heap_setCell (j := 0) hbx1 (.slice p1 th.label.length q1)
 have hrs2 := Qr hrs1 (show w.heap.size + 1 ≠ w.heap.size by omega) 0 (.slice p1 th.label.length q1)
 have hown2 := Qy hown1 hbx1 (by decide) 0 (.slice p1 th.label.length q1)
 have hbw2 := hbw1.grown (Qg w1 w.heap.size 0 (.slice p1 th.label.length q1)) hbw1.size (fun k hk => by cases hk; exact Nat.le_refl _)
 clear hbx1 hrs1 hbw1 hown1 c0 c1 c2 c3 c4 f0 f1 f2 f3 f4
 generalize w1.setCell ⟨w.heap.size, 0, none⟩ (.slice p1 th.label.length q1) = w2 at *
 refine (Qbr _ th.own _ (HO.out.below hbw2)).mono ?_
 rintro e w3 ⟨v3, rfl, hown3, hw3⟩
 obtain ⟨p3, q3, rfl⟩ := Qi hown3
 have hbx3 := Qc hbx2 hw3
 have hrs3 := Qc hrs2 hw3
 have hlab3 := Ql hown2 hw3
 have hown3 := Qs (base' := w.heap.size) hown3 hbw2.size
 have hbw3 := Qd hbw2 hw3
 clear hw3 hbx2 hrs2 hbw2 hown2
 obtain ⟨⟨c0, c1, c2, c3, c4⟩, f0, f1, f2, f3, f4⟩ := cells5 hbx3
 go_wp2_with fail
 have hbx4 := heap_setCell (j := 1) hbx3 (.slice p3 th.own.length q3)
 have hrs4 := Qr hrs3 (show w.heap.size + 1 ≠ w.heap.size by omega) 1 (.slice p3 th.own.length q3)
 have hlab4 := Qy hlab3 hbx3 (by decide) 1 (.slice p3 th.own.length q3)
 have hown4 := Qy hown3 hbx3 (by decide) 1 (.slice p3 th.own.length q3)
 have hbw4 := hbw3.grown (Qg w3 w.heap.size 1 (.slice p3 th.own.length q3)) hbw3.size (fun k hk => by cases hk; exact Nat.le_refl _)
 clear hbx3 hrs3 hbw3 hlab3 hown3 c0 c1 c2 c3 c4 f0 f1 f2 f3 f4
 generalize w3.setCell ⟨w.heap.size, 1, none⟩ (.slice p3 th.own.length q3) = w4 at *
 refine (Qfd _ th.objs.length (flatO vs0 th.objs) w4 (Ql HRO.out hbw4) hob hone).mono ?_
 rintro e w5 ⟨p5, q5, rfl, hobj5, hw4⟩
 have hbx5 := Qc hbx4 hw4
 have hrs5 := Qc hrs4 hw4
 have hlab5 := Ql hlab4 hw4
 have hown5 := Ql hown4 hw4
 have hobj5 := Qs (base' := w.heap.size) hobj5 hbw4.size
 have hbw5 := Qd hbw4 hw4
 clear hw4 hbx4 hrs4 hbw4 hlab4 hown4
 obtain ⟨⟨c0, c1, c2, c3, c4⟩, f0, f1, f2, f3, f4⟩ := cells5 hbx5
 go_wp2
 have HCP : Hid (CpO w w.heap.size (.slice p1 th.label.length q1) (.slice p3 th.own.length q3) (.slice p5 th.objs.length q5) (.slice pm th.mails.length cm) th vs0 0 (w5.setCell ⟨w.heap.size, 3, none⟩ (.slice p5 th.objs.length q5))) := hid
  ⟨heap_setCell (j := 3) hbx5 _, Qr hrs5 (show w.heap.size + 1 ≠ w.heap.size by omega) 3 _, hbw5.grown (Qg w5 w.heap.size 3 _) hbw5.size (fun k hk => by cases hk; exact Nat.le_refl _), Qy hlab5 hbx5 (by decide) 3 _, Qy hown5 hbx5 (by decide) 3 _, vs0, hvs, Qy hobj5 hbx5 (by decide) 3 _, fun j h1 _ => ⟨fun h => by omega, fun _ => List.getElem?_eq_getElem h1⟩⟩
 clear hbx5 hrs5 hbw5 hlab5 hown5 hobj5 c0 c1 c2 c3 c4 f0 f1 f2 f3 f4
 generalize w5.setCell ⟨w.heap.size, 3, none⟩ (.slice p5 th.objs.length q5) = w6 at *
 go_loopw [22] (fun i wr => ∃ k : Nat, k ≤ th.objs.length ∧ i = .int .i64 k ∧ CpO w w.heap.size (.slice p1 th.label.length q1) (.slice p3 th.own.length q3) (.slice p5 th.objs.length q5) (.slice pm th.mails.length cm) th vs0 k wr) (fun i _ => th.objs.length - (intOf i).toNat)
 case atStart => exact ⟨0, Nat.zero_le _, rfl, HCP.out⟩
 case round =>
  clear HCP
  obtain ⟨k, hk, rfl, hcp⟩ := hrel
  have HCP := hid hcp
  by_cases hlt : k < th.objs.length
  · obtain ⟨vs, r1, r2, r3⟩ := hcp.row
    obtain ⟨g, hpe⟩ : ∃ g, p5 = some ⟨g, 0, none⟩ := by
     rcases r2.2 with ⟨_, hn⟩ | ⟨g, cap, cur, e, _⟩
     · omega
     · cases e; exact ⟨g, rfl⟩
    subst hpe
    have hvk : k < vs.length := by omega
    have hck := World.ownsRow.cells r2 (g := g) rfl _ _ (QbU vs th.objs r1 k hvk hlt).1
    rw [WideShapes.add_plain, Nat.zero_add] at hck
    have hlab : LabAt wr vs[k] th.objs[k].label := by
     have e := (r3 k hvk hlt).2 (Nat.le_refl _)
     obtain ⟨h0, e⟩ := List.getElem?_eq_some_iff.1 e
     rw [← e]
     exact (HRL.out k h0 hlt).1.below hcp.below
    have HLK := hid hlab
    have hfr : ∀ w7, Below wr.heap.size wr w7 → w7.frozen? ⟨g, k * 2, none⟩ = false := fun w7 hb => by
     obtain ⟨cur, hg, _⟩ := QaU (Qs (Ql r2 hb) (Nat.zero_le _))
     exact Qf hg _
    have hBs : w.heap.size ≤ wr.heap.size := hcp.below.size
    have c3 := Qa hcp.box 3
    obtain ⟨pk, ck, hpk, _⟩ := id hlab
    rw [hpk] at hck
    rw [hpk] at HLK
    clear r3 r2 hcp hlab
    go_wp2_with fail
    refine (QaG _ th.objs[k].label _ HLK.out).mono ?_
    rintro e w7 ⟨v7, rfl, hown7, hw7⟩
    obtain ⟨p7, q7, rfl⟩ := Qi hown7
    have hf7 := hfr w7 hw7
    have hcc := hw7.cell (Qb hck)
    rw [hck] at hcc
    have HC7 := hid (HCP.out.step hlt hw7 (Qs hown7 hBs))
    clear hown7 hw7 hfr
    go_wp2
    go_roundw
    case rel => exact ⟨k + 1, hlt, by go_num, HC7.out⟩
    case measure => simp [intOf]; omega
  · have hkl : k = th.objs.length := by omega
    subst hkl
    have HOBJ : Hid (ObjsNew wr w.heap.size (.slice p5 th.objs.length q5) th.objs) := hid (by
     obtain ⟨vs, r1, r2, r3⟩ := hcp.row
     exact ⟨vs, r1, r2, fun j h1 h2 => (r3 j h1 h2).1 h2⟩)
    obtain ⟨⟨c0, c1, c2, c3, c4⟩, f0, f1, f2, f3, f4⟩ := cells5 hcp.box
    have hmr := Ql HRM.out hcp.below
    clear hcp
    go_wp2_with fail
    refine (Qfe _ th.mails.length (flatM us0 th.mails) wr hmr hml hmone).mono ?_
    rintro e w8 ⟨p8, q8, rfl, hml8, hw8⟩
    have hcp8 := HCP.out
    have hbx8 := Qc hcp8.box hw8
    have hrs8 := Qc hcp8.res hw8
    have hbw8 := Qd hcp8.below hw8
    have hlab8 := Ql hcp8.lab hw8
    have hown8 := Ql hcp8.own hw8
    have hobj8 : ObjsNew w8 w.heap.size (.slice p5 th.objs.length q5) th.objs := HOBJ.out.keep (R := []) (fun _ h => by cases h) (Qk _ hw8)
    have hml8 := Qs (base' := w.heap.size) hml8 hcp8.below.size
    clear c0 c1 c2 c3 c4 f0 f1 f2 f3 f4 hmr hw8 hcp8 HCP HOBJ
    obtain ⟨⟨c0, c1, c2, c3, c4⟩, f0, f1, f2, f3, f4⟩ := cells5 hbx8
    go_wp2
    have HCM : Hid (CpM w w.heap.size (.slice p1 th.label.length q1) (.slice p3 th.own.length q3) (.slice p5 th.objs.length q5) (.slice p8 th.mails.length q8) th us0 0 (w8.setCell ⟨w.heap.size, 4, none⟩ (.slice p8 th.mails.length q8))) := hid
     ⟨heap_setCell (j := 4) hbx8 _, Qr hrs8 (show w.heap.size + 1 ≠ w.heap.size by omega) 4 _, hbw8.grown (Qg w8 w.heap.size 4 _) hbw8.size (fun k hk => by cases hk; exact Nat.le_refl _), Qy hlab8 hbx8 (by decide) 4 _, Qy hown8 hbx8 (by decide) 4 _, hobj8.keep (fun k hk => .inr ⟨_, _, by simp at hk; subst hk; exact hbx8, by decide, by decide, by decide, by decide⟩) (QK (F := [w.heap.size]) w8 _ _ _ (by simp)), us0, hus, Qy hml8 hbx8 (by decide) 4 _, fun j h1 _ => ⟨fun h => by omega, fun _ => List.getElem?_eq_getElem h1⟩⟩
    clear hbx8 hrs8 hbw8 hlab8 hown8 hobj8 hml8 c0 c1 c2 c3 c4 f0 f1 f2 f3 f4
    generalize w8.setCell ⟨w.heap.size, 4, none⟩ (.slice p8 th.mails.length q8) = w9 at *
    go_loopw [45] (fun i wr => ∃ k : Nat, k ≤ th.mails.length ∧ i = .int .i64 k ∧ CpM w w.heap.size (.slice p1 th.label.length q1) (.slice p3 th.own.length q3) (.slice p5 th.objs.length q5) (.slice p8 th.mails.length q8) th us0 k wr) (fun i _ => th.mails.length - (intOf i).toNat)
    case atStart => exact ⟨0, Nat.zero_le _, rfl, HCM.out⟩
    case round =>
     clear HCM
     obtain ⟨k, hk, rfl, hcm⟩ := hrel
     have HCM := hid hcm
     by_cases hlt : k < th.mails.length
     · obtain ⟨us, r1, r2, r3⟩ := hcm.row
       obtain ⟨g, hpe⟩ : ∃ g, p8 = some ⟨g, 0, none⟩ := by
        rcases r2.2 with ⟨_, hn⟩ | ⟨g, cap, cur, e, _⟩
        · omega
        · cases e; exact ⟨g, rfl⟩
       subst hpe
       have huk : k < us.length := by omega
       obtain ⟨m0, m1, m2, m3, m4⟩ := QbV us th.mails r1 k huk hlt
       have a0 := World.ownsRow.cells r2 (g := g) rfl _ _ m0
       have a1 := World.ownsRow.cells r2 (g := g) rfl _ _ m1
       have a2 := World.ownsRow.cells r2 (g := g) rfl _ _ m2
       have a3 := World.ownsRow.cells r2 (g := g) rfl _ _ m3
       have a4 := World.ownsRow.cells r2 (g := g) rfl _ _ m4
       rw [WideShapes.add_plain, Nat.zero_add] at a0 a1 a2 a3 a4
       have hmal : LabAt wr us[k].1 th.mails[k].label ∧ IntsAt wr us[k].2 th.mails[k].grants := by
        have e := (r3 k huk hlt).2 (Nat.le_refl _)
        obtain ⟨h0, e⟩ := List.getElem?_eq_some_iff.1 e
        rw [← e]
        exact ⟨(HRML.out k h0 hlt).1.1.below hcm.below, (HRML.out k h0 hlt).2.1.below hcm.below⟩
       have hfr : ∀ w7, Below wr.heap.size wr w7 → ∀ j, w7.frozen? ⟨g, j, none⟩ = false := fun w7 hb j => by
        obtain ⟨cur, hg, _⟩ := QaU (Qs (Ql r2 hb) (Nat.zero_le _))
        exact Qf hg _
       have HFR := hid hfr
       have hBs : w.heap.size ≤ wr.heap.size := hcm.below.size
       have hBl : w.heap.size < wr.heap.size := QJ hcm.box
       have hgl : g < wr.heap.size := Qb a0
       have x4 := Qa hcm.box 4
       have hx64 := hxs th.mails[k] (List.getElem_mem hlt)
       obtain ⟨pk, ck, hpk, _⟩ := id hmal.1
       obtain ⟨pi, ci, hpi, _⟩ := id hmal.2
       rw [hpk] at a2
       rw [hpi] at a3
       have HMAL : Hid (MalAt wr (.agg #[.int .i64 th.mails[k].host, .int .i64 th.mails[k].thread, .slice pk th.mails[k].label.length ck, .slice pi th.mails[k].grants.length ci, .string ⟨th.mails[k].text.toArray⟩]) th.mails[k]) := hid ⟨_, _, rfl, by rw [← hpk]; exact hmal.1, by rw [← hpi]; exact hmal.2⟩
       have hbA := Qe wr (.cells #[.int .i64 th.mails[k].host, .int .i64 th.mails[k].thread, .slice pk th.mails[k].label.length ck, .slice pi th.mails[k].grants.length ci, .string ⟨th.mails[k].text.toArray⟩] 42)
       have HSTEP := hid (fun (wx : World) (p6 q6 : Option Addr) (c6 d6 : Nat) (hb : Below wr.heap.size wr wx) (h1 : wx.ownsRow w.heap.size 86 2 (.slice p6 th.mails[k].label.length c6) th.mails[k].label.length (flat2 th.mails[k].label)) (h2 : wx.ownsRow w.heap.size 3 1 (.slice q6 th.mails[k].grants.length d6) th.mails[k].grants.length (flat1 th.mails[k].grants)) => (HCM.out.below' hb).step (u1 := .slice p6 th.mails[k].label.length c6) (u2 := .slice q6 th.mails[k].grants.length d6) hlt h1 h2)
       clear r3 r2 hcm hmal hfr m0 m1 m2 m3 m4 hpk hpi r1 huk
       generalize th.mails[k] = m at *
       have c4A := hbA.cell (Qb x4)
       rw [x4] at c4A
       go_wp2
       go_region_law ((refine Qa8 (by rfl) (.tmp 53) #[42] (by rfl) _ m (by rfl) (HMAL.out.below hbA.drew) hx64 ?_; intro p6 c6 q6 d6 w10 hownL hownG hw6d; have hw6 := Qd hbA (kundrew hw6d); have z4 := hw6.cell (Qb x4); rw [x4] at z4; have f0 := HFR.out w10 hw6 (k * 5); have f1 := HFR.out w10 hw6 (k * 5 + 1); have f2 := HFR.out w10 hw6 (k * 5 + 2); have f3 := HFR.out w10 hw6 (k * 5 + 3); have f4 := HFR.out w10 hw6 (k * 5 + 4); have e0 := hw6.cell (Qb a0); rw [a0] at e0; have e1 := hw6.cell (Qb a1); rw [a1] at e1; have e2 := hw6.cell (Qb a2); rw [a2] at e2; have e3 := hw6.cell (Qb a3); rw [a3] at e3; have e4 := hw6.cell (Qb a4); rw [a4] at e4; have HOWL := hid (Qs (base' := w.heap.size) hownL (Nat.le_trans hBs hbA.size)); have HOWG := hid (Qs (base' := w.heap.size) hownG (Nat.le_trans hBs hbA.size)); have HW6 := hid hw6; clear hownL hownG hw6d hw6))
       all_goals
        have HC10 := hid (HSTEP.out w10 p6 q6 c6 d6 HW6.out HOWL.out HOWG.out)
        clear HSTEP HW6 HOWL HOWG HMAL HFR
        go_wp2
        go_roundw
        case rel => exact ⟨k + 1, hlt, by go_num, HC10.out⟩
        case measure => simp [intOf]; omega
     · have hkl : k = th.mails.length := by omega
       subst hkl
       have hnew : ThrNew wr w.heap.size (.slice p1 th.label.length q1) (.slice p3 th.own.length q3) (.slice p5 th.objs.length q5) (.slice p8 th.mails.length q8) th := ⟨hcm.lab, hcm.own, hcm.objs, by
        obtain ⟨us, r1, r2, r3⟩ := hcm.row
        exact ⟨us, r1, r2, fun j h1 h2 => (r3 j h1 h2).1 h2⟩⟩
       obtain ⟨⟨c0, c1, c2, c3, c4⟩, f0, f1, f2, f3, f4⟩ := cells5 hcm.box
       obtain ⟨⟨d0, d1, d2, d3, d4⟩, g0, g1, g2, g3, g4⟩ := cells5 hcm.res
       have hne : w.heap.size ≠ w.heap.size + 1 := by omega
       have hne2 : w.heap.size + 1 ≠ w.heap.size := by omega
       have hS := Qbc wr (w.heap.size + 1) (.slice p1 th.label.length q1) (.slice p3 th.own.length q3) (.string ⟨th.text.toArray⟩) (.slice p5 th.objs.length q5) (.slice p8 th.mails.length q8)
       have HW := hid (Qbu (.slice p1 th.label.length q1) (.slice p3 th.own.length q3) (.string ⟨th.text.toArray⟩) (.slice p5 th.objs.length q5) (.slice p8 th.mails.length q8) hcm.res)
       have HN := hid (hnew.keep (R := [w.heap.size + 1]) (fun k hk => .inr ⟨_, _, by simp at hk; subst hk; exact hcm.res, by decide, by decide, by decide, by decide⟩) (QD hS fun k e => .inl (by have := Option.some.inj e; simp; omega)))
       have HB := hid (hcm.below.grown hS hcm.below.size (fun k hk => by have := Option.some.inj hk; omega))
       clear hnew hS hcm HCM
       go_wp2
       exact bodyPost_ret (results_cell_row rfl _ _ (w.heap.size + 1) 35 _ (0, 0) _ rfl HW.out Try.underlying35 rfl (by kernel_rfl)) rfl ⟨_, _, _, _, rfl, HN.out, HB.out⟩
theorem ObjsNew.base {w : World} {B B' : Nat} {v : Value} {os : List Obt} (h : ObjsNew w B v os) (hB : B' ≤ B) : ObjsNew w B' v os := by
 obtain ⟨vs, h1, h2, h3⟩ := h
 exact ⟨vs, h1, Qs h2 hB, fun j g1 g2 => Qs (h3 j g1 g2) hB⟩
theorem MailsNew.base {w : World} {B B' : Nat} {v : Value} {ms : List Mal} (h : MailsNew w B v ms) (hB : B' ≤ B) : MailsNew w B' v ms := by
 obtain ⟨vs, h1, h2, h3⟩ := h
 exact ⟨vs, h1, Qs h2 hB, fun j g1 g2 => ⟨Qs (h3 j g1 g2).1 hB, Qs (h3 j g1 g2).2 hB⟩⟩
theorem ThrNew.base {w : World} {B B' : Nat} {vl vo vj vm : Value} {th : Thr} (h : ThrNew w B vl vo vj vm th) (hB : B' ≤ B) : ThrNew w B' vl vo vj vm th :=
 ⟨Qs h.lab hB, Qs h.own hB, h.objs.base hB, h.mails.base hB⟩
theorem QaX (kb : Nat) (t : Int) (w : World) (ht : ¬ (0 ≤ t ∧ t < 4)) : Calls Try.prog 16 #[.pointer (some ⟨kb, 0, none⟩), .int .i64 t] w fun e w' => e = .returned (.agg #[.slice none 0 0, .slice none 0 0, .string ⟨#[]⟩, .slice none 0 0, .slice none 0 0]) ∧ Below w.heap.size w w' := by
 go_enter Try.func16, Try.ntmps16
 go_wp2_with (go_at_call 17; refine (QaE kb t _ ht).mono ?_; rintro e w1 ⟨rfl, rfl⟩)
 exact bodyPost_ret (results_cell_row rfl _ _ w.heap.size 35 _ (0, 0) _ rfl (heap_alloc_new w _) Try.underlying35 rfl (by kernel_rfl)) rfl ⟨rfl, Qe _ _⟩
set_option maxRecDepth 100000 in
set_option maxHeartbeats 1600000 in
theorem Qdl (kb t : Nat) (F : List Nat) (V : List ThrV) (K : Ker) (w : World) (h : KerAt w kb F V K) (hg : GoodK K) (h4 : t < 4) (h2 : t < K.ths.length) :
 Calls Try.prog 16 #[.pointer (some ⟨kb, 0, none⟩), .int .i64 t] w fun e w' => ∃ pl cl po co pj cj pm cm, e = .returned (.agg #[.slice pl K.ths[t].label.length cl, .slice po K.ths[t].own.length co, .string ⟨K.ths[t].text.toArray⟩, .slice pj K.ths[t].objs.length cj, .slice pm K.ths[t].mails.length cm]) ∧ ThrNew w' w.heap.size (.slice pl K.ths[t].label.length cl) (.slice po K.ths[t].own.length co) (.slice pj K.ths[t].objs.length cj) (.slice pm K.ths[t].mails.length cm) K.ths[t] ∧ Below w.heap.size w w' := by
 have h1 : t < V.length := by rw [h.len]; exact h4
 have hT := h.tat t h1 h2
 have gt := hg.ths _ (List.getElem_mem h2)
 obtain ⟨t0, t1, t2, t3, t4⟩ := hT.cells
 obtain ⟨ptl, ctl, hvl, _⟩ := id hT.thr.1.1
 obtain ⟨po, co, hvo⟩ := ownV hT.thr.2.1
 obtain ⟨pj, cj, hj⟩ : ∃ p c, V[t].vj = .slice p K.ths[t].objs.length c := by
  obtain ⟨_, _, j2, _⟩ := hT.thr.2.2.1
  exact Qi j2
 obtain ⟨pm, cm, hm⟩ : ∃ p c, V[t].vm = .slice p K.ths[t].mails.length c := by
  obtain ⟨_, _, j2, _⟩ := hT.thr.2.2.2
  exact Qi j2
 have hcp := fun wx (hb : Below w.heap.size w wx) => QcP V[t] K.ths[t] F wx ((hT.below hb).thr) (Nat.le_trans gt.own (by decide)) (Nat.le_trans gt.objs (by decide)) (Nat.le_trans gt.mails (by decide)) (fun m hm => (Qdm (gt.mail m hm)).2.2)
 rw [hvl] at t0
 rw [hvo] at t1
 rw [hj] at t3
 rw [hm] at t4
 rw [hvl, hvo, hj, hm] at hcp
 have hkb := h.fin kb h.kbF
 clear hT h gt hg
 generalize K.ths[t] = th at *
 go_enter Try.func16, Try.ntmps16
 go_wp2_with (first
  | (go_at_call 17; refine (Qz kb t _ h4).mono ?_; rintro e w1 ⟨rfl, rfl⟩)
  | (go_at_call 43; refine (hcp _ (Qe _ _)).mono ?_; rintro e w2 ⟨vl, vo, vj, vm, rfl, hn, hw2⟩; have HN := hid hn; obtain ⟨p, q, rfl⟩ := Qi hn.lab; obtain ⟨p', q', rfl⟩ := Qi hn.own; obtain ⟨_, _, j2, _⟩ := hn.objs; obtain ⟨p5, q5, rfl⟩ := Qi j2; obtain ⟨_, _, j3, _⟩ := hn.mails; obtain ⟨p6, q6, rfl⟩ := Qi j3; have hx := Qc (heap_alloc_new w _) hw2; obtain ⟨⟨c0, c1, c2, c3, c4⟩, f0, f1, f2, f3, f4⟩ := cells5 hx; have HX := hid hx; have HB := hid (Qd (Qe _ _) hw2); clear hx hw2 hn j2 j3))
 have hW := Qbu (.slice p th.label.length q) (.slice p' th.own.length q') (.string ⟨th.text.toArray⟩) (.slice p5 th.objs.length q5) (.slice p6 th.mails.length q6) HX.out
 have hS := Qbc w2 w.heap.size (.slice p th.label.length q) (.slice p' th.own.length q') (.string ⟨th.text.toArray⟩) (.slice p5 th.objs.length q5) (.slice p6 th.mails.length q6)
 have hb7 := HB.out.grown hS HB.out.size (fun k hk => by cases hk; exact Nat.le_refl _)
 have hn := (HN.out.base (Qe w _).size).keep (R := [w.heap.size]) (fun k hk => .inr ⟨_, _, by simp at hk; subst hk; exact HX.out, by decide, by decide, by decide, by decide⟩) (QD hS fun k e => .inl (by have := Option.some.inj e; simp; omega))
 exact bodyPost_ret (results_cell_row rfl _ _ w.heap.size 35 _ (0, 0) _ rfl hW Try.underlying35 rfl (by kernel_rfl)) rfl ⟨_, _, _, _, _, _, _, _, rfl, hn, hb7⟩
theorem MailsNew.get {w : World} {B : Nat} {p : Option Addr} {n cap : Nat} {ms : List Mal} (h : MailsNew w B (.slice p n cap) ms) (i : Nat) (hi : i < ms.length) :
 ∃ g pl cl pg cg, p = some ⟨g, 0, none⟩ ∧ w.cell? ⟨g, i * 5, none⟩ = some (.int .i64 ms[i].host) ∧ w.cell? ⟨g, i * 5 + 1, none⟩ = some (.int .i64 ms[i].thread) ∧ w.cell? ⟨g, i * 5 + 2, none⟩ = some (.slice pl ms[i].label.length cl) ∧ w.cell? ⟨g, i * 5 + 3, none⟩ = some (.slice pg ms[i].grants.length cg) ∧ w.cell? ⟨g, i * 5 + 4, none⟩ = some (.string ⟨ms[i].text.toArray⟩) ∧
  w.ownsRow B 86 2 (.slice pl ms[i].label.length cl) ms[i].label.length (flat2 ms[i].label) ∧ w.ownsRow B 3 1 (.slice pg ms[i].grants.length cg) ms[i].grants.length (flat1 ms[i].grants) := by
 obtain ⟨vs, r1, r2, r3⟩ := h
 obtain ⟨g, hpe⟩ : ∃ g, p = some ⟨g, 0, none⟩ := by
  rcases r2.2 with ⟨_, hn⟩ | ⟨g, cap, cur, e, _⟩
  · omega
  · cases e; exact ⟨g, rfl⟩
 subst hpe
 have huk : i < vs.length := by omega
 obtain ⟨m0, m1, m2, m3, m4⟩ := QbV vs ms r1 i huk hi
 have a0 := World.ownsRow.cells r2 (g := g) rfl _ _ m0
 have a1 := World.ownsRow.cells r2 (g := g) rfl _ _ m1
 have a2 := World.ownsRow.cells r2 (g := g) rfl _ _ m2
 have a3 := World.ownsRow.cells r2 (g := g) rfl _ _ m3
 have a4 := World.ownsRow.cells r2 (g := g) rfl _ _ m4
 rw [WideShapes.add_plain, Nat.zero_add] at a0 a1 a2 a3 a4
 obtain ⟨o1, o2⟩ := r3 i huk hi
 obtain ⟨pl, cl, el⟩ := Qi o1
 obtain ⟨pg, cg, eg⟩ := Qi o2
 rw [el] at a2 o1
 rw [eg] at a3 o2
 exact ⟨g, pl, cl, pg, cg, rfl, a0, a1, a2, a3, a4, o1, o2⟩
theorem ObjsNew.get {w : World} {B : Nat} {p : Option Addr} {n cap : Nat} {os : List Obt} (h : ObjsNew w B (.slice p n cap) os) (i : Nat) (hi : i < os.length) :
 ∃ g pl cl, p = some ⟨g, 0, none⟩ ∧ w.cell? ⟨g, i * 2, none⟩ = some (.slice pl os[i].label.length cl) ∧ w.cell? ⟨g, i * 2 + 1, none⟩ = some (.string ⟨os[i].text.toArray⟩) ∧
  w.ownsRow B 86 2 (.slice pl os[i].label.length cl) os[i].label.length (flat2 os[i].label) := by
 obtain ⟨vs, r1, r2, r3⟩ := h
 obtain ⟨g, hpe⟩ : ∃ g, p = some ⟨g, 0, none⟩ := by
  rcases r2.2 with ⟨_, hn⟩ | ⟨g, cap, cur, e, _⟩
  · omega
  · cases e; exact ⟨g, rfl⟩
 subst hpe
 have huk : i < vs.length := by omega
 obtain ⟨m0, m1⟩ := QbU vs os r1 i huk hi
 have a0 := World.ownsRow.cells r2 (g := g) rfl _ _ m0
 have a1 := World.ownsRow.cells r2 (g := g) rfl _ _ m1
 rw [WideShapes.add_plain, Nat.zero_add] at a0 a1
 have o1 := r3 i huk hi
 obtain ⟨pl, cl, el⟩ := Qi o1
 rw [el] at a0 o1
 exact ⟨g, pl, cl, rfl, a0, a1, o1⟩
end Go.Proofs.Ytpdijobakfpnbaa
