/- kernel.Deliver: whatever mail comes to a kernel whose threads are good. -/
import Derived.Test.YtgpldlbmjakjhaaGreatSKTake
import Derived.Test.YtgpldlbmjakjhaaGreatSKRow
import Derived.Test.YtgpldlbmjakjhaaGreatSKAns
import Derived.Test.YtgpldlbmjakjhaaGreatSKMail
import Derived.Deep.RegionLaw
import Derived.Laws.AppendOwnNone
import Derived.Test.YtgpldlbmjakjhaaGreatSPlain
import Derived.Test.YtgpldlbmjakjhaaGreatSShelf
namespace Go.Proofs.YtgpldlbmjakjhaaGreat
open Go.RowKit Go.Proofs.Parclose
theorem Deliver_out (kb : Nat) (t : Int) (v : Value) (m : Mal) (w : World) (hv : MalAt w v m) (ht : ¬ (0 ≤ t ∧ t < 4)) : Calls Tryz.prog 83 #[.pointer (some ⟨kb, 0, none⟩), .int .i64 t, v] w fun e w' => e = .returned (.tuple #[]) ∧ Below w.heap.size w w' := by
  obtain ⟨vl, vg, rfl, ⟨pl, cl, rfl, _⟩, ⟨pg, cg, rfl, _⟩⟩ := hv
  unfold malV
  go_enter Tryz.func83, Tryz.ntmps83
  go_wp2_with (go_at_call 58; refine (thread_out kb t _ ht).mono ?_; rintro e w1 ⟨rfl, rfl⟩)
  go_quiet (fail)
  go_wp2
  refine bodyPost_ret (results_none rfl _ _ _) rfl ⟨rfl, below_then (below_box _ _) (below_drewN _ _)⟩
theorem Deliver_any (kb : Nat) (t : Int) (F : List Nat) (V : List ThrV) (K : Ker) (m : Mal) (vm : Value) (w : World) (h : KerAt w kb F V K) (hg : GoodK K) (hm : MalAt w vm m) :
    Calls Tryz.prog 83 #[.pointer (some ⟨kb, 0, none⟩), .int .i64 t, vm] w fun e w' => e = .returned (.tuple #[]) ∧ ∃ G V', KerAt w' kb G V' (deliverL K t m) ∧ KStep kb w F V w' G V' := by
  have hV : V.length = 4 := h.len
  cases hth : getT K t with
  | none =>
    have e : deliverL K t m = K := by unfold deliverL; rw [hth]
    rw [e]
    exact (Deliver_out kb t vm m w hm (getT_none hg.four hth)).mono fun _ _ ⟨h1, h2⟩ => ⟨h1, _, _, h.below h2, KStep.below h2⟩
  | some th =>
    obtain ⟨n, rfl, hn, rfl⟩ := getT_some hth
    have e : deliverL K n m = { K with ths := K.ths.set n (boxL K.ths[n] m) } := by unfold deliverL; rw [hth]; exact setT_nat K n _
    rw [e]
    have h1 : n < V.length := by rw [hV]; have := hg.four; omega
    have gt := hg.ths _ (List.getElem_mem hn)
    have hown : K.ths[n].own.length ≤ 1000 := Nat.le_trans gt.own (by decide)
    by_cases he : mailE m = 0
    rotate_left
    · rw [boxL_bad he, set_self hn]
      exact (Deliver_bad kb n m vm w (by rw [← hV]; exact h1) hm he).mono fun _ _ ⟨h1, h2⟩ => ⟨h1, _, _, h.below h2, KStep.below h2⟩
    cases hf : flowsL m.label K.ths[n].label K.ths[n].own with
    | false =>
      rw [boxL_not hf, set_self hn]
      exact (Deliver_not kb n F V K m vm w h h1 hn hm hown he hf).mono fun _ _ ⟨h1, h2⟩ => ⟨h1, _, _, h.below h2, KStep.below h2⟩
    | true =>
      by_cases hr : 6 ≤ K.ths[n].mails.length
      · rw [boxL_full hr, set_self hn]
        exact (Deliver_full kb n F V K m vm w h h1 hn hm hown he hf hr).mono fun _ _ ⟨h1, h2⟩ => ⟨h1, _, _, h.below h2, KStep.below h2⟩
      · have eb : boxL K.ths[n] m = { K.ths[n] with mails := K.ths[n].mails ++ [m] } := by unfold boxL; rw [if_pos ⟨he, hf, by omega⟩]
        rw [eb]
        exact Deliver_put kb n F V K m vm w h h1 hn hm hown he hf (by omega)
end Go.Proofs.YtgpldlbmjakjhaaGreat
namespace Go.Proofs.YtgpldlbmjakjhaaGreat
open Go.RowKit Go.Proofs.Parclose
def ObjsNew (w : World) (B : Nat) (v : Value) (os : List Obt) : Prop :=
  ∃ vs, vs.length = os.length ∧ w.ownsRow B 76 2 v os.length (flatO vs os) ∧ ∀ j (h1 : j < vs.length) (h2 : j < os.length), w.ownsRow B 74 2 vs[j] os[j].label.length (flat2 os[j].label)
def MailsNew (w : World) (B : Nat) (v : Value) (ms : List Mal) : Prop :=
  ∃ vs : List (Value × Value), vs.length = ms.length ∧ w.ownsRow B 46 5 v ms.length (flatM vs ms) ∧ ∀ j (h1 : j < vs.length) (h2 : j < ms.length), w.ownsRow B 74 2 vs[j].1 ms[j].label.length (flat2 ms[j].label) ∧ w.ownsRow B 3 1 vs[j].2 ms[j].grants.length (flat1 ms[j].grants)
structure ThrNew (w : World) (B : Nat) (vl vo vj vm : Value) (th : Thr) : Prop where
  lab : w.ownsRow B 74 2 vl th.label.length (flat2 th.label)
  own : w.ownsRow B 3 1 vo th.own.length (flat1 th.own)
  objs : ObjsNew w B vj th.objs
  mails : MailsNew w B vm th.mails
def Far (w : World) (B : Nat) (R : List Nat) : Prop := ∀ k ∈ R, k < B ∨ ∃ C t, w.heap[k]? = some (.cells C t (0, 0)) ∧ (74 : Nat) ≠ t ∧ (3 : Nat) ≠ t ∧ (76 : Nat) ≠ t ∧ (46 : Nat) ≠ t
theorem far_lab {w w' : World} {B : Nat} {R : List Nat} {v : Value} {n : Nat} {xs : List Value} {s : Nat} (h : w.ownsRow B 74 s v n xs) (hf : Far w B R) (hk : KeptF R w w') : w'.ownsRow B 74 s v n xs :=
  own_keep h hk fun k e g => by
    rcases hf k g with hlt | ⟨C, t, hC, h1, _⟩
    · have := own_base h e; omega
    · exact own_box h hC h1 e
theorem far_int {w w' : World} {B : Nat} {R : List Nat} {v : Value} {n : Nat} {xs : List Value} {s : Nat} (h : w.ownsRow B 3 s v n xs) (hf : Far w B R) (hk : KeptF R w w') : w'.ownsRow B 3 s v n xs :=
  own_keep h hk fun k e g => by
    rcases hf k g with hlt | ⟨C, t, hC, _, h1, _⟩
    · have := own_base h e; omega
    · exact own_box h hC h1 e
theorem far_obj {w w' : World} {B : Nat} {R : List Nat} {v : Value} {n : Nat} {xs : List Value} {s : Nat} (h : w.ownsRow B 76 s v n xs) (hf : Far w B R) (hk : KeptF R w w') : w'.ownsRow B 76 s v n xs :=
  own_keep h hk fun k e g => by
    rcases hf k g with hlt | ⟨C, t, hC, _, _, h1, _⟩
    · have := own_base h e; omega
    · exact own_box h hC h1 e
theorem far_mail {w w' : World} {B : Nat} {R : List Nat} {v : Value} {n : Nat} {xs : List Value} {s : Nat} (h : w.ownsRow B 46 s v n xs) (hf : Far w B R) (hk : KeptF R w w') : w'.ownsRow B 46 s v n xs :=
  own_keep h hk fun k e g => by
    rcases hf k g with hlt | ⟨C, t, hC, _, _, _, h1⟩
    · have := own_base h e; omega
    · exact own_box h hC h1 e
theorem ObjsNew.keep {w w' : World} {B : Nat} {R : List Nat} {v : Value} {os : List Obt} (h : ObjsNew w B v os) (hf : Far w B R) (hk : KeptF R w w') : ObjsNew w' B v os := by
  obtain ⟨vs, h1, h2, h3⟩ := h
  exact ⟨vs, h1, far_obj h2 hf hk, fun j g1 g2 => far_lab (h3 j g1 g2) hf hk⟩
theorem MailsNew.keep {w w' : World} {B : Nat} {R : List Nat} {v : Value} {ms : List Mal} (h : MailsNew w B v ms) (hf : Far w B R) (hk : KeptF R w w') : MailsNew w' B v ms := by
  obtain ⟨vs, h1, h2, h3⟩ := h
  exact ⟨vs, h1, far_mail h2 hf hk, fun j g1 g2 => ⟨far_lab (h3 j g1 g2).1 hf hk, far_int (h3 j g1 g2).2 hf hk⟩⟩
theorem ThrNew.keep {w w' : World} {B : Nat} {R : List Nat} {vl vo vj vm : Value} {th : Thr} (h : ThrNew w B vl vo vj vm th) (hf : Far w B R) (hk : KeptF R w w') : ThrNew w' B vl vo vj vm th :=
  ⟨far_lab h.lab hf hk, far_int h.own hf hk, h.objs.keep hf hk, h.mails.keep hf hk⟩
theorem ThrNew.below {w w' : World} {B : Nat} {vl vo vj vm : Value} {th : Thr} (h : ThrNew w B vl vo vj vm th) (hb : Below w.heap.size w w') : ThrNew w' B vl vo vj vm th :=
  h.keep (R := []) (fun _ h => by cases h) (kept_below _ hb)
theorem own_rebase {w : World} {b B : Nat} {e : TypeId} {s : Nat} {v : Value} {n : Nat} {xs : List Value} (h : w.ownsRow b e s v n xs) (hB : ∀ k, v.ownBlock = some k → B ≤ k) : w.ownsRow B e s v n xs := by
  refine ⟨h.1, ?_⟩
  rcases h.2 with hn | ⟨g, cap, cur, rfl, _, rest⟩
  · exact .inl hn
  · exact .inr ⟨g, cap, cur, rfl, hB g rfl, rest⟩
theorem own_setB {w : World} {B : Nat} {e : TypeId} {sz n g cap j : Nat} {xs : List Value} (h : w.ownsRow B e sz (.slice (some ⟨g, 0, none⟩) n cap) n xs) (hj : j < n * sz) (u : Value) : (w.setCell ⟨g, j, none⟩ u).ownsRow B e sz (.slice (some ⟨g, 0, none⟩) n cap) n (xs.set j u) :=
  own_rebase (own_set (own_base_le h (Nat.zero_le _)) hj u) fun _ hk => own_base h hk
theorem flatO_setv (vs : List Value) (os : List Obt) (h : vs.length = os.length) (i : Nat) (hi : i < os.length) (u : Value) : (flatO vs os).set (i * 2) u = flatO (vs.set i u) os := by
  induction vs generalizing os i with
  | nil => simp at h; omega
  | cons y r ih =>
    cases os with
    | nil => simp at hi
    | cons z t =>
      have e : flatO (y :: r) (z :: t) = y :: .string ⟨z.text.toArray⟩ :: flatO r t := rfl
      cases i with
      | zero => rw [e]; rfl
      | succ i =>
        rw [e, show (i + 1) * 2 = i * 2 + 1 + 1 by omega, List.set_cons_succ, List.set_cons_succ, ih t (by simpa using h) i (by simpa using hi)]
        rfl
theorem flatM_get (vs : List (Value × Value)) (ms : List Mal) (h : vs.length = ms.length) (i : Nat) (h1 : i < vs.length) (h2 : i < ms.length) : (flatM vs ms)[i * 5]? = some (.int .i64 ms[i].host) ∧ (flatM vs ms)[i * 5 + 1]? = some (.int .i64 ms[i].thread) ∧ (flatM vs ms)[i * 5 + 2]? = some vs[i].1 ∧ (flatM vs ms)[i * 5 + 3]? = some vs[i].2 ∧ (flatM vs ms)[i * 5 + 4]? = some (.string ⟨ms[i].text.toArray⟩) := by
  induction vs generalizing ms i with
  | nil => simp at h1
  | cons x r ih =>
    cases ms with
    | nil => simp at h2
    | cons y t =>
      have e : flatM (x :: r) (y :: t) = .int .i64 y.host :: .int .i64 y.thread :: x.1 :: x.2 :: .string ⟨y.text.toArray⟩ :: flatM r t := rfl
      cases i with
      | zero => rw [e]; exact ⟨rfl, rfl, rfl, rfl, rfl⟩
      | succ i =>
        have := ih t (by simpa using h) i (by simpa using h1) (by simpa using h2)
        rw [e, show (i + 1) * 5 = i * 5 + 1 + 1 + 1 + 1 + 1 by omega]
        simp only [List.getElem?_cons_succ, List.getElem_cons_succ]
        exact ⟨this.1, this.2.1, this.2.2.1, this.2.2.2.1, this.2.2.2.2⟩
theorem flatM_setv (vs : List (Value × Value)) (ms : List Mal) (h : vs.length = ms.length) (i : Nat) (h1 : i < vs.length) (hi : i < ms.length) (u1 u2 : Value) :
    (((((flatM vs ms).set (i * 5) (.int .i64 ms[i].host)).set (i * 5 + 1) (.int .i64 ms[i].thread)).set (i * 5 + 2) u1).set (i * 5 + 3) u2).set (i * 5 + 4) (.string ⟨ms[i].text.toArray⟩) = flatM (vs.set i (u1, u2)) ms := by
  induction vs generalizing ms i with
  | nil => simp at h; omega
  | cons y r ih =>
    cases ms with
    | nil => simp at hi
    | cons z t =>
      have e : flatM (y :: r) (z :: t) = .int .i64 z.host :: .int .i64 z.thread :: y.1 :: y.2 :: .string ⟨z.text.toArray⟩ :: flatM r t := rfl
      cases i with
      | zero => rw [e]; rfl
      | succ i =>
        have := ih t (by simpa using h) i (by simpa using h1) (by simpa using hi)
        rw [e, show (i + 1) * 5 = i * 5 + 1 + 1 + 1 + 1 + 1 by omega]
        simp only [List.set_cons_succ, List.getElem_cons_succ]
        rw [this]
        rfl
theorem objs_one {w : World} {F : List Nat} : ∀ (vs : List Value) (os : List Obt), vs.length = os.length → (∀ j (h1 : j < vs.length) (h2 : j < os.length), RoLab w F vs[j] os[j].label) → ∀ u ∈ flatO vs os, u.oneCell' = true
  | [], _, _, _, u, hu => by simp [flatO] at hu
  | x :: r, [], h, _, _, _ => by simp at h
  | x :: r, y :: t, h, hr, u, hu => by
    have e : flatO (x :: r) (y :: t) = x :: .string ⟨y.text.toArray⟩ :: flatO r t := rfl
    rw [e] at hu
    rcases List.mem_cons.1 hu with rfl | hu
    · obtain ⟨p, c, hp, _⟩ := (hr 0 (by simp) (by simp)).1
      simp only [List.getElem_cons_zero] at hp
      rw [hp]
      rfl
    · rcases List.mem_cons.1 hu with rfl | hu
      · rfl
      · exact objs_one r t (by simpa using h) (fun j h1 h2 => hr (j + 1) (Nat.succ_lt_succ h1) (Nat.succ_lt_succ h2)) u hu
theorem cloneO_own (v : Value) (n : Nat) (xs : List Value) (w : World) (h : w.ownsRow 0 76 2 v n xs) (hn : n ≤ 1000) (h1 : ∀ u ∈ xs, u.oneCell' = true) :
    Calls Tryz.prog 78 #[v] w fun e w' => ∃ p c, e = .returned (.slice p n c) ∧ w'.ownsRow w.heap.size 76 2 (.slice p n c) n xs ∧ Below w.heap.size w w' := by
  rcases h.2 with ⟨rfl, rfl⟩ | ⟨g, cap, cur, rfl, _⟩
  · have hx : xs = [] := List.length_eq_zero_iff.1 (by simpa using h.1)
    subst hx
    refine (cloneO_none 0 0 w).mono ?_
    rintro e w' ⟨rfl, rfl⟩
    exact ⟨_, _, rfl, World.ownsRow_nil _ _ _ _, Below.refl _ _⟩
  · refine (cloneO_some _ n cap xs w h.1 hn (fun j u hu => World.ownsRow.cells h (g := g) rfl _ _ hu) h1).mono ?_
    rintro e w' ⟨v', rfl, k1, k2⟩
    obtain ⟨p, c, rfl⟩ := own_slice k1
    exact ⟨p, c, rfl, k1, k2⟩
theorem cloneM_own (v : Value) (n : Nat) (xs : List Value) (w : World) (h : w.ownsRow 0 46 5 v n xs) (hn : n ≤ 1000) (h1 : ∀ u ∈ xs, u.oneCell' = true) :
    Calls Tryz.prog 79 #[v] w fun e w' => ∃ p c, e = .returned (.slice p n c) ∧ w'.ownsRow w.heap.size 46 5 (.slice p n c) n xs ∧ Below w.heap.size w w' := by
  rcases h.2 with ⟨rfl, rfl⟩ | ⟨g, cap, cur, rfl, _⟩
  · have hx : xs = [] := List.length_eq_zero_iff.1 (by simpa using h.1)
    subst hx
    refine (cloneM_none 0 0 w).mono ?_
    rintro e w' ⟨rfl, rfl⟩
    exact ⟨_, _, rfl, World.ownsRow_nil _ _ _ _, Below.refl _ _⟩
  · refine (cloneM_some _ n cap xs w h.1 hn (fun j u hu => World.ownsRow.cells h (g := g) rfl _ _ hu) h1).mono ?_
    rintro e w' ⟨v', rfl, k1, k2⟩
    obtain ⟨p, c, rfl⟩ := own_slice k1
    exact ⟨p, c, rfl, k1, k2⟩
structure CpO (w : World) (B : Nat) (vl vo vj vm : Value) (th : Thr) (vs0 : List Value) (k : Nat) (wr : World) : Prop where
  box : wr.heap[B]? = some (.cells #[vl, vo, .string ⟨th.text.toArray⟩, vj, vm] 42 (0, 0))
  res : wr.heap[B + 1]? = some (.cells #[.slice none 0 0, .slice none 0 0, .string ⟨#[]⟩, .slice none 0 0, .slice none 0 0] 42 (0, 0))
  below : Below B w wr
  lab : wr.ownsRow B 74 2 vl th.label.length (flat2 th.label)
  own : wr.ownsRow B 3 1 vo th.own.length (flat1 th.own)
  row : ∃ vs, vs.length = th.objs.length ∧ wr.ownsRow B 76 2 vj th.objs.length (flatO vs th.objs) ∧ ∀ j (h1 : j < vs.length) (h2 : j < th.objs.length), (j < k → wr.ownsRow B 74 2 vs[j] th.objs[j].label.length (flat2 th.objs[j].label)) ∧ (k ≤ j → vs0[j]? = some vs[j])
theorem below_up {B : Nat} {w a b : World} (h : Below B w a) (hb : Below a.heap.size a b) (hB : B ≤ a.heap.size) : Below B w b := h.trans (hb.mono hB)
theorem CpO.step {w : World} {B : Nat} {vl vo vm : Value} {th : Thr} {vs0 : List Value} {k : Nat} {wr w1 : World} {g cap : Nat} {u : Value} (h : CpO w B vl vo (.slice (some ⟨g, 0, none⟩) th.objs.length cap) vm th vs0 k wr) (hk : k < th.objs.length) (hb : Below wr.heap.size wr w1) (hu : w1.ownsRow B 74 2 u th.objs[k].label.length (flat2 th.objs[k].label)) :
    CpO w B vl vo (.slice (some ⟨g, 0, none⟩) th.objs.length cap) vm th vs0 (k + 1) (w1.setCell ⟨g, k * 2, none⟩ u) := by
  obtain ⟨vs, r1, r2, r3⟩ := h.row
  have q2 := own_later r2 hb
  have hs := kept_set (F := [g]) w1 g (k * 2) u (by simp)
  have hgB := own_base r2 (k := g) rfl
  have hBs : B ≤ wr.heap.size := Nat.le_of_lt (heap_lt h.box)
  have hlab : ∀ {v : Value} {n : Nat} {xs : List Value}, w1.ownsRow B 74 2 v n xs → (w1.setCell ⟨g, k * 2, none⟩ u).ownsRow B 74 2 v n xs := fun hv => own_keep hv hs fun i e hi => by
    simp at hi; subst hi; exact own_ne hv q2 (by decide) e rfl
  have hbox : ∀ {i : Nat} {C : Array Value}, w1.heap[i]? = some (.cells C 42 (0, 0)) → (w1.setCell ⟨g, k * 2, none⟩ u).heap[i]? = some (.cells C 42 (0, 0)) := fun hi => hs.heap hi fun e => by
    simp at e; subst e; exact own_box q2 hi (by decide) rfl
  refine ⟨hbox (heap_keep h.box hb), hbox (heap_keep h.res hb), ?_, hlab (own_later h.lab hb), own_keep (own_later h.own hb) hs (fun i e hi => by simp at hi; subst hi; exact own_ne (own_later h.own hb) q2 (by decide) e rfl), vs.set k u, by simpa using r1, ?_, fun j h1 h2 => ⟨fun hj => ?_, fun hj => ?_⟩⟩
  · exact (below_up h.below hb hBs).grown (grown_setCell w1 g _ u) (Nat.le_trans hBs hb.size) (fun i hi => by have := Option.some.inj hi; omega)
  · rw [← flatO_setv vs th.objs r1 k hk u]
    exact own_setB q2 (by omega) u
  · rw [List.length_set] at h1
    by_cases e : k = j
    · subst e
      rw [List.getElem_set_self]
      exact hlab hu
    · rw [List.getElem_set_ne e]
      exact hlab (own_later ((r3 j h1 h2).1 (by omega)) hb)
  · rw [List.length_set] at h1
    rw [List.getElem_set_ne (by omega)]
    exact (r3 j h1 h2).2 (by omega)
structure CpM (w : World) (B : Nat) (vl vo vj vm : Value) (th : Thr) (us0 : List (Value × Value)) (k : Nat) (wr : World) : Prop where
  box : wr.heap[B]? = some (.cells #[vl, vo, .string ⟨th.text.toArray⟩, vj, vm] 42 (0, 0))
  res : wr.heap[B + 1]? = some (.cells #[.slice none 0 0, .slice none 0 0, .string ⟨#[]⟩, .slice none 0 0, .slice none 0 0] 42 (0, 0))
  below : Below B w wr
  lab : wr.ownsRow B 74 2 vl th.label.length (flat2 th.label)
  own : wr.ownsRow B 3 1 vo th.own.length (flat1 th.own)
  objs : ObjsNew wr B vj th.objs
  row : ∃ us : List (Value × Value), us.length = th.mails.length ∧ wr.ownsRow B 46 5 vm th.mails.length (flatM us th.mails) ∧ ∀ j (h1 : j < us.length) (h2 : j < th.mails.length), (j < k → wr.ownsRow B 74 2 us[j].1 th.mails[j].label.length (flat2 th.mails[j].label) ∧ wr.ownsRow B 3 1 us[j].2 th.mails[j].grants.length (flat1 th.mails[j].grants)) ∧ (k ≤ j → us0[j]? = some us[j])
theorem CpM.below' {w : World} {B : Nat} {vl vo vj vm : Value} {th : Thr} {us0 : List (Value × Value)} {k : Nat} {wr w1 : World} (h : CpM w B vl vo vj vm th us0 k wr) (hb : Below wr.heap.size wr w1) : CpM w B vl vo vj vm th us0 k w1 := by
  have hBs : B ≤ wr.heap.size := Nat.le_of_lt (heap_lt h.box)
  obtain ⟨us, r1, r2, r3⟩ := h.row
  exact ⟨heap_keep h.box hb, heap_keep h.res hb, below_up h.below hb hBs, own_later h.lab hb, own_later h.own hb, h.objs.keep (R := []) (fun _ h => by cases h) (kept_below _ hb), us, r1, own_later r2 hb, fun j h1 h2 => ⟨fun hj => ⟨own_later ((r3 j h1 h2).1 hj).1 hb, own_later ((r3 j h1 h2).1 hj).2 hb⟩, (r3 j h1 h2).2⟩⟩
theorem CpM.step {w : World} {B : Nat} {vl vo vj : Value} {th : Thr} {us0 : List (Value × Value)} {k : Nat} {w1 : World} {g cap : Nat} {u1 u2 : Value} (h : CpM w B vl vo vj (.slice (some ⟨g, 0, none⟩) th.mails.length cap) th us0 k w1) (hk : k < th.mails.length) (hu1 : w1.ownsRow B 74 2 u1 th.mails[k].label.length (flat2 th.mails[k].label)) (hu2 : w1.ownsRow B 3 1 u2 th.mails[k].grants.length (flat1 th.mails[k].grants)) :
    CpM w B vl vo vj (.slice (some ⟨g, 0, none⟩) th.mails.length cap) th us0 (k + 1) (((((w1.setCell ⟨g, k * 5, none⟩ (.int .i64 th.mails[k].host)).setCell ⟨g, k * 5 + 1, none⟩ (.int .i64 th.mails[k].thread)).setCell ⟨g, k * 5 + 2, none⟩ u1).setCell ⟨g, k * 5 + 3, none⟩ u2).setCell ⟨g, k * 5 + 4, none⟩ (.string ⟨th.mails[k].text.toArray⟩)) := by
  obtain ⟨us, r1, r2, r3⟩ := h.row
  have hg5 := grown_trans (grown_trans (grown_trans (grown_trans (grown_setCell w1 g (k * 5) (.int .i64 th.mails[k].host)) (grown_setCell _ g (k * 5 + 1) (.int .i64 th.mails[k].thread))) (grown_setCell _ g (k * 5 + 2) u1)) (grown_setCell _ g (k * 5 + 3) u2)) (grown_setCell _ g (k * 5 + 4) (.string ⟨th.mails[k].text.toArray⟩))
  have hrow := own_setB (j := k * 5 + 4) (own_setB (j := k * 5 + 3) (own_setB (j := k * 5 + 2) (own_setB (j := k * 5 + 1) (own_setB (j := k * 5) r2 (by omega) (.int .i64 th.mails[k].host)) (by omega) (.int .i64 th.mails[k].thread)) (by omega) u1) (by omega) u2) (by omega) (.string ⟨th.mails[k].text.toArray⟩)
  rw [flatM_setv us th.mails r1 k (by omega) hk] at hrow
  generalize ((((w1.setCell ⟨g, k * 5, none⟩ (.int .i64 th.mails[k].host)).setCell ⟨g, k * 5 + 1, none⟩ (.int .i64 th.mails[k].thread)).setCell ⟨g, k * 5 + 2, none⟩ u1).setCell ⟨g, k * 5 + 3, none⟩ u2).setCell ⟨g, k * 5 + 4, none⟩ (.string ⟨th.mails[k].text.toArray⟩) = w2 at *
  have hs : KeptF [g] w1 w2 := kept_grown hg5 fun i e => .inl (by have := Option.some.inj e; simp; omega)
  have hgB := own_base r2 (k := g) rfl
  have hlab : ∀ {v : Value} {n : Nat} {xs : List Value}, w1.ownsRow B 74 2 v n xs → w2.ownsRow B 74 2 v n xs := fun hv => own_keep hv hs fun i e hi => by
    simp at hi; subst hi; exact own_ne hv r2 (by decide) e rfl
  have hint : ∀ {v : Value} {n : Nat} {xs : List Value}, w1.ownsRow B 3 1 v n xs → w2.ownsRow B 3 1 v n xs := fun hv => own_keep hv hs fun i e hi => by
    simp at hi; subst hi; exact own_ne hv r2 (by decide) e rfl
  have hbox : ∀ {i : Nat} {C : Array Value}, w1.heap[i]? = some (.cells C 42 (0, 0)) → w2.heap[i]? = some (.cells C 42 (0, 0)) := fun hi => hs.heap hi fun e => by
    simp at e; subst e; exact own_box r2 hi (by decide) rfl
  refine ⟨hbox h.box, hbox h.res, ?_, hlab h.lab, hint h.own, ?_, us.set k (u1, u2), by simpa using r1, hrow, fun j h1 h2 => ⟨fun hj => ?_, fun hj => ?_⟩⟩
  · exact h.below.grown hg5 (Nat.le_of_lt (heap_lt h.box)) (fun i hi => by have := Option.some.inj hi; omega)
  · obtain ⟨vs, o1, o2, o3⟩ := h.objs
    exact ⟨vs, o1, own_keep o2 hs (fun i e hi => by simp at hi; subst hi; exact own_ne o2 r2 (by decide) e rfl), fun j g1 g2 => hlab (o3 j g1 g2)⟩
  · rw [List.length_set] at h1
    by_cases e : k = j
    · subst e
      rw [List.getElem_set_self]
      exact ⟨hlab hu1, hint hu2⟩
    · rw [List.getElem_set_ne e]
      have := (r3 j h1 h2).1 (by omega)
      exact ⟨hlab this.1, hint this.2⟩
  · rw [List.length_set] at h1
    rw [List.getElem_set_ne (by omega)]
    exact (r3 j h1 h2).2 (by omega)
end Go.Proofs.YtgpldlbmjakjhaaGreat
namespace Go.Proofs.YtgpldlbmjakjhaaGreat
open Go.RowKit Go.Proofs.Parclose
theorem set_row (a x b : List Value) (i : Nat) (v : Value) (hi : i < x.length) : (a ++ x ++ b).set (a.length + i) v = a ++ x.set i v ++ b := by
  rw [List.append_assoc, List.set_append_right _ _ (by omega), List.append_assoc, Nat.add_sub_cancel_left, List.set_append_left _ _ hi]
theorem flatS_split (q : List SntV) (k : Nat) (hk : k < q.length) : flatS q = flatS (q.take k) ++ (q[k]).cells ++ flatS (q.drop (k + 1)) := by
  conv => lhs; rw [← List.take_append_drop k q, List.drop_eq_getElem_cons hk]
  rw [flatS_app, flatS_cons, List.append_assoc]
theorem flatS_set (q : List SntV) (k : Nat) (hk : k < q.length) (x : SntV) : flatS (q.set k x) = flatS (q.take k) ++ x.cells ++ flatS (q.drop (k + 1)) := by
  rw [List.set_eq_take_append_cons_drop, if_pos hk, flatS_app, flatS_cons, List.append_assoc]
theorem flatS_setv (q : List SntV) (k : Nat) (hk : k < q.length) (u1 u2 u3 : Value) (s : Snt) (hs : (q[k]).s = s) :
    (((((((((((flatS q).set (k * 13) (.int .i64 s.f.fr)).set (k * 13 + 1) (.int .i64 s.f.to)).set (k * 13 + 2) (.int .i64 s.f.seq)).set (k * 13 + 3) (.bool s.f.ack)).set (k * 13 + 4) (.int .i64 s.f.thread)).set (k * 13 + 5) (.int .i64 s.f.mail.host)).set (k * 13 + 6) (.int .i64 s.f.mail.thread)).set (k * 13 + 7) (u1)).set (k * 13 + 8) (u2)).set (k * 13 + 9) (.string ⟨s.f.mail.text.toArray⟩)).set (k * 13 + 10) (u3) = flatS (q.set k ⟨s, u1, u2, u3⟩) := by
  rw [flatS_set q k hk, flatS_split q k hk]
  have ha : (flatS (q.take k)).length = k * 13 := by rw [flatS_len, List.length_take]; omega
  generalize flatS (q.take k) = a at *
  generalize flatS (q.drop (k + 1)) = b
  generalize q[k] = x at *
  subst hs
  rw [← ha]
  have h0 : a.length = a.length + 0 := rfl
  have e0 : ∀ v, (a ++ x.cells ++ b).set a.length v = a ++ x.cells.set 0 v ++ b := fun v => set_row a x.cells b 0 v (show 0 < 13 by omega)
  rw [e0]
  rw [set_row a _ b 1 _ (by simp [SntV.cells])]
  rw [set_row a _ b 2 _ (by simp [SntV.cells])]
  rw [set_row a _ b 3 _ (by simp [SntV.cells])]
  rw [set_row a _ b 4 _ (by simp [SntV.cells])]
  rw [set_row a _ b 5 _ (by simp [SntV.cells])]
  rw [set_row a _ b 6 _ (by simp [SntV.cells])]
  rw [set_row a _ b 7 _ (by simp [SntV.cells])]
  rw [set_row a _ b 8 _ (by simp [SntV.cells])]
  rw [set_row a _ b 9 _ (by simp [SntV.cells])]
  rw [set_row a _ b 10 _ (by simp [SntV.cells])]
  rfl
def Off (B : Nat) (r : Option Nat) (w w' : World) : Prop := ∀ k, B ≤ k → k < w.heap.size → r ≠ some k → w'.heap[k]? = w.heap[k]?
theorem cell_agree {w w' : World} {a : Addr} {v : Value} (h : ∀ k, k < w.heap.size → w'.heap[k]? = w.heap[k]?) (hc : w.cell? a = some v) : w'.cell? a = some v := by
  have hb := cell_block hc
  simp only [World.cell?] at hc ⊢
  rw [h _ hb]
  exact hc
theorem LabAt.agree {w w' : World} {v : Value} {l : List (Int × Int)} (h : LabAt w v l) (ha : ∀ k, k < w.heap.size → w'.heap[k]? = w.heap[k]?) : LabAt w' v l := by
  obtain ⟨p, cap, h1, h2, h3, h4⟩ := h
  refine ⟨p, cap, h1, h2, h3, fun g => ?_⟩
  obtain ⟨b, o, h5, h6⟩ := h4 g
  exact ⟨b, o, h5, fun j hj => ⟨cell_agree ha (h6 j hj).1, cell_agree ha (h6 j hj).2⟩⟩
theorem IntsAt.agree {w w' : World} {v : Value} {l : List Int} (h : IntsAt w v l) (ha : ∀ k, k < w.heap.size → w'.heap[k]? = w.heap[k]?) : IntsAt w' v l := by
  obtain ⟨p, cap, h1, h2, h3, h4⟩ := h
  refine ⟨p, cap, h1, h2, h3, fun g => ?_⟩
  obtain ⟨b, o, h5, h6⟩ := h4 g
  exact ⟨b, o, h5, fun j hj => cell_agree ha (h6 j hj)⟩
theorem CrtsAt.agree {w w' : World} {v : Value} {l : List Crt} (h : CrtsAt w v l) (ha : ∀ k, k < w.heap.size → w'.heap[k]? = w.heap[k]?) : CrtsAt w' v l := by
  obtain ⟨p, cap, h1, h2, h3, h4⟩ := h
  refine ⟨p, cap, h1, h2, h3, fun g => ?_⟩
  obtain ⟨b, o, h5, h6⟩ := h4 g
  exact ⟨b, o, h5, fun j hj => ⟨cell_agree ha (h6 j hj).1, cell_agree ha (h6 j hj).2.1, cell_agree ha (h6 j hj).2.2.1, cell_agree ha (h6 j hj).2.2.2⟩⟩
theorem SntV.Ok.agree {w w' : World} {x : SntV} (h : x.Ok w) (ha : ∀ k, k < w.heap.size → w'.heap[k]? = w.heap[k]?) : x.Ok w' := ⟨h.lab.agree ha, h.nums.agree ha, h.crts.agree ha⟩
structure OwnRow (B : Nat) (w : World) (v : Value) (q : List SntV) : Prop where
  own : w.ownsRow B 176 13 v q.length (flatS q)
  ok : ∀ x ∈ q, ∀ w', Off B v.ownBlock w w' → x.Ok w'
theorem Off.refl (B : Nat) (r : Option Nat) (w : World) : Off B r w w := fun _ _ _ _ => rfl
theorem off_below {B : Nat} {r : Option Nat} {w w1 w2 : World} (hb : Below w.heap.size w w1) (h : Off B r w1 w2) : Off B r w w2 := fun k hB hk hr => by rw [h k hB (Nat.lt_of_lt_of_le hk hb.size) hr, hb.block k hk]
theorem off_grown {B : Nat} {r : Option Nat} {w w1 w2 : World} (hg : w.grownBy w1 r) (h : Off B r w1 w2) : Off B r w w2 := fun k hB hk hr => by rw [h k hB (Nat.lt_of_lt_of_le hk hg.size) hr, hg.block k hk (Ne.symm hr)]
theorem off_box {B b : Nat} {r : Option Nat} {w w1 w2 : World} (hg : w.grownBy w1 (some b)) (hb : b < B) (h : Off B r w1 w2) : Off B r w w2 := fun k hB hk hr => by rw [h k hB (Nat.lt_of_lt_of_le hk hg.size) hr, hg.block k hk (fun e => by have := Option.some.inj e; omega)]
theorem OwnRow.below {B : Nat} {w w1 : World} {v : Value} {q : List SntV} (h : OwnRow B w v q) (hb : Below w.heap.size w w1) : OwnRow B w1 v q :=
  ⟨own_later h.own hb, fun x hx w' ho => h.ok x hx w' (off_below hb ho)⟩
theorem OwnRow.box {B b : Nat} {w w1 : World} {v : Value} {q : List SntV} (h : OwnRow B w v q) (hg : w.grownBy w1 (some b)) (hb : b < B) : OwnRow B w1 v q :=
  ⟨h.own.kept hg (Or.inr fun e => by have := own_base h.own e; omega), fun x hx w' ho => h.ok x hx w' (off_box hg hb ho)⟩
theorem OwnRow.low {B B' : Nat} {w : World} {v : Value} {q : List SntV} (h : OwnRow B w v q) (hB : B' ≤ B) : OwnRow B' w v q :=
  ⟨own_base_le h.own hB, fun x hx w' ho => h.ok x hx w' fun k hk => ho k (by omega)⟩
theorem OwnRow.snts {B : Nat} {w : World} {v : Value} {q : List SntV} (h : OwnRow B w v q) (hl : q.length ≤ 879609302220) : SntsAt w v (q.map (·.s)) := by
  refine ⟨q, rfl, fun x hx => h.ok x hx w (Off.refl _ _ _), ?_⟩
  have hx := h.own.1
  rcases h.own.2 with ⟨hn, h0⟩ | ⟨g, cap, cur, rfl, hbg, hgg, h1, h2, h3, h4⟩
  · rw [hn]
    refine ⟨none, 0, by rw [h0], ⟨by omega, fun _ => rfl⟩, hl, fun h => by omega⟩
  · refine ⟨some ⟨g, 0, none⟩, cap, rfl, ⟨h1, fun e => by cases e⟩, hl, fun _ => ⟨g, 0, rfl, fun j u hu => ?_⟩⟩
    have := World.ownsRow.cells h.own (g := g) rfl _ _ hu
    rwa [WideShapes.add_plain] at this
end Go.Proofs.YtgpldlbmjakjhaaGreat
namespace Go.Proofs.YtgpldlbmjakjhaaGreat
open Go.RowKit Go.Proofs.Parclose
def Off3 (B : Nat) (r : Option Nat) (w w' : World) : Prop := ∀ k, k < w.heap.size → r ≠ some k → k ≠ B → k ≠ B + 1 → w'.heap[k]? = w.heap[k]?
theorem off3_below {B : Nat} {r : Option Nat} {w w1 w2 : World} (hb : Below w.heap.size w w1) (h : Off3 B r w1 w2) : Off3 B r w w2 := fun k hk hr h1 h2 => by rw [h k (Nat.lt_of_lt_of_le hk hb.size) hr h1 h2, hb.block k hk]
theorem off3_grown {B : Nat} {r : Option Nat} {w w1 w2 : World} (hg : w.grownBy w1 r) (h : Off3 B r w1 w2) : Off3 B r w w2 := fun k hk hr h1 h2 => by rw [h k (Nat.lt_of_lt_of_le hk hg.size) hr h1 h2, hg.block k hk (Ne.symm hr)]
abbrev zeroL : Array Value := #[.int .i64 0, .slice none 0 0, .int .i64 0, .bool false, .bool false, .bool false, .bool false, .bool false, .bool false, .bool false, .bool false]
structure CpL (w : World) (C : Array Value) (v : Value) (st : List Snt) (k : Nat) (wr : World) : Prop where
  box : wr.heap[w.heap.size]? = some (.cells C 89 (0, 0))
  res : wr.heap[w.heap.size + 1]? = some (.cells zeroL 89 (0, 0))
  below : Below w.heap.size w wr
  row : ∃ q : List SntV, q.map (·.s) = st ∧ wr.ownsRow w.heap.size 176 13 v q.length (flatS q) ∧ (∀ x ∈ q, ∀ w', Off3 w.heap.size v.ownBlock wr w' → x.Ok w') ∧ ∀ j (hj : j < q.length), j < k → ∀ w', Off (w.heap.size + 2) v.ownBlock wr w' → (q[j]).Ok w'
theorem CpL.below' {w wr w1 : World} {C : Array Value} {v : Value} {st : List Snt} {k : Nat} (h : CpL w C v st k wr) (hb : Below wr.heap.size wr w1) : CpL w C v st k w1 := by
  obtain ⟨q, r1, r2, r3, r4⟩ := h.row
  exact ⟨heap_keep h.box hb, heap_keep h.res hb, below_then h.below hb, q, r1, own_later r2 hb, fun x hx w' ho => r3 x hx w' (off3_below hb ho), fun j hj hk w' ho => r4 j hj hk w' (off_below hb ho)⟩
theorem CpL.step {w w1 : World} {C : Array Value} {g n cap : Nat} {st : List Snt} {u1 u2 u3 : Value} {k : Nat} {s : Snt} (h : CpL w C (.slice (some ⟨g, 0, none⟩) n cap) st k w1) (hn : n = st.length) (hk : k < st.length) (hs : st[k] = s)
    (hu : ∀ w', Off (w.heap.size + 2) (some g) w1 w' → LabAt w' u1 s.f.mail.label ∧ IntsAt w' u2 s.f.mail.grants ∧ CrtsAt w' u3 s.f.certs) :
    CpL w C (.slice (some ⟨g, 0, none⟩) n cap) st (k + 1) (((((((((((w1.setCell ⟨g, k * 13, none⟩ (.int .i64 s.f.fr)).setCell ⟨g, k * 13 + 1, none⟩ (.int .i64 s.f.to)).setCell ⟨g, k * 13 + 2, none⟩ (.int .i64 s.f.seq)).setCell ⟨g, k * 13 + 3, none⟩ (.bool s.f.ack)).setCell ⟨g, k * 13 + 4, none⟩ (.int .i64 s.f.thread)).setCell ⟨g, k * 13 + 5, none⟩ (.int .i64 s.f.mail.host)).setCell ⟨g, k * 13 + 6, none⟩ (.int .i64 s.f.mail.thread)).setCell ⟨g, k * 13 + 7, none⟩ (u1)).setCell ⟨g, k * 13 + 8, none⟩ (u2)).setCell ⟨g, k * 13 + 9, none⟩ (.string ⟨s.f.mail.text.toArray⟩)).setCell ⟨g, k * 13 + 10, none⟩ (u3)) := by
  obtain ⟨q, r1, r2, r3, r4⟩ := h.row
  have hq : q.length = st.length := by rw [← r1, List.length_map]
  have hkq : k < q.length := by omega
  have hsq : (q[k]).s = s := by rw [← hs]; simp only [← r1, List.getElem_map]
  rw [show n = q.length by omega] at r2 r3 r4 h ⊢
  have hg11 := grown_trans (grown_trans (grown_trans (grown_trans (grown_trans (grown_trans (grown_trans (grown_trans (grown_trans (grown_trans (grown_setCell w1 g (k * 13) (.int .i64 s.f.fr)) (grown_setCell _ g (k * 13 + 1) (.int .i64 s.f.to))) (grown_setCell _ g (k * 13 + 2) (.int .i64 s.f.seq))) (grown_setCell _ g (k * 13 + 3) (.bool s.f.ack))) (grown_setCell _ g (k * 13 + 4) (.int .i64 s.f.thread))) (grown_setCell _ g (k * 13 + 5) (.int .i64 s.f.mail.host))) (grown_setCell _ g (k * 13 + 6) (.int .i64 s.f.mail.thread))) (grown_setCell _ g (k * 13 + 7) (u1))) (grown_setCell _ g (k * 13 + 8) (u2))) (grown_setCell _ g (k * 13 + 9) (.string ⟨s.f.mail.text.toArray⟩))) (grown_setCell _ g (k * 13 + 10) (u3))
  have hrow := own_setB (j := k * 13 + 10) (own_setB (j := k * 13 + 9) (own_setB (j := k * 13 + 8) (own_setB (j := k * 13 + 7) (own_setB (j := k * 13 + 6) (own_setB (j := k * 13 + 5) (own_setB (j := k * 13 + 4) (own_setB (j := k * 13 + 3) (own_setB (j := k * 13 + 2) (own_setB (j := k * 13 + 1) (own_setB (j := k * 13) (r2) (by omega) (.int .i64 s.f.fr)) (by omega) (.int .i64 s.f.to)) (by omega) (.int .i64 s.f.seq)) (by omega) (.bool s.f.ack)) (by omega) (.int .i64 s.f.thread)) (by omega) (.int .i64 s.f.mail.host)) (by omega) (.int .i64 s.f.mail.thread)) (by omega) (u1)) (by omega) (u2)) (by omega) (.string ⟨s.f.mail.text.toArray⟩)) (by omega) (u3)
  rw [flatS_setv q k hkq u1 u2 u3 s hsq] at hrow
  generalize ((((((((((w1.setCell ⟨g, k * 13, none⟩ (.int .i64 s.f.fr)).setCell ⟨g, k * 13 + 1, none⟩ (.int .i64 s.f.to)).setCell ⟨g, k * 13 + 2, none⟩ (.int .i64 s.f.seq)).setCell ⟨g, k * 13 + 3, none⟩ (.bool s.f.ack)).setCell ⟨g, k * 13 + 4, none⟩ (.int .i64 s.f.thread)).setCell ⟨g, k * 13 + 5, none⟩ (.int .i64 s.f.mail.host)).setCell ⟨g, k * 13 + 6, none⟩ (.int .i64 s.f.mail.thread)).setCell ⟨g, k * 13 + 7, none⟩ (u1)).setCell ⟨g, k * 13 + 8, none⟩ (u2)).setCell ⟨g, k * 13 + 9, none⟩ (.string ⟨s.f.mail.text.toArray⟩)).setCell ⟨g, k * 13 + 10, none⟩ (u3) = w2 at *
  have hgB := own_base r2 (k := g) rfl
  refine ⟨heap_own h.box r2 (by decide) hg11, heap_own h.res r2 (by decide) hg11, h.below.grown hg11 h.below.size (fun i hi => by have := Option.some.inj hi; omega), q.set k ⟨s, u1, u2, u3⟩, ?_, by rw [List.length_set]; exact hrow, ?_, ?_⟩
  · rw [List.map_set, r1]
    show st.set k s = st
    rw [← hs]
    exact List.set_getElem_self hk
  · intro x hx w' ho
    rw [List.mem_iff_getElem] at hx
    obtain ⟨j, hj, rfl⟩ := hx
    rw [List.length_set] at hj
    have ho1 : Off3 w.heap.size (some g) w1 w' := off3_grown hg11 ho
    by_cases e : k = j
    · subst e
      rw [List.getElem_set_self]
      obtain ⟨a1, a2, a3⟩ := hu w' (fun i hi his hir => ho1 i his hir (by omega) (by omega))
      exact ⟨a1, a2, a3⟩
    · rw [List.getElem_set_ne e]
      exact r3 _ (List.getElem_mem hj) w' ho1
  · intro j hj hjk w' ho
    rw [List.length_set] at hj
    have ho1 : Off (w.heap.size + 2) (some g) w1 w' := off_grown hg11 ho
    by_cases e : k = j
    · subst e
      rw [List.getElem_set_self]
      obtain ⟨a1, a2, a3⟩ := hu w' ho1
      exact ⟨a1, a2, a3⟩
    · rw [List.getElem_set_ne e]
      exact r4 j hj (by omega) w' ho1
end Go.Proofs.YtgpldlbmjakjhaaGreat
namespace Go.Proofs.YtgpldlbmjakjhaaGreat
open Go.RowKit Go.Proofs.Parclose
theorem enter_lcopyFrame (args : Array Value) (w : World) : (callFunc 122 args).run Tryz.prog w = .ok (.enter 122 args) w := by kernel_rfl
theorem step_lcopyFrame {w : World} {ops : Array Oper} {o : Oper} {a0 : Act} {K : Act → World → Prop} {Q : Exit → Act → World → Prop} {E : Prop} (hgd : o.guard = none) (x : Operand) (ats : Array TypeId)
    (ho : o.op = .call { callee := .value (.func 122), args := #[x], argTypes := ats }) (v : Value) (f : Frm) (hx : a0.eval x = v) (hf : FrmAt w v f)
    (h : ∀ p1 c1 p2 c2 p3 c3 w', (∀ w'', Since w.heap.size w' w'' → LabAt w'' (.slice p1 f.mail.label.length c1) f.mail.label ∧ IntsAt w'' (.slice p2 f.mail.grants.length c2) f.mail.grants ∧ CrtsAt w'' (.slice p3 f.certs.length c3) f.certs) → Below w.heap.size w w' → K (a0.put o.dst (.agg #[.int .i64 f.fr, .int .i64 f.to, .int .i64 f.seq, .bool f.ack, .int .i64 f.thread, .int .i64 f.mail.host, .int .i64 f.mail.thread, .slice p1 f.mail.label.length c1, .slice p2 f.mail.grants.length c2, .string ⟨f.mail.text.toArray⟩, .slice p3 f.certs.length c3])) w') :
    if Region.wanted o (yielded ops a0.tmps) = true then Oper.wp Tryz.prog o a0 w K Q else E := by
  have hw : Region.wanted o (yielded ops a0.tmps) = true := by simp [Region.wanted, hgd]
  rw [if_pos hw]
  unfold Oper.wp
  obtain ⟨dst, op, ty, pos, after, guard⟩ := o
  simp only at ho
  subst ho
  rw [execOp_call_go]
  have e : (#[] ++ #[x].map a0.eval ++ #[] : Array Value) = #[v] := by simp [hx]
  rw [e, enter_lcopyFrame, Oper.upon_enter]
  refine (lcopyFrame_any v f w hf).mono ?_
  rintro e w' ⟨p1, c1, p2, c2, p3, c3, rfl, h1, h2⟩
  exact h p1 c1 p2 c2 p3 c3 w' h1 h2
set_option maxRecDepth 100000 in
set_option maxHeartbeats 3200000 in
theorem lcopyLine_any (v : Value) (L : Lne) (w : World) (hv : LneAt w v L) :
    Calls Tryz.prog 113 #[v] w fun e w' => ∃ vs q, e = .returned (lneV L vs) ∧ q.map (·.s) = L.sent ∧ OwnRow w.heap.size w' vs q ∧ Below w.heap.size w w' := by
  obtain ⟨nx, st, hi, b0, b1, b2, b3, b4, b5, b6, b7, p, cap, rfl, rfl, hs⟩ := hv.spell
  have hlen := hs.len
  obtain ⟨q0, hq0, hok0, hr0⟩ := hs
  have hql : q0.length = st.length := by rw [← hq0, List.length_map]
  have HR := hid hr0
  have HOK := hid hok0
  clear hr0 hok0 hv
  have hb0 : Below w.heap.size w ((w.alloc (.cells #[.int .i64 nx, .slice p st.length cap, .int .i64 hi, .bool b0, .bool b1, .bool b2, .bool b3, .bool b4, .bool b5, .bool b6, .bool b7] 89)).alloc (.cells #[.int .i64 0, .slice none 0 0, .int .i64 0, .bool false, .bool false, .bool false, .bool false, .bool false, .bool false, .bool false, .bool false] 89)) := (below_box w _).alloc (by simp) _
  go_enter Tryz.func113, Tryz.ntmps113
  go_wp2_with fail
  refine (cloneS_any _ q0 _ (HR.out.below hb0) (fun x hx => (HOK.out x hx).below hb0)).mono ?_
  rintro e w1 ⟨v1, rfl, hown1, hw1⟩
  obtain ⟨p1, c1, rfl⟩ := own_slice hown1
  rw [hql] at hown1 ⊢
  have hbx1 := heap_keep (heap_alloc2_old w _ _) hw1
  have hrs1 := heap_keep (heap_alloc2_new w _ _) hw1
  have hbw1 := below_then hb0 hw1
  have hown1 := own_base_le (base' := w.heap.size) hown1 hb0.size
  have x1 := heap_cell hbx1 1
  have y1 := heap_frozen hbx1 1
  clear hw1 hb0
  go_wp2
  have HCP : Hid (CpL w #[.int .i64 nx, .slice p1 st.length c1, .int .i64 hi, .bool b0, .bool b1, .bool b2, .bool b3, .bool b4, .bool b5, .bool b6, .bool b7] (.slice p1 st.length c1) st 0 (w1.setCell ⟨w.heap.size, 1, none⟩ (.slice p1 st.length c1))) := hid
    ⟨heap_setCell (j := 1) hbx1 _, heap_store hrs1 (show w.heap.size + 1 ≠ w.heap.size by omega) 1 _, hbw1.grown (grown_setCell w1 w.heap.size 1 _) hbw1.size (fun k hk => by cases hk; exact Nat.le_refl _), q0, hq0, by rw [hql]; exact own_store hown1 hbx1 (by decide) 1 _, fun x hx w' ho => (HOK.out x hx).agree fun k hk => by
      have hk1 := Nat.lt_of_lt_of_le hk hbw1.size
      have hne : (Value.slice p1 st.length c1).ownBlock ≠ some k := fun e => by
        have := own_base hown1 e
        omega
      rw [ho k (by simpa using hk1) hne (by omega) (by omega), (grown_setCell w1 w.heap.size 1 (.slice p1 st.length c1)).block k hk1 (fun e => by have := Option.some.inj e; omega), hbw1.block k hk], fun j hj h0 => by omega⟩
  clear hbx1 hrs1 hbw1 hown1 x1 y1
  generalize w1.setCell ⟨w.heap.size, 1, none⟩ (.slice p1 st.length c1) = w2 at *
  go_loopw [11] (fun i wr => ∃ k : Nat, k ≤ st.length ∧ i = .int .i64 k ∧ CpL w #[.int .i64 nx, .slice p1 st.length c1, .int .i64 hi, .bool b0, .bool b1, .bool b2, .bool b3, .bool b4, .bool b5, .bool b6, .bool b7] (.slice p1 st.length c1) st k wr) (fun i _ => st.length - (intOf i).toNat)
  case atStart => exact ⟨0, Nat.zero_le _, rfl, HCP.out⟩
  case round =>
    clear HCP
    obtain ⟨k, hk, rfl, hcp⟩ := hrel
    have HCP := hid hcp
    by_cases hlt : k < st.length
    · have hI : (k : Int) < (st.length : Int) := by omega
      obtain ⟨q, r1, r2, r3, r4⟩ := hcp.row
      have hqs : q.length = st.length := by rw [← r1, List.length_map]
      have hkq : k < q.length := by omega
      rw [hqs] at r2
      obtain ⟨g, hpe⟩ : ∃ g, p1 = some ⟨g, 0, none⟩ := by
        rcases r2.2 with ⟨_, hn⟩ | ⟨g, cap, cur, e, _⟩
        · omega
        · cases e; exact ⟨g, rfl⟩
      subst hpe
      have hsk : (q[k]).s = st[k] := by simp only [← r1, List.getElem_map]
      have hokk := r3 _ (List.getElem_mem hkq) wr (fun _ _ _ _ _ => rfl)
      have hc : ∀ i, i < 13 → ∀ u, (q[k]).cells[i]? = some u → wr.cell? ⟨g, k * 13 + i, none⟩ = some u := fun i hi u hu => by
        have := World.ownsRow.cells r2 (g := g) rfl _ _ ((flatS_get q k hkq i hi).trans hu)
        rwa [WideShapes.add_plain, Nat.zero_add] at this
      obtain ⟨sk, vl, vg, vc, hqk⟩ : ∃ s vl vg vc, q[k] = ⟨s, vl, vg, vc⟩ := ⟨_, _, _, _, rfl⟩
      rw [hqk] at hc hokk hsk
      obtain ⟨hk1, hk2, hk3⟩ := hokk
      simp only at hk1 hk2 hk3 hsk
      obtain ⟨pl, cl, e1, _⟩ := id hk1
      obtain ⟨pg, cg, e2, _⟩ := id hk2
      obtain ⟨pc, cc, e3, _⟩ := id hk3
      subst e1 e2 e3
      have a0 : wr.cell? ⟨g, k * 13, none⟩ = _ := hc 0 (by omega) _ rfl
      have a1 := hc 1 (by omega) _ rfl
      have a2 := hc 2 (by omega) _ rfl
      have a3 := hc 3 (by omega) _ rfl
      have a4 := hc 4 (by omega) _ rfl
      have a5 := hc 5 (by omega) _ rfl
      have a6 := hc 6 (by omega) _ rfl
      have a7 := hc 7 (by omega) _ rfl
      have a8 := hc 8 (by omega) _ rfl
      have a9 := hc 9 (by omega) _ rfl
      have a10 := hc 10 (by omega) _ rfl
      have hfr : ∀ w7, Below wr.heap.size wr w7 → ∀ j, w7.frozen? ⟨g, j, none⟩ = false := fun w7 hb j => by
        obtain ⟨cur, hg, _⟩ := own_get (own_base_le (own_later r2 hb) (Nat.zero_le _))
        exact heap_frozen hg _
      have HFR := hid hfr
      have hBl : w.heap.size < wr.heap.size := heap_lt hcp.box
      have hBl1 : w.heap.size + 1 < wr.heap.size := heap_lt hcp.res
      have hgl : g < wr.heap.size := cell_block a0
      have x1 := heap_cell hcp.box 1
      have HFRM : Hid (FrmAt wr (.agg #[.int .i64 sk.f.fr, .int .i64 sk.f.to, .int .i64 sk.f.seq, .bool sk.f.ack, .int .i64 sk.f.thread, .int .i64 sk.f.mail.host, .int .i64 sk.f.mail.thread, .slice pl sk.f.mail.label.length cl, .slice pg sk.f.mail.grants.length cg, .string ⟨sk.f.mail.text.toArray⟩, .slice pc sk.f.certs.length cc]) sk.f) := hid ⟨_, _, _, rfl, hk1, hk2, hk3⟩
      have HSTEP := hid (fun (wx : World) (u1 u2 u3 : Value) (hb : Below wr.heap.size wr wx) (hu : ∀ w', Off (w.heap.size + 2) (some g) wx w' → LabAt w' u1 sk.f.mail.label ∧ IntsAt w' u2 sk.f.mail.grants ∧ CrtsAt w' u3 sk.f.certs) => (HCP.out.below' hb).step rfl hlt hsk.symm hu)
      clear hcp r1 r2 r3 r4 hc hqk hk1 hk2 hk3 hfr hqs hkq hsk
      go_wp2
      go_region_law ((refine step_lcopyFrame (by rfl) (.tmp 22) #[51] (by rfl) _ sk.f (by rfl) HFRM.out ?_; intro p6 c6 p7 c7 p8 c8 wA hcopy hwAd; have hwA : Below wr.heap.size wr wA := ⟨hwAd.os, hwAd.tape, hwAd.output, hwAd.size, hwAd.block⟩; have z1 := hwA.cell (cell_block x1); rw [x1] at z1; have f0 := HFR.out wA hwA (k * 13); have e0 := hwA.cell (cell_block a0); rw [a0] at e0; have f1 := HFR.out wA hwA (k * 13 + 1); have e1 := hwA.cell (cell_block a1); rw [a1] at e1; have f2 := HFR.out wA hwA (k * 13 + 2); have e2 := hwA.cell (cell_block a2); rw [a2] at e2; have f3 := HFR.out wA hwA (k * 13 + 3); have e3 := hwA.cell (cell_block a3); rw [a3] at e3; have f4 := HFR.out wA hwA (k * 13 + 4); have e4 := hwA.cell (cell_block a4); rw [a4] at e4; have f5 := HFR.out wA hwA (k * 13 + 5); have e5 := hwA.cell (cell_block a5); rw [a5] at e5; have f6 := HFR.out wA hwA (k * 13 + 6); have e6 := hwA.cell (cell_block a6); rw [a6] at e6; have f7 := HFR.out wA hwA (k * 13 + 7); have e7 := hwA.cell (cell_block a7); rw [a7] at e7; have f8 := HFR.out wA hwA (k * 13 + 8); have e8 := hwA.cell (cell_block a8); rw [a8] at e8; have f9 := HFR.out wA hwA (k * 13 + 9); have e9 := hwA.cell (cell_block a9); rw [a9] at e9; have f10 := HFR.out wA hwA (k * 13 + 10); have e10 := hwA.cell (cell_block a10); rw [a10] at e10; have HS := hid (HSTEP.out wA _ _ _ hwA (fun w' ho => hcopy w' (fun j hj hjs => ho j (by have hj2 : wr.heap.size ≤ j := hj; omega) hjs (by intro e; have := Option.some.inj e; have hj2 : wr.heap.size ≤ j := hj; omega)))); clear hcopy hwAd))
      all_goals
        clear HSTEP HFRM HFR
        go_wp2
        go_roundw
        case rel => exact ⟨k + 1, hlt, by go_num, HS.out⟩
        case measure => simp [intOf]; omega
    · obtain ⟨q, r1, r2, r3, r4⟩ := hcp.row
      have hqs : q.length = st.length := by rw [← r1, List.length_map]
      have hS := st11_grown wr (w.heap.size + 1) (.int .i64 nx) (.slice p1 st.length c1) (.int .i64 hi) (.bool b0) (.bool b1) (.bool b2) (.bool b3) (.bool b4) (.bool b5) (.bool b6) (.bool b7)
      have HW := hid (st11_heap (.int .i64 nx) (.slice p1 st.length c1) (.int .i64 hi) (.bool b0) (.bool b1) (.bool b2) (.bool b3) (.bool b4) (.bool b5) (.bool b6) (.bool b7) hcp.res)
      have HO : Hid (OwnRow w.heap.size (st11 wr (w.heap.size + 1) (.int .i64 nx) (.slice p1 st.length c1) (.int .i64 hi) (.bool b0) (.bool b1) (.bool b2) (.bool b3) (.bool b4) (.bool b5) (.bool b6) (.bool b7)) (.slice p1 st.length c1) q) := hid ⟨own_block r2 hcp.res (by decide) hS, fun x hx w' ho => by
        obtain ⟨j, hj, rfl⟩ := List.mem_iff_getElem.1 hx
        exact r4 j hj (by omega) w' (off_box hS (by omega) (fun k hk => ho k (by omega)))⟩
      have HB := hid (hcp.below.grown hS hcp.below.size (fun k hk => by have := Option.some.inj hk; omega))
      have x0 := heap_cell hcp.box 0
      have d0 := heap_cell hcp.res 0
      have g0 := heap_frozen hcp.res 0
      have x1 := heap_cell hcp.box 1
      have d1 := heap_cell hcp.res 1
      have g1 := heap_frozen hcp.res 1
      have x2 := heap_cell hcp.box 2
      have d2 := heap_cell hcp.res 2
      have g2 := heap_frozen hcp.res 2
      have x3 := heap_cell hcp.box 3
      have d3 := heap_cell hcp.res 3
      have g3 := heap_frozen hcp.res 3
      have x4 := heap_cell hcp.box 4
      have d4 := heap_cell hcp.res 4
      have g4 := heap_frozen hcp.res 4
      have x5 := heap_cell hcp.box 5
      have d5 := heap_cell hcp.res 5
      have g5 := heap_frozen hcp.res 5
      have x6 := heap_cell hcp.box 6
      have d6 := heap_cell hcp.res 6
      have g6 := heap_frozen hcp.res 6
      have x7 := heap_cell hcp.box 7
      have d7 := heap_cell hcp.res 7
      have g7 := heap_frozen hcp.res 7
      have x8 := heap_cell hcp.box 8
      have d8 := heap_cell hcp.res 8
      have g8 := heap_frozen hcp.res 8
      have x9 := heap_cell hcp.box 9
      have d9 := heap_cell hcp.res 9
      have g9 := heap_frozen hcp.res 9
      have x10 := heap_cell hcp.box 10
      have d10 := heap_cell hcp.res 10
      have g10 := heap_frozen hcp.res 10
      have hne : w.heap.size ≠ w.heap.size + 1 := by omega
      have hne2 : w.heap.size + 1 ≠ w.heap.size := by omega
      clear hS hcp HCP r2 r3 r4
      go_wp2
      exact bodyPost_ret (results_cell_row rfl _ _ (w.heap.size + 1) 89 _ (0, 0) _ rfl HW.out Tryz.underlying89 rfl (by kernel_rfl)) rfl ⟨_, q, rfl, r1, HO.out, HB.out⟩
end Go.Proofs.YtgpldlbmjakjhaaGreat
namespace Go.Proofs.YtgpldlbmjakjhaaGreat
open Go.RowKit Go.Proofs.Parclose
theorem OwnRow.snoc {B : Nat} {w w' : World} {v v' : Value} {q : List SntV} {x : SntV} (h : OwnRow B w v q) (hx : ∀ w'', Off B v.ownBlock w w'' → x.Ok w'') (hg : w.grownBy w' v.ownBlock) (hown : w'.ownsRow 0 176 13 v' (q.length + 1) (flatS q ++ x.cells)) (hB : B ≤ w.heap.size)
    (hw : ∀ k, v'.ownBlock = some k → v.ownBlock = some k ∨ w.heap.size ≤ k) : OwnRow B w' v' (q ++ [x]) := by
  have ho : ∀ w'', Off B v'.ownBlock w' w'' → Off B v.ownBlock w w'' := fun w'' ho k hk hks hr => by
    rw [ho k hk (Nat.lt_of_lt_of_le hks hg.size) (fun e => (hw k e).elim (fun h1 => hr h1) (fun h1 => by omega)), hg.block k hks (Ne.symm hr)]
  refine ⟨?_, fun y hy w'' hoff => ?_⟩
  · rw [flatS_app, List.length_append]
    refine own_rebase (by simpa [flatS] using hown) fun k hk => ?_
    rcases hw k hk with h1 | h1
    · exact own_base h.own h1
    · omega
  · rcases List.mem_append.1 hy with hy | hy
    · exact h.ok y hy w'' (ho w'' hoff)
    · rw [List.mem_singleton] at hy
      subst hy
      exact hx w'' (ho w'' hoff)
theorem sent_run {w : World} {ty : TypeId} {B : Nat} {v : Value} {q : List SntV} {x : SntV} {g c : Nat} (h : OwnRow B w v q) (hx : ∀ w'', Off B v.ownBlock w w'' → x.Ok w'') (hc : ∀ j u, x.cells[j]? = some u → w.cell? ⟨g, j, none⟩ = some u) (hB : B ≤ w.heap.size) (hn : q.length < 879609302220) :
    ∃ v' w', (Builtin.append_ #[86, 86] ty #[v, .slice (some ⟨g, 0, none⟩) 1 c]).run Tryz.prog w = .ok v' w' ∧ OwnRow B w' v' (q ++ [x]) ∧ w.grownBy w' v.ownBlock := by
  obtain ⟨i0, hi, hz0, hz1, hz2⟩ := info_parts info_sent
  have h1 : ∀ u ∈ x.cells, u.oneCell' = true := fun u hu => flatS_one (q := [x]) (fun y hy => by rw [List.mem_singleton] at hy; subst hy; exact hx w (Off.refl _ _ _)) u (by simpa [flatS] using hu)
  obtain ⟨v', w', hr, k1, k2, k3⟩ := append_where (ty := ty) (c := c) Tryz.underlying86 hi hz0 hz1 hz2 rfl (by decide) (own_base_le h.own (Nat.zero_le _)) (m := 1) (news := x.cells) (a := ⟨g, 0, none⟩) rfl (fun j u hu => by rw [WideShapes.add_plain, Nat.zero_add]; exact hc j u hu) h1 (by unfold maxLen; omega) (by omega)
  exact ⟨v', w', hr, h.snoc hx k2 k1 hB k3, k2⟩
theorem step_sent {w : World} {ops : Array Oper} {o : Oper} {a0 : Act} {K : Act → World → Prop} {Q : Exit → Act → World → Prop} {E : Prop} (hgd : o.guard = none) (s x : Operand)
    (ho : o.op = .call { callee := .builtin .append, args := #[s, x], argTypes := #[86, 86] }) (B : Nat) (v : Value) (q : List SntV) (y : SntV) (hs : a0.eval s = v) (hown : OwnRow B w v q)
    (g c : Nat) (hx : a0.eval x = .slice (some ⟨g, 0, none⟩) 1 c) (hy : ∀ w'', Off B v.ownBlock w w'' → y.Ok w'') (hc : ∀ j u, y.cells[j]? = some u → w.cell? ⟨g, j, none⟩ = some u) (hB : B ≤ w.heap.size) (hn : q.length < 879609302220)
    (h : ∀ v' w', OwnRow B w' v' (q ++ [y]) → w.grownBy w' v.ownBlock → K (a0.put o.dst v') w') :
    if Region.wanted o (yielded ops a0.tmps) = true then Oper.wp Tryz.prog o a0 w K Q else E := by
  have hw : Region.wanted o (yielded ops a0.tmps) = true := by simp [Region.wanted, hgd]
  rw [if_pos hw]
  obtain ⟨v', w', hr, k1, k2⟩ := sent_run (ty := o.type) (c := c) hown hy hc hB hn
  unfold Oper.wp execOp
  simp only [ho, resolve, invoke, builtin, Sem.run_bind, Sem.run_pure, Result.andThen_ok, List.map_toArray, List.map_cons, List.map_nil, hs, hx, hr]
  exact h v' w' k1 k2
end Go.Proofs.YtgpldlbmjakjhaaGreat
namespace Go.Proofs.YtgpldlbmjakjhaaGreat
open Go.RowKit Go.Proofs.Parclose
set_option maxRecDepth 100000 in
set_option maxHeartbeats 6400000 in
theorem copyThread_any (v : ThrV) (th : Thr) (F : List Nat) (w : World) (h : ThrAt w F v th) (hown : th.own.length ≤ 1000) (hob : th.objs.length ≤ 1000) (hml : th.mails.length ≤ 1000) (hxs : ∀ m ∈ th.mails, m.text.length ≤ 64) :
    Calls Tryz.prog 59 #[.agg #[v.vl, v.vo, .string ⟨th.text.toArray⟩, v.vj, v.vm]] w fun e w' => ∃ vl vo vj vm, e = .returned (.agg #[vl, vo, .string ⟨th.text.toArray⟩, vj, vm]) ∧ ThrNew w' w.heap.size vl vo vj vm th ∧ Below w.heap.size w w' := by
  obtain ⟨⟨hl, _⟩, ho, ⟨vs0, hvs, hro, hrl⟩, ⟨us0, hus, hrm, hrml⟩⟩ := h
  have hoi := own_ints ho hown
  have HL := hid hl
  have HO := hid hoi
  have HRO := hid hro
  have HRM := hid hrm
  have HRL := hid hrl
  have HRML := hid hrml
  have hone := objs_one vs0 th.objs hvs hrl
  have hmone := mails_one us0 th.mails hus hrml
  obtain ⟨pl, cl, hvl, _⟩ := id hl
  obtain ⟨po, co, hvo, _⟩ := id hoi
  obtain ⟨pj, cj, hvj⟩ := own_slice hro
  obtain ⟨pm, cm, hvm⟩ := own_slice hrm
  rw [hvl] at HL ⊢
  rw [hvo] at HO ⊢
  rw [hvj] at HRO ⊢
  rw [hvm] at HRM ⊢
  clear hl hoi hro hrm hrl hrml ho hvl hvo hvj hvm
  have hb0 : Below w.heap.size w ((w.alloc (.cells #[.slice pl th.label.length cl, .slice po th.own.length co, .string ⟨th.text.toArray⟩, .slice pj th.objs.length cj, .slice pm th.mails.length cm] 42)).alloc (.cells #[.slice none 0 0, .slice none 0 0, .string ⟨#[]⟩, .slice none 0 0, .slice none 0 0] 42)) := (below_box w _).alloc (by simp) _
  go_enter Tryz.func59, Tryz.ntmps59
  go_wp2_with fail
  refine (cloneL_any _ th.label _ (HL.out.below hb0)).mono ?_
  rintro e w1 ⟨v1, rfl, hown1, hw1⟩
  obtain ⟨p1, q1, rfl⟩ := own_slice hown1
  have hbx1 := heap_keep (heap_alloc2_old w _ _) hw1
  have hrs1 := heap_keep (heap_alloc2_new w _ _) hw1
  have hbw1 := below_then hb0 hw1
  have hown1 := own_base_le (base' := w.heap.size) hown1 hb0.size
  obtain ⟨⟨c0, c1, c2, c3, c4⟩, f0, f1, f2, f3, f4⟩ := cells5 hbx1
  clear hw1 hb0
  go_wp2_with fail
  have hbx2 := heap_setCell (j := 0) hbx1 (.slice p1 th.label.length q1)
  have hrs2 := heap_store hrs1 (show w.heap.size + 1 ≠ w.heap.size by omega) 0 (.slice p1 th.label.length q1)
  have hown2 := own_store hown1 hbx1 (by decide) 0 (.slice p1 th.label.length q1)
  have hbw2 := hbw1.grown (grown_setCell w1 w.heap.size 0 (.slice p1 th.label.length q1)) hbw1.size (fun k hk => by cases hk; exact Nat.le_refl _)
  clear hbx1 hrs1 hbw1 hown1 c0 c1 c2 c3 c4 f0 f1 f2 f3 f4
  generalize w1.setCell ⟨w.heap.size, 0, none⟩ (.slice p1 th.label.length q1) = w2 at *
  refine (cloneI_any _ th.own _ (HO.out.below hbw2)).mono ?_
  rintro e w3 ⟨v3, rfl, hown3, hw3⟩
  obtain ⟨p3, q3, rfl⟩ := own_slice hown3
  have hbx3 := heap_keep hbx2 hw3
  have hrs3 := heap_keep hrs2 hw3
  have hlab3 := own_later hown2 hw3
  have hown3 := own_base_le (base' := w.heap.size) hown3 hbw2.size
  have hbw3 := below_then hbw2 hw3
  clear hw3 hbx2 hrs2 hbw2 hown2
  obtain ⟨⟨c0, c1, c2, c3, c4⟩, f0, f1, f2, f3, f4⟩ := cells5 hbx3
  go_wp2_with fail
  have hbx4 := heap_setCell (j := 1) hbx3 (.slice p3 th.own.length q3)
  have hrs4 := heap_store hrs3 (show w.heap.size + 1 ≠ w.heap.size by omega) 1 (.slice p3 th.own.length q3)
  have hlab4 := own_store hlab3 hbx3 (by decide) 1 (.slice p3 th.own.length q3)
  have hown4 := own_store hown3 hbx3 (by decide) 1 (.slice p3 th.own.length q3)
  have hbw4 := hbw3.grown (grown_setCell w3 w.heap.size 1 (.slice p3 th.own.length q3)) hbw3.size (fun k hk => by cases hk; exact Nat.le_refl _)
  clear hbx3 hrs3 hbw3 hlab3 hown3 c0 c1 c2 c3 c4 f0 f1 f2 f3 f4
  generalize w3.setCell ⟨w.heap.size, 1, none⟩ (.slice p3 th.own.length q3) = w4 at *
  refine (cloneO_own _ th.objs.length (flatO vs0 th.objs) w4 (own_later HRO.out hbw4) hob hone).mono ?_
  rintro e w5 ⟨p5, q5, rfl, hobj5, hw4⟩
  have hbx5 := heap_keep hbx4 hw4
  have hrs5 := heap_keep hrs4 hw4
  have hlab5 := own_later hlab4 hw4
  have hown5 := own_later hown4 hw4
  have hobj5 := own_base_le (base' := w.heap.size) hobj5 hbw4.size
  have hbw5 := below_then hbw4 hw4
  clear hw4 hbx4 hrs4 hbw4 hlab4 hown4
  obtain ⟨⟨c0, c1, c2, c3, c4⟩, f0, f1, f2, f3, f4⟩ := cells5 hbx5
  go_wp2
  have HCP : Hid (CpO w w.heap.size (.slice p1 th.label.length q1) (.slice p3 th.own.length q3) (.slice p5 th.objs.length q5) (.slice pm th.mails.length cm) th vs0 0 (w5.setCell ⟨w.heap.size, 3, none⟩ (.slice p5 th.objs.length q5))) := hid
    ⟨heap_setCell (j := 3) hbx5 _, heap_store hrs5 (show w.heap.size + 1 ≠ w.heap.size by omega) 3 _, hbw5.grown (grown_setCell w5 w.heap.size 3 _) hbw5.size (fun k hk => by cases hk; exact Nat.le_refl _), own_store hlab5 hbx5 (by decide) 3 _, own_store hown5 hbx5 (by decide) 3 _, vs0, hvs, own_store hobj5 hbx5 (by decide) 3 _, fun j h1 _ => ⟨fun h => by omega, fun _ => List.getElem?_eq_getElem h1⟩⟩
  clear hbx5 hrs5 hbw5 hlab5 hown5 hobj5 c0 c1 c2 c3 c4 f0 f1 f2 f3 f4
  generalize w5.setCell ⟨w.heap.size, 3, none⟩ (.slice p5 th.objs.length q5) = w6 at *
  go_loopw [22] (fun i wr => ∃ k : Nat, k ≤ th.objs.length ∧ i = .int .i64 k ∧ CpO w w.heap.size (.slice p1 th.label.length q1) (.slice p3 th.own.length q3) (.slice p5 th.objs.length q5) (.slice pm th.mails.length cm) th vs0 k wr) (fun i _ => th.objs.length - (intOf i).toNat)
  case atStart => exact ⟨0, Nat.zero_le _, rfl, HCP.out⟩
  case round =>
    clear HCP
    obtain ⟨k, hk, rfl, hcp⟩ := hrel
    have HCP := hid hcp
    by_cases hlt : k < th.objs.length
    · obtain ⟨vs, r1, r2, r3⟩ := hcp.row
      obtain ⟨g, hpe⟩ : ∃ g, p5 = some ⟨g, 0, none⟩ := by
        rcases r2.2 with ⟨_, hn⟩ | ⟨g, cap, cur, e, _⟩
        · omega
        · cases e; exact ⟨g, rfl⟩
      subst hpe
      have hvk : k < vs.length := by omega
      have hck := World.ownsRow.cells r2 (g := g) rfl _ _ (flatO_get vs th.objs r1 k hvk hlt).1
      rw [WideShapes.add_plain, Nat.zero_add] at hck
      have hlab : LabAt wr vs[k] th.objs[k].label := by
        have e := (r3 k hvk hlt).2 (Nat.le_refl _)
        obtain ⟨h0, e⟩ := List.getElem?_eq_some_iff.1 e
        rw [← e]
        exact (HRL.out k h0 hlt).1.below hcp.below
      have HLK := hid hlab
      have hfr : ∀ w7, Below wr.heap.size wr w7 → w7.frozen? ⟨g, k * 2, none⟩ = false := fun w7 hb => by
        obtain ⟨cur, hg, _⟩ := own_get (own_base_le (own_later r2 hb) (Nat.zero_le _))
        exact heap_frozen hg _
      have hBs : w.heap.size ≤ wr.heap.size := hcp.below.size
      have c3 := heap_cell hcp.box 3
      obtain ⟨pk, ck, hpk, _⟩ := id hlab
      rw [hpk] at hck
      rw [hpk] at HLK
      clear r3 r2 hcp hlab
      go_wp2_with fail
      refine (cloneL_any _ th.objs[k].label _ HLK.out).mono ?_
      rintro e w7 ⟨v7, rfl, hown7, hw7⟩
      obtain ⟨p7, q7, rfl⟩ := own_slice hown7
      have hf7 := hfr w7 hw7
      have hcc := hw7.cell (cell_block hck)
      rw [hck] at hcc
      have HC7 := hid (HCP.out.step hlt hw7 (own_base_le hown7 hBs))
      clear hown7 hw7 hfr
      go_wp2
      go_roundw
      case rel => exact ⟨k + 1, hlt, by go_num, HC7.out⟩
      case measure => simp [intOf]; omega
    · have hkl : k = th.objs.length := by omega
      subst hkl
      have HOBJ : Hid (ObjsNew wr w.heap.size (.slice p5 th.objs.length q5) th.objs) := hid (by
        obtain ⟨vs, r1, r2, r3⟩ := hcp.row
        exact ⟨vs, r1, r2, fun j h1 h2 => (r3 j h1 h2).1 h2⟩)
      obtain ⟨⟨c0, c1, c2, c3, c4⟩, f0, f1, f2, f3, f4⟩ := cells5 hcp.box
      have hmr := own_later HRM.out hcp.below
      clear hcp
      go_wp2_with fail
      refine (cloneM_own _ th.mails.length (flatM us0 th.mails) wr hmr hml hmone).mono ?_
      rintro e w8 ⟨p8, q8, rfl, hml8, hw8⟩
      have hcp8 := HCP.out
      have hbx8 := heap_keep hcp8.box hw8
      have hrs8 := heap_keep hcp8.res hw8
      have hbw8 := below_then hcp8.below hw8
      have hlab8 := own_later hcp8.lab hw8
      have hown8 := own_later hcp8.own hw8
      have hobj8 : ObjsNew w8 w.heap.size (.slice p5 th.objs.length q5) th.objs := HOBJ.out.keep (R := []) (fun _ h => by cases h) (kept_below _ hw8)
      have hml8 := own_base_le (base' := w.heap.size) hml8 hcp8.below.size
      clear c0 c1 c2 c3 c4 f0 f1 f2 f3 f4 hmr hw8 hcp8 HCP HOBJ
      obtain ⟨⟨c0, c1, c2, c3, c4⟩, f0, f1, f2, f3, f4⟩ := cells5 hbx8
      go_wp2
      have HCM : Hid (CpM w w.heap.size (.slice p1 th.label.length q1) (.slice p3 th.own.length q3) (.slice p5 th.objs.length q5) (.slice p8 th.mails.length q8) th us0 0 (w8.setCell ⟨w.heap.size, 4, none⟩ (.slice p8 th.mails.length q8))) := hid
        ⟨heap_setCell (j := 4) hbx8 _, heap_store hrs8 (show w.heap.size + 1 ≠ w.heap.size by omega) 4 _, hbw8.grown (grown_setCell w8 w.heap.size 4 _) hbw8.size (fun k hk => by cases hk; exact Nat.le_refl _), own_store hlab8 hbx8 (by decide) 4 _, own_store hown8 hbx8 (by decide) 4 _, hobj8.keep (fun k hk => .inr ⟨_, _, by simp at hk; subst hk; exact hbx8, by decide, by decide, by decide, by decide⟩) (kept_set (F := [w.heap.size]) w8 _ _ _ (by simp)), us0, hus, own_store hml8 hbx8 (by decide) 4 _, fun j h1 _ => ⟨fun h => by omega, fun _ => List.getElem?_eq_getElem h1⟩⟩
      clear hbx8 hrs8 hbw8 hlab8 hown8 hobj8 hml8 c0 c1 c2 c3 c4 f0 f1 f2 f3 f4
      generalize w8.setCell ⟨w.heap.size, 4, none⟩ (.slice p8 th.mails.length q8) = w9 at *
      go_loopw [45] (fun i wr => ∃ k : Nat, k ≤ th.mails.length ∧ i = .int .i64 k ∧ CpM w w.heap.size (.slice p1 th.label.length q1) (.slice p3 th.own.length q3) (.slice p5 th.objs.length q5) (.slice p8 th.mails.length q8) th us0 k wr) (fun i _ => th.mails.length - (intOf i).toNat)
      case atStart => exact ⟨0, Nat.zero_le _, rfl, HCM.out⟩
      case round =>
        clear HCM
        obtain ⟨k, hk, rfl, hcm⟩ := hrel
        have HCM := hid hcm
        by_cases hlt : k < th.mails.length
        · obtain ⟨us, r1, r2, r3⟩ := hcm.row
          obtain ⟨g, hpe⟩ : ∃ g, p8 = some ⟨g, 0, none⟩ := by
            rcases r2.2 with ⟨_, hn⟩ | ⟨g, cap, cur, e, _⟩
            · omega
            · cases e; exact ⟨g, rfl⟩
          subst hpe
          have huk : k < us.length := by omega
          obtain ⟨m0, m1, m2, m3, m4⟩ := flatM_get us th.mails r1 k huk hlt
          have a0 := World.ownsRow.cells r2 (g := g) rfl _ _ m0
          have a1 := World.ownsRow.cells r2 (g := g) rfl _ _ m1
          have a2 := World.ownsRow.cells r2 (g := g) rfl _ _ m2
          have a3 := World.ownsRow.cells r2 (g := g) rfl _ _ m3
          have a4 := World.ownsRow.cells r2 (g := g) rfl _ _ m4
          rw [WideShapes.add_plain, Nat.zero_add] at a0 a1 a2 a3 a4
          have hmal : LabAt wr us[k].1 th.mails[k].label ∧ IntsAt wr us[k].2 th.mails[k].grants := by
            have e := (r3 k huk hlt).2 (Nat.le_refl _)
            obtain ⟨h0, e⟩ := List.getElem?_eq_some_iff.1 e
            rw [← e]
            exact ⟨(HRML.out k h0 hlt).1.1.below hcm.below, (HRML.out k h0 hlt).2.1.below hcm.below⟩
          have hfr : ∀ w7, Below wr.heap.size wr w7 → ∀ j, w7.frozen? ⟨g, j, none⟩ = false := fun w7 hb j => by
            obtain ⟨cur, hg, _⟩ := own_get (own_base_le (own_later r2 hb) (Nat.zero_le _))
            exact heap_frozen hg _
          have HFR := hid hfr
          have hBs : w.heap.size ≤ wr.heap.size := hcm.below.size
          have hBl : w.heap.size < wr.heap.size := heap_lt hcm.box
          have hgl : g < wr.heap.size := cell_block a0
          have x4 := heap_cell hcm.box 4
          have hx64 := hxs th.mails[k] (List.getElem_mem hlt)
          obtain ⟨pk, ck, hpk, _⟩ := id hmal.1
          obtain ⟨pi, ci, hpi, _⟩ := id hmal.2
          rw [hpk] at a2
          rw [hpi] at a3
          have HMAL : Hid (MalAt wr (.agg #[.int .i64 th.mails[k].host, .int .i64 th.mails[k].thread, .slice pk th.mails[k].label.length ck, .slice pi th.mails[k].grants.length ci, .string ⟨th.mails[k].text.toArray⟩]) th.mails[k]) := hid ⟨_, _, rfl, by rw [← hpk]; exact hmal.1, by rw [← hpi]; exact hmal.2⟩
          have hbA := below_box wr (.cells #[.int .i64 th.mails[k].host, .int .i64 th.mails[k].thread, .slice pk th.mails[k].label.length ck, .slice pi th.mails[k].grants.length ci, .string ⟨th.mails[k].text.toArray⟩] 46)
          have HSTEP := hid (fun (wx : World) (p6 q6 : Option Addr) (c6 d6 : Nat) (hb : Below wr.heap.size wr wx) (h1 : wx.ownsRow w.heap.size 74 2 (.slice p6 th.mails[k].label.length c6) th.mails[k].label.length (flat2 th.mails[k].label)) (h2 : wx.ownsRow w.heap.size 3 1 (.slice q6 th.mails[k].grants.length d6) th.mails[k].grants.length (flat1 th.mails[k].grants)) => (HCM.out.below' hb).step (u1 := .slice p6 th.mails[k].label.length c6) (u2 := .slice q6 th.mails[k].grants.length d6) hlt h1 h2)
          clear r3 r2 hcm hmal hfr m0 m1 m2 m3 m4 hpk hpi r1 huk
          generalize th.mails[k] = m at *
          have c4A := hbA.cell (cell_block x4)
          rw [x4] at c4A
          go_wp2
          go_region_law ((refine step_kcopyMail (by rfl) (.tmp 53) #[46] (by rfl) _ m (by rfl) (HMAL.out.below hbA.drew) hx64 ?_; intro p6 c6 q6 d6 w10 hownL hownG hw6d; have hw6 := below_then hbA (kundrew hw6d); have z4 := hw6.cell (cell_block x4); rw [x4] at z4; have f0 := HFR.out w10 hw6 (k * 5); have f1 := HFR.out w10 hw6 (k * 5 + 1); have f2 := HFR.out w10 hw6 (k * 5 + 2); have f3 := HFR.out w10 hw6 (k * 5 + 3); have f4 := HFR.out w10 hw6 (k * 5 + 4); have e0 := hw6.cell (cell_block a0); rw [a0] at e0; have e1 := hw6.cell (cell_block a1); rw [a1] at e1; have e2 := hw6.cell (cell_block a2); rw [a2] at e2; have e3 := hw6.cell (cell_block a3); rw [a3] at e3; have e4 := hw6.cell (cell_block a4); rw [a4] at e4; have HOWL := hid (own_base_le (base' := w.heap.size) hownL (Nat.le_trans hBs hbA.size)); have HOWG := hid (own_base_le (base' := w.heap.size) hownG (Nat.le_trans hBs hbA.size)); have HW6 := hid hw6; clear hownL hownG hw6d hw6))
          all_goals
            have HC10 := hid (HSTEP.out w10 p6 q6 c6 d6 HW6.out HOWL.out HOWG.out)
            clear HSTEP HW6 HOWL HOWG HMAL HFR
            go_wp2
            go_roundw
            case rel => exact ⟨k + 1, hlt, by go_num, HC10.out⟩
            case measure => simp [intOf]; omega
        · have hkl : k = th.mails.length := by omega
          subst hkl
          have hnew : ThrNew wr w.heap.size (.slice p1 th.label.length q1) (.slice p3 th.own.length q3) (.slice p5 th.objs.length q5) (.slice p8 th.mails.length q8) th := ⟨hcm.lab, hcm.own, hcm.objs, by
            obtain ⟨us, r1, r2, r3⟩ := hcm.row
            exact ⟨us, r1, r2, fun j h1 h2 => (r3 j h1 h2).1 h2⟩⟩
          obtain ⟨⟨c0, c1, c2, c3, c4⟩, f0, f1, f2, f3, f4⟩ := cells5 hcm.box
          obtain ⟨⟨d0, d1, d2, d3, d4⟩, g0, g1, g2, g3, g4⟩ := cells5 hcm.res
          have hne : w.heap.size ≠ w.heap.size + 1 := by omega
          have hne2 : w.heap.size + 1 ≠ w.heap.size := by omega
          have hS := st5_grown wr (w.heap.size + 1) (.slice p1 th.label.length q1) (.slice p3 th.own.length q3) (.string ⟨th.text.toArray⟩) (.slice p5 th.objs.length q5) (.slice p8 th.mails.length q8)
          have HW := hid (st5_heap (.slice p1 th.label.length q1) (.slice p3 th.own.length q3) (.string ⟨th.text.toArray⟩) (.slice p5 th.objs.length q5) (.slice p8 th.mails.length q8) hcm.res)
          have HN := hid (hnew.keep (R := [w.heap.size + 1]) (fun k hk => .inr ⟨_, _, by simp at hk; subst hk; exact hcm.res, by decide, by decide, by decide, by decide⟩) (kept_grown hS fun k e => .inl (by have := Option.some.inj e; simp; omega)))
          have HB := hid (hcm.below.grown hS hcm.below.size (fun k hk => by have := Option.some.inj hk; omega))
          clear hnew hS hcm HCM
          go_wp2
          exact bodyPost_ret (results_cell_row rfl _ _ (w.heap.size + 1) 42 _ (0, 0) _ rfl HW.out Tryz.underlying42 rfl (by kernel_rfl)) rfl ⟨_, _, _, _, rfl, HN.out, HB.out⟩
end Go.Proofs.YtgpldlbmjakjhaaGreat
namespace Go.Proofs.YtgpldlbmjakjhaaGreat
open Go.RowKit Go.Proofs.Parclose
theorem ObjsNew.base {w : World} {B B' : Nat} {v : Value} {os : List Obt} (h : ObjsNew w B v os) (hB : B' ≤ B) : ObjsNew w B' v os := by
  obtain ⟨vs, h1, h2, h3⟩ := h
  exact ⟨vs, h1, own_base_le h2 hB, fun j g1 g2 => own_base_le (h3 j g1 g2) hB⟩
theorem MailsNew.base {w : World} {B B' : Nat} {v : Value} {ms : List Mal} (h : MailsNew w B v ms) (hB : B' ≤ B) : MailsNew w B' v ms := by
  obtain ⟨vs, h1, h2, h3⟩ := h
  exact ⟨vs, h1, own_base_le h2 hB, fun j g1 g2 => ⟨own_base_le (h3 j g1 g2).1 hB, own_base_le (h3 j g1 g2).2 hB⟩⟩
theorem ThrNew.base {w : World} {B B' : Nat} {vl vo vj vm : Value} {th : Thr} (h : ThrNew w B vl vo vj vm th) (hB : B' ≤ B) : ThrNew w B' vl vo vj vm th :=
  ⟨own_base_le h.lab hB, own_base_le h.own hB, h.objs.base hB, h.mails.base hB⟩
theorem zero_new (w : World) (B : Nat) : ThrNew w B (.slice none 0 0) (.slice none 0 0) (.slice none 0 0) (.slice none 0 0) zeroThr :=
  ⟨World.ownsRow_nil _ _ _ _, World.ownsRow_nil _ _ _ _, ⟨[], rfl, World.ownsRow_nil _ _ _ _, fun _ h => by simp at h⟩, ⟨[], rfl, World.ownsRow_nil _ _ _ _, fun _ h => by simp at h⟩⟩
theorem Thread_out (kb : Nat) (t : Int) (w : World) (ht : ¬ (0 ≤ t ∧ t < 4)) : Calls Tryz.prog 34 #[.pointer (some ⟨kb, 0, none⟩), .int .i64 t] w fun e w' => e = .returned (.agg #[.slice none 0 0, .slice none 0 0, .string ⟨#[]⟩, .slice none 0 0, .slice none 0 0]) ∧ Below w.heap.size w w' := by
  go_enter Tryz.func34, Tryz.ntmps34
  go_wp2_with (go_at_call 58; refine (thread_out kb t _ ht).mono ?_; rintro e w1 ⟨rfl, rfl⟩)
  exact bodyPost_ret (results_cell_row rfl _ _ w.heap.size 42 _ (0, 0) _ rfl (heap_alloc_new w _) Tryz.underlying42 rfl (by kernel_rfl)) rfl ⟨rfl, below_box _ _⟩
set_option maxRecDepth 100000 in
set_option maxHeartbeats 1600000 in
theorem Thread_in (kb t : Nat) (F : List Nat) (V : List ThrV) (K : Ker) (w : World) (h : KerAt w kb F V K) (hg : GoodK K) (h4 : t < 4) (h2 : t < K.ths.length) :
    Calls Tryz.prog 34 #[.pointer (some ⟨kb, 0, none⟩), .int .i64 t] w fun e w' => ∃ pl cl po co pj cj pm cm, e = .returned (.agg #[.slice pl K.ths[t].label.length cl, .slice po K.ths[t].own.length co, .string ⟨K.ths[t].text.toArray⟩, .slice pj K.ths[t].objs.length cj, .slice pm K.ths[t].mails.length cm]) ∧ ThrNew w' w.heap.size (.slice pl K.ths[t].label.length cl) (.slice po K.ths[t].own.length co) (.slice pj K.ths[t].objs.length cj) (.slice pm K.ths[t].mails.length cm) K.ths[t] ∧ Below w.heap.size w w' := by
  have h1 : t < V.length := by rw [h.len]; exact h4
  have hT := h.tat t h1 h2
  have gt := hg.ths _ (List.getElem_mem h2)
  obtain ⟨t0, t1, t2, t3, t4⟩ := hT.cells
  obtain ⟨ptl, ctl, hvl, _⟩ := id hT.thr.1.1
  obtain ⟨po, co, hvo⟩ := ownV hT.thr.2.1
  obtain ⟨pj, cj, hj⟩ : ∃ p c, V[t].vj = .slice p K.ths[t].objs.length c := by
    obtain ⟨_, _, j2, _⟩ := hT.thr.2.2.1
    exact own_slice j2
  obtain ⟨pm, cm, hm⟩ : ∃ p c, V[t].vm = .slice p K.ths[t].mails.length c := by
    obtain ⟨_, _, j2, _⟩ := hT.thr.2.2.2
    exact own_slice j2
  have hcp := fun wx (hb : Below w.heap.size w wx) => copyThread_any V[t] K.ths[t] F wx ((hT.below hb).thr) (Nat.le_trans gt.own (by decide)) (Nat.le_trans gt.objs (by decide)) (Nat.le_trans gt.mails (by decide)) (fun m hm => (fit_of (gt.mail m hm)).2.2)
  rw [hvl] at t0
  rw [hvo] at t1
  rw [hj] at t3
  rw [hm] at t4
  rw [hvl, hvo, hj, hm] at hcp
  have hkb := h.fin kb h.kbF
  clear hT h gt hg
  generalize K.ths[t] = th at *
  go_enter Tryz.func34, Tryz.ntmps34
  go_wp2_with (first
    | (go_at_call 58; refine (thread_in kb t _ h4).mono ?_; rintro e w1 ⟨rfl, rfl⟩)
    | (go_at_call 59; refine (hcp _ (below_box _ _)).mono ?_; rintro e w2 ⟨vl, vo, vj, vm, rfl, hn, hw2⟩; have HN := hid hn; obtain ⟨p, q, rfl⟩ := own_slice hn.lab; obtain ⟨p', q', rfl⟩ := own_slice hn.own; obtain ⟨_, _, j2, _⟩ := hn.objs; obtain ⟨p5, q5, rfl⟩ := own_slice j2; obtain ⟨_, _, j3, _⟩ := hn.mails; obtain ⟨p6, q6, rfl⟩ := own_slice j3; have hx := heap_keep (heap_alloc_new w _) hw2; obtain ⟨⟨c0, c1, c2, c3, c4⟩, f0, f1, f2, f3, f4⟩ := cells5 hx; have HX := hid hx; have HB := hid (below_then (below_box _ _) hw2); clear hx hw2 hn j2 j3))
  have hW := st5_heap (.slice p th.label.length q) (.slice p' th.own.length q') (.string ⟨th.text.toArray⟩) (.slice p5 th.objs.length q5) (.slice p6 th.mails.length q6) HX.out
  have hS := st5_grown w2 w.heap.size (.slice p th.label.length q) (.slice p' th.own.length q') (.string ⟨th.text.toArray⟩) (.slice p5 th.objs.length q5) (.slice p6 th.mails.length q6)
  have hb7 := HB.out.grown hS HB.out.size (fun k hk => by cases hk; exact Nat.le_refl _)
  have hn := (HN.out.base (below_box w _).size).keep (R := [w.heap.size]) (fun k hk => .inr ⟨_, _, by simp at hk; subst hk; exact HX.out, by decide, by decide, by decide, by decide⟩) (kept_grown hS fun k e => .inl (by have := Option.some.inj e; simp; omega))
  exact bodyPost_ret (results_cell_row rfl _ _ w.heap.size 42 _ (0, 0) _ rfl hW Tryz.underlying42 rfl (by kernel_rfl)) rfl ⟨_, _, _, _, _, _, _, _, rfl, hn, hb7⟩
theorem Thread_any (kb : Nat) (t : Int) (F : List Nat) (V : List ThrV) (K : Ker) (w : World) (h : KerAt w kb F V K) (hg : GoodK K) :
    Calls Tryz.prog 34 #[.pointer (some ⟨kb, 0, none⟩), .int .i64 t] w fun e w' => ∃ pl cl po co pj cj pm cm, e = .returned (.agg #[.slice pl (thrOf K t).label.length cl, .slice po (thrOf K t).own.length co, .string ⟨(thrOf K t).text.toArray⟩, .slice pj (thrOf K t).objs.length cj, .slice pm (thrOf K t).mails.length cm]) ∧ ThrNew w' w.heap.size (.slice pl (thrOf K t).label.length cl) (.slice po (thrOf K t).own.length co) (.slice pj (thrOf K t).objs.length cj) (.slice pm (thrOf K t).mails.length cm) (thrOf K t) ∧ Below w.heap.size w w' := by
  cases hth : getT K t with
  | none =>
    have e : thrOf K t = zeroThr := by unfold thrOf; rw [hth]; rfl
    rw [e]
    exact (Thread_out kb t w (getT_none hg.four hth)).mono fun _ _ ⟨h1, h2⟩ => ⟨none, 0, none, 0, none, 0, none, 0, h1, zero_new _ _, h2⟩
  | some th =>
    obtain ⟨n, rfl, hn, rfl⟩ := getT_some hth
    rw [thrOf_nat hn]
    exact Thread_in kb n F V K w h hg (by have := hg.four; omega) hn
end Go.Proofs.YtgpldlbmjakjhaaGreat
namespace Go.Proofs.YtgpldlbmjakjhaaGreat
open Go.RowKit Go.Proofs.Parclose
theorem row_own {B : Nat} {w : World} {v : Value} {q : List SntV} (h : w.ownsRow B 176 13 v q.length (flatS q)) (hl : q.length ≤ 879609302220) : RowAt w v q := by
  rcases h.2 with ⟨hn, h0⟩ | ⟨g, cap, cur, rfl, hbg, hgg, h1, h2, h3, h4⟩
  · rw [hn]
    refine ⟨none, 0, by rw [h0], ⟨by omega, fun _ => rfl⟩, hl, fun h => by omega⟩
  · refine ⟨some ⟨g, 0, none⟩, cap, rfl, ⟨h1, fun e => by cases e⟩, hl, fun _ => ⟨g, 0, rfl, fun j u hu => ?_⟩⟩
    have := World.ownsRow.cells h (g := g) rfl _ _ hu
    rwa [WideShapes.add_plain] at this
theorem RowAt.take {w : World} {p : Option Addr} {cap : Nat} {q : List SntV} (h : RowAt w (.slice p q.length cap) q) (k : Nat) (hk : k ≤ q.length) : RowAt w (.slice p k cap) (q.take k) := by
  obtain ⟨p', cap', e, h2, h3, h4⟩ := h
  cases e
  have hl : (q.take k).length = k := by simp; omega
  refine ⟨p, cap, by rw [hl], ⟨by omega, h2.2⟩, by omega, fun h0 => ?_⟩
  obtain ⟨b, o, e, hc⟩ := h4 (by omega)
  refine ⟨b, o, e, fun j u hu => hc j u ?_⟩
  rw [← List.take_append_drop k q, flatS_app]
  rw [List.getElem?_append_left (List.getElem?_eq_some_iff.1 hu).1]
  exact hu
theorem RowAt.drop {w : World} {b o cap : Nat} {q : List SntV} (h : RowAt w (.slice (some ⟨b, o, none⟩) q.length cap) q) (k : Nat) (hk : k ≤ q.length) : RowAt w (.slice (if cap = k then some ⟨b, o, none⟩ else some ⟨b, o + k * 13, none⟩) (q.length - k) (cap - k)) (q.drop k) := by
  obtain ⟨p', cap', e, h2, h3, h4⟩ := h
  cases e
  have hl : (q.drop k).length = q.length - k := by simp
  by_cases hc0 : cap = k
  · rw [if_pos hc0]
    refine ⟨_, _, by rw [hl], ⟨by omega, fun e => by cases e⟩, by omega, fun h0 => by omega⟩
  · rw [if_neg hc0]
    refine ⟨_, _, by rw [hl], ⟨by omega, fun e => by cases e⟩, by omega, fun h0 => ?_⟩
    obtain ⟨b', o', e, hc⟩ := h4 (by omega)
    cases e
    refine ⟨b, o + k * 13, rfl, fun j u hu => ?_⟩
    have ha : (flatS (q.take k)).length = k * 13 := by rw [flatS_len, List.length_take]; omega
    rw [show o + k * 13 + j = o + (k * 13 + j) by omega]
    refine hc _ u ?_
    rw [← List.take_append_drop k q, flatS_app, List.getElem?_append_right (by omega), ha, Nat.add_sub_cancel_left]
    exact hu
theorem sent_raw {w : World} {ty : TypeId} {B : Nat} {v : Value} {q : List SntV} {x : SntV} {g c : Nat} (h : w.ownsRow B 176 13 v q.length (flatS q)) (hx : x.Ok w) (hc : ∀ j u, x.cells[j]? = some u → w.cell? ⟨g, j, none⟩ = some u) (hB : B ≤ w.heap.size) (hn : q.length < 879609302220) :
    ∃ v' w', (Builtin.append_ #[86, 86] ty #[v, .slice (some ⟨g, 0, none⟩) 1 c]).run Tryz.prog w = .ok v' w' ∧ w'.ownsRow B 176 13 v' (q ++ [x]).length (flatS (q ++ [x])) ∧ w.grownBy w' v.ownBlock ∧ ∀ k, v'.ownBlock = some k → v.ownBlock = some k ∨ w.heap.size ≤ k := by
  obtain ⟨i0, hi, hz0, hz1, hz2⟩ := info_parts info_sent
  have h1 : ∀ u ∈ x.cells, u.oneCell' = true := fun u hu => flatS_one (q := [x]) (fun y hy => by rw [List.mem_singleton] at hy; subst hy; exact hx) u (by simpa [flatS] using hu)
  obtain ⟨v', w', hr, k1, k2, k3⟩ := append_where (ty := ty) (c := c) Tryz.underlying86 hi hz0 hz1 hz2 rfl (by decide) (own_base_le h (Nat.zero_le _)) (m := 1) (news := x.cells) (a := ⟨g, 0, none⟩) rfl (fun j u hu => by rw [WideShapes.add_plain, Nat.zero_add]; exact hc j u hu) h1 (by unfold maxLen; omega) (by omega)
  refine ⟨v', w', hr, ?_, k2, k3⟩
  rw [flatS_app, List.length_append]
  refine own_rebase (by simpa [flatS] using k1) fun k hk => ?_
  rcases k3 k hk with h1 | h1
  · exact own_base h h1
  · omega
theorem wpList_sentR {w : World} {ops : Array Oper} {rest : List Oper} {o : Oper} {a : Act} {Q : Exit → Act → World → Prop} (hgd : o.guard = none) (s x : Operand)
    (ho : o.op = .call { callee := .builtin .append, args := #[s, x], argTypes := #[86, 86] }) (B : Nat) (v : Value) (q : List SntV) (y : SntV) (hs : a.eval s = v) (hown : w.ownsRow B 176 13 v q.length (flatS q))
    (g c : Nat) (hx : a.eval x = .slice (some ⟨g, 0, none⟩) 1 c) (hy : y.Ok w) (hc : ∀ j u, y.cells[j]? = some u → w.cell? ⟨g, j, none⟩ = some u) (hB : B ≤ w.heap.size) (hn : q.length < 879609302220)
    (h : ∀ v' w', w'.ownsRow B 176 13 v' (q ++ [y]).length (flatS (q ++ [y])) → w.grownBy w' v.ownBlock → (∀ k, v'.ownBlock = some k → v.ownBlock = some k ∨ w.heap.size ≤ k) → wpList Tryz.prog ops Q rest (a.put o.dst v') w') : wpList Tryz.prog ops Q (o :: rest) a w := by
  refine wpList_plain hgd fun K hK => ?_
  obtain ⟨v', w', hr, k1, k2, k3⟩ := sent_raw (ty := o.type) (c := c) hown hy hc hB hn
  unfold Oper.wp execOp
  simp only [ho, resolve, invoke, builtin, Sem.run_bind, Sem.run_pure, Result.andThen_ok, List.map_toArray, List.map_cons, List.map_nil, hs, hx, hr]
  exact hK _ _ (h v' w' k1 k2 k3)
structure FrmV where
  f : Frm
  vl : Value
  vg : Value
  vc : Value
def FrmV.cells (x : FrmV) : List Value := [.int .i64 x.f.fr, .int .i64 x.f.to, .int .i64 x.f.seq, .bool x.f.ack, .int .i64 x.f.thread, .int .i64 x.f.mail.host, .int .i64 x.f.mail.thread, x.vl, x.vg, .string ⟨x.f.mail.text.toArray⟩, x.vc]
structure FrmV.Ok (w : World) (x : FrmV) : Prop where
  lab : LabAt w x.vl x.f.mail.label
  nums : IntsAt w x.vg x.f.mail.grants
  crts : CrtsAt w x.vc x.f.certs
theorem FrmV.Ok.below {w wr : World} {x : FrmV} (h : x.Ok w) (hb : Below w.heap.size w wr) : x.Ok wr := ⟨h.lab.below hb, h.nums.below hb, h.crts.below hb⟩
def flatF (q : List FrmV) : List Value := q.flatMap FrmV.cells
theorem flatF_cons (x : FrmV) (q : List FrmV) : flatF (x :: q) = x.cells ++ flatF q := rfl
theorem flatF_app (a b : List FrmV) : flatF (a ++ b) = flatF a ++ flatF b := by simp [flatF]
theorem flatF_get : ∀ (q : List FrmV) (j : Nat) (hj : j < q.length) (i : Nat) (_ : i < 11), (flatF q)[j * 11 + i]? = (q[j]).cells[i]?
  | x :: r, 0, _, i, hi => by
    rw [flatF_cons, List.getElem?_append_left (by show _ < 11; omega)]
    simp
  | x :: r, j + 1, hj, i, hi => by
    rw [flatF_cons, List.getElem?_append_right (by show 11 ≤ _; omega), show (j + 1) * 11 + i - x.cells.length = j * 11 + i by show (j + 1) * 11 + i - 11 = _; omega, flatF_get r j (by simpa using hj) i hi]
    simp
theorem FrmV.Ok.one {w : World} {x : FrmV} (h : x.Ok w) : ∀ u ∈ x.cells, u.oneCell' = true := by
  intro u hu
  obtain ⟨⟨pl, cl, el, _⟩, ⟨pg, cg, eg, _⟩, ⟨pc, cc, ec, _⟩⟩ := h
  unfold FrmV.cells at hu
  rw [el, eg, ec] at hu
  simp only [List.mem_cons, List.not_mem_nil, or_false] at hu
  rcases hu with h | h | h | h | h | h | h | h | h | h | h <;> rw [h] <;> rfl
theorem info_frm : (Tryz.prog.info? 51).map (fun i => (i.zero, i.size, i.bytes)) = some (some (.agg #[.int .i64 0, .int .i64 0, .int .i64 0, .bool false, .int .i64 0, .int .i64 0, .int .i64 0, .slice none 0 0, .slice none 0 0, .string ⟨#[]⟩, .slice none 0 0]), 11, 144) := by kernel_rfl
theorem frm_raw {w : World} {ty : TypeId} {B : Nat} {v : Value} {q : List FrmV} {x : FrmV} {g c : Nat} (h : w.ownsRow B 51 11 v q.length (flatF q)) (hx : x.Ok w) (hc : ∀ j u, x.cells[j]? = some u → w.cell? ⟨g, j, none⟩ = some u) (hB : B ≤ w.heap.size) (hn : q.length < 879609302220) :
    ∃ v' w', (Builtin.append_ #[153, 153] ty #[v, .slice (some ⟨g, 0, none⟩) 1 c]).run Tryz.prog w = .ok v' w' ∧ w'.ownsRow B 51 11 v' (q ++ [x]).length (flatF (q ++ [x])) ∧ w.grownBy w' v.ownBlock ∧ ∀ k, v'.ownBlock = some k → v.ownBlock = some k ∨ w.heap.size ≤ k := by
  obtain ⟨i0, hi, hz0, hz1, hz2⟩ := info_parts info_frm
  obtain ⟨v', w', hr, k1, k2, k3⟩ := append_where (ty := ty) (c := c) Tryz.underlying153 hi hz0 hz1 hz2 rfl (by decide) (own_base_le h (Nat.zero_le _)) (m := 1) (news := x.cells) (a := ⟨g, 0, none⟩) rfl (fun j u hu => by rw [WideShapes.add_plain, Nat.zero_add]; exact hc j u hu) hx.one (by unfold maxLen; omega) (by omega)
  refine ⟨v', w', hr, ?_, k2, k3⟩
  rw [flatF_app, List.length_append]
  refine own_rebase (by simpa [flatF] using k1) fun k hk => ?_
  rcases k3 k hk with h1 | h1
  · exact own_base h h1
  · omega
theorem wpList_frmR {w : World} {ops : Array Oper} {rest : List Oper} {o : Oper} {a : Act} {Q : Exit → Act → World → Prop} (hgd : o.guard = none) (s x : Operand)
    (ho : o.op = .call { callee := .builtin .append, args := #[s, x], argTypes := #[153, 153] }) (B : Nat) (v : Value) (q : List FrmV) (y : FrmV) (hs : a.eval s = v) (hown : w.ownsRow B 51 11 v q.length (flatF q))
    (g c : Nat) (hx : a.eval x = .slice (some ⟨g, 0, none⟩) 1 c) (hy : y.Ok w) (hc : ∀ j u, y.cells[j]? = some u → w.cell? ⟨g, j, none⟩ = some u) (hB : B ≤ w.heap.size) (hn : q.length < 879609302220)
    (h : ∀ v' w', w'.ownsRow B 51 11 v' (q ++ [y]).length (flatF (q ++ [y])) → w.grownBy w' v.ownBlock → (∀ k, v'.ownBlock = some k → v.ownBlock = some k ∨ w.heap.size ≤ k) → wpList Tryz.prog ops Q rest (a.put o.dst v') w') : wpList Tryz.prog ops Q (o :: rest) a w := by
  refine wpList_plain hgd fun K hK => ?_
  obtain ⟨v', w', hr, k1, k2, k3⟩ := frm_raw (ty := o.type) (c := c) hown hy hc hB hn
  unfold Oper.wp execOp
  simp only [ho, resolve, invoke, builtin, Sem.run_bind, Sem.run_pure, Result.andThen_ok, List.map_toArray, List.map_cons, List.map_nil, hs, hx, hr]
  exact hK _ _ (h v' w' k1 k2 k3)
def FrmsAt (w : World) (v : Value) (l : List Frm) : Prop := ∃ q : List FrmV, q.map (·.f) = l ∧ (∀ x ∈ q, x.Ok w) ∧ ∃ p cap, v = .slice p q.length cap ∧ q.length ≤ 879609302220 ∧ (0 < q.length → ∃ b, p = some ⟨b, 0, none⟩ ∧ ∀ j u, (flatF q)[j]? = some u → w.cell? ⟨b, j, none⟩ = some u)
theorem frms_raw {B : Nat} {w : World} {v : Value} {q : List FrmV} {l : List Frm} (h : w.ownsRow B 51 11 v q.length (flatF q)) (hl : q.length ≤ 879609302220) (hm : q.map (·.f) = l) (hok : ∀ x ∈ q, x.Ok w) : FrmsAt w v l := by
  refine ⟨q, hm, hok, ?_⟩
  rcases h.2 with ⟨hn, h0⟩ | ⟨g, cap, cur, rfl, hbg, hgg, h1, h2, h3, h4⟩
  · rw [hn]
    exact ⟨none, 0, by rw [h0], hl, fun h => by omega⟩
  · refine ⟨some ⟨g, 0, none⟩, cap, rfl, hl, fun _ => ⟨g, rfl, fun j u hu => ?_⟩⟩
    have := World.ownsRow.cells h (g := g) rfl _ _ hu
    rwa [WideShapes.add_plain, Nat.zero_add] at this
theorem FrmsAt.below {w wr : World} {v : Value} {l : List Frm} (h : FrmsAt w v l) (hb : Below w.heap.size w wr) : FrmsAt wr v l := by
  obtain ⟨q, h1, h2, p, cap, h3, h4, h5⟩ := h
  refine ⟨q, h1, fun x hx => (h2 x hx).below hb, p, cap, h3, h4, fun h0 => ?_⟩
  obtain ⟨b, h6, h7⟩ := h5 h0
  exact ⟨b, h6, fun j u hu => by rw [hb.cell (cell_block (h7 j u hu)), h7 j u hu]⟩
end Go.Proofs.YtgpldlbmjakjhaaGreat
namespace Go.Proofs.YtgpldlbmjakjhaaGreat
open Go.RowKit Go.Proofs.Parclose
def RowsAt (w : World) (v : Value) (ls : List (List SntV)) : Prop :=
  ∃ b o cap, v = .slice (some ⟨b, o, none⟩) ls.length cap ∧ ∀ j (_ : j < ls.length), ∃ u, w.cell? ⟨b, o + j, none⟩ = some u ∧ RowAt w u ls[j]
theorem wpList_append_row {w : World} {ops : Array Oper} {rest : List Oper} {o : Oper} {a : Act} {Q : Exit → Act → World → Prop} (hgd : o.guard = none) (s x : Operand)
    (ho : o.op = .call { callee := .builtin .append, args := #[s, x], argTypes := #[86, 86] }) (base : Nat) (v : Value) (n : Nat) (xs : List Value) (hs : a.eval s = v) (hown : w.ownsRow base 176 13 v n xs)
    (u : Value) (l : List SntV) (hx : a.eval x = u) (hu : RowAt w u l) (hone : ∀ u ∈ flatS l, u.oneCell' = true) (hn : n + l.length ≤ 879609302220) (hbase : base ≤ w.heap.size)
    (h : ∀ v' w', w'.ownsRow base 176 13 v' (n + l.length) (xs ++ flatS l) → w.grownBy w' v.ownBlock → wpList Tryz.prog ops Q rest (a.put o.dst v') w') : wpList Tryz.prog ops Q (o :: rest) a w := by
  obtain ⟨i0, hi, hz0, hz1, hz2⟩ := info_parts info_sent
  obtain ⟨p, cap, rfl, hlc, hcap, hcells⟩ := hu
  cases p with
  | none =>
    have e : l = [] := by
      by_cases h0 : 0 < l.length
      · obtain ⟨b, o, e, _⟩ := hcells h0
        cases e
      · exact List.length_eq_zero_iff.1 (by omega)
    subst e
    have ec : cap = 0 := hlc.2 rfl
    subst ec
    exact wpList_append_own_none hgd s x 86 ho base 176 i0 13 Tryz.underlying86 hi v n xs hs hown hx (h v w (by simpa [flatS] using hown) ⟨rfl, rfl, rfl, Nat.le_refl _, fun _ _ _ => rfl⟩)
  | some ad =>
    have hnews : ∀ j u, (flatS l)[j]? = some u → w.cell? (ad.add j) = some u := by
      by_cases h0 : 0 < l.length
      · obtain ⟨b, o, e, hc⟩ := hcells h0
        cases e
        intro j u hu
        rw [WideShapes.add_plain]
        exact hc j u hu
      · have e : l = [] := List.length_eq_zero_iff.1 (by omega)
        subst e
        intro j u hu
        simp [flatS] at hu
    exact wpList_append_own w hgd s x 86 ho base 176 i0 _ 13 160 Tryz.underlying86 hi hz0 hz1 hz2 rfl (by decide) v n xs hs hown ad l.length cap (flatS l) hx (flatS_len l) hnews hone (by unfold maxLen; omega) (by omega) hbase
      (fun v' w' h1 h2 _ => h v' w' h1 h2)
theorem zeroCellsS_size (z : Array Value) (n : Nat) : (Builtin.zeroCells z n).size = n * z.size := by
  unfold Builtin.zeroCells
  simp
theorem growS_any (n : Nat) (w : World) (hn : n ≤ 1000) :
    Calls Tryz.prog 143 #[.slice none 0 0, .int .i64 n] w fun e w' => ∃ v, e = .returned v ∧ w'.ownsRow w.heap.size 176 13 v 0 [] ∧ Below w.heap.size w w' := by
  obtain ⟨i0, hi, hz0, hz1, hz2⟩ := info_parts info_sent
  by_cases h0 : n = 0
  · subst h0
    refine (Any8.slices_Grow_room Tryz.layGrowS none 0 0 0 w (Nat.le_refl _) (by omega) (by omega) (by omega)).mono ?_
    rintro e w' ⟨rfl, rfl⟩
    exact ⟨_, rfl, World.ownsRow_nil _ _ _ _, Below.refl _ _⟩
  · refine (Any8.slices_Grow_grow Tryz.layGrowS i0 _ hi hz0 (by omega) none 0 0 n [] w (Nat.le_refl _) (by omega) (by rw [hz2]; omega) (by omega) (by simp) (fun _ => rfl) (fun a h => by cases h)).mono ?_
    rintro e w' ⟨rfl, rfl⟩
    have hG := grownCap_ge w (0 + n) 0 176
    have hM := grownCap_le_maxLen w (0 + n) 0 176 (by unfold maxLen; omega)
    have hzc : (Value.agg #[.int .i64 0, .int .i64 0, .int .i64 0, .bool false, .int .i64 0, .int .i64 0, .int .i64 0, .slice none 0 0, .slice none 0 0, .string ⟨#[]⟩, .slice none 0 0, .int .i64 0, .int .i64 0]).cells.size = 13 := rfl
    refine ⟨_, rfl, ⟨rfl, Or.inr ⟨w.heap.size, grownCap w (0 + n) 0 176, _, rfl, Nat.le_refl _, heap_alloc_new w.drew _, Nat.zero_le _, hM, ?_, by simp⟩⟩, (Below.refl _ w).drew.alloc (Nat.le_refl _) _⟩
    show ([].toArray ++ Builtin.zeroCells (Value.agg #[.int .i64 0, .int .i64 0, .int .i64 0, .bool false, .int .i64 0, .int .i64 0, .int .i64 0, .slice none 0 0, .slice none 0 0, .string ⟨#[]⟩, .slice none 0 0, .int .i64 0, .int .i64 0]).cells (0 + n - 0) ++ Builtin.zeroCells (Value.agg #[.int .i64 0, .int .i64 0, .int .i64 0, .bool false, .int .i64 0, .int .i64 0, .int .i64 0, .slice none 0 0, .slice none 0 0, .string ⟨#[]⟩, .slice none 0 0, .int .i64 0, .int .i64 0]).cells (grownCap w (0 + n) 0 176 - (0 + n))).size = _
    generalize grownCap w (0 + n) 0 176 = G at *
    simp only [Array.size_append, zeroCellsS_size, hzc]
    simp
    omega
theorem rows_elem {w : World} {b o : Nat} {ls : List (List SntV)} (h : ∀ j (_ : j < ls.length), ∃ u, w.cell? ⟨b, o + j, none⟩ = some u ∧ RowAt w u ls[j]) (j : Nat) (hj : j < ls.length) {wr : World} (hb : Below w.heap.size w wr) :
    ∃ p cap, wr.cell? ⟨b, o + j, none⟩ = some (.slice p ls[j].length cap) ∧ RowAt wr (.slice p ls[j].length cap) ls[j] := by
  obtain ⟨u, h1, h2⟩ := h j hj
  have h3 := h2.below hb
  obtain ⟨p, cap, rfl, _⟩ := id h3
  exact ⟨p, cap, by rw [hb.cell (cell_block h1), h1], h3⟩
def flenS (ls : List (List SntV)) : Nat := ls.flatten.length
theorem flattenS_take (ls : List (List SntV)) (k : Nat) (hk : k < ls.length) : (ls.take (k + 1)).flatten = (ls.take k).flatten ++ ls[k] := by
  rw [List.take_succ_eq_append_getElem hk, List.flatten_append]; simp
theorem lenS_flatten_take {ls : List (List SntV)} (h : ∀ l ∈ ls, l.length ≤ 24) (k : Nat) : (ls.take k).flatten.length ≤ k * 24 := by
  induction k with
  | zero => simp
  | succ k ih =>
    by_cases hk : k < ls.length
    · rw [flattenS_take ls k hk, List.length_append]
      have := h ls[k] (List.getElem_mem hk)
      omega
    · rw [List.take_of_length_le (by omega)]
      rw [List.take_of_length_le (by omega)] at ih
      omega
set_option maxHeartbeats 1000000 in
theorem concatS_new (v : Value) (ls : List (List SntV)) (w : World) (hv : RowsAt w v ls) (hls : ls.length ≤ 4) (h9 : ∀ l ∈ ls, l.length ≤ 24) (h1 : ∀ l ∈ ls, ∀ u ∈ flatS l, u.oneCell' = true) :
    Calls Tryz.prog 117 #[v] w fun e w' => ∃ v', e = .returned v' ∧ w'.ownsRow w.heap.size 176 13 v' ls.flatten.length (flatS ls.flatten) ∧ Below w.heap.size w w' := by
  obtain ⟨b, o, cap, rfl, hcells⟩ := hv
  have HT : Hid (∀ k (hk : k < ls.length), (ls.take (k + 1)).flatten = (ls.take k).flatten ++ ls[k]) := flattenS_take ls
  have HN : Hid (∀ k, (ls.take k).flatten.length ≤ k * 24) := lenS_flatten_take h9
  have H9 : Hid (∀ l ∈ ls, l.length ≤ 24) := h9
  clear h9
  have H1 : Hid (∀ l ∈ ls, ∀ u ∈ flatS l, u.oneCell' = true) := h1
  clear h1
  go_enter Tryz.func117, Tryz.ntmps117
  go_wp2
  go_loopw [3, 11] (fun s i wr => ∃ k : Nat, k ≤ ls.length ∧ i = .int .i64 k ∧ s = .int .i64 (flenS (ls.take k) : Nat) ∧ w = wr) (fun _ i _ => ls.length - (intOf i).toNat)
  case atStart => exact ⟨0, Nat.zero_le _, rfl, rfl, rfl⟩
  case round =>
    obtain ⟨k, hk, rfl, rfl, rfl⟩ := hrel
    have hnk : flenS (ls.take k) ≤ k * 24 := HN.out k
    by_cases hlt : k < ls.length
    · obtain ⟨p, cp, hc1, hl1⟩ := rows_elem hcells k hlt (Below.refl _ _)
      have h9k := H9.out ls[k] (List.getElem_mem hlt)
      have HS : Hid (flenS (ls.take (k + 1)) = flenS (ls.take k) + ls[k].length) := by
        show (ls.take (k + 1)).flatten.length = (ls.take k).flatten.length + ls[k].length
        rw [HT.out k hlt, List.length_append]
      clear hcells hl1
      generalize flenS (ls.take k) = n at *
      generalize ls[k].length = m at *
      go_wp2
      all_goals go_roundw
      case rel => exact ⟨k + 1, hlt, by go_num, by rw [HS.out]; go_num, by first | rfl | trivial⟩
      case measure => simp [intOf]; omega
    · have hkl : k = ls.length := by omega
      subst hkl
      rw [List.take_length]
      rw [List.take_length] at hnk
      have hgrow := growS_any (flenS ls) w (by omega)
      go_wp2_with fail
      refine hgrow.mono ?_
      rintro e w1 ⟨v1, rfl, hown1, hw1⟩
      clear hgrow
      go_wp2
      go_loopw [6, 27] (fun v i wr => ∃ k : Nat, k ≤ ls.length ∧ i = .int .i64 k ∧ wr.ownsRow w.heap.size 176 13 v (ls.take k).flatten.length (flatS (ls.take k).flatten) ∧ Below w.heap.size w wr) (fun _ i _ => ls.length - (intOf i).toNat)
      case atStart => exact ⟨0, Nat.zero_le _, rfl, hown1, hw1⟩
      case round =>
        clear hown1 hw1 hnk
        obtain ⟨k, hk, rfl, hown, hb⟩ := hrel
        have hnk := HN.out k
        have hsz := hb.size
        by_cases hlt2 : k < ls.length
        · obtain ⟨p, cp, hc1, hl1⟩ := rows_elem hcells k hlt2 hb
          have h9k := H9.out ls[k] (List.getElem_mem hlt2)
          have h1k := H1.out ls[k] (List.getElem_mem hlt2)
          have HS := HT.out k hlt2
          have HS2 : Hid ((ls.take (k + 1)).flatten = (ls.take k).flatten ++ ls[k]) := HS
          clear HS hcells
          generalize (ls.take k).flatten = out at *
          generalize ls[k] = l at *
          go_wp2_with (at_builtin; refine wpList_append_row rfl _ _ rfl w.heap.size _ _ _ rfl hown _ l rfl hl1 h1k (by omega) hsz ?_; intro v2 w2 hown2 hgrow2)
          go_roundw
          case rel => exact ⟨k + 1, hlt2, by go_num, by rw [HS2.out, flatS_app, List.length_append]; exact hown2, hb.grown hgrow2 hsz (fun j hj => own_base hown hj)⟩
          case measure => simp [intOf]; omega
        · have hkl : k = ls.length := by omega
          subst hkl
          rw [List.take_length] at hown hnk
          go_wp2
          go_ret
          exact ⟨_, rfl, hown, hb⟩
end Go.Proofs.YtgpldlbmjakjhaaGreat
namespace Go.Proofs.YtgpldlbmjakjhaaGreat
open Go.RowKit Go.Proofs.Parclose
theorem FrmsAt.slice {w : World} {v : Value} {l : List Frm} (h : FrmsAt w v l) : ∃ p cap, v = .slice p l.length cap := by
  obtain ⟨q, rfl, _, p, cap, rfl, _⟩ := h
  exact ⟨p, cap, by simp⟩
theorem FrmsAt.len {w : World} {v : Value} {l : List Frm} (h : FrmsAt w v l) : l.length ≤ 879609302220 := by
  obtain ⟨q, rfl, _, p, cap, _, h3, _⟩ := h
  simpa using h3
theorem FrmsAt.get {w : World} {p : Option Addr} {n cap : Nat} {l : List Frm} (h : FrmsAt w (.slice p n cap) l) (j : Nat) (hj : j < l.length) :
    ∃ b pl cl pg cg pc cc, p = some ⟨b, 0, none⟩ ∧ FrmAt w (.agg #[.int .i64 (l[j]).fr, .int .i64 (l[j]).to, .int .i64 (l[j]).seq, .bool (l[j]).ack, .int .i64 (l[j]).thread, .int .i64 (l[j]).mail.host, .int .i64 (l[j]).mail.thread, .slice pl (l[j]).mail.label.length cl, .slice pg (l[j]).mail.grants.length cg, .string ⟨(l[j]).mail.text.toArray⟩, .slice pc (l[j]).certs.length cc]) l[j] ∧
      w.cell? ⟨b, j * 11, none⟩ = some (.int .i64 (l[j]).fr) ∧ w.cell? ⟨b, j * 11 + 1, none⟩ = some (.int .i64 (l[j]).to) ∧ w.cell? ⟨b, j * 11 + 2, none⟩ = some (.int .i64 (l[j]).seq) ∧ w.cell? ⟨b, j * 11 + 3, none⟩ = some (.bool (l[j]).ack) ∧ w.cell? ⟨b, j * 11 + 4, none⟩ = some (.int .i64 (l[j]).thread) ∧ w.cell? ⟨b, j * 11 + 5, none⟩ = some (.int .i64 (l[j]).mail.host) ∧ w.cell? ⟨b, j * 11 + 6, none⟩ = some (.int .i64 (l[j]).mail.thread) ∧ w.cell? ⟨b, j * 11 + 7, none⟩ = some (.slice pl (l[j]).mail.label.length cl) ∧ w.cell? ⟨b, j * 11 + 8, none⟩ = some (.slice pg (l[j]).mail.grants.length cg) ∧ w.cell? ⟨b, j * 11 + 9, none⟩ = some (.string ⟨(l[j]).mail.text.toArray⟩) ∧ w.cell? ⟨b, j * 11 + 10, none⟩ = some (.slice pc (l[j]).certs.length cc) := by
  obtain ⟨q, rfl, hok, p', cap', e, _, h4⟩ := h
  cases e
  have hjq : j < q.length := by simpa using hj
  obtain ⟨b, rfl, hc⟩ := h4 (by omega)
  have ho := hok _ (List.getElem_mem hjq)
  have g : ∀ i, i < 11 → ∀ u, (q[j]).cells[i]? = some u → w.cell? ⟨b, j * 11 + i, none⟩ = some u := fun i hi u hu => hc _ _ (by rw [flatF_get q j hjq i hi, hu])
  have e : (q.map (·.f))[j] = (q[j]).f := by simp
  rw [e]
  generalize q[j] = x at *
  obtain ⟨f, vl, vg, vc⟩ := x
  obtain ⟨h1, h2, h3⟩ := ho
  simp only at h1 h2 h3 ⊢
  obtain ⟨pl, cl, rfl, _⟩ := id h1
  obtain ⟨pg, cg, rfl, _⟩ := id h2
  obtain ⟨pc, cc, rfl, _⟩ := id h3
  exact ⟨b, pl, cl, pg, cg, pc, cc, rfl, ⟨_, _, _, rfl, h1, h2, h3⟩, g 0 (by omega) _ rfl, g 1 (by omega) _ rfl, g 2 (by omega) _ rfl, g 3 (by omega) _ rfl, g 4 (by omega) _ rfl, g 5 (by omega) _ rfl, g 6 (by omega) _ rfl, g 7 (by omega) _ rfl, g 8 (by omega) _ rfl, g 9 (by omega) _ rfl, g 10 (by omega) _ rfl⟩
end Go.Proofs.YtgpldlbmjakjhaaGreat
namespace Go.Proofs.YtgpldlbmjakjhaaGreat
open Go.RowKit Go.Proofs.Parclose
theorem MailsNew.get {w : World} {B : Nat} {p : Option Addr} {n cap : Nat} {ms : List Mal} (h : MailsNew w B (.slice p n cap) ms) (i : Nat) (hi : i < ms.length) :
    ∃ g pl cl pg cg, p = some ⟨g, 0, none⟩ ∧ w.cell? ⟨g, i * 5, none⟩ = some (.int .i64 ms[i].host) ∧ w.cell? ⟨g, i * 5 + 1, none⟩ = some (.int .i64 ms[i].thread) ∧ w.cell? ⟨g, i * 5 + 2, none⟩ = some (.slice pl ms[i].label.length cl) ∧ w.cell? ⟨g, i * 5 + 3, none⟩ = some (.slice pg ms[i].grants.length cg) ∧ w.cell? ⟨g, i * 5 + 4, none⟩ = some (.string ⟨ms[i].text.toArray⟩) ∧
      w.ownsRow B 74 2 (.slice pl ms[i].label.length cl) ms[i].label.length (flat2 ms[i].label) ∧ w.ownsRow B 3 1 (.slice pg ms[i].grants.length cg) ms[i].grants.length (flat1 ms[i].grants) := by
  obtain ⟨vs, r1, r2, r3⟩ := h
  obtain ⟨g, hpe⟩ : ∃ g, p = some ⟨g, 0, none⟩ := by
    rcases r2.2 with ⟨_, hn⟩ | ⟨g, cap, cur, e, _⟩
    · omega
    · cases e; exact ⟨g, rfl⟩
  subst hpe
  have huk : i < vs.length := by omega
  obtain ⟨m0, m1, m2, m3, m4⟩ := flatM_get vs ms r1 i huk hi
  have a0 := World.ownsRow.cells r2 (g := g) rfl _ _ m0
  have a1 := World.ownsRow.cells r2 (g := g) rfl _ _ m1
  have a2 := World.ownsRow.cells r2 (g := g) rfl _ _ m2
  have a3 := World.ownsRow.cells r2 (g := g) rfl _ _ m3
  have a4 := World.ownsRow.cells r2 (g := g) rfl _ _ m4
  rw [WideShapes.add_plain, Nat.zero_add] at a0 a1 a2 a3 a4
  obtain ⟨o1, o2⟩ := r3 i huk hi
  obtain ⟨pl, cl, el⟩ := own_slice o1
  obtain ⟨pg, cg, eg⟩ := own_slice o2
  rw [el] at a2 o1
  rw [eg] at a3 o2
  exact ⟨g, pl, cl, pg, cg, rfl, a0, a1, a2, a3, a4, o1, o2⟩
theorem ObjsNew.get {w : World} {B : Nat} {p : Option Addr} {n cap : Nat} {os : List Obt} (h : ObjsNew w B (.slice p n cap) os) (i : Nat) (hi : i < os.length) :
    ∃ g pl cl, p = some ⟨g, 0, none⟩ ∧ w.cell? ⟨g, i * 2, none⟩ = some (.slice pl os[i].label.length cl) ∧ w.cell? ⟨g, i * 2 + 1, none⟩ = some (.string ⟨os[i].text.toArray⟩) ∧
      w.ownsRow B 74 2 (.slice pl os[i].label.length cl) os[i].label.length (flat2 os[i].label) := by
  obtain ⟨vs, r1, r2, r3⟩ := h
  obtain ⟨g, hpe⟩ : ∃ g, p = some ⟨g, 0, none⟩ := by
    rcases r2.2 with ⟨_, hn⟩ | ⟨g, cap, cur, e, _⟩
    · omega
    · cases e; exact ⟨g, rfl⟩
  subst hpe
  have huk : i < vs.length := by omega
  obtain ⟨m0, m1⟩ := flatO_get vs os r1 i huk hi
  have a0 := World.ownsRow.cells r2 (g := g) rfl _ _ m0
  have a1 := World.ownsRow.cells r2 (g := g) rfl _ _ m1
  rw [WideShapes.add_plain, Nat.zero_add] at a0 a1
  have o1 := r3 i huk hi
  obtain ⟨pl, cl, el⟩ := own_slice o1
  rw [el] at a0 o1
  exact ⟨g, pl, cl, rfl, a0, a1, o1⟩
end Go.Proofs.YtgpldlbmjakjhaaGreat
