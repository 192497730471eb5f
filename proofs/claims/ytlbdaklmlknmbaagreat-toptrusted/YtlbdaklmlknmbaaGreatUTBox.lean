/- Boxes of numbers that a look keeps, beside a cluster. -/
import Derived.Test.YtlbdaklmlknmbaaGreatUCCome
import Derived.Test.YtlbdaklmlknmbaaGreatUTNamed
import Derived.Test.YtlbdaklmlknmbaaGreatUNamed
import Derived.Test.YtlbdaklmlknmbaaGreatUTakeD
import Derived.Test.YtlbdaklmlknmbaaGreatUKTake
import Derived.Test.YtlbdaklmlknmbaaGreatUPlain
import Derived.BigQuiet
import Derived.Deep.RegionHeld3
namespace Go.Proofs.YtlbdaklmlknmbaaGreat
open Go.RowKit Go.Proofs.Parclose
theorem CluAt.anyF {w : World} {cb : Nat} {F G : List Nat} {kp : Nat → Nat} (h : CluAt w cb F (zeroZ kp) freshClu) (hF : ∀ k ∈ F, k ∈ G) (hG : ∀ k ∈ G, k < w.heap.size) : CluAt w cb G (zeroZ kp) freshClu := by
 refine ⟨h.box, fun x hx => (h.ker x hx).anyF (hF _ (h.ker x hx).kbF) hG, fun x hx => ?_, fun x y hx hy => ?_, h.seen, h.net, h.kps, h.rows, hF _ h.cbF, fun k hk => hF k (h.netF k hk), hG⟩
 · exact ⟨(h.crt x hx).1, fun e => absurd e (by simp [freshClu])⟩
 · obtain ⟨q, h1, h2, h3, h4⟩ := h.snt x y hx hy
   have hq : q = [] := by
    have : q.map (·.s) = [] := h1
    simpa using this
   subst hq
   exact ⟨[], h1, fun _ h => (by cases h), h3, fun e => absurd e (by simp)⟩
def NBox (w : World) (B : Nat) (ty : TypeId) (n : Nat) (f : Nat → Int) : Prop := ∃ A, w.heap[B]? = some (.cells A ty (0, 0)) ∧ A.size = n ∧ ∀ i, i < n → A[i]? = some (.int .i64 (f i))
theorem NBox.below {w w' : World} {B n : Nat} {ty : TypeId} {f : Nat → Int} (h : NBox w B ty n f) (hb : Below w.heap.size w w') : NBox w' B ty n f := by
 obtain ⟨A, h1, h2, h3⟩ := h
 exact ⟨A, heap_keep h1 hb, h2, h3⟩
theorem NBox.lt {w : World} {B n : Nat} {ty : TypeId} {f : Nat → Int} (h : NBox w B ty n f) : B < w.heap.size := by
 obtain ⟨A, h1, _⟩ := h
 exact heap_lt h1
theorem NBox.cell {w : World} {B n : Nat} {ty : TypeId} {f : Nat → Int} (h : NBox w B ty n f) (i : Nat) (hi : i < n) : w.cell? ⟨B, i, none⟩ = some (.int .i64 (f i)) ∧ w.frozen? ⟨B, i, none⟩ = false := by
 obtain ⟨A, h1, h2, h3⟩ := h
 exact ⟨(heap_cell h1 i).trans (h3 i hi), heap_frozen h1 i⟩
theorem NBox.set {w : World} {B n : Nat} {ty : TypeId} {f : Nat → Int} (h : NBox w B ty n f) (i : Nat) (hi : i < n) (x : Int) : NBox (w.setCell ⟨B, i, none⟩ (.int .i64 x)) B ty n (fun j => if j = i then x else f j) := by
 obtain ⟨A, h1, h2, h3⟩ := h
 refine ⟨_, heap_setCell h1 _, by simpa using h2, fun j hj => ?_⟩
 simp only
 by_cases e : j = i
 · subst e
   rw [if_pos rfl, Array.getElem?_setIfInBounds_self_of_lt (by omega)]
 · rw [if_neg e, Array.getElem?_setIfInBounds_ne (Ne.symm e)]
   exact h3 j hj
theorem NBox.other {w : World} {B B' j n : Nat} {ty : TypeId} {f : Nat → Int} (h : NBox w B ty n f) (hne : B ≠ B') (u : Value) : NBox (w.setCell ⟨B', j, none⟩ u) B ty n f := by
 obtain ⟨A, h1, h2, h3⟩ := h
 exact ⟨A, heap_tk h1 hne (grown_setCell w B' j u), h2, h3⟩
theorem NBox.congr {w : World} {B n : Nat} {ty : TypeId} {f g : Nat → Int} (h : NBox w B ty n f) (e : ∀ i, i < n → f i = g i) : NBox w B ty n g := by
 obtain ⟨A, h1, h2, h3⟩ := h
 exact ⟨A, h1, h2, fun i hi => by rw [← e i hi]; exact h3 i hi⟩
def FarT (t : TypeId) : Prop := (100 : Nat) ≠ t ∧ (3 : Nat) ≠ t ∧ (48 : Nat) ≠ t ∧ (51 : Nat) ≠ t ∧ (81 : Nat) ≠ t ∧ (9 : Nat) ≠ t
instance (t : TypeId) : Decidable (FarT t) := by unfold FarT; infer_instance
theorem NBox.step {w w' : World} {cb B n : Nat} {F G : List Nat} {Z Z' : CluV} {C : Clu} {ty : TypeId} {f : Nat → Int} (h : NBox w B ty n f) (hs : CStep cb w F Z w' G Z') (hc : CluAt w cb F Z C) (ht : FarT ty) : NBox w' B ty n f := by
 obtain ⟨A, h1, h2, h3⟩ := h
 exact ⟨A, box_cstep hs hc h1 ht.1 ht.2.1 ht.2.2.1 ht.2.2.2.1 ht.2.2.2.2.1 ht.2.2.2.2.2, h2, h3⟩
theorem CluAt.nbox {w : World} {cb B n i : Nat} {F : List Nat} {Z : CluV} {C : Clu} {ty : TypeId} {f : Nat → Int} (hc : CluAt w cb F Z C) (h : NBox w B ty n f) (hB : B ∈ F) (ht : FarT ty) (u : Value) : CluAt (w.setCell ⟨B, i, none⟩ u) cb F Z C := by
 obtain ⟨A, h1, _⟩ := h
 exact hc.boxed (grown_setCell w B i u) hB h1 ht.1 ht.2.1 ht.2.2.1 ht.2.2.2.1 ht.2.2.2.2.1 ht.2.2.2.2.2
theorem KeptF.more {F : List Nat} {a b c : World} (h : KeptF F a b) (hb : Below b.heap.size b c) : KeptF F a c := h.trans ((kept_below [] hb).sub (fun _ e => by cases e))
theorem KeptF.put {F : List Nat} {a b : World} (h : KeptF F a b) {B j : Nat} (hB : B ∈ F) (u : Value) : KeptF F a (b.setCell ⟨B, j, none⟩ u) :=
 ⟨h.os, h.tape, h.output, by have := h.size; simpa using this, fun k hk hn => by rw [Below.heap_setCell b _ _ k (fun e => hn (by rw [show k = B from e]; exact hB)), h.block k hk hn]⟩
theorem kept_undrew {F : List Nat} {w w' : World} (h : KeptF F w.drew w') : KeptF F w w' := ⟨h.os, h.tape, h.output, h.size, h.block⟩
theorem below_kept {F : List Nat} {a b c : World} (h : Below a.heap.size a b) (hk : KeptF F b c) (hF : ∀ k ∈ F, a.heap.size ≤ k) : Below a.heap.size a c :=
 ⟨hk.os.trans h.os, hk.tape.trans h.tape, hk.output.trans h.output, Nat.le_trans h.size hk.size, fun k hk2 => by rw [hk.block k (Nat.lt_of_lt_of_le hk2 h.size) (fun e => by have := hF k e; omega), h.block k hk2]⟩
def mix (n : Nat) (new old : Nat → Int) : Nat → Int := fun i => if i < n then new i else old i
theorem mix_set {n : Nat} {new old : Nat → Int} (i : Nat) : (if i = n then new n else mix n new old i) = mix (n + 1) new old i := by
 unfold mix
 by_cases h1 : i = n
 · rw [if_pos h1, if_pos (by omega), h1]
 · rw [if_neg h1]
   by_cases h2 : i < n
   · rw [if_pos h2, if_pos (by omega)]
   · rw [if_neg h2, if_neg (by omega)]
theorem mix_at {n : Nat} {new old : Nat → Int} : mix n new old n = old n := by unfold mix; rw [if_neg (Nat.lt_irrefl _)]
theorem mix_zero {new old : Nat → Int} : mix 0 new old = old := funext fun _ => if_neg (Nat.not_lt_zero _)
theorem mix_all {w : World} {B n : Nat} {ty : TypeId} {new old : Nat → Int} (h : NBox w B ty n (mix n new old)) : NBox w B ty n new := h.congr fun i hi => by unfold mix; rw [if_pos hi]
def mlen (C : Clu) (i : Nat) : Int := ((thrC C ((i / 4 : Nat) : Int) ((i % 4 : Nat) : Int)).mails.length : Nat)
theorem mlen_at (C : Clu) (h t : Nat) (ht : t < 4) : mlen C (h * 4 + t) = ((thrC C h t).mails.length : Nat) := by
 unfold mlen
 rw [show (h * 4 + t) / 4 = h by omega, show (h * 4 + t) % 4 = t by omega]
end Go.Proofs.YtlbdaklmlknmbaaGreat
namespace Go.Proofs.YtlbdaklmlknmbaaGreat
open Go.RowKit Go.Proofs.Parclose
def JT (Bw : Nat) (w : World) (F : List Nat) (C : Clu) : Prop := Bw ∈ F ∧ NBox w Bw 65 16 (mlen C)
theorem JT.below {Bw : Nat} {w w' : World} {F : List Nat} {C : Clu} (h : JT Bw w F C) (hb : Below w.heap.size w w') : JT Bw w' F C := ⟨h.1, h.2.below hb⟩
theorem JT.step {Bw cb : Nat} {w w' : World} {F G : List Nat} {Z Z' : CluV} {C D : Clu} (h : JT Bw w F C) (hs : CStep cb w F Z w' G Z') (hc : CluAt w cb F Z D) : JT Bw w' G C := ⟨hs.more.1 _ h.1, h.2.step hs hc (by decide)⟩
def TruF (C0 C : Clu) (i j : Nat) : Prop := (thrC C i j).mails.length ≤ (thrC C0 i j).mails.length ∨ ∃ (n : Nat) (m : Mal), (thrC C0 i j).mails.length = n ∧ (thrC C i j).mails.length = n + 1 ∧ (thrC C i j).mails[n]? = some m ∧ flowsL m.label (thrC C i j).label (thrC C i j).own = true ∧ (¬ (m.host = (i : Int)) → mayB (crtsC C i) m.host m C.now = true)
theorem truF {C : Clu} (hg : GoodC C) (hh : HostC C) (a : Ac) (i j : Nat) (hi : i < 4) : TruF C (doC C a).1 i j := by
 have h1 : hostB (i : Int) = true := decide_eq_true ⟨by omega, by omega⟩
 unfold TruF thrC crtsC
 rw [if_pos h1, if_pos h1, if_pos h1, Int.toNat_natCast]
 rcases doC_trusted hg hh a i hi j with e | ⟨m, e1, e2, e3⟩
 · exact .inl e
 · refine .inr ⟨_, m, rfl, by rw [e1]; simp, by rw [e1]; simp, e2, fun hne => ?_⟩
   rcases e3 with e3 | e3
   · exact absurd e3 hne
   · exact e3
set_option maxRecDepth 100000 in
set_option maxHeartbeats 12800000 in
theorem lookTrusted_any (cb Bw : Nat) (F : List Nat) (Z : CluV) (C0 C : Clu) (a : Ac) (r : Rep) (pl pg : Option Addr) (cl cg : Nat) (w : World) (hc : CluAt w cb F Z C) (hg : GoodC C) (hj : JT Bw w F C0) (ht : ∀ i j : Nat, i < 4 → TruF C0 C i j) :
 Calls Tryz.prog 25 #[.pointer (some ⟨cb, 0, none⟩), (.agg #[.int .i64 a.kind, .int .i64 a.h, .int .i64 a.t, .int .i64 a.n, .int .i64 a.call.kind, .int .i64 a.call.h, .int .i64 a.call.t, .int .i64 a.call.n, .int .i64 a.call.c, .slice pl a.call.label.length cl, .slice pg a.call.grants.length cg, .string ⟨a.call.text.toArray⟩]), (.agg #[.int .i64 r.code, .int .i64 r.n, .string ⟨r.text.toArray⟩]), .pointer (some ⟨Bw, 0, none⟩)] w fun e w' => e = .returned (.bool true) ∧ JT Bw w' F C ∧ CluAt w' cb F Z C ∧ KeptF [Bw] w w' := by
 obtain ⟨hB, hN⟩ := hj
 have HG := hid hg
 have HT := hid ht
 have HBF := hid hB
 have hb1 := (below_box w (.cells #[.int .i64 a.kind, .int .i64 a.h, .int .i64 a.t, .int .i64 a.n, .int .i64 a.call.kind, .int .i64 a.call.h, .int .i64 a.call.t, .int .i64 a.call.n, .int .i64 a.call.c, .slice pl a.call.label.length cl, .slice pg a.call.grants.length cg, .string ⟨a.call.text.toArray⟩] 32)).alloc (below_box w _).size (.cells #[.int .i64 r.code, .int .i64 r.n, .string ⟨r.text.toArray⟩] 43)
 have HC1 := hid (hc.below hb1)
 have HN1 := hid (hN.below hb1)
 have HK1 := hid (kept_below [Bw] hb1)
 clear hg ht hB hc hN hb1
 go_enter Tryz.func25, Tryz.ntmps25
 go_wp2_with fail
 go_loopw [12] (fun c wr => ∃ i : Nat, i ≤ 4 ∧ c = .int .i64 i ∧ NBox wr Bw 65 16 (mix (i * 4) (mlen C) (mlen C0)) ∧ CluAt wr cb F Z C ∧ KeptF [Bw] w wr) (fun c _ => 4 - (intOf c).toNat)
 case atStart => exact ⟨0, by omega, rfl, by rw [Nat.zero_mul, mix_zero]; exact HN1.out, HC1.out, HK1.out⟩
 case round =>
  clear HC1 HN1 HK1
  obtain ⟨i, hi, rfl, hnb, hcl, hkp⟩ := hrel
  obtain ⟨wo, hwo⟩ : ∃ wo, wo = wr := ⟨_, rfl⟩
  subst hwo
  have HNBo := hid hnb
  have HCo := hid hcl
  have HKo := hid hkp
  clear hnb hcl hkp
  by_cases hi4 : i < 4
  · have hI : (i : Int) < 4 := by omega
    have i0 : (0 : Int) ≤ i := by omega
    go_wp2_with fail
    go_loopw [15] (fun c wr => ∃ j : Nat, j ≤ 4 ∧ c = .int .i64 j ∧ NBox wr Bw 65 16 (mix (i * 4 + j) (mlen C) (mlen C0)) ∧ CluAt wr cb F Z C ∧ KeptF [Bw] w wr) (fun c _ => 4 - (intOf c).toNat)
    case atStart => exact ⟨0, by omega, rfl, HNBo.out, HCo.out, HKo.out⟩
    case round =>
     clear HNBo HCo HKo
     obtain ⟨j, hj, rfl, hnb, hcl, hkp⟩ := hrel
     obtain ⟨wi, hwi⟩ : ∃ wi, wi = wr := ⟨_, rfl⟩
     subst hwi
     have HNB := hid hnb
     have HCL := hid hcl
     have HKP := hid hkp
     clear hnb hcl hkp
     by_cases hj4 : j < 4
     · have hJ : (j : Int) < 4 := by omega
       have j0 : (0 : Int) ≤ j := by omega
       have hthr := cthread_any cb i j F Z C wi HCL.out HG.out
       have HGT := hid (thrC_good HG.out i j)
       have HML0 : Hid (mlen C (i * 4 + j) = ((thrC C i j).mails.length : Nat)) := hid (mlen_at C i j hj4)
       have HMO : Hid (mix (i * 4 + j) (mlen C) (mlen C0) (i * 4 + j) = ((thrC C0 i j).mails.length : Nat)) := hid (mix_at.trans (mlen_at C0 i j hj4))
       have htr := HT.out i j hi4
       unfold TruF at htr
       generalize thrC C i j = th at *
       generalize (thrC C0 i j).mails.length = ol at *
       have hll := HGT.out.label.1
       have hol := HGT.out.own
       rcases htr with hle | ⟨n, m, hon, hln, hgm, hfl, hmy⟩
       · generalize hlen : th.mails.length = ln at *
         have hng : ¬ ((ol : Int) < (ln : Int)) := by omega
         clear hlen hle
         go_upto_region 8 with (go_at_call 11; refine hthr.mono ?_; rintro e w3 ⟨p1, q1, p2, q2, p3, q3, p4, q4, rfl, hn3, hw3⟩)
         have hbx := below_box w3 (.cells #[.slice p1 th.label.length q1, .slice p2 th.own.length q2, .string ⟨th.text.toArray⟩, .slice p3 th.objs.length q3, .slice p4 ln q4] 36)
         have HX4 := hid (heap_alloc_new w3 (.cells #[.slice p1 th.label.length q1, .slice p2 th.own.length q2, .string ⟨th.text.toArray⟩, .slice p3 th.objs.length q3, .slice p4 ln q4] 36))
         have HN4 := hid (hn3.below hbx)
         have hB4 := below_then hw3 hbx
         have HNB4 := hid (HNB.out.below hB4)
         have HC4 := hid (HCL.out.below hB4)
         have HK4 := hid (HKP.out.more hB4)
         have hbw3 := (HNB.out.below hw3).lt
         clear hthr hn3 hw3 hbx hB4
         generalize w3.alloc (.cells #[.slice p1 th.label.length q1, .slice p2 th.own.length q2, .string ⟨th.text.toArray⟩, .slice p3 th.objs.length q3, .slice p4 ln q4] 36) = w4 at *
         have b4 : w4.cell? ⟨w3.heap.size, 4, none⟩ = some (.slice p4 ln q4) := heap_cell HX4.out 4
         obtain ⟨nb1, nb2⟩ := HNB4.out.cell (i * 4 + j) (by omega)
         rw [HMO.out] at nb1
         go_wp2_with fail
         go_quiet (fail)
         obtain ⟨wq, hwq⟩ : ∃ wq, wq = w4.drewN nq := ⟨_, rfl⟩
         rw [← hwq]
         have hBQ : Below w4.heap.size w4 wq := by rw [hwq]; exact below_drewN w4 nq
         replace HX4 := hid (heap_keep HX4.out hBQ)
         replace HN4 := hid (HN4.out.below hBQ)
         replace HNB4 := hid (HNB4.out.below hBQ)
         replace HC4 := hid (HC4.out.below hBQ)
         replace HK4 := hid (HK4.out.more hBQ)
         clear hwq hBQ b4 nb1 nb2
         have HBX := hid (Below.refl wq.heap.size wq)
         go_upto_region 12 with fail
         have HX9 := hid (heap_keep HX4.out HBX.out)
         have b9 : wq.cell? ⟨w3.heap.size, 4, none⟩ = some (.slice p4 ln q4) := heap_cell HX9.out 4
         refine wp_region_held_drew (S := (fun w' => w'.cell? ⟨w3.heap.size, 4, none⟩ = some (.slice p4 ln q4))) (by as_aux_lemma => kernel_rfl) b9 (fun _hHeld => ?_)
         refine takeF 0 65 ?v1 rfl (Or.inl ⟨by rfl, ?hy1⟩) ?rest1
         case hy1 => intro wz hSw; (try dsimp only at hSw); go_simp; try with_reducible rfl
         simp only [Act.put, List.setIfInBounds_toArray, List.set_cons_zero, List.set_cons_succ]
         refine takeF 1 66 ?v2 rfl (Or.inl ⟨by rfl, ?hy2⟩) ?rest2
         case hy2 => intro wz hSw; (try dsimp only at hSw); go_simp; try with_reducible rfl
         simp only [Act.put, List.setIfInBounds_toArray, List.set_cons_zero, List.set_cons_succ]
         refine takeF 2 67 ?v3 rfl (Or.inl ⟨by rfl, ?hy3⟩) ?rest3
         case hy3 => intro wz hSw; (try dsimp only at hSw); go_simp; try with_reducible rfl
         simp only [Act.put, List.setIfInBounds_toArray, List.set_cons_zero, List.set_cons_succ]
         refine takeF 3 68 ?v4 rfl (Or.inl ⟨by rfl, ?hy4⟩) ?rest4
         case hy4 => intro wz hSw; (try dsimp only at hSw); go_simp; try with_reducible rfl
         simp only [Act.put, List.setIfInBounds_toArray, List.set_cons_zero, List.set_cons_succ]
         refine takeF 4 69 ?v5 rfl (Or.inl ⟨by rfl, ?hy5⟩) ?rest5
         case hy5 => intro wz hSw; (try dsimp only at hSw); go_simp; try with_reducible rfl
         simp only [Act.put, List.setIfInBounds_toArray, List.set_cons_zero, List.set_cons_succ]
         refine takeF 5 70 ?v6 rfl (Or.inl ⟨by rfl, ?hy6⟩) ?rest6
         case hy6 => intro wz hSw; (try dsimp only at hSw); go_simp; try with_reducible rfl
         simp only [Act.put, List.setIfInBounds_toArray, List.set_cons_zero, List.set_cons_succ]
         refine takeF 6 71 ?v7 rfl (Or.inl ⟨by rfl, ?hy7⟩) ?rest7
         case hy7 => intro wz hSw; (try dsimp only at hSw); go_simp; try with_reducible rfl
         simp only [Act.put, List.setIfInBounds_toArray, List.set_cons_zero, List.set_cons_succ]
         obtain ⟨wd, hwd⟩ : ∃ wd, wd = wq.drew := ⟨_, rfl⟩
         rw [← hwd]
         have hBD : Below wq.heap.size wq wd := by rw [hwd]; exact (Below.refl _ _).drew
         have hB9 := below_then HBX.out hBD
         clear hwd hBD b9
         replace HX9 := hid (heap_keep HX4.out hB9)
         have HNB9 := hid (HNB4.out.below hB9)
         have HC9 := hid (HC4.out.below hB9)
         have HK9 := hid (HK4.out.more hB9)
         obtain ⟨nb3, nb4⟩ := HNB9.out.cell (i * 4 + j) (by omega)
         have hlb9 := HNB9.out.lt
         have hlb3 := heap_lt HX9.out
         have hne9 : ¬ (Bw = w3.heap.size) := by omega
         refine wpAnyH_ready (rs := [7]) (by as_aux_lemma => kernel_rfl) (by simp) ?_
         refine (AllReadyH.cons rfl (fun K' hK => ?_) AllReadyH.nil)
         go_simp
         have c9 : (wd.setCell ⟨Bw, i * 4 + j, none⟩ (.int .i64 ((ln : Nat) : Int))).cell? ⟨w3.heap.size, 4, none⟩ = some (.slice p4 ln q4) := heap_cell (heap_tk HX9.out (Ne.symm hne9) (grown_setCell _ _ _ _)) 4
         refine hK.out _ _ c9 (fun _ => ?_)
         clear hK K'
         refine wpAnyH_done (by as_aux_lemma => kernel_rfl) ?_ _
         go_wp2
         go_roundw
         case rel => exact ⟨j + 1, hj4, by go_num, (HNB9.out.set (i * 4 + j) (by omega) _).congr (fun x _ => by have e := mix_set (n := i * 4 + j) (new := mlen C) (old := mlen C0) x; rw [HML0.out] at e; rw [← Nat.add_assoc, ← e]; try first | rfl | simp), HC9.out.nbox HNB9.out HBF.out (by decide) _, HK9.out.put (by simp) _⟩
         case measure => simp [intOf]; omega
       · subst hon
         rw [hln] at hthr HML0
         have hgr : (ol : Int) < ((ol + 1 : Nat) : Int) := by omega
         have ol6 : (ol : Int) ≤ 5 := by have := HGT.out.mails; omega
         have ol0 : (0 : Int) ≤ ol := by omega
         have HFLO := hid hfl
         have HMAY := hid hmy
         have HGM := hid hgm
         have HLN := hid hln
         clear hfl hmy hgm hln
         go_upto_region 8 with (go_at_call 11; refine hthr.mono ?_; rintro e w3 ⟨p1, q1, p2, q2, p3, q3, p4, q4, rfl, hn3, hw3⟩)
         have hbx := below_box w3 (.cells #[.slice p1 th.label.length q1, .slice p2 th.own.length q2, .string ⟨th.text.toArray⟩, .slice p3 th.objs.length q3, .slice p4 (ol + 1) q4] 36)
         have HX4 := hid (heap_alloc_new w3 (.cells #[.slice p1 th.label.length q1, .slice p2 th.own.length q2, .string ⟨th.text.toArray⟩, .slice p3 th.objs.length q3, .slice p4 (ol + 1) q4] 36))
         have HN4 := hid (hn3.below hbx)
         have hB4 := below_then hw3 hbx
         have HNB4 := hid (HNB.out.below hB4)
         have HC4 := hid (HCL.out.below hB4)
         have HK4 := hid (HKP.out.more hB4)
         have hbw3 := (HNB.out.below hw3).lt
         clear hthr hn3 hw3 hbx hB4
         generalize w3.alloc (.cells #[.slice p1 th.label.length q1, .slice p2 th.own.length q2, .string ⟨th.text.toArray⟩, .slice p3 th.objs.length q3, .slice p4 (ol + 1) q4] 36) = w4 at *
         have b4 : w4.cell? ⟨w3.heap.size, 4, none⟩ = some (.slice p4 (ol + 1) q4) := heap_cell HX4.out 4
         obtain ⟨nb1, nb2⟩ := HNB4.out.cell (i * 4 + j) (by omega)
         rw [HMO.out] at nb1
         go_wp2_with fail
         go_quiet (fail)
         obtain ⟨wq, hwq⟩ : ∃ wq, wq = w4.drewN nq := ⟨_, rfl⟩
         rw [← hwq]
         have hBQ : Below w4.heap.size w4 wq := by rw [hwq]; exact below_drewN w4 nq
         replace HX4 := hid (heap_keep HX4.out hBQ)
         replace HN4 := hid (HN4.out.below hBQ)
         replace HNB4 := hid (HNB4.out.below hBQ)
         replace HC4 := hid (HC4.out.below hBQ)
         replace HK4 := hid (HK4.out.more hBQ)
         clear hwq hBQ b4 nb1 nb2
         have hlt : ol < th.mails.length := by have := HLN.out; omega
         obtain ⟨ga, la, ka, na, ma, e1, c0, c1, c2, c3, c4, o1, o2⟩ := HN4.out.mails.get ol hlt
         have hmm : th.mails[ol] = m := by have := HGM.out; rw [List.getElem?_eq_getElem hlt] at this; exact Option.some.inj this
         have hme := HGT.out.mail _ (List.getElem_mem hlt)
         subst e1
         rw [hmm] at c0 c1 c2 c3 c4 o1 o2 hme
         have hml := mail_len hme
         have hlb := cell_block c0
         have b4 : wq.cell? ⟨w3.heap.size, 4, none⟩ = some (.slice (some ⟨ga, 0, none⟩) (ol + 1) q4) := heap_cell HX4.out 4
         clear hmm hme
         go_upto_region 10 with fail
         have hbx := below_box wq (.cells #[.int .i64 m.host, .int .i64 m.thread, .slice la m.label.length ka, .slice na m.grants.length ma, .string ⟨m.text.toArray⟩] 51)
         have HX5 := hid (heap_alloc_new wq (.cells #[.int .i64 m.host, .int .i64 m.thread, .slice la m.label.length ka, .slice na m.grants.length ma, .string ⟨m.text.toArray⟩] 51))
         have HN5 := hid (HN4.out.below hbx)
         have HX5t := hid (heap_keep HX4.out hbx)
         have HB5 := hid hbx
         have HC5 := hid (HC4.out.below hbx)
         have o1b := labs_of_own o1 (by omega)
         have o2b := nums_of_own o2 (by omega)
         have HMW := hid (o1b.below hbx)
         have HMG := hid (o2b.below hbx)
         generalize wq.alloc (.cells #[.int .i64 m.host, .int .i64 m.thread, .slice la m.label.length ka, .slice na m.grants.length ma, .string ⟨m.text.toArray⟩] 51) = w5 at *
         have HML : Hid (∀ w', Below w5.heap.size w5 w' → LabAt w' (.slice la m.label.length ka) m.label) := hid (fun w' hw => HMW.out.below hw)
         have HMA : Hid (∀ w', Below w5.heap.size w5 w' → MalAt w' (malV m (.slice la m.label.length ka) (.slice na m.grants.length ma)) m) := hid (fun w' hw => ⟨_, _, rfl, HMW.out.below hw, HMG.out.below hw⟩)
         have HTL : Hid (∀ w', Below w5.heap.size w5 w' → LabAt w' (.slice p1 th.label.length q1) th.label ∧ IntsAt w' (.slice p2 th.own.length q2) th.own) := hid (fun w' hw => ⟨labs_of_own (HN5.out.below hw).lab (by omega), nums_of_own (HN5.out.below hw).own (by omega)⟩)
         have HS : Hid (∀ w', Below w5.heap.size w5 w' → w'.cell? ⟨w3.heap.size, 0, none⟩ = some (.slice p1 th.label.length q1) ∧ w'.cell? ⟨w3.heap.size, 1, none⟩ = some (.slice p2 th.own.length q2) ∧ w'.cell? ⟨wq.heap.size, 0, none⟩ = some (.int .i64 m.host) ∧ w'.cell? ⟨wq.heap.size, 1, none⟩ = some (.int .i64 m.thread) ∧ w'.cell? ⟨wq.heap.size, 2, none⟩ = some (.slice la m.label.length ka) ∧ w'.cell? ⟨wq.heap.size, 3, none⟩ = some (.slice na m.grants.length ma) ∧ w'.cell? ⟨wq.heap.size, 4, none⟩ = some (.string ⟨m.text.toArray⟩)) := hid (fun w' hw => ⟨heap_cell (heap_keep HX5t.out hw) 0, heap_cell (heap_keep HX5t.out hw) 1, heap_cell (heap_keep HX5.out hw) 0, heap_cell (heap_keep HX5.out hw) 1, heap_cell (heap_keep HX5.out hw) 2, heap_cell (heap_keep HX5.out hw) 3, heap_cell (heap_keep HX5.out hw) 4⟩)
         clear hbx c0 c1 c2 c3 c4 o1 o2 o1b o2b hlb b4 hml hlt hll hol
         by_cases hh : m.host = (i : Int)
         · skip
           have HHE := hid hh
           clear hh
           refine wp_region_held_drew (S := (fun w' => w'.cell? ⟨w3.heap.size, 0, none⟩ = some (.slice p1 th.label.length q1) ∧ w'.cell? ⟨w3.heap.size, 1, none⟩ = some (.slice p2 th.own.length q2) ∧ w'.cell? ⟨wq.heap.size, 0, none⟩ = some (.int .i64 m.host) ∧ w'.cell? ⟨wq.heap.size, 1, none⟩ = some (.int .i64 m.thread) ∧ w'.cell? ⟨wq.heap.size, 2, none⟩ = some (.slice la m.label.length ka) ∧ w'.cell? ⟨wq.heap.size, 3, none⟩ = some (.slice na m.grants.length ma) ∧ w'.cell? ⟨wq.heap.size, 4, none⟩ = some (.string ⟨m.text.toArray⟩))) (by as_aux_lemma => kernel_rfl) (HS.out _ (Below.refl _ _).drew) (fun _hHeld => ?_)
           refine takeF 0 39 ?v8 rfl (Or.inl ⟨by rfl, ?hy8⟩) ?rest8
           case hy8 => intro wz hSw; (try dsimp only at hSw); go_simp; try with_reducible rfl
           simp only [Act.put, List.setIfInBounds_toArray, List.set_cons_zero, List.set_cons_succ]
           refine takeF 1 40 ?v9 rfl (Or.inl ⟨by rfl, ?hy9⟩) ?rest9
           case hy9 => intro wz hSw; (try dsimp only at hSw); go_simp; try with_reducible rfl
           simp only [Act.put, List.setIfInBounds_toArray, List.set_cons_zero, List.set_cons_succ]
           refine takeF 2 41 ?v10 rfl (Or.inl ⟨by rfl, ?hy10⟩) ?rest10
           case hy10 => intro wz hSw; (try dsimp only at hSw); go_simp; try with_reducible rfl
           simp only [Act.put, List.setIfInBounds_toArray, List.set_cons_zero, List.set_cons_succ]
           refine takeF 3 42 ?v11 rfl (Or.inl ⟨by rfl, ?hy11⟩) ?rest11
           case hy11 => intro wz hSw; (try dsimp only at hSw); go_simp; try with_reducible rfl
           simp only [Act.put, List.setIfInBounds_toArray, List.set_cons_zero, List.set_cons_succ]
           refine takeF 4 43 ?v12 rfl (Or.inl ⟨by rfl, ?hy12⟩) ?rest12
           case hy12 => intro wz hSw; (try dsimp only at hSw); go_simp; try with_reducible rfl
           simp only [Act.put, List.setIfInBounds_toArray, List.set_cons_zero, List.set_cons_succ]
           refine takeF 5 44 ?v13 rfl (Or.inl ⟨by rfl, ?hy13⟩) ?rest13
           case hy13 => intro wz hSw; (try dsimp only at hSw); go_simp; try with_reducible rfl
           simp only [Act.put, List.setIfInBounds_toArray, List.set_cons_zero, List.set_cons_succ]
           refine wpAnyH_ready (rs := [6]) (by as_aux_lemma => kernel_rfl) (by simp) ?_
           refine (AllReadyH.cons rfl (fun K' hK => ?_) AllReadyH.nil)
           go_simp
           have hfl := fun wx (hb : Below w5.heap.size w5 wx) => flows_any _ _ _ m.label th.label th.own wx (HML.out _ hb) (HTL.out _ hb).1 (HTL.out _ hb).2
           rw [HFLO.out] at hfl
           go_wp2_with (go_at_call 24; refine (hfl _ (Below.refl _ _).drew).mono ?_; rintro e w6 ⟨rfl, hw6d⟩)
           have HB6 : Hid (Below w5.heap.size w5 w6) := hid (kundrew hw6d)
           clear hfl hw6d
           refine hK.out _ _ (HS.out _ HB6.out) (fun _ => ?_)
           clear hK K'
           refine takeF 7 46 ?v14 rfl (Or.inl ⟨by rfl, ?hy14⟩) ?rest14
           case hy14 => intro wz hSw; (try dsimp only at hSw); go_simp; try with_reducible rfl
           simp only [Act.put, List.setIfInBounds_toArray, List.set_cons_zero, List.set_cons_succ]
           refine takeF 8 47 ?v15 rfl (Or.inl ⟨by rfl, ?hy15⟩) ?rest15
           case hy15 => intro wz hSw; (try dsimp only at hSw); go_simp; try with_reducible rfl
           simp only [Act.put, List.setIfInBounds_toArray, List.set_cons_zero, List.set_cons_succ]
           refine takeF 9 48 ?v16 rfl (Or.inl ⟨by rfl, ?hy16⟩) ?rest16
           case hy16 => intro wz hSw; (try dsimp only at hSw); go_simp; try with_reducible rfl
           simp only [Act.put, List.setIfInBounds_toArray, List.set_cons_zero, List.set_cons_succ]
           refine takeF 10 49 ?v17 rfl (Or.inl ⟨by rfl, ?hy17⟩) ?rest17
           case hy17 => intro wz hSw; (try dsimp only at hSw); go_simp; try with_reducible rfl
           simp only [Act.put, List.setIfInBounds_toArray, List.set_cons_zero, List.set_cons_succ]
           refine takeF 11 50 ?v18 rfl (Or.inl ⟨by rfl, ?hy18⟩) ?rest18
           case hy18 => intro wz hSw; (try dsimp only at hSw); go_simp; try with_reducible rfl
           simp only [Act.put, List.setIfInBounds_toArray, List.set_cons_zero, List.set_cons_succ]
           refine takeF 12 51 (.bool false) rfl (Or.inl ⟨by rfl, ?hy19⟩) ?rest19
           case hy19 => intro wz hSw; (try dsimp only at hSw); go_simp; simp [HHE.out]
           simp only [Act.put, List.setIfInBounds_toArray, List.set_cons_zero, List.set_cons_succ]
           refine takeF 13 52 ?v20 rfl (Or.inl ⟨by rfl, ?hy20⟩) ?rest20
           case hy20 => intro wz hSw; (try dsimp only at hSw); go_simp; try with_reducible rfl
           simp only [Act.put, List.setIfInBounds_toArray, List.set_cons_zero, List.set_cons_succ]
           refine skipD 14 53 rfl (by as_aux_lemma => kernel_rfl) (by as_aux_lemma => kernel_rfl) (by as_aux_lemma => kernel_rfl) (by as_aux_lemma => kernel_rfl) (fun _ _ _ h => h) (by as_aux_lemma => kernel_rfl) (by assumption) ?_
           simp only [Act.put, List.setIfInBounds_toArray, List.set_cons_zero, List.set_cons_succ]
           refine skipD 15 54 rfl (by as_aux_lemma => kernel_rfl) (by as_aux_lemma => kernel_rfl) (by as_aux_lemma => kernel_rfl) (by as_aux_lemma => kernel_rfl) (fun _ _ _ h => h) (by as_aux_lemma => kernel_rfl) (by assumption) ?_
           simp only [Act.put, List.setIfInBounds_toArray, List.set_cons_zero, List.set_cons_succ]
           refine skipD 16 55 rfl (by as_aux_lemma => kernel_rfl) (by as_aux_lemma => kernel_rfl) (by as_aux_lemma => kernel_rfl) (by as_aux_lemma => kernel_rfl) (fun _ _ _ h => h) (by as_aux_lemma => kernel_rfl) (by assumption) ?_
           simp only [Act.put, List.setIfInBounds_toArray, List.set_cons_zero, List.set_cons_succ]
           refine skipD 17 56 rfl (by as_aux_lemma => kernel_rfl) (by as_aux_lemma => kernel_rfl) (by as_aux_lemma => kernel_rfl) (by as_aux_lemma => kernel_rfl) (fun _ _ _ h => h) (by as_aux_lemma => kernel_rfl) (by assumption) ?_
           simp only [Act.put, List.setIfInBounds_toArray, List.set_cons_zero, List.set_cons_succ]
           refine skipD 18 57 rfl (by as_aux_lemma => kernel_rfl) (by as_aux_lemma => kernel_rfl) (by as_aux_lemma => kernel_rfl) (by as_aux_lemma => kernel_rfl) (fun _ _ _ h => h) (by as_aux_lemma => kernel_rfl) (by assumption) ?_
           simp only [Act.put, List.setIfInBounds_toArray, List.set_cons_zero, List.set_cons_succ]
           refine skipD 19 58 rfl (by as_aux_lemma => kernel_rfl) (by as_aux_lemma => kernel_rfl) (by as_aux_lemma => kernel_rfl) (by as_aux_lemma => kernel_rfl) (fun _ _ _ h => h) (by as_aux_lemma => kernel_rfl) (by assumption) ?_
           simp only [Act.put, List.setIfInBounds_toArray, List.set_cons_zero, List.set_cons_succ]
           refine skipD 20 59 rfl (by as_aux_lemma => kernel_rfl) (by as_aux_lemma => kernel_rfl) (by as_aux_lemma => kernel_rfl) (by as_aux_lemma => kernel_rfl) (fun _ _ _ h => h) (by as_aux_lemma => kernel_rfl) (by assumption) ?_
           simp only [Act.put, List.setIfInBounds_toArray, List.set_cons_zero, List.set_cons_succ]
           refine skipD 21 60 rfl (by as_aux_lemma => kernel_rfl) (by as_aux_lemma => kernel_rfl) (by as_aux_lemma => kernel_rfl) (by as_aux_lemma => kernel_rfl) (fun _ _ _ h => h) (by as_aux_lemma => kernel_rfl) (by assumption) ?_
           simp only [Act.put, List.setIfInBounds_toArray, List.set_cons_zero, List.set_cons_succ]
           refine skipD 22 61 rfl (by as_aux_lemma => kernel_rfl) (by as_aux_lemma => kernel_rfl) (by as_aux_lemma => kernel_rfl) (by as_aux_lemma => kernel_rfl) (fun _ _ _ h => h) (by as_aux_lemma => kernel_rfl) (by assumption) ?_
           simp only [Act.put, List.setIfInBounds_toArray, List.set_cons_zero, List.set_cons_succ]
           refine skipD 23 62 rfl (by as_aux_lemma => kernel_rfl) (by as_aux_lemma => kernel_rfl) (by as_aux_lemma => kernel_rfl) (by as_aux_lemma => kernel_rfl) (fun _ _ _ h => h) (by as_aux_lemma => kernel_rfl) (by assumption) ?_
           simp only [Act.put, List.setIfInBounds_toArray, List.set_cons_zero, List.set_cons_succ]
           refine takeF 24 63 ?v21 rfl (Or.inl ⟨by rfl, ?hy21⟩) ?rest21
           case hy21 => intro wz hSw; (try dsimp only at hSw); go_simp; try with_reducible rfl
           simp only [Act.put, List.setIfInBounds_toArray, List.set_cons_zero, List.set_cons_succ]
           refine takeF 25 64 ?v22 rfl (Or.inl ⟨by rfl, ?hy22⟩) ?rest22
           case hy22 => intro wz hSw; (try dsimp only at hSw); go_simp; try with_reducible rfl
           simp only [Act.put, List.setIfInBounds_toArray, List.set_cons_zero, List.set_cons_succ]
           refine wpAnyH_done (by as_aux_lemma => kernel_rfl) ?_ _
           have HBX := hid (below_then HB5.out HB6.out)
           go_upto_region 12 with fail
           have HX9 := hid (heap_keep HX4.out HBX.out)
           have b9 : w6.cell? ⟨w3.heap.size, 4, none⟩ = some (.slice (some ⟨ga, 0, none⟩) (ol + 1) q4) := heap_cell HX9.out 4
           refine wp_region_held_drew (S := (fun w' => w'.cell? ⟨w3.heap.size, 4, none⟩ = some (.slice (some ⟨ga, 0, none⟩) (ol + 1) q4))) (by as_aux_lemma => kernel_rfl) b9 (fun _hHeld => ?_)
           refine takeF 0 65 ?v45 rfl (Or.inl ⟨by rfl, ?hy45⟩) ?rest45
           case hy45 => intro wz hSw; (try dsimp only at hSw); go_simp; try with_reducible rfl
           simp only [Act.put, List.setIfInBounds_toArray, List.set_cons_zero, List.set_cons_succ]
           refine takeF 1 66 ?v46 rfl (Or.inl ⟨by rfl, ?hy46⟩) ?rest46
           case hy46 => intro wz hSw; (try dsimp only at hSw); go_simp; try with_reducible rfl
           simp only [Act.put, List.setIfInBounds_toArray, List.set_cons_zero, List.set_cons_succ]
           refine takeF 2 67 ?v47 rfl (Or.inl ⟨by rfl, ?hy47⟩) ?rest47
           case hy47 => intro wz hSw; (try dsimp only at hSw); go_simp; try with_reducible rfl
           simp only [Act.put, List.setIfInBounds_toArray, List.set_cons_zero, List.set_cons_succ]
           refine takeF 3 68 ?v48 rfl (Or.inl ⟨by rfl, ?hy48⟩) ?rest48
           case hy48 => intro wz hSw; (try dsimp only at hSw); go_simp; try with_reducible rfl
           simp only [Act.put, List.setIfInBounds_toArray, List.set_cons_zero, List.set_cons_succ]
           refine takeF 4 69 ?v49 rfl (Or.inl ⟨by rfl, ?hy49⟩) ?rest49
           case hy49 => intro wz hSw; (try dsimp only at hSw); go_simp; try with_reducible rfl
           simp only [Act.put, List.setIfInBounds_toArray, List.set_cons_zero, List.set_cons_succ]
           refine takeF 5 70 ?v50 rfl (Or.inl ⟨by rfl, ?hy50⟩) ?rest50
           case hy50 => intro wz hSw; (try dsimp only at hSw); go_simp; try with_reducible rfl
           simp only [Act.put, List.setIfInBounds_toArray, List.set_cons_zero, List.set_cons_succ]
           refine takeF 6 71 ?v51 rfl (Or.inl ⟨by rfl, ?hy51⟩) ?rest51
           case hy51 => intro wz hSw; (try dsimp only at hSw); go_simp; try with_reducible rfl
           simp only [Act.put, List.setIfInBounds_toArray, List.set_cons_zero, List.set_cons_succ]
           obtain ⟨wd, hwd⟩ : ∃ wd, wd = w6.drew := ⟨_, rfl⟩
           rw [← hwd]
           have hBD : Below w6.heap.size w6 wd := by rw [hwd]; exact (Below.refl _ _).drew
           have hB9 := below_then HBX.out hBD
           clear hwd hBD b9
           replace HX9 := hid (heap_keep HX4.out hB9)
           have HNB9 := hid (HNB4.out.below hB9)
           have HC9 := hid (HC4.out.below hB9)
           have HK9 := hid (HK4.out.more hB9)
           obtain ⟨nb3, nb4⟩ := HNB9.out.cell (i * 4 + j) (by omega)
           have hlb9 := HNB9.out.lt
           have hlb3 := heap_lt HX9.out
           have hne9 : ¬ (Bw = w3.heap.size) := by omega
           refine wpAnyH_ready (rs := [7]) (by as_aux_lemma => kernel_rfl) (by simp) ?_
           refine (AllReadyH.cons rfl (fun K' hK => ?_) AllReadyH.nil)
           go_simp
           have c9 : (wd.setCell ⟨Bw, i * 4 + j, none⟩ (.int .i64 (((ol + 1) : Nat) : Int))).cell? ⟨w3.heap.size, 4, none⟩ = some (.slice (some ⟨ga, 0, none⟩) (ol + 1) q4) := heap_cell (heap_tk HX9.out (Ne.symm hne9) (grown_setCell _ _ _ _)) 4
           refine hK.out _ _ c9 (fun _ => ?_)
           clear hK K'
           refine wpAnyH_done (by as_aux_lemma => kernel_rfl) ?_ _
           go_wp2
           go_roundw
           case rel => exact ⟨j + 1, hj4, by go_num, (HNB9.out.set (i * 4 + j) (by omega) _).congr (fun x _ => by have e := mix_set (n := i * 4 + j) (new := mlen C) (old := mlen C0) x; rw [HML0.out] at e; rw [← Nat.add_assoc, ← e]; try first | rfl | simp), HC9.out.nbox HNB9.out HBF.out (by decide) _, HK9.out.put (by simp) _⟩
           case measure => simp [intOf]; omega
         · skip
           have HHE := hid hh
           clear hh
           refine wp_region_held_drew (S := (fun w' => w'.cell? ⟨w3.heap.size, 0, none⟩ = some (.slice p1 th.label.length q1) ∧ w'.cell? ⟨w3.heap.size, 1, none⟩ = some (.slice p2 th.own.length q2) ∧ w'.cell? ⟨wq.heap.size, 0, none⟩ = some (.int .i64 m.host) ∧ w'.cell? ⟨wq.heap.size, 1, none⟩ = some (.int .i64 m.thread) ∧ w'.cell? ⟨wq.heap.size, 2, none⟩ = some (.slice la m.label.length ka) ∧ w'.cell? ⟨wq.heap.size, 3, none⟩ = some (.slice na m.grants.length ma) ∧ w'.cell? ⟨wq.heap.size, 4, none⟩ = some (.string ⟨m.text.toArray⟩))) (by as_aux_lemma => kernel_rfl) (HS.out _ (Below.refl _ _).drew) (fun _hHeld => ?_)
           refine takeF 0 39 ?v23 rfl (Or.inl ⟨by rfl, ?hy23⟩) ?rest23
           case hy23 => intro wz hSw; (try dsimp only at hSw); go_simp; try with_reducible rfl
           simp only [Act.put, List.setIfInBounds_toArray, List.set_cons_zero, List.set_cons_succ]
           refine takeF 1 40 ?v24 rfl (Or.inl ⟨by rfl, ?hy24⟩) ?rest24
           case hy24 => intro wz hSw; (try dsimp only at hSw); go_simp; try with_reducible rfl
           simp only [Act.put, List.setIfInBounds_toArray, List.set_cons_zero, List.set_cons_succ]
           refine takeF 2 41 ?v25 rfl (Or.inl ⟨by rfl, ?hy25⟩) ?rest25
           case hy25 => intro wz hSw; (try dsimp only at hSw); go_simp; try with_reducible rfl
           simp only [Act.put, List.setIfInBounds_toArray, List.set_cons_zero, List.set_cons_succ]
           refine takeF 3 42 ?v26 rfl (Or.inl ⟨by rfl, ?hy26⟩) ?rest26
           case hy26 => intro wz hSw; (try dsimp only at hSw); go_simp; try with_reducible rfl
           simp only [Act.put, List.setIfInBounds_toArray, List.set_cons_zero, List.set_cons_succ]
           refine takeF 4 43 ?v27 rfl (Or.inl ⟨by rfl, ?hy27⟩) ?rest27
           case hy27 => intro wz hSw; (try dsimp only at hSw); go_simp; try with_reducible rfl
           simp only [Act.put, List.setIfInBounds_toArray, List.set_cons_zero, List.set_cons_succ]
           refine takeF 5 44 ?v28 rfl (Or.inl ⟨by rfl, ?hy28⟩) ?rest28
           case hy28 => intro wz hSw; (try dsimp only at hSw); go_simp; try with_reducible rfl
           simp only [Act.put, List.setIfInBounds_toArray, List.set_cons_zero, List.set_cons_succ]
           refine wpAnyH_ready (rs := [6]) (by as_aux_lemma => kernel_rfl) (by simp) ?_
           refine (AllReadyH.cons rfl (fun K' hK => ?_) AllReadyH.nil)
           go_simp
           have hfl := fun wx (hb : Below w5.heap.size w5 wx) => flows_any _ _ _ m.label th.label th.own wx (HML.out _ hb) (HTL.out _ hb).1 (HTL.out _ hb).2
           rw [HFLO.out] at hfl
           go_wp2_with (go_at_call 24; refine (hfl _ (Below.refl _ _).drew).mono ?_; rintro e w6 ⟨rfl, hw6d⟩)
           have HB6 : Hid (Below w5.heap.size w5 w6) := hid (kundrew hw6d)
           clear hfl hw6d
           refine hK.out _ _ (HS.out _ HB6.out) (fun _ => ?_)
           clear hK K'
           refine takeF 7 46 ?v29 rfl (Or.inl ⟨by rfl, ?hy29⟩) ?rest29
           case hy29 => intro wz hSw; (try dsimp only at hSw); go_simp; try with_reducible rfl
           simp only [Act.put, List.setIfInBounds_toArray, List.set_cons_zero, List.set_cons_succ]
           refine takeF 8 47 ?v30 rfl (Or.inl ⟨by rfl, ?hy30⟩) ?rest30
           case hy30 => intro wz hSw; (try dsimp only at hSw); go_simp; try with_reducible rfl
           simp only [Act.put, List.setIfInBounds_toArray, List.set_cons_zero, List.set_cons_succ]
           refine takeF 9 48 ?v31 rfl (Or.inl ⟨by rfl, ?hy31⟩) ?rest31
           case hy31 => intro wz hSw; (try dsimp only at hSw); go_simp; try with_reducible rfl
           simp only [Act.put, List.setIfInBounds_toArray, List.set_cons_zero, List.set_cons_succ]
           refine takeF 10 49 ?v32 rfl (Or.inl ⟨by rfl, ?hy32⟩) ?rest32
           case hy32 => intro wz hSw; (try dsimp only at hSw); go_simp; try with_reducible rfl
           simp only [Act.put, List.setIfInBounds_toArray, List.set_cons_zero, List.set_cons_succ]
           refine takeF 11 50 ?v33 rfl (Or.inl ⟨by rfl, ?hy33⟩) ?rest33
           case hy33 => intro wz hSw; (try dsimp only at hSw); go_simp; try with_reducible rfl
           simp only [Act.put, List.setIfInBounds_toArray, List.set_cons_zero, List.set_cons_succ]
           refine takeF 12 51 (.bool true) rfl (Or.inl ⟨by rfl, ?hy34⟩) ?rest34
           case hy34 => intro wz hSw; (try dsimp only at hSw); go_simp; simp [HHE.out]
           simp only [Act.put, List.setIfInBounds_toArray, List.set_cons_zero, List.set_cons_succ]
           refine takeF 13 52 ?v35 rfl (Or.inl ⟨by rfl, ?hy35⟩) ?rest35
           case hy35 => intro wz hSw; (try dsimp only at hSw); go_simp; try with_reducible rfl
           simp only [Act.put, List.setIfInBounds_toArray, List.set_cons_zero, List.set_cons_succ]
           refine takeF 14 53 ?v36 rfl (Or.inl ⟨by rfl, ?hy36⟩) ?rest36
           case hy36 => intro wz hSw; (try dsimp only at hSw); go_simp; try with_reducible rfl
           simp only [Act.put, List.setIfInBounds_toArray, List.set_cons_zero, List.set_cons_succ]
           refine takeF 15 54 ?v37 rfl (Or.inl ⟨by rfl, ?hy37⟩) ?rest37
           case hy37 => intro wz hSw; (try dsimp only at hSw); go_simp; try with_reducible rfl
           simp only [Act.put, List.setIfInBounds_toArray, List.set_cons_zero, List.set_cons_succ]
           refine takeF 17 56 ?v38 rfl (Or.inl ⟨by rfl, ?hy38⟩) ?rest38
           case hy38 => intro wz hSw; (try dsimp only at hSw); go_simp; try with_reducible rfl
           simp only [Act.put, List.setIfInBounds_toArray, List.set_cons_zero, List.set_cons_succ]
           refine takeF 18 57 ?v39 rfl (Or.inl ⟨by rfl, ?hy39⟩) ?rest39
           case hy39 => intro wz hSw; (try dsimp only at hSw); go_simp; try with_reducible rfl
           simp only [Act.put, List.setIfInBounds_toArray, List.set_cons_zero, List.set_cons_succ]
           refine takeF 19 58 ?v40 rfl (Or.inl ⟨by rfl, ?hy40⟩) ?rest40
           case hy40 => intro wz hSw; (try dsimp only at hSw); go_simp; try with_reducible rfl
           simp only [Act.put, List.setIfInBounds_toArray, List.set_cons_zero, List.set_cons_succ]
           refine takeF 20 59 ?v41 rfl (Or.inl ⟨by rfl, ?hy41⟩) ?rest41
           case hy41 => intro wz hSw; (try dsimp only at hSw); go_simp; try with_reducible rfl
           simp only [Act.put, List.setIfInBounds_toArray, List.set_cons_zero, List.set_cons_succ]
           refine wpAnyH_ready (rs := [16]) (by as_aux_lemma => kernel_rfl) (by simp) ?_
           refine (AllReadyH.cons rfl (fun K' hK => ?_) AllReadyH.nil)
           go_simp
           go_wp2_with (go_at_call 22; refine (ccerts_any cb i F Z C _ (HC5.out.below HB6.out)).mono ?_; rintro e w7 ⟨pc, cc, rfl, hcr, _, hw7⟩)
           have HB7 : Hid (Below w5.heap.size w5 w7) := hid (below_then HB6.out hw7)
           clear hw7
           refine hK.out _ _ (HS.out _ HB7.out) (fun _ => ?_)
           clear hK K'
           refine wpAnyH_ready (rs := [21]) (by as_aux_lemma => kernel_rfl) (by simp) ?_
           refine (AllReadyH.cons rfl (fun K' hK => ?_) AllReadyH.nil)
           go_simp
           go_wp2_with (go_at_call 27; refine (cnow_any cb F Z C _ (HC5.out.below HB7.out)).mono ?_; rintro e w7b ⟨rfl, hwe⟩; rw [hwe]; clear hwe)
           refine hK.out _ _ (HS.out _ HB7.out) (fun _ => ?_)
           clear hK K'
           refine wpAnyH_ready (rs := [22]) (by as_aux_lemma => kernel_rfl) (by simp) ?_
           refine (AllReadyH.cons rfl (fun K' hK => ?_) AllReadyH.nil)
           go_simp
           have hmay := may_any _ _ (crtsC C i) m.host m C.now w7 hcr (HMA.out _ HB7.out)
           unfold malV at hmay
           rw [HMAY.out HHE.out] at hmay
           go_wp2_with (go_at_call 26; refine hmay.mono ?_; rintro e w8 ⟨rfl, hw8⟩)
           have HB8 := hid (below_then HB7.out hw8)
           clear hw8 hmay hcr
           refine hK.out _ _ (HS.out _ HB8.out) (fun _ => ?_)
           clear hK K'
           refine takeF 23 62 ?v42 rfl (Or.inl ⟨by rfl, ?hy42⟩) ?rest42
           case hy42 => intro wz hSw; (try dsimp only at hSw); go_simp; try with_reducible rfl
           simp only [Act.put, List.setIfInBounds_toArray, List.set_cons_zero, List.set_cons_succ]
           refine takeF 24 63 ?v43 rfl (Or.inl ⟨by rfl, ?hy43⟩) ?rest43
           case hy43 => intro wz hSw; (try dsimp only at hSw); go_simp; try with_reducible rfl
           simp only [Act.put, List.setIfInBounds_toArray, List.set_cons_zero, List.set_cons_succ]
           refine takeF 25 64 ?v44 rfl (Or.inl ⟨by rfl, ?hy44⟩) ?rest44
           case hy44 => intro wz hSw; (try dsimp only at hSw); go_simp; try with_reducible rfl
           simp only [Act.put, List.setIfInBounds_toArray, List.set_cons_zero, List.set_cons_succ]
           refine wpAnyH_done (by as_aux_lemma => kernel_rfl) ?_ _
           have HBX := hid (below_then HB5.out HB8.out)
           go_upto_region 12 with fail
           have HX9 := hid (heap_keep HX4.out HBX.out)
           have b9 : w8.cell? ⟨w3.heap.size, 4, none⟩ = some (.slice (some ⟨ga, 0, none⟩) (ol + 1) q4) := heap_cell HX9.out 4
           refine wp_region_held_drew (S := (fun w' => w'.cell? ⟨w3.heap.size, 4, none⟩ = some (.slice (some ⟨ga, 0, none⟩) (ol + 1) q4))) (by as_aux_lemma => kernel_rfl) b9 (fun _hHeld => ?_)
           refine takeF 0 65 ?v52 rfl (Or.inl ⟨by rfl, ?hy52⟩) ?rest52
           case hy52 => intro wz hSw; (try dsimp only at hSw); go_simp; try with_reducible rfl
           simp only [Act.put, List.setIfInBounds_toArray, List.set_cons_zero, List.set_cons_succ]
           refine takeF 1 66 ?v53 rfl (Or.inl ⟨by rfl, ?hy53⟩) ?rest53
           case hy53 => intro wz hSw; (try dsimp only at hSw); go_simp; try with_reducible rfl
           simp only [Act.put, List.setIfInBounds_toArray, List.set_cons_zero, List.set_cons_succ]
           refine takeF 2 67 ?v54 rfl (Or.inl ⟨by rfl, ?hy54⟩) ?rest54
           case hy54 => intro wz hSw; (try dsimp only at hSw); go_simp; try with_reducible rfl
           simp only [Act.put, List.setIfInBounds_toArray, List.set_cons_zero, List.set_cons_succ]
           refine takeF 3 68 ?v55 rfl (Or.inl ⟨by rfl, ?hy55⟩) ?rest55
           case hy55 => intro wz hSw; (try dsimp only at hSw); go_simp; try with_reducible rfl
           simp only [Act.put, List.setIfInBounds_toArray, List.set_cons_zero, List.set_cons_succ]
           refine takeF 4 69 ?v56 rfl (Or.inl ⟨by rfl, ?hy56⟩) ?rest56
           case hy56 => intro wz hSw; (try dsimp only at hSw); go_simp; try with_reducible rfl
           simp only [Act.put, List.setIfInBounds_toArray, List.set_cons_zero, List.set_cons_succ]
           refine takeF 5 70 ?v57 rfl (Or.inl ⟨by rfl, ?hy57⟩) ?rest57
           case hy57 => intro wz hSw; (try dsimp only at hSw); go_simp; try with_reducible rfl
           simp only [Act.put, List.setIfInBounds_toArray, List.set_cons_zero, List.set_cons_succ]
           refine takeF 6 71 ?v58 rfl (Or.inl ⟨by rfl, ?hy58⟩) ?rest58
           case hy58 => intro wz hSw; (try dsimp only at hSw); go_simp; try with_reducible rfl
           simp only [Act.put, List.setIfInBounds_toArray, List.set_cons_zero, List.set_cons_succ]
           obtain ⟨wd, hwd⟩ : ∃ wd, wd = w8.drew := ⟨_, rfl⟩
           rw [← hwd]
           have hBD : Below w8.heap.size w8 wd := by rw [hwd]; exact (Below.refl _ _).drew
           have hB9 := below_then HBX.out hBD
           clear hwd hBD b9
           replace HX9 := hid (heap_keep HX4.out hB9)
           have HNB9 := hid (HNB4.out.below hB9)
           have HC9 := hid (HC4.out.below hB9)
           have HK9 := hid (HK4.out.more hB9)
           obtain ⟨nb3, nb4⟩ := HNB9.out.cell (i * 4 + j) (by omega)
           have hlb9 := HNB9.out.lt
           have hlb3 := heap_lt HX9.out
           have hne9 : ¬ (Bw = w3.heap.size) := by omega
           refine wpAnyH_ready (rs := [7]) (by as_aux_lemma => kernel_rfl) (by simp) ?_
           refine (AllReadyH.cons rfl (fun K' hK => ?_) AllReadyH.nil)
           go_simp
           have c9 : (wd.setCell ⟨Bw, i * 4 + j, none⟩ (.int .i64 (((ol + 1) : Nat) : Int))).cell? ⟨w3.heap.size, 4, none⟩ = some (.slice (some ⟨ga, 0, none⟩) (ol + 1) q4) := heap_cell (heap_tk HX9.out (Ne.symm hne9) (grown_setCell _ _ _ _)) 4
           refine hK.out _ _ c9 (fun _ => ?_)
           clear hK K'
           refine wpAnyH_done (by as_aux_lemma => kernel_rfl) ?_ _
           go_wp2
           go_roundw
           case rel => exact ⟨j + 1, hj4, by go_num, (HNB9.out.set (i * 4 + j) (by omega) _).congr (fun x _ => by have e := mix_set (n := i * 4 + j) (new := mlen C) (old := mlen C0) x; rw [HML0.out] at e; rw [← Nat.add_assoc, ← e]; try first | rfl | simp), HC9.out.nbox HNB9.out HBF.out (by decide) _, HK9.out.put (by simp) _⟩
           case measure => simp [intOf]; omega
     · have hj5 : j = 4 := by omega
       subst hj5
       go_wp2
       go_roundw
       case rel => exact ⟨i + 1, hi4, by go_num, by rw [show (i + 1) * 4 = i * 4 + 4 by omega]; exact HNB.out, HCL.out, HKP.out⟩
       case measure => simp [intOf]; omega
  · have hi5 : i = 4 := by omega
    subst hi5
    go_wp2
    go_ret
    exact ⟨rfl, ⟨HBF.out, mix_all HNBo.out⟩, HCo.out, HKo.out⟩
end Go.Proofs.YtlbdaklmlknmbaaGreat
namespace Go.Proofs.YtlbdaklmlknmbaaGreat
open Go.RowKit Go.Proofs.Parclose
set_option maxRecDepth 100000 in
set_option maxHeartbeats 6400000 in
theorem play_trusted (Bw : Nat) (v : Value) (l : List Ac) (w0 w : World) (hv : AcsAt w0 v l) (hw0 : Below w0.heap.size w0 w) (hbs : ∀ b ∈ [Bw], w0.heap.size ≤ b ∧ b < w.heap.size) (hJ : ∀ w' G, Below w.heap.size w w' → (∀ b ∈ [Bw], b ∈ G) → JT Bw w' G freshClu) :
 Calls Tryz.prog 20 #[v, .func (.func 25) #[] #[.pointer (some ⟨Bw, 0, none⟩)]] w fun e w' => (∃ x, e = .returned (.tuple #[x, .bool true])) ∧ Below w0.heap.size w0 w' := by
 have HV := hid hv
 have HW0 := hid hw0
 have HBS := hid hbs
 have HJ0 := hid hJ
 obtain ⟨p, cap, rfl, hlc, _⟩ := hv.slice
 clear hv hw0 hbs hJ
 go_enter Tryz.func20, Tryz.ntmps20
 go_upto_region 3 with (go_at_call 9; refine (talive_any _).mono ?_; rintro e w1 ⟨rfl, hw1⟩)
 go_upto_region 4 with (go_at_call 10; refine (cnew_any _).mono ?_; rintro e w2 ⟨rfl, ⟨kp, F, hc2, hF⟩, hw2⟩)
 have hw12 := below_then hw1 hw2
 have HB2 := hid (Below.trans' HW0.out (hw12.mono HW0.out.size))
 have HF2 : Hid (∀ k ∈ [Bw] ++ F, w0.heap.size ≤ k) := hid (fun k hk => by
  rcases List.mem_append.1 hk with e | e
  · exact (HBS.out k e).1
  · exact Nat.le_trans HW0.out.size (Nat.le_trans hw1.size (hF k e)))
 have HC2 := hid (hc2.anyF (G := [Bw] ++ F) (fun k hk => List.mem_append_right _ hk) (fun k hk => by
  rcases List.mem_append.1 hk with e | e
  · exact Nat.lt_of_lt_of_le (HBS.out k e).2 hw12.size
  · exact hc2.fin k e))
 have HJ2 := hid (HJ0.out w2 ([Bw] ++ F) hw12 (fun b hb => List.mem_append_left _ hb))
 have HWZ := hid hw12.size
 clear hc2 hF hw1 hw2 hw12
 go_wp2_with fail
 go_loopw [7] (fun i wr => ∃ (k : Nat) (G : List Nat) (Z' : CluV), k ≤ l.length ∧ k ≤ 120 ∧ i = .int .i64 k ∧ CluAt wr w1.heap.size G Z' (playC freshClu (l.take k)) ∧ Below w0.heap.size w0 wr ∧ (∀ b ∈ G, w0.heap.size ≤ b) ∧ JT Bw wr G (playC freshClu (l.take k)) ∧ w.heap.size ≤ wr.heap.size) (fun i _ => l.length - (intOf i).toNat)
 case atStart => exact ⟨0, [Bw] ++ F, _, Nat.zero_le _, Nat.zero_le _, rfl, HC2.out, HB2.out, HF2.out, HJ2.out, HWZ.out⟩
 case round =>
  clear HC2 HB2 HF2 HJ2 HJ0
  obtain ⟨k, G, Z', hk, hk120, rfl, hck, hbw, hG, hj, hws⟩ := hrel
  have HCK := hid hck
  have HBW := hid hbw
  have HGG := hid hG
  have HJJ := hid hj
  have HWS := hid hws
  have hsz := hbw.size
  clear hck hbw hG hj hws
  by_cases hlt : k < l.length
  · have hI : (k : Int) < (l.length : Int) := by omega
    by_cases h120 : k < 120
    · have hJ : (k : Int) < 120 := by omega
      obtain ⟨b, o, pl, cl, pg, cg, rfl, hla, hin2, q0, q1, q2, q3, q4, q5, q6, q7, q8, q9, q10, q11⟩ := HV.out.get k hlt
      have HPS : Hid (playC freshClu (l.take (k + 1)) = (doC (playC freshClu (l.take k)) l[k]).1) := hid (by rw [← List.take_append_getElem hlt, playC_snoc])
      have HGD := hid (playC_good (l.take k) freshC_good)
      have HG2 := hid (doC_good HGD.out l[k])
      have HHC := hid (playC_h (l.take k) freshH)
      have HFA := hid (fun i j (hi : i < 4) => truF HGD.out HHC.out l[k] i j hi)
      generalize l[k] = a at *
      generalize playC freshClu (l.take k) = Ck at *
      have r0 := (HBW.out.cell (cell_block q0)).trans q0
      have r1 := (HBW.out.cell (cell_block q1)).trans q1
      have r2 := (HBW.out.cell (cell_block q2)).trans q2
      have r3 := (HBW.out.cell (cell_block q3)).trans q3
      have r4 := (HBW.out.cell (cell_block q4)).trans q4
      have r5 := (HBW.out.cell (cell_block q5)).trans q5
      have r6 := (HBW.out.cell (cell_block q6)).trans q6
      have r7 := (HBW.out.cell (cell_block q7)).trans q7
      have r8 := (HBW.out.cell (cell_block q8)).trans q8
      have r9 := (HBW.out.cell (cell_block q9)).trans q9
      have r10 := (HBW.out.cell (cell_block q10)).trans q10
      have r11 := (HBW.out.cell (cell_block q11)).trans q11
      have hbl0 := cell_block q0
      have hbl := Nat.lt_of_lt_of_le hbl0 hsz
      have hdo := cdo_any w1.heap.size G Z' Ck _ a wr HCK.out HGD.out ⟨_, _, rfl, roLab_old hla HGG.out (hla.below HBW.out), roInts_old hin2 HGG.out (hin2.below HBW.out)⟩
      unfold acV at hdo
      generalize doC Ck a = R at *
      obtain ⟨C2, r⟩ := R
      simp only at hdo HPS
      have HQ : Hid (∀ w', Below w0.heap.size w0 w' → w'.cell? ⟨b, o + k * 12, none⟩ = some (.int .i64 a.kind) ∧ w'.cell? ⟨b, o + k * 12 + 1, none⟩ = some (.int .i64 a.h) ∧ w'.cell? ⟨b, o + k * 12 + 2, none⟩ = some (.int .i64 a.t) ∧ w'.cell? ⟨b, o + k * 12 + 3, none⟩ = some (.int .i64 a.n) ∧ w'.cell? ⟨b, o + k * 12 + 4, none⟩ = some (.int .i64 a.call.kind) ∧ w'.cell? ⟨b, o + k * 12 + 5, none⟩ = some (.int .i64 a.call.h) ∧ w'.cell? ⟨b, o + k * 12 + 6, none⟩ = some (.int .i64 a.call.t) ∧ w'.cell? ⟨b, o + k * 12 + 7, none⟩ = some (.int .i64 a.call.n) ∧ w'.cell? ⟨b, o + k * 12 + 8, none⟩ = some (.int .i64 a.call.c) ∧ w'.cell? ⟨b, o + k * 12 + 9, none⟩ = some (.slice pl a.call.label.length cl) ∧ w'.cell? ⟨b, o + k * 12 + 10, none⟩ = some (.slice pg a.call.grants.length cg) ∧ w'.cell? ⟨b, o + k * 12 + 11, none⟩ = some (.string ⟨a.call.text.toArray⟩)) := hid (fun w' h => ⟨(h.cell (cell_block q0)).trans q0, (h.cell (cell_block q1)).trans q1, (h.cell (cell_block q2)).trans q2, (h.cell (cell_block q3)).trans q3, (h.cell (cell_block q4)).trans q4, (h.cell (cell_block q5)).trans q5, (h.cell (cell_block q6)).trans q6, (h.cell (cell_block q7)).trans q7, (h.cell (cell_block q8)).trans q8, (h.cell (cell_block q9)).trans q9, (h.cell (cell_block q10)).trans q10, (h.cell (cell_block q11)).trans q11⟩)
      clear q0 q1 q2 q3 q4 q5 q6 q7 q8 q9 q10 q11 hla hin2 hbl0
      go_upto_region 8 with (go_at_call 15; refine hdo.mono ?_; rintro e w5 ⟨rfl, G5, Z5, hc5, hs5⟩)
      obtain ⟨hb5, hG5⟩ := hs5.low HCK.out HGG.out hsz
      have HB5 := hid (Below.trans' HBW.out hb5)
      have hbx := below_box w5 (.cells #[.int .i64 r.code, .int .i64 r.n, .string ⟨r.text.toArray⟩] 43)
      have HB6 := hid (Below.trans' HB5.out (hbx.mono HB5.out.size))
      have HX6 := hid (heap_alloc_new w5 (.cells #[.int .i64 r.code, .int .i64 r.n, .string ⟨r.text.toArray⟩] 43))
      have HC6 := hid (hc5.below hbx)
      have HJ6 := hid ((JT.step HJJ.out hs5 HCK.out).below hbx)
      have HG5 := hid hG5
      have HS5 : Hid (∀ b ∈ [Bw], w0.heap.size ≤ b ∧ b < w5.heap.size) := hid (fun b hb => ⟨(HBS.out b hb).1, Nat.lt_of_lt_of_le (HBS.out b hb).2 (Nat.le_trans HWS.out hs5.kept.size)⟩)
      have HWS5 : Hid (w.heap.size ≤ w5.heap.size) := hid (Nat.le_trans HWS.out hs5.kept.size)
      obtain ⟨s0, s1, s2, s3, s4, s5, s6, s7, s8, s9, s10, s11⟩ := HQ.out _ HB6.out
      obtain ⟨t0, t1, t2, _⟩ := cells3 HX6.out
      have hlt6 := heap_lt HX6.out
      have hbl5 : b < w5.heap.size := Nat.lt_of_lt_of_le hbl hs5.kept.size
      have HZ6 : Hid (w5.heap.size ≤ (w5.alloc (.cells #[.int .i64 r.code, .int .i64 r.n, .string ⟨r.text.toArray⟩] 43)).heap.size) := hid hbx.size
      clear hdo hs5 hc5 hb5 hG5 hbx r0 r1 r2 r3 r4 r5 r6 r7 r8 r9 r10 r11
      generalize hw6 : w5.alloc (.cells #[.int .i64 r.code, .int .i64 r.n, .string ⟨r.text.toArray⟩] 43) = w6 at *
      clear hw6
      go_region_held3 (fun w' => (w'.cell? ⟨b, o + k * 12, none⟩ = some (.int .i64 a.kind) ∧ w'.cell? ⟨b, o + k * 12 + 1, none⟩ = some (.int .i64 a.h) ∧ w'.cell? ⟨b, o + k * 12 + 2, none⟩ = some (.int .i64 a.t) ∧ w'.cell? ⟨b, o + k * 12 + 3, none⟩ = some (.int .i64 a.n) ∧ w'.cell? ⟨b, o + k * 12 + 4, none⟩ = some (.int .i64 a.call.kind) ∧ w'.cell? ⟨b, o + k * 12 + 5, none⟩ = some (.int .i64 a.call.h) ∧ w'.cell? ⟨b, o + k * 12 + 6, none⟩ = some (.int .i64 a.call.t) ∧ w'.cell? ⟨b, o + k * 12 + 7, none⟩ = some (.int .i64 a.call.n) ∧ w'.cell? ⟨b, o + k * 12 + 8, none⟩ = some (.int .i64 a.call.c) ∧ w'.cell? ⟨b, o + k * 12 + 9, none⟩ = some (.slice pl a.call.label.length cl) ∧ w'.cell? ⟨b, o + k * 12 + 10, none⟩ = some (.slice pg a.call.grants.length cg) ∧ w'.cell? ⟨b, o + k * 12 + 11, none⟩ = some (.string ⟨a.call.text.toArray⟩)) ∧ w'.cell? ⟨w5.heap.size, 0, none⟩ = some (.int .i64 r.code) ∧ w'.cell? ⟨w5.heap.size, 1, none⟩ = some (.int .i64 r.n) ∧ w'.cell? ⟨w5.heap.size, 2, none⟩ = some (.string ⟨r.text.toArray⟩)) (go_keep)
       (first
        | (go_at_call 25; refine (lookTrusted_any w1.heap.size Bw G5 Z5 Ck C2 a r pl pg cl cg _ (HC6.out.below (Below.refl _ _).drew) HG2.out (HJ6.out.below (Below.refl _ _).drew) HFA.out).mono ?_; rintro e w7 ⟨rfl, hj7, hc7, hkd⟩; have hk7 := kept_undrew hkd; have HJ7 := hid hj7; have HC7 := hid hc7; have HB7 := hid (below_kept HB6.out hk7 (fun b hb => (HS5.out b hb).1)); have HZ7 := hid (Nat.le_trans HZ6.out hk7.size); obtain ⟨u0, u1, u2, u3, u4, u5, u6, u7, u8, u9, u10, u11⟩ := HQ.out _ HB7.out; obtain ⟨y0, y1, y2, _⟩ := cells3 (hk7.heap HX6.out (fun e => Nat.lt_irrefl _ (HS5.out _ e).2)); clear hj7 hc7 hkd hk7)
        | fail)
      all_goals
       go_wp2
       go_roundw
       case rel => exact ⟨k + 1, G5, Z5, hlt, h120, by go_num, by rw [HPS.out]; exact HC7.out, HB7.out, HG5.out, by rw [HPS.out]; exact HJ7.out, Nat.le_trans HWS5.out HZ7.out⟩
       case measure => simp [intOf]; omega
    · have hJ : ¬ ((k : Int) < 120) := by omega
      go_wp2
      go_ret2
      exact ⟨⟨_, rfl⟩, HBW.out⟩
  · have hI : ¬ ((k : Int) < (l.length : Int)) := by omega
    go_wp2
    go_ret2
    exact ⟨⟨_, rfl⟩, HBW.out⟩
end Go.Proofs.YtlbdaklmlknmbaaGreat
namespace Go.Proofs.YtlbdaklmlknmbaaGreat
open Go.RowKit Go.Proofs.Parclose
theorem nbox_zero {w : World} {ty : TypeId} {n : Nat} {A : Array Value} (hA : A.size = n) (h0 : ∀ i, i < n → A[i]? = some (.int .i64 0)) : NBox (w.alloc (.cells A ty)) w.heap.size ty n (fun _ => 0) := ⟨A, heap_alloc_new w _, hA, h0⟩
theorem thrC_fresh (h t : Int) : thrC freshClu h t = zeroThr := by
 unfold thrC
 split
 · show thrOf (freshKer _) t = _
   unfold thrOf getT freshKer
   split
   · generalize t.toNat = n
     match n with
     | 0 => rfl
     | 1 => rfl
     | 2 => rfl
     | 3 => rfl
     | n + 4 => rfl
   · rfl
 · rfl
theorem mlen_fresh (i : Nat) : mlen freshClu i = 0 := by
 unfold mlen
 rw [thrC_fresh]
 rfl
theorem cnt2_zero (i : Nat) (h : i < 16) : (#[.int .i64 0, .int .i64 0, .int .i64 0, .int .i64 0, .int .i64 0, .int .i64 0, .int .i64 0, .int .i64 0, .int .i64 0, .int .i64 0, .int .i64 0, .int .i64 0, .int .i64 0, .int .i64 0, .int .i64 0, .int .i64 0] : Array Value)[i]? = some (.int .i64 0) := by
 rw [show (#[.int .i64 0, .int .i64 0, .int .i64 0, .int .i64 0, .int .i64 0, .int .i64 0, .int .i64 0, .int .i64 0, .int .i64 0, .int .i64 0, .int .i64 0, .int .i64 0, .int .i64 0, .int .i64 0, .int .i64 0, .int .i64 0] : Array Value) = Array.replicate 16 (.int .i64 0) from rfl, Array.getElem?_replicate, if_pos h]
set_option maxRecDepth 100000 in
set_option maxHeartbeats 1600000 in
theorem topTrusted_any (v : Value) (l : List Ac) (w : World) (hv : AcsAt w v l) : Calls Tryz.prog 6 #[v] w fun e w' => e = .returned (.bool true) ∧ Below w.heap.size w w' := by
 have hplay := play_trusted w.heap.size v l w (w.alloc (.cells #[.int .i64 0, .int .i64 0, .int .i64 0, .int .i64 0, .int .i64 0, .int .i64 0, .int .i64 0, .int .i64 0, .int .i64 0, .int .i64 0, .int .i64 0, .int .i64 0, .int .i64 0, .int .i64 0, .int .i64 0, .int .i64 0] 65)) hv (below_box _ _) (fun b hb => by rw [List.mem_singleton.1 hb]; exact ⟨Nat.le_refl _, by simp⟩) (fun w' G hb hG => ⟨hG _ (by simp), ((nbox_zero (by kernel_rfl) cnt2_zero).below hb).congr fun i _ => (mlen_fresh i).symm⟩)
 obtain ⟨p, cap, rfl, _⟩ := hv.slice
 clear hv
 go_enter Tryz.func6, Tryz.ntmps6
 go_wp2_with (go_at_call 20; refine hplay.mono ?_; rintro e w1 ⟨⟨x, rfl⟩, hw1⟩)
 go_ret
 exact ⟨rfl, hw1⟩
end Go.Proofs.YtlbdaklmlknmbaaGreat
