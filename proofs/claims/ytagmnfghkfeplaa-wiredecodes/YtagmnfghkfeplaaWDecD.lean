/- The reference's DecodeFrame of nine bytes and more. -/
import Derived.Test.YtagmnfghkfeplaaWDecC
import Derived.Test.YtagmnfghkfeplaaWDecB
import Derived.Test.YtagmnfghkfeplaaTakeD
import Derived.Deep.DeepCutAuto
import Derived.Deep.RegionHeld3
namespace Go.Proofs.Ytagmnfghkfeplaa
open Go.RowKit Go.Proofs.Parclose

theorem str_snoc (x : List UInt8) (a : UInt8) : (⟨x.toArray⟩ : ByteArray) ++ ⟨#[a]⟩ = ⟨(x ++ [a]).toArray⟩ := ByteArray.mk_append_mk x [a]
theorem tail3 (a b c : UInt8) (q : List UInt8) : (⟨(a :: b :: c :: q).toArray⟩ : ByteArray).extract 3 (q.length + 1 + 1 + 1) = ⟨q.toArray⟩ := by
  rw [ByteArray.extract_mk]
  simp
theorem step_numOfB {w : World} {ops : Array Oper} {o : Oper} {a0 : Act} {K : Act → World → Prop} {Q : Exit → Act → World → Prop} {E : Prop} (hgd : o.guard = none) (x : Operand) (ats : Array TypeId)
    (ho : o.op = .call { callee := .value (.func 45), args := #[x], argTypes := ats }) (y : List UInt8) (hx : a0.eval x = .string ⟨y.toArray⟩) (hy : y.length ≤ 6)
    (h : ∀ w', Below w.heap.size w w' → K (a0.put o.dst (.int .i64 (numL y))) w') :
    if Region.wanted o (yielded ops a0.tmps) = true then Oper.wp Try.prog o a0 w K Q else E :=
  step_numOf hgd x ats ho y hx hy (fun _ _ => h _ (below_box w _).drew)
theorem own_store11 {w : World} {base : Nat} {e t : TypeId} {size : Nat} {v : Value} {n : Nat} {xs : List Value} {b : Nat} {C : Array Value} (ho : w.ownsRow base e size v n xs) (h : w.heap[b]? = some (.cells C t (0, 0))) (hte : t ≠ e) (x0 x1 x2 x3 x4 x5 x6 x7 x8 x9 x10 : Value) : (st11 w b x0 x1 x2 x3 x4 x5 x6 x7 x8 x9 x10).ownsRow base e size v n xs := by
  refine ho.kept (st11_grown w b x0 x1 x2 x3 x4 x5 x6 x7 x8 x9 x10) (Or.inr fun ee => ?_)
  rcases ho.2 with ⟨rfl, _⟩ | ⟨g, cap, cur, rfl, _, hh, _⟩
  · cases ee
  · have hg : g = b := by simpa [Value.ownBlock] using ee
    subst hg
    rw [h] at hh
    simp at hh
    exact hte hh.2
theorem list1 {x : List UInt8} (h : x.length = 1) : ∃ a, x = [a] := by
  match x, h with
  | [a], _ => exact ⟨a, rfl⟩
theorem ix1 (a : UInt8) : ∀ h : 0 < (⟨[a].toArray⟩ : ByteArray).size, (⟨[a].toArray⟩ : ByteArray)[0]'h = a := fun _ => rfl
theorem take_flat_succ (l : List (List UInt8)) (k : Nat) (hk : k < l.length) : (l.take (k + 1)).flatten = (l.take k).flatten ++ l[k] := by
  rw [List.take_succ_eq_append_getElem hk, List.flatten_append, List.flatten_singleton]
theorem flat_short {l : List (List UInt8)} (h : ∀ j (_ : j < l.length), l[j].length = 1) (k : Nat) : (l.take k).flatten.length ≤ k := by
  induction k with
  | zero => simp
  | succ k ih =>
    by_cases hk : k < l.length
    · rw [take_flat_succ l k hk, List.length_append, h k hk]
      omega
    · rw [List.take_of_length_le (by omega)] at ih ⊢
      omega

set_option linter.unusedSimpArgs false in
set_option maxRecDepth 100000 in
set_option maxHeartbeats 25600000 in
theorem rdecode_go (a b c : UInt8) (y r : List UInt8) (hy : y.length = 6) (h1 : a.toNat ≤ 1) (w : World) : Calls Try.prog 20 #[.string ⟨(a :: b :: c :: (y ++ r)).toArray⟩] w fun e w' => ∃ v', e = .returned (.tuple #[v', .int .i64 (refDec (a :: b :: c :: (y ++ r))).2]) ∧ FrmAt w' v' (refDec (a :: b :: c :: (y ++ r))).1 ∧ Below w.heap.size w w' := by
  have HD : Hid (refDec (a :: b :: c :: (y ++ r)) = if a.toNat = 1 then refFin (some (⟨(b.toNat : Int), (c.toNat : Int), numL y, true, 0, zeroMal, []⟩, r)) else refFin (refLoad (b.toNat : Int) (c.toNat : Int) (numL y) r)) := hid (by rw [refDec_head a b c y r hy, if_neg (by omega)])
  generalize refDec (a :: b :: c :: (y ++ r)) = D at *
  obtain ⟨hx0, hx1, hx2⟩ := ix3 a b c (y ++ r)
  have ey := text_y a b c y r hy
  have er := text_r a b c y r hy
  have h1i : ¬ (1 : Int) < (a.toNat : Int) := by omega
  have h1b : ((a.toNat : Int) == 1) = decide (a.toNat = 1) := by
    by_cases h : a.toNat = 1
    · simp [h]
    · have : ¬ (a.toNat : Int) = 1 := by omega
      simp [h, this]
  have hwi1 : IntKind.i64.wrap (b.toNat : Int) = (b.toNat : Int) := wrap_small (by omega) (by have := b.toNat_lt; omega)
  have hwi2 : IntKind.i64.wrap (c.toNat : Int) = (c.toNat : Int) := wrap_small (by omega) (by have := c.toNat_lt; omega)
  have hw1 : wrap64 (b.toNat : Int) = (b.toNat : Int) := by have := b.toNat_lt; unfold wrap64; omega
  have hw2 : wrap64 (c.toNat : Int) = (c.toNat : Int) := by have := c.toNat_lt; unfold wrap64; omega
  have b0 : (0 : Int) < 6 + (r.length : Int) + 1 + 1 + 1 := by omega
  have b1 : (1 : Int) < 6 + (r.length : Int) + 1 + 1 + 1 := by omega
  have b2 : (2 : Int) < 6 + (r.length : Int) + 1 + 1 + 1 := by omega
  have HY := hid hy
  have H1 := hid h1
  clear h1
  generalize hACK : decide (a.toNat = 1) = ack at *
  have HACK := hid hACK
  clear hACK
  go_enter Try.func20, Try.ntmps20
  go_upto_region 4 with fail
  have H2 := hid (two_new w)
  have HBL := hid (below_two w)
  have HSZ : Hid (((w.alloc (.cells zero11 29)).alloc (.cells zero11 29)).heap.size = w.heap.size + 2) := hid (by simp)
  generalize (w.alloc (.cells zero11 29)).alloc (.cells zero11 29) = w0 at *
  go_cut [5] (fun v5 w2 => ∃ F, v5 = .pointer (some ⟨F, 0, none⟩) ∧ DecBox w w2 F (.slice none 0 0) (.slice none 0 0) (.slice none 0 0) ⟨(b.toNat : Int), (c.toNat : Int), numL y, ack, 0, zeroMal, []⟩)
  case first =>
    as_aux_lemma =>
      refine wp_region_held_drew (S := (fun w' => True)) (by as_aux_lemma => kernel_rfl) trivial (fun hHeld => ?_)
      refine takeD 0 35 ?v1 rfl (by as_aux_lemma => kernel_rfl) (by as_aux_lemma => kernel_rfl) (by as_aux_lemma => kernel_rfl) (by as_aux_lemma => kernel_rfl) (fun _ _ _ h => h) (Or.inl ⟨by rfl, ?hy1⟩) (by assumption) ?rest1
      case hy1 => intro wz hSw; (try dsimp only at hSw); go_simp; try with_reducible rfl
      simp only [Act.put, List.setIfInBounds_toArray, List.set_cons_zero, List.set_cons_succ]
      refine takeD 1 36 ?v2 rfl (by as_aux_lemma => kernel_rfl) (by as_aux_lemma => kernel_rfl) (by as_aux_lemma => kernel_rfl) (by as_aux_lemma => kernel_rfl) (fun _ _ _ h => h) (Or.inl ⟨by rfl, ?hy2⟩) (by assumption) ?rest2
      case hy2 => intro wz hSw; (try dsimp only at hSw); go_simp; try with_reducible rfl
      simp only [Act.put, List.setIfInBounds_toArray, List.set_cons_zero, List.set_cons_succ]
      refine takeD 2 37 ?v3 rfl (by as_aux_lemma => kernel_rfl) (by as_aux_lemma => kernel_rfl) (by as_aux_lemma => kernel_rfl) (by as_aux_lemma => kernel_rfl) (fun _ _ _ h => h) (Or.inl ⟨by rfl, ?hy3⟩) (by assumption) ?rest3
      case hy3 => intro wz hSw; (try dsimp only at hSw); go_simp; try with_reducible rfl
      simp only [Act.put, List.setIfInBounds_toArray, List.set_cons_zero, List.set_cons_succ]
      refine takeD 3 38 ?v4 rfl (by as_aux_lemma => kernel_rfl) (by as_aux_lemma => kernel_rfl) (by as_aux_lemma => kernel_rfl) (by as_aux_lemma => kernel_rfl) (fun _ _ _ h => h) (Or.inl ⟨by rfl, ?hy4⟩) (by assumption) ?rest4
      case hy4 => intro wz hSw; (try dsimp only at hSw); go_simp; try with_reducible rfl
      simp only [Act.put, List.setIfInBounds_toArray, List.set_cons_zero, List.set_cons_succ]
      refine takeD 4 39 ?v5 rfl (by as_aux_lemma => kernel_rfl) (by as_aux_lemma => kernel_rfl) (by as_aux_lemma => kernel_rfl) (by as_aux_lemma => kernel_rfl) (fun _ _ _ h => h) (Or.inl ⟨by rfl, ?hy5⟩) (by assumption) ?rest5
      case hy5 => intro wz hSw; (try dsimp only at hSw); go_simp; try with_reducible rfl
      simp only [Act.put, List.setIfInBounds_toArray, List.set_cons_zero, List.set_cons_succ]
      refine takeD 5 40 ?v6 rfl (by as_aux_lemma => kernel_rfl) (by as_aux_lemma => kernel_rfl) (by as_aux_lemma => kernel_rfl) (by as_aux_lemma => kernel_rfl) (fun _ _ _ h => h) (Or.inl ⟨by rfl, ?hy6⟩) (by assumption) ?rest6
      case hy6 => intro wz hSw; (try dsimp only at hSw); go_simp; try with_reducible rfl
      simp only [Act.put, List.setIfInBounds_toArray, List.set_cons_zero, List.set_cons_succ]
      refine takeD 6 41 ?v7 rfl (by as_aux_lemma => kernel_rfl) (by as_aux_lemma => kernel_rfl) (by as_aux_lemma => kernel_rfl) (by as_aux_lemma => kernel_rfl) (fun _ _ _ h => h) (Or.inl ⟨by rfl, ?hy7⟩) (by assumption) ?rest7
      case hy7 => intro wz hSw; (try dsimp only at hSw); go_simp; try with_reducible rfl
      simp only [Act.put, List.setIfInBounds_toArray, List.set_cons_zero, List.set_cons_succ]
      refine takeD 7 42 ?v8 rfl (by as_aux_lemma => kernel_rfl) (by as_aux_lemma => kernel_rfl) (by as_aux_lemma => kernel_rfl) (by as_aux_lemma => kernel_rfl) (fun _ _ _ h => h) (Or.inl ⟨by rfl, ?hy8⟩) (by assumption) ?rest8
      case hy8 => intro wz hSw; (try dsimp only at hSw); go_simp; try with_reducible rfl
      simp only [Act.put, List.setIfInBounds_toArray, List.set_cons_zero, List.set_cons_succ]
      refine takeD 9 44 ?v9 rfl (by as_aux_lemma => kernel_rfl) (by as_aux_lemma => kernel_rfl) (by as_aux_lemma => kernel_rfl) (by as_aux_lemma => kernel_rfl) (fun _ _ _ h => h) (Or.inl ⟨by rfl, ?hy9⟩) (by assumption) ?rest9
      case hy9 => intro wz hSw; (try dsimp only at hSw); go_simp; try with_reducible rfl
      simp only [Act.put, List.setIfInBounds_toArray, List.set_cons_zero, List.set_cons_succ]
      refine takeD 10 45 ?v10 rfl (by as_aux_lemma => kernel_rfl) (by as_aux_lemma => kernel_rfl) (by as_aux_lemma => kernel_rfl) (by as_aux_lemma => kernel_rfl) (fun _ _ _ h => h) (Or.inl ⟨by rfl, ?hy10⟩) (by assumption) ?rest10
      case hy10 => intro wz hSw; (try dsimp only at hSw); go_simp; try with_reducible rfl
      simp only [Act.put, List.setIfInBounds_toArray, List.set_cons_zero, List.set_cons_succ]
      refine takeD 11 46 ?v11 rfl (by as_aux_lemma => kernel_rfl) (by as_aux_lemma => kernel_rfl) (by as_aux_lemma => kernel_rfl) (by as_aux_lemma => kernel_rfl) (fun _ _ _ h => h) (Or.inl ⟨by rfl, ?hy11⟩) (by assumption) ?rest11
      case hy11 => intro wz hSw; (try dsimp only at hSw); go_simp; try with_reducible rfl
      simp only [Act.put, List.setIfInBounds_toArray, List.set_cons_zero, List.set_cons_succ]
      refine wpAnyH_ready (rs := [8, 13]) (by as_aux_lemma => kernel_rfl) (by simp) ?_
      refine AllReadyH.cons rfl (fun K' hK => ?_) (AllReadyH.cons rfl (fun K' hK => ?_) AllReadyH.nil)
      · skip
        refine step_numOf (by rfl) (.tmp 42) #[9] (by rfl) y (by rfl) (by rw [HY.out]; decide) ?_
        intro cs fr
        refine hK.out _ _ trivial (fun hHeld2 => ?_)
        clear hK K' hHeld
        refine takeD 12 47 ?v12 rfl (by as_aux_lemma => kernel_rfl) (by as_aux_lemma => kernel_rfl) (by as_aux_lemma => kernel_rfl) (by as_aux_lemma => kernel_rfl) (fun _ _ _ h => h) (Or.inl ⟨by rfl, ?hy12⟩) (by assumption) ?rest12
        case hy12 => intro wz hSw; (try dsimp only at hSw); go_simp; try with_reducible rfl
        refine wpAnyH_ready (rs := [13]) (by as_aux_lemma => kernel_rfl) (by simp) ?_
        refine AllReadyH.cons rfl (fun K' hK => ?_) AllReadyH.nil
        go_simp
        refine hK.out _ _ trivial (fun hHeld3 => ?_)
        clear hK K' hHeld2
        refine wpAnyH_ready (rs := [14]) (by as_aux_lemma => kernel_rfl) (by simp) ?_
        refine AllReadyH.cons rfl (fun K' hK => ?_) AllReadyH.nil
        go_simp
        refine hK.out _ _ trivial (fun hHeld4 => ?_)
        refine wpAnyH_done (by as_aux_lemma => kernel_rfl) ?_ _
        go_wp2_with fail
        go_meet
        exact ⟨_, rfl, dec_new H2.out HBL.out HSZ.out (below_then (below_box w0 _) (below_box _ _)).drew.drew (by omega) (heap_alloc2_new w0 _ _)⟩
      · skip
        go_simp
        refine hK.out _ _ trivial (fun hHeld2 => ?_)
        clear hK K' hHeld
        refine wpAnyH_ready (rs := [8]) (by as_aux_lemma => kernel_rfl) (by simp) ?_
        refine AllReadyH.cons rfl (fun K' hK => ?_) AllReadyH.nil
        refine step_numOf (by rfl) (.tmp 42) #[9] (by rfl) y (by rfl) (by rw [HY.out]; decide) ?_
        intro cs fr
        refine hK.out _ _ trivial (fun hHeld3 => ?_)
        clear hK K' hHeld2
        refine takeD 12 47 ?v13 rfl (by as_aux_lemma => kernel_rfl) (by as_aux_lemma => kernel_rfl) (by as_aux_lemma => kernel_rfl) (by as_aux_lemma => kernel_rfl) (fun _ _ _ h => h) (Or.inl ⟨by rfl, ?hy13⟩) (by assumption) ?rest13
        case hy13 => intro wz hSw; (try dsimp only at hSw); go_simp; try with_reducible rfl
        refine wpAnyH_ready (rs := [14]) (by as_aux_lemma => kernel_rfl) (by simp) ?_
        refine AllReadyH.cons rfl (fun K' hK => ?_) AllReadyH.nil
        go_simp
        refine hK.out _ _ trivial (fun hHeld4 => ?_)
        refine wpAnyH_done (by as_aux_lemma => kernel_rfl) ?_ _
        go_wp2_with fail
        go_meet
        exact ⟨_, rfl, dec_new H2.out HBL.out HSZ.out (below_then (below_box w0 _) (below_box _ _)).drew.drew (Nat.le_refl _) (heap_alloc2_old w0 _ _)⟩
  case rest =>
    obtain ⟨F, rfl, hdb⟩ := hcut
    have HDB := hid hdb
    have hk3 := heap_cell hdb.box 3
    clear hdb H2 HBL HSZ hx0 hx1 hx2 ey hwi1 hwi2 hw1 hw2 b1 b2 h1b h1i
    go_upto_if 52 with fail
    go_cut [6] (fun v6 w3 => ∃ (f : Frm) (q : List UInt8) (vl vg vc : Value), v6 = .string ⟨q.toArray⟩ ∧ DecBox w w3 F vl vg vc f ∧ D = refFin (some (f, q)) ∧ f.mail.label.length ≤ 255 ∧ f.mail.grants.length ≤ 255 ∧ f.certs.length ≤ 255)
    case first =>
      cases ack with
      | true =>
        have ha : a.toNat = 1 := of_decide_eq_true HACK.out
        have HE : Hid (D = refFin (some (⟨(b.toNat : Int), (c.toNat : Int), numL y, true, 0, zeroMal, []⟩, r))) := hid (by rw [HD.out, if_pos ha])
        clear ha
        go_wp2_with fail
        go_meet
        exact ⟨_, r, _, _, _, rfl, HDB.out, HE.out, Nat.zero_le _, Nat.zero_le _, Nat.zero_le _⟩
      | false =>
        have ha : ¬ a.toNat = 1 := of_decide_eq_false HACK.out
        have HE : Hid (D = refFin (refLoad (b.toNat : Int) (c.toNat : Int) (numL y) r)) := hid (by rw [HD.out, if_neg ha])
        clear ha HD HACK H1
        clear er b0 HY hy
        rcases r with _ | ⟨d, r⟩
        · have HE2 : Hid (D = (zeroFrm, 1)) := hid (by rw [HE.out]; rfl)
          clear HE
          obtain ⟨n0, n1, n2, n3, n4, n5, n6, n7, n8, n9, n10⟩ := cells11 HDB.out.two.2
          obtain ⟨r0, r1, r2, r3, r4, r5, r6, r7, r8, r9, r10⟩ := cells11 HDB.out.two.1
          obtain ⟨f0, f1, f2, f3, f4, f5, f6, f7, f8, f9, f10⟩ := froz11 HDB.out.two.1
          go_wp2
          obtain ⟨hW, hS⟩ := zero_ret HDB.out
          refine bodyPost_ret (results_ct rfl _ _ w.heap.size _ rfl (load_frame rfl hW)) rfl ⟨.agg zero11, ?_, ?_, hS⟩
          · rw [HE2.out]; rfl
          · rw [HE2.out]; exact zero_frm _
        rcases r with _ | ⟨e, r⟩
        · have HE2 : Hid (D = (zeroFrm, 1)) := hid (by rw [HE.out]; rfl)
          clear HE
          obtain ⟨n0, n1, n2, n3, n4, n5, n6, n7, n8, n9, n10⟩ := cells11 HDB.out.two.2
          obtain ⟨r0, r1, r2, r3, r4, r5, r6, r7, r8, r9, r10⟩ := cells11 HDB.out.two.1
          obtain ⟨f0, f1, f2, f3, f4, f5, f6, f7, f8, f9, f10⟩ := froz11 HDB.out.two.1
          go_wp2
          obtain ⟨hW, hS⟩ := zero_ret HDB.out
          refine bodyPost_ret (results_ct rfl _ _ w.heap.size _ rfl (load_frame rfl hW)) rfl ⟨.agg zero11, ?_, ?_, hS⟩
          · rw [HE2.out]; rfl
          · rw [HE2.out]; exact zero_frm _
        obtain ⟨hi0, hi1⟩ := ixh d e r
        have et := tail2 d e r
        have wd := wrapb d
        have we := wrapb e
        have wd6 := wrapb64 d
        have we6 := wrapb64 e
        have k0 := heap_cell HDB.out.box 0
        have k4 := heap_cell HDB.out.box 4
        have k5 := heap_cell HDB.out.box 5
        have k6 := heap_cell HDB.out.box 6
        have z4 := heap_frozen HDB.out.box 4
        have z5 := heap_frozen HDB.out.box 5
        have z6 := heap_frozen HDB.out.box 6
        have b3 : (1 : Int) < (r.length : Int) + 1 + 1 := by omega
        have b4 : (0 : Int) < (r.length : Int) + 1 + 1 := by omega
        have b5 : ¬ ((r.length : Int) + 1 + 1 < 2) := by omega
        go_upto_region 9 with fail
        go_cut [] (fun w4 => DecBox w w4 F (.slice none 0 0) (.slice none 0 0) (.slice none 0 0) ⟨(b.toNat : Int), (c.toNat : Int), numL y, false, (d.toNat : Int), ⟨(b.toNat : Int), (e.toNat : Int), [], [], []⟩, []⟩)
        case first =>
          go_region
          all_goals
            go_wp2_with fail
            go_meet
            exact (HDB.out.head (d.toNat : Int) (b.toNat : Int) (e.toNat : Int)).later (Below.refl _ _).drew
        case rest =>
          have HDB4 := hid hcut
          clear hcut HDB k0 k4 k5 k6 z4 z5 z6 wd we wd6 we6 hi0 hi1 hk3 b4
          cases hr2 : rowsP 2 r with
          | none =>
            have HE2 : Hid (D = (zeroFrm, 1)) := hid (by rw [HE.out]; simp only [refLoad, hr2]; rfl)
            have HR := hid (rrows_none wc (by decide) hr2)
            clear hr2 HE
            go_wp2_with (go_at_call 46; refine HR.out.mono ?_; rintro e0 w5 ⟨rfl, hw5⟩; have HDB5 := hid (HDB4.out.later hw5); obtain ⟨n0, n1, n2, n3, n4, n5, n6, n7, n8, n9, n10⟩ := cells11 HDB5.out.two.2; obtain ⟨r0, r1, r2, r3, r4, r5, r6, r7, r8, r9, r10⟩ := cells11 HDB5.out.two.1; obtain ⟨f0, f1, f2, f3, f4, f5, f6, f7, f8, f9, f10⟩ := froz11 HDB5.out.two.1; clear hw5)
            obtain ⟨hW, hS⟩ := zero_ret HDB5.out
            refine bodyPost_ret (results_ct rfl _ _ w.heap.size _ rfl (load_frame rfl hW)) rfl ⟨.agg zero11, ?_, ?_, hS⟩
            · rw [HE2.out]; rfl
            · rw [HE2.out]; exact zero_frm _
          | some lq =>
            obtain ⟨ls, q2⟩ := lq
            obtain ⟨⟨hls2, hlen2⟩, hrr⟩ := rrows_row wc (by decide) hr2
            have HR := hid hrr
            have HLEN2 := hid hlen2
            have HR2 := hid hr2
            clear hr2 hrr hlen2
            go_wp2_with (go_at_call 46; refine HR.out.mono ?_; rintro e0 w5 ⟨p7, cp7, rfl, hst, hw5⟩; have HDB5 := hid (HDB4.out.later hw5); have HST := hid hst; clear hw5 hst HR)
            go_loopw [82] (fun i wr => ∃ (k : Nat) (vl : Value), k ≤ ls.length ∧ i = .int .i64 k ∧ DecBox w wr F vl (.slice none 0 0) (.slice none 0 0) ⟨(b.toNat : Int), (c.toNat : Int), numL y, false, (d.toNat : Int), ⟨(b.toNat : Int), (e.toNat : Int), ((ls.take k).map levOf), [], []⟩, []⟩ ∧ wr.ownsRow wc.heap.size 9 1 (.slice p7 ls.length cp7) ls.length (strsV ls)) (fun i _ => ls.length - (intOf i).toNat)
            case atStart => exact ⟨0, (.slice none 0 0), Nat.zero_le _, rfl, by simpa using HDB5.out, HST.out⟩
            case round =>
              clear HDB5 HST
              obtain ⟨wk2, hwk2⟩ : ∃ wk2, wk2 = wr := ⟨_, rfl⟩
              subst hwk2
              obtain ⟨k, vl, hk, rfl, hdb, hst⟩ := hrel
              have HDK := hid hdb
              have HTS := hid hst
              by_cases hlt : k < ls.length
              · have hI : (k : Int) < (ls.length : Int) := by omega
                obtain ⟨gblk, hps, hcs⟩ := strs_get hst k hlt
                subst hps
                obtain ⟨x0, x1, hx⟩ := list2 (HLEN2.out k hlt)
                rw [hx] at hcs
                have hTK := take_map_succ levOf ls k hlt
                rw [hx] at hTK
                have HTK := hid hTK
                clear hTK hx hst
                obtain ⟨lk, hlk⟩ : ∃ lk, lk = (ls.take k).map levOf := ⟨_, rfl⟩
                have hlkl : lk.length ≤ k := by rw [hlk, List.length_map, List.length_take]; omega
                rw [← hlk] at hdb HDK HTK
                have HLK := hid hlkl
                clear hlk hlkl
                obtain ⟨hx0, hx1⟩ := ix2 x0 x1
                have wa := wrapb x0
                have wb := wrapb x1
                have wa6 := wrapb64 x0
                have wb6 := wrapb64 x1
                obtain ⟨pv, cv, hvl, _⟩ := owns_cells hdb.lab
                subst hvl
                have k7 := heap_cell hdb.box 7
                have hFl := heap_lt HDK.out.box
                have hFn1 : F ≠ wk2.heap.size := by omega
                have hFn2 : wk2.heap.size ≠ F := by omega
                have kA : ∀ o, (wk2.alloc o).cell? ⟨F, 7, none⟩ = some _ := fun o => heap_cell (heap_new HDK.out.box o) 7
                clear hdb
                go_upto_region 16 with fail
                go_region_law ((first | (refine step_level (by rfl) (.tmp 88) (.tmp 96) (by rfl) w.heap.size _ lk.length (flat2 lk) (by rfl) (own_laterD HDK.out.lab (below_box wk2 _).drew) wk2.heap.size (x0.toNat : Int) (x1.toNat : Int) (by rfl) (laid2 wk2 _ _ _ ) (by have := HLK.out; omega) (Nat.le_trans HDK.out.below.size (below_box wk2 _).size) ?_; intro v9 w9 hown9 hg9; obtain ⟨p9, c9, hv9, _⟩ := owns_cells hown9; subst hv9; have HB9 := hid (heap_own (HDK.out.later (below_box wk2 _).drew).box (HDK.out.later (below_box wk2 _).drew).lab (by decide) hg9); have u7 := heap_cell HB9.out 7; have uf7 := heap_frozen HB9.out 7; have HOW9 := hid hown9; have HG9 := hid hg9; clear hown9 hg9) | fail))
                all_goals
                  go_wp2_with fail
                  go_roundw
                  case rel => exact ⟨k + 1, .slice p9 (lk.length + 1) c9, hlt, by go_num, by rw [HTK.out]; exact (HDK.out.later (below_box wk2 _).drew).addL HOW9.out HG9.out, own_store (own_own (own_laterD HTS.out (below_box wk2 _).drew) (own_laterD HDK.out.lab (below_box wk2 _).drew) (by decide) HG9.out) HB9.out (by decide) 7 _⟩
                  case measure => simp [intOf]; omega
              · have hI : ¬ (k : Int) < (ls.length : Int) := by omega
                have hkl : k = ls.length := by omega
                subst hkl
                rw [List.take_length] at hdb
                have HDB6 := hid hdb
                clear hdb hst HDK HTS hI
                cases hr3 : rowsP 1 q2 with
                | none =>
                  have HE2 : Hid (D = (zeroFrm, 1)) := hid (by rw [HE.out]; simp only [refLoad, HR2.out, hr3]; rfl)
                  have HR := hid (rrows_none wk2 (by decide) hr3)
                  clear hr3 HE
                  go_wp2_with (go_at_call 46; refine HR.out.mono ?_; rintro e0 w5 ⟨rfl, hw5⟩; have HDB5 := hid (HDB6.out.later hw5); obtain ⟨n0, n1, n2, n3, n4, n5, n6, n7, n8, n9, n10⟩ := cells11 HDB5.out.two.2; obtain ⟨r0, r1, r2, r3, r4, r5, r6, r7, r8, r9, r10⟩ := cells11 HDB5.out.two.1; obtain ⟨f0, f1, f2, f3, f4, f5, f6, f7, f8, f9, f10⟩ := froz11 HDB5.out.two.1; clear hw5)
                  obtain ⟨hW, hS⟩ := zero_ret HDB5.out
                  refine bodyPost_ret (results_ct rfl _ _ w.heap.size _ rfl (load_frame rfl hW)) rfl ⟨.agg zero11, ?_, ?_, hS⟩
                  · rw [HE2.out]; rfl
                  · rw [HE2.out]; exact zero_frm _
                | some lq =>
                  obtain ⟨gs, q3⟩ := lq
                  obtain ⟨⟨hls3, hlen3⟩, hrr⟩ := rrows_row wk2 (by decide) hr3
                  have HR := hid hrr
                  have HLEN3 := hid hlen3
                  have HR3 := hid hr3
                  clear hr3 hrr hlen3
                  go_wp2_with (go_at_call 46; refine HR.out.mono ?_; rintro e0 w5 ⟨p12, cp12, rfl, hst, hw5⟩; have HDB5 := hid (HDB6.out.later hw5); have HST := hid hst; clear hw5 hst HR)
                  go_loopw [112] (fun i wr => ∃ (k : Nat) (vg : Value), k ≤ gs.length ∧ i = .int .i64 k ∧ DecBox w wr F vl vg (.slice none 0 0) ⟨(b.toNat : Int), (c.toNat : Int), numL y, false, (d.toNat : Int), ⟨(b.toNat : Int), (e.toNat : Int), (ls.map levOf), ((gs.take k).map (byteAt · 0)), []⟩, []⟩ ∧ wr.ownsRow wk2.heap.size 9 1 (.slice p12 gs.length cp12) gs.length (strsV gs)) (fun i _ => gs.length - (intOf i).toNat)
                  case atStart => exact ⟨0, (.slice none 0 0), Nat.zero_le _, rfl, by simpa using HDB5.out, HST.out⟩
                  case round =>
                    clear HDB5 HST
                    obtain ⟨wk3, hwk3⟩ : ∃ wk3, wk3 = wr := ⟨_, rfl⟩
                    subst hwk3
                    obtain ⟨k, vg, hk, rfl, hdb, hst⟩ := hrel
                    have HDK := hid hdb
                    have HTS := hid hst
                    by_cases hlt : k < gs.length
                    · have hI : (k : Int) < (gs.length : Int) := by omega
                      obtain ⟨gblk, hps, hcs⟩ := strs_get hst k hlt
                      subst hps
                      obtain ⟨x0, hx⟩ := list1 (HLEN3.out k hlt)
                      rw [hx] at hcs
                      have hTK := take_map_succ (byteAt · 0) gs k hlt
                      rw [hx] at hTK
                      have HTK := hid hTK
                      clear hTK hx hst
                      obtain ⟨lk, hlk⟩ : ∃ lk, lk = (gs.take k).map (byteAt · 0) := ⟨_, rfl⟩
                      have hlkl : lk.length ≤ k := by rw [hlk, List.length_map, List.length_take]; omega
                      rw [← hlk] at hdb HDK HTK
                      have HLK := hid hlkl
                      clear hlk hlkl
                      have hx0 := ix1 x0
                      have wa := wrapb x0
                      have wa6 := wrapb64 x0
                      obtain ⟨pv, cv, hvl, _⟩ := owns_cells hdb.gra
                      subst hvl
                      have k8 := heap_cell hdb.box 8
                      have hFl := heap_lt HDK.out.box
                      have hFn1 : F ≠ wk3.heap.size := by omega
                      have hFn2 : wk3.heap.size ≠ F := by omega
                      have kA : ∀ o, (wk3.alloc o).cell? ⟨F, 8, none⟩ = some _ := fun o => heap_cell (heap_new HDK.out.box o) 8
                      clear hdb
                      go_upto_region 24 with fail
                      go_region_law ((first | (refine step_num (by rfl) (.tmp 118) (.tmp 122) (by rfl) w.heap.size _ lk.length (flat1 lk) (by rfl) (own_laterD HDK.out.gra (below_box wk3 _).drew) wk3.heap.size (x0.toNat : Int) (by rfl) (laid1 wk3 _ _ ) (by have := HLK.out; omega) (Nat.le_trans HDK.out.below.size (below_box wk3 _).size) ?_; intro v9 w9 hown9 hg9; obtain ⟨p9, c9, hv9, _⟩ := owns_cells hown9; subst hv9; have HB9 := hid (heap_own (HDK.out.later (below_box wk3 _).drew).box (HDK.out.later (below_box wk3 _).drew).gra (by decide) hg9); have u8 := heap_cell HB9.out 8; have uf8 := heap_frozen HB9.out 8; have HOW9 := hid hown9; have HG9 := hid hg9; clear hown9 hg9) | fail))
                      all_goals
                        go_wp2_with fail
                        go_roundw
                        case rel => exact ⟨k + 1, .slice p9 (lk.length + 1) c9, hlt, by go_num, by rw [HTK.out]; exact (HDK.out.later (below_box wk3 _).drew).addG HOW9.out HG9.out, own_store (own_own (own_laterD HTS.out (below_box wk3 _).drew) (own_laterD HDK.out.gra (below_box wk3 _).drew) (by decide) HG9.out) HB9.out (by decide) 8 _⟩
                        case measure => simp [intOf]; omega
                    · have hI : ¬ (k : Int) < (gs.length : Int) := by omega
                      have hkl : k = gs.length := by omega
                      subst hkl
                      rw [List.take_length] at hdb
                      have HDB7 := hid hdb
                      clear hdb hst HDK HTS hI
                      cases hr4 : rowsP 1 q3 with
                      | none =>
                        have HE2 : Hid (D = (zeroFrm, 1)) := hid (by rw [HE.out]; simp only [refLoad, HR2.out, HR3.out, hr4]; rfl)
                        have HR := hid (rrows_none wk3 (by decide) hr4)
                        clear hr4 HE
                        go_wp2_with (go_at_call 46; refine HR.out.mono ?_; rintro e0 w5 ⟨rfl, hw5⟩; have HDB5 := hid (HDB7.out.later hw5); obtain ⟨n0, n1, n2, n3, n4, n5, n6, n7, n8, n9, n10⟩ := cells11 HDB5.out.two.2; obtain ⟨r0, r1, r2, r3, r4, r5, r6, r7, r8, r9, r10⟩ := cells11 HDB5.out.two.1; obtain ⟨f0, f1, f2, f3, f4, f5, f6, f7, f8, f9, f10⟩ := froz11 HDB5.out.two.1; clear hw5)
                        obtain ⟨hW, hS⟩ := zero_ret HDB5.out
                        refine bodyPost_ret (results_ct rfl _ _ w.heap.size _ rfl (load_frame rfl hW)) rfl ⟨.agg zero11, ?_, ?_, hS⟩
                        · rw [HE2.out]; rfl
                        · rw [HE2.out]; exact zero_frm _
                      | some lq =>
                        obtain ⟨ts, q4⟩ := lq
                        obtain ⟨⟨hls4, hlen4⟩, hrr⟩ := rrows_row wk3 (by decide) hr4
                        have HR := hid hrr
                        have HLEN4 := hid hlen4
                        have HR4 := hid hr4
                        clear hr4 hrr hlen4
                        go_wp2_with (go_at_call 46; refine HR.out.mono ?_; rintro e0 w5 ⟨p16, cp16, rfl, hst, hw5⟩; have HDB5 := hid (HDB7.out.later hw5); have HST := hid hst; clear hw5 hst HR)
                        go_loopw [138] (fun i wr => ∃ (k : Nat) (_u : Value), k ≤ ts.length ∧ i = .int .i64 k ∧ DecBox w wr F vl vg (.slice none 0 0) ⟨(b.toNat : Int), (c.toNat : Int), numL y, false, (d.toNat : Int), ⟨(b.toNat : Int), (e.toNat : Int), (ls.map levOf), (gs.map (byteAt · 0)), ((ts.take k).flatten)⟩, []⟩ ∧ wr.ownsRow wk3.heap.size 9 1 (.slice p16 ts.length cp16) ts.length (strsV ts)) (fun i _ => ts.length - (intOf i).toNat)
                        case atStart => exact ⟨0, (.slice none 0 0), Nat.zero_le _, rfl, by simpa using HDB5.out, HST.out⟩
                        case round =>
                          clear HDB5 HST
                          obtain ⟨wk4, hwk4⟩ : ∃ wk4, wk4 = wr := ⟨_, rfl⟩
                          subst hwk4
                          obtain ⟨k, _u, hk, rfl, hdb, hst⟩ := hrel
                          have HDK := hid hdb
                          have HTS := hid hst
                          by_cases hlt : k < ts.length
                          · have hI : (k : Int) < (ts.length : Int) := by omega
                            obtain ⟨gs3, hps, hcs⟩ := strs_get hst k hlt
                            subst hps
                            obtain ⟨x0, hx⟩ := list1 (HLEN4.out k hlt)
                            rw [hx] at hcs
                            have hTK := take_flat_succ ts k hlt
                            rw [hx] at hTK
                            have HTK := hid hTK
                            clear hTK hx hst
                            obtain ⟨lk, hlk⟩ : ∃ lk, lk = (ts.take k).flatten := ⟨_, rfl⟩
                            have hlkl : lk.length ≤ k := by rw [hlk]; exact flat_short HLEN4.out k
                            rw [← hlk] at hdb HDK HTK
                            clear hlk
                            have k9 := heap_cell hdb.box 9
                            have z9 := heap_frozen hdb.box 9
                            clear hdb
                            go_wp2_with fail
                            go_roundw
                            case rel => exact ⟨k + 1, (.slice none 0 0), hlt, by go_num, by rw [str_snoc, HTK.out]; exact HDK.out.text (lk ++ [x0]), own_store HTS.out HDK.out.box (by decide) 9 _⟩
                            case measure => simp [intOf]; omega
                          · have hI : ¬ (k : Int) < (ts.length : Int) := by omega
                            have hkl : k = ts.length := by omega
                            subst hkl
                            rw [List.take_length] at hdb
                            have HDB8 := hid hdb
                            clear hdb hst HDK HTS hI
                            cases hr5 : rowsP 9 q4 with
                            | none =>
                              have HE2 : Hid (D = (zeroFrm, 1)) := hid (by rw [HE.out]; simp only [refLoad, HR2.out, HR3.out, HR4.out, hr5]; rfl)
                              have HR := hid (rrows_none wk4 (by decide) hr5)
                              clear hr5 HE
                              go_wp2_with (go_at_call 46; refine HR.out.mono ?_; rintro e0 w5 ⟨rfl, hw5⟩; have HDB5 := hid (HDB8.out.later hw5); obtain ⟨n0, n1, n2, n3, n4, n5, n6, n7, n8, n9, n10⟩ := cells11 HDB5.out.two.2; obtain ⟨r0, r1, r2, r3, r4, r5, r6, r7, r8, r9, r10⟩ := cells11 HDB5.out.two.1; obtain ⟨f0, f1, f2, f3, f4, f5, f6, f7, f8, f9, f10⟩ := froz11 HDB5.out.two.1; clear hw5)
                              obtain ⟨hW, hS⟩ := zero_ret HDB5.out
                              refine bodyPost_ret (results_ct rfl _ _ w.heap.size _ rfl (load_frame rfl hW)) rfl ⟨.agg zero11, ?_, ?_, hS⟩
                              · rw [HE2.out]; rfl
                              · rw [HE2.out]; exact zero_frm _
                            | some lq =>
                              obtain ⟨cs, q5⟩ := lq
                              obtain ⟨⟨hls5, hlen5⟩, hrr⟩ := rrows_row wk4 (by decide) hr5
                              have HR := hid hrr
                              have HLEN5 := hid hlen5
                              have HR5 := hid hr5
                              clear hr5 hrr hlen5
                              go_wp2_with (go_at_call 46; refine HR.out.mono ?_; rintro e0 w5 ⟨p20, cp20, rfl, hst, hw5⟩; have HDB5 := hid (HDB8.out.later hw5); have HST := hid hst; clear hw5 hst HR)
                              go_loopw [161] (fun i wr => ∃ (k : Nat) (vc : Value), k ≤ cs.length ∧ i = .int .i64 k ∧ DecBox w wr F vl vg vc ⟨(b.toNat : Int), (c.toNat : Int), numL y, false, (d.toNat : Int), ⟨(b.toNat : Int), (e.toNat : Int), (ls.map levOf), (gs.map (byteAt · 0)), ts.flatten⟩, ((cs.take k).map crtOf)⟩ ∧ wr.ownsRow wk4.heap.size 9 1 (.slice p20 cs.length cp20) cs.length (strsV cs)) (fun i _ => cs.length - (intOf i).toNat)
                              case atStart => exact ⟨0, (.slice none 0 0), Nat.zero_le _, rfl, by simpa using HDB5.out, HST.out⟩
                              case round =>
                                clear HDB5 HST
                                obtain ⟨wk5, hwk5⟩ : ∃ wk5, wk5 = wr := ⟨_, rfl⟩
                                subst hwk5
                                obtain ⟨k, vc, hk, rfl, hdb, hst⟩ := hrel
                                have HDK := hid hdb
                                have HTS := hid hst
                                by_cases hlt : k < cs.length
                                · have hI : (k : Int) < (cs.length : Int) := by omega
                                  obtain ⟨gblk, hps, hcs⟩ := strs_get hst k hlt
                                  subst hps
                                  obtain ⟨x0, x1, x2, ys, hx, hys⟩ := list9 (HLEN5.out k hlt)
                                  rw [hx] at hcs
                                  have hTK := take_map_succ crtOf cs k hlt
                                  rw [hx] at hTK
                                  have HTK := hid hTK
                                  clear hTK hx hst
                                  obtain ⟨lk, hlk⟩ : ∃ lk, lk = (cs.take k).map crtOf := ⟨_, rfl⟩
                                  have hlkl : lk.length ≤ k := by rw [hlk, List.length_map, List.length_take]; omega
                                  rw [← hlk] at hdb HDK HTK
                                  have HLK := hid hlkl
                                  have HYS := hid hys
                                  have hyi : (ys.length : Int) = 6 := by omega
                                  clear hlk hlkl
                                  obtain ⟨hx0, hx1, hx2⟩ := ix3 x0 x1 x2 ys
                                  have et := tail3 x0 x1 x2 ys
                                  have wa := wrapb x0
                                  have wb := wrapb x1
                                  have wb2 := wrapb x2
                                  have wa6 := wrapb64 x0
                                  have wb6 := wrapb64 x1
                                  have wc6 := wrapb64 x2
                                  obtain ⟨pv, cv, hvl, _⟩ := owns_cells hdb.crt
                                  subst hvl
                                  have i0 : (0 : Int) < (ys.length : Int) + 1 + 1 + 1 := by omega
                                  have i1 : (1 : Int) < (ys.length : Int) + 1 + 1 + 1 := by omega
                                  have i2 : (2 : Int) < (ys.length : Int) + 1 + 1 + 1 := by omega
                                  have i3 : (3 : Int) ≤ (ys.length : Int) + 1 + 1 + 1 := by omega
                                  have k10 := heap_cell hdb.box 10
                                  have hFl := heap_lt HDK.out.box
                                  clear hdb hys
                                  go_upto_region 40 with fail
                                  refine wp_region_held_drew (S := (fun w' => True)) (by as_aux_lemma => kernel_rfl) trivial (fun _hHeld => ?_)
                                  refine takeD 0 165 ?v14 rfl (by as_aux_lemma => kernel_rfl) (by as_aux_lemma => kernel_rfl) (by as_aux_lemma => kernel_rfl) (by as_aux_lemma => kernel_rfl) (fun _ _ _ h => h) (Or.inl ⟨by rfl, ?hy14⟩) (by assumption) ?rest14
                                  case hy14 => intro wz hSw; (try dsimp only at hSw); go_simp; try with_reducible rfl
                                  simp only [Act.put, List.setIfInBounds_toArray, List.set_cons_zero, List.set_cons_succ]
                                  refine takeD 2 167 ?v15 rfl (by as_aux_lemma => kernel_rfl) (by as_aux_lemma => kernel_rfl) (by as_aux_lemma => kernel_rfl) (by as_aux_lemma => kernel_rfl) (fun _ _ _ h => h) (Or.inl ⟨by rfl, ?hy15⟩) (by assumption) ?rest15
                                  case hy15 => intro wz hSw; (try dsimp only at hSw); go_simp; try with_reducible rfl
                                  simp only [Act.put, List.setIfInBounds_toArray, List.set_cons_zero, List.set_cons_succ]
                                  refine takeD 3 168 ?v16 rfl (by as_aux_lemma => kernel_rfl) (by as_aux_lemma => kernel_rfl) (by as_aux_lemma => kernel_rfl) (by as_aux_lemma => kernel_rfl) (fun _ _ _ h => h) (Or.inl ⟨by rfl, ?hy16⟩) (by assumption) ?rest16
                                  case hy16 => intro wz hSw; (try dsimp only at hSw); go_simp; try with_reducible rfl
                                  simp only [Act.put, List.setIfInBounds_toArray, List.set_cons_zero, List.set_cons_succ]
                                  refine takeD 4 169 ?v17 rfl (by as_aux_lemma => kernel_rfl) (by as_aux_lemma => kernel_rfl) (by as_aux_lemma => kernel_rfl) (by as_aux_lemma => kernel_rfl) (fun _ _ _ h => h) (Or.inl ⟨by rfl, ?hy17⟩) (by assumption) ?rest17
                                  case hy17 => intro wz hSw; (try dsimp only at hSw); go_simp; try with_reducible rfl
                                  simp only [Act.put, List.setIfInBounds_toArray, List.set_cons_zero, List.set_cons_succ]
                                  refine takeD 5 170 ?v18 rfl (by as_aux_lemma => kernel_rfl) (by as_aux_lemma => kernel_rfl) (by as_aux_lemma => kernel_rfl) (by as_aux_lemma => kernel_rfl) (fun _ _ _ h => h) (Or.inl ⟨by rfl, ?hy18⟩) (by assumption) ?rest18
                                  case hy18 => intro wz hSw; (try dsimp only at hSw); go_simp; try with_reducible rfl
                                  simp only [Act.put, List.setIfInBounds_toArray, List.set_cons_zero, List.set_cons_succ]
                                  refine takeD 6 171 ?v19 rfl (by as_aux_lemma => kernel_rfl) (by as_aux_lemma => kernel_rfl) (by as_aux_lemma => kernel_rfl) (by as_aux_lemma => kernel_rfl) (fun _ _ _ h => h) (Or.inl ⟨by rfl, ?hy19⟩) (by assumption) ?rest19
                                  case hy19 => intro wz hSw; (try dsimp only at hSw); go_simp; try with_reducible rfl
                                  simp only [Act.put, List.setIfInBounds_toArray, List.set_cons_zero, List.set_cons_succ]
                                  refine takeD 7 172 ?v20 rfl (by as_aux_lemma => kernel_rfl) (by as_aux_lemma => kernel_rfl) (by as_aux_lemma => kernel_rfl) (by as_aux_lemma => kernel_rfl) (fun _ _ _ h => h) (Or.inl ⟨by rfl, ?hy20⟩) (by assumption) ?rest20
                                  case hy20 => intro wz hSw; (try dsimp only at hSw); go_simp; try with_reducible rfl
                                  simp only [Act.put, List.setIfInBounds_toArray, List.set_cons_zero, List.set_cons_succ]
                                  refine takeD 8 173 ?v21 rfl (by as_aux_lemma => kernel_rfl) (by as_aux_lemma => kernel_rfl) (by as_aux_lemma => kernel_rfl) (by as_aux_lemma => kernel_rfl) (fun _ _ _ h => h) (Or.inl ⟨by rfl, ?hy21⟩) (by assumption) ?rest21
                                  case hy21 => intro wz hSw; (try dsimp only at hSw); go_simp; try with_reducible rfl
                                  simp only [Act.put, List.setIfInBounds_toArray, List.set_cons_zero, List.set_cons_succ]
                                  refine takeD 9 174 ?v22 rfl (by as_aux_lemma => kernel_rfl) (by as_aux_lemma => kernel_rfl) (by as_aux_lemma => kernel_rfl) (by as_aux_lemma => kernel_rfl) (fun _ _ _ h => h) (Or.inl ⟨by rfl, ?hy22⟩) (by assumption) ?rest22
                                  case hy22 => intro wz hSw; (try dsimp only at hSw); go_simp; try with_reducible rfl
                                  simp only [Act.put, List.setIfInBounds_toArray, List.set_cons_zero, List.set_cons_succ]
                                  refine takeD 10 175 ?v23 rfl (by as_aux_lemma => kernel_rfl) (by as_aux_lemma => kernel_rfl) (by as_aux_lemma => kernel_rfl) (by as_aux_lemma => kernel_rfl) (fun _ _ _ h => h) (Or.inl ⟨by rfl, ?hy23⟩) (by assumption) ?rest23
                                  case hy23 => intro wz hSw; (try dsimp only at hSw); go_simp; try with_reducible rfl
                                  simp only [Act.put, List.setIfInBounds_toArray, List.set_cons_zero, List.set_cons_succ]
                                  refine takeD 11 176 ?v24 rfl (by as_aux_lemma => kernel_rfl) (by as_aux_lemma => kernel_rfl) (by as_aux_lemma => kernel_rfl) (by as_aux_lemma => kernel_rfl) (fun _ _ _ h => h) (Or.inl ⟨by rfl, ?hy24⟩) (by assumption) ?rest24
                                  case hy24 => intro wz hSw; (try dsimp only at hSw); go_simp; try with_reducible rfl
                                  simp only [Act.put, List.setIfInBounds_toArray, List.set_cons_zero, List.set_cons_succ]
                                  refine takeD 12 177 ?v25 rfl (by as_aux_lemma => kernel_rfl) (by as_aux_lemma => kernel_rfl) (by as_aux_lemma => kernel_rfl) (by as_aux_lemma => kernel_rfl) (fun _ _ _ h => h) (Or.inl ⟨by rfl, ?hy25⟩) (by assumption) ?rest25
                                  case hy25 => intro wz hSw; (try dsimp only at hSw); go_simp; try with_reducible rfl
                                  simp only [Act.put, List.setIfInBounds_toArray, List.set_cons_zero, List.set_cons_succ]
                                  refine wpAnyH_ready (rs := [1, 13]) (by as_aux_lemma => kernel_rfl) (by simp) ?_
                                  refine (AllReadyH.cons rfl (fun K' hK => ?_) (AllReadyH.cons rfl (fun K' hK => ?_) AllReadyH.nil))
                                  · go_simp
                                    refine hK.out _ _ trivial (fun _ => ?_)
                                    clear hK K'
                                    refine wpAnyH_ready (rs := [13]) (by as_aux_lemma => kernel_rfl) (by simp) ?_
                                    refine (AllReadyH.cons rfl (fun K' hK => ?_) AllReadyH.nil)
                                    refine step_numOfB (by rfl) (.tmp 177) #[9] (by rfl) ys (by rfl) (by rw [HYS.out]; decide) ?_; intro wN hwNd; have hwN : Below wk5.heap.size wk5 wN := ⟨hwNd.os, hwNd.tape, hwNd.output, hwNd.size, hwNd.block⟩; have kN := (hwN.cell (cell_block k10)).trans k10; have kNA : ∀ o, (wN.alloc o).cell? ⟨F, 10, none⟩ = some _ := (fun o => heap_cell (heap_new (HDK.out.later hwN).box o) 10); have hFn1 : F ≠ wN.heap.size := (by have := hwN.size; omega); have hFn2 : wN.heap.size ≠ F := (by have := hwN.size; omega); clear hwNd
                                    refine hK.out _ _ trivial (fun _ => ?_)
                                    clear hK K'
                                    refine takeD 14 179 ?v26 rfl (by as_aux_lemma => kernel_rfl) (by as_aux_lemma => kernel_rfl) (by as_aux_lemma => kernel_rfl) (by as_aux_lemma => kernel_rfl) (fun _ _ _ h => h) (Or.inl ⟨by rfl, ?hy26⟩) (by assumption) ?rest26
                                    case hy26 => intro wz hSw; (try dsimp only at hSw); go_simp; try with_reducible rfl
                                    refine wpAnyH_ready (rs := [15]) (by as_aux_lemma => kernel_rfl) (by simp) ?_
                                    refine (AllReadyH.cons rfl (fun K' hK => ?_) AllReadyH.nil)
                                    go_simp
                                    refine hK.out _ _ trivial (fun _ => ?_)
                                    clear hK K'
                                    refine wpAnyH_ready (rs := [16]) (by as_aux_lemma => kernel_rfl) (by simp) ?_
                                    refine (AllReadyH.cons rfl (fun K' hK => ?_) AllReadyH.nil)
                                    refine step_cert (by rfl) (.tmp 166) (.tmp 180) (by rfl) w.heap.size _ lk.length (flat4 lk) (by rfl) (HDK.out.later (below_then hwN (below_box wN _))).crt wN.heap.size (x0.toNat : Int) (x1.toNat : Int) (x2.toNat : Int) (numL ys) (by rfl) (laid4 wN _ _ _ _ _) (by have := HLK.out; omega) (HDK.out.later (below_then hwN (below_box wN _))).below.size ?_; intro v9 w9 hown9 hg9; obtain ⟨p9, c9, hv9, _⟩ := owns_cells hown9; subst hv9; have HB9 := hid (heap_own (HDK.out.later (below_then hwN (below_box wN _))).box (HDK.out.later (below_then hwN (below_box wN _))).crt (by decide) hg9); have u10 := heap_cell HB9.out 10; have uf10 := heap_frozen HB9.out 10; have HOW9 := hid hown9; have HG9 := hid hg9; clear hown9 hg9
                                    refine hK.out _ _ trivial (fun _ => ?_)
                                    clear hK K'
                                    refine takeD 17 182 ?v27 rfl (by as_aux_lemma => kernel_rfl) (by as_aux_lemma => kernel_rfl) (by as_aux_lemma => kernel_rfl) (by as_aux_lemma => kernel_rfl) (fun _ _ _ h => h) (Or.inl ⟨by rfl, ?hy27⟩) (by assumption) ?rest27
                                    case hy27 => intro wz hSw; (try dsimp only at hSw); go_simp; try with_reducible rfl
                                    simp only [Act.put, List.setIfInBounds_toArray, List.set_cons_zero, List.set_cons_succ]
                                    refine wpAnyH_ready (rs := [18]) (by as_aux_lemma => kernel_rfl) (by simp) ?_
                                    refine (AllReadyH.cons rfl (fun K' hK => ?_) AllReadyH.nil)
                                    go_simp
                                    refine hK.out _ _ trivial (fun _ => ?_)
                                    clear hK K'
                                    refine wpAnyH_done (by as_aux_lemma => kernel_rfl) ?_ _
                                    go_wp2_with fail
                                    go_roundw
                                    case rel => exact ⟨k + 1, .slice p9 (lk.length + 1) c9, hlt, by go_num, by rw [HTK.out]; exact (HDK.out.later (below_then hwN (below_box wN _))).addC (x := ⟨(x0.toNat : Int), (x1.toNat : Int), (x2.toNat : Int), numL ys⟩) HOW9.out HG9.out, own_store (own_own (own_laterD HTS.out (below_then hwN (below_box wN _))) (HDK.out.later (below_then hwN (below_box wN _))).crt (by decide) HG9.out) HB9.out (by decide) 10 _⟩
                                    case measure => simp [intOf]; omega
                                  · skip
                                    refine step_numOfB (by rfl) (.tmp 177) #[9] (by rfl) ys (by rfl) (by rw [HYS.out]; decide) ?_; intro wN hwNd; have hwN : Below wk5.heap.size wk5 wN := ⟨hwNd.os, hwNd.tape, hwNd.output, hwNd.size, hwNd.block⟩; have kN := (hwN.cell (cell_block k10)).trans k10; have kNA : ∀ o, (wN.alloc o).cell? ⟨F, 10, none⟩ = some _ := (fun o => heap_cell (heap_new (HDK.out.later hwN).box o) 10); have hFn1 : F ≠ wN.heap.size := (by have := hwN.size; omega); have hFn2 : wN.heap.size ≠ F := (by have := hwN.size; omega); clear hwNd
                                    refine hK.out _ _ trivial (fun _ => ?_)
                                    clear hK K'
                                    refine takeD 14 179 ?v28 rfl (by as_aux_lemma => kernel_rfl) (by as_aux_lemma => kernel_rfl) (by as_aux_lemma => kernel_rfl) (by as_aux_lemma => kernel_rfl) (fun _ _ _ h => h) (Or.inl ⟨by rfl, ?hy28⟩) (by assumption) ?rest28
                                    case hy28 => intro wz hSw; (try dsimp only at hSw); go_simp; try with_reducible rfl
                                    refine wpAnyH_ready (rs := [1, 15]) (by as_aux_lemma => kernel_rfl) (by simp) ?_
                                    refine (AllReadyH.cons rfl (fun K' hK => ?_) (AllReadyH.cons rfl (fun K' hK => ?_) AllReadyH.nil))
                                    · go_simp
                                      refine hK.out _ _ trivial (fun _ => ?_)
                                      clear hK K'
                                      refine wpAnyH_ready (rs := [15]) (by as_aux_lemma => kernel_rfl) (by simp) ?_
                                      refine (AllReadyH.cons rfl (fun K' hK => ?_) AllReadyH.nil)
                                      go_simp
                                      refine hK.out _ _ trivial (fun _ => ?_)
                                      clear hK K'
                                      refine wpAnyH_ready (rs := [16]) (by as_aux_lemma => kernel_rfl) (by simp) ?_
                                      refine (AllReadyH.cons rfl (fun K' hK => ?_) AllReadyH.nil)
                                      refine step_cert (by rfl) (.tmp 166) (.tmp 180) (by rfl) w.heap.size _ lk.length (flat4 lk) (by rfl) (HDK.out.later (below_then hwN (below_box wN _))).crt wN.heap.size (x0.toNat : Int) (x1.toNat : Int) (x2.toNat : Int) (numL ys) (by rfl) (laid4 wN _ _ _ _ _) (by have := HLK.out; omega) (HDK.out.later (below_then hwN (below_box wN _))).below.size ?_; intro v9 w9 hown9 hg9; obtain ⟨p9, c9, hv9, _⟩ := owns_cells hown9; subst hv9; have HB9 := hid (heap_own (HDK.out.later (below_then hwN (below_box wN _))).box (HDK.out.later (below_then hwN (below_box wN _))).crt (by decide) hg9); have u10 := heap_cell HB9.out 10; have uf10 := heap_frozen HB9.out 10; have HOW9 := hid hown9; have HG9 := hid hg9; clear hown9 hg9
                                      refine hK.out _ _ trivial (fun _ => ?_)
                                      clear hK K'
                                      refine takeD 17 182 ?v29 rfl (by as_aux_lemma => kernel_rfl) (by as_aux_lemma => kernel_rfl) (by as_aux_lemma => kernel_rfl) (by as_aux_lemma => kernel_rfl) (fun _ _ _ h => h) (Or.inl ⟨by rfl, ?hy29⟩) (by assumption) ?rest29
                                      case hy29 => intro wz hSw; (try dsimp only at hSw); go_simp; try with_reducible rfl
                                      simp only [Act.put, List.setIfInBounds_toArray, List.set_cons_zero, List.set_cons_succ]
                                      refine wpAnyH_ready (rs := [18]) (by as_aux_lemma => kernel_rfl) (by simp) ?_
                                      refine (AllReadyH.cons rfl (fun K' hK => ?_) AllReadyH.nil)
                                      go_simp
                                      refine hK.out _ _ trivial (fun _ => ?_)
                                      clear hK K'
                                      refine wpAnyH_done (by as_aux_lemma => kernel_rfl) ?_ _
                                      go_wp2_with fail
                                      go_roundw
                                      case rel => exact ⟨k + 1, .slice p9 (lk.length + 1) c9, hlt, by go_num, by rw [HTK.out]; exact (HDK.out.later (below_then hwN (below_box wN _))).addC (x := ⟨(x0.toNat : Int), (x1.toNat : Int), (x2.toNat : Int), numL ys⟩) HOW9.out HG9.out, own_store (own_own (own_laterD HTS.out (below_then hwN (below_box wN _))) (HDK.out.later (below_then hwN (below_box wN _))).crt (by decide) HG9.out) HB9.out (by decide) 10 _⟩
                                      case measure => simp [intOf]; omega
                                    · go_simp
                                      refine hK.out _ _ trivial (fun _ => ?_)
                                      clear hK K'
                                      refine wpAnyH_ready (rs := [1]) (by as_aux_lemma => kernel_rfl) (by simp) ?_
                                      refine (AllReadyH.cons rfl (fun K' hK => ?_) AllReadyH.nil)
                                      go_simp
                                      refine hK.out _ _ trivial (fun _ => ?_)
                                      clear hK K'
                                      refine wpAnyH_ready (rs := [16]) (by as_aux_lemma => kernel_rfl) (by simp) ?_
                                      refine (AllReadyH.cons rfl (fun K' hK => ?_) AllReadyH.nil)
                                      refine step_cert (by rfl) (.tmp 166) (.tmp 180) (by rfl) w.heap.size _ lk.length (flat4 lk) (by rfl) (HDK.out.later (below_then hwN (below_box wN _))).crt wN.heap.size (x0.toNat : Int) (x1.toNat : Int) (x2.toNat : Int) (numL ys) (by rfl) (laid4 wN _ _ _ _ _) (by have := HLK.out; omega) (HDK.out.later (below_then hwN (below_box wN _))).below.size ?_; intro v9 w9 hown9 hg9; obtain ⟨p9, c9, hv9, _⟩ := owns_cells hown9; subst hv9; have HB9 := hid (heap_own (HDK.out.later (below_then hwN (below_box wN _))).box (HDK.out.later (below_then hwN (below_box wN _))).crt (by decide) hg9); have u10 := heap_cell HB9.out 10; have uf10 := heap_frozen HB9.out 10; have HOW9 := hid hown9; have HG9 := hid hg9; clear hown9 hg9
                                      refine hK.out _ _ trivial (fun _ => ?_)
                                      clear hK K'
                                      refine takeD 17 182 ?v30 rfl (by as_aux_lemma => kernel_rfl) (by as_aux_lemma => kernel_rfl) (by as_aux_lemma => kernel_rfl) (by as_aux_lemma => kernel_rfl) (fun _ _ _ h => h) (Or.inl ⟨by rfl, ?hy30⟩) (by assumption) ?rest30
                                      case hy30 => intro wz hSw; (try dsimp only at hSw); go_simp; try with_reducible rfl
                                      simp only [Act.put, List.setIfInBounds_toArray, List.set_cons_zero, List.set_cons_succ]
                                      refine wpAnyH_ready (rs := [18]) (by as_aux_lemma => kernel_rfl) (by simp) ?_
                                      refine (AllReadyH.cons rfl (fun K' hK => ?_) AllReadyH.nil)
                                      go_simp
                                      refine hK.out _ _ trivial (fun _ => ?_)
                                      clear hK K'
                                      refine wpAnyH_done (by as_aux_lemma => kernel_rfl) ?_ _
                                      go_wp2_with fail
                                      go_roundw
                                      case rel => exact ⟨k + 1, .slice p9 (lk.length + 1) c9, hlt, by go_num, by rw [HTK.out]; exact (HDK.out.later (below_then hwN (below_box wN _))).addC (x := ⟨(x0.toNat : Int), (x1.toNat : Int), (x2.toNat : Int), numL ys⟩) HOW9.out HG9.out, own_store (own_own (own_laterD HTS.out (below_then hwN (below_box wN _))) (HDK.out.later (below_then hwN (below_box wN _))).crt (by decide) HG9.out) HB9.out (by decide) 10 _⟩
                                      case measure => simp [intOf]; omega
                                · have hI : ¬ (k : Int) < (cs.length : Int) := by omega
                                  have hkl : k = cs.length := by omega
                                  subst hkl
                                  rw [List.take_length] at hdb
                                  have HDB9 := hid hdb
                                  clear hdb hst HDK HTS hI
                                  go_wp2_with fail
                                  go_meet
                                  exact ⟨_, q5, _, _, _, rfl, HDB9.out, by rw [HE.out]; simp only [refLoad, HR2.out, HR3.out, HR4.out, HR5.out], by simpa using hls2, by simpa using hls3, by simpa using hls5⟩
    case rest =>
      obtain ⟨f, q, vl, vg, vc, rfl, hdb3, hD3, hl1, hl2, hl3⟩ := hcut
      have HDB3 := hid hdb3
      have HFIN : Hid (D = if q = [] then (if frameE f = 0 then (f, 0) else (zeroFrm, frameE f)) else (zeroFrm, 1)) := hid hD3
      clear hD3 hk3 HDB HD HACK H1 er b0 HY hy
      obtain ⟨n0, n1, n2, n3, n4, n5, n6, n7, n8, n9, n10⟩ := cells11 hdb3.two.2
      obtain ⟨r0, r1, r2, r3, r4, r5, r6, r7, r8, r9, r10⟩ := cells11 hdb3.two.1
      obtain ⟨f0, f1, f2, f3, f4, f5, f6, f7, f8, f9, f10⟩ := froz11 hdb3.two.1
      cases q with
      | cons q0 qr =>
        have HE2 : Hid (D = (zeroFrm, 1)) := hid (by rw [HFIN.out, if_neg (by simp)])
        clear hdb3
        go_wp2
        obtain ⟨hW, hS⟩ := zero_ret HDB3.out
        refine bodyPost_ret (results_ct rfl _ _ w.heap.size _ rfl (load_frame rfl hW)) rfl ⟨.agg zero11, ?_, ?_, hS⟩
        · rw [HE2.out]; rfl
        · rw [HE2.out]; exact zero_frm _
      | nil =>
        obtain ⟨pl, cl, rfl, _⟩ := owns_cells hdb3.lab
        obtain ⟨pg, cg, rfl, _⟩ := owns_cells hdb3.gra
        obtain ⟨pc, cc, rfl, _⟩ := owns_cells hdb3.crt
        obtain ⟨m0, m1, m2, m3, m4, m5, m6, m7, m8, m9, m10⟩ := cells11 hdb3.box
        have HFR : Hid (∀ wx, DecBox w wx F (.slice pl f.mail.label.length cl) (.slice pg f.mail.grants.length cg) (.slice pc f.certs.length cc) f → FrmAt wx (.agg #[.int .i64 f.fr, .int .i64 f.to, .int .i64 f.seq, .bool f.ack, .int .i64 f.thread, .int .i64 f.mail.host, .int .i64 f.mail.thread, .slice pl f.mail.label.length cl, .slice pg f.mail.grants.length cg, .string ⟨f.mail.text.toArray⟩, .slice pc f.certs.length cc]) f) := hid (fun wx h => ⟨_, _, _, rfl, labs_of_own h.lab (by omega), nums_of_own h.gra (by omega), crts_of_own h.crt (by omega)⟩)
        clear hdb3
        go_wp2_with fail
        refine (rgoodFrame_any _ f _ (HFR.out _ HDB3.out)).mono ?_
        rintro e w6 ⟨rfl, hw6⟩
        have HDB6 := hid (HDB3.out.later hw6)
        clear hw6 n0 n1 n2 n3 n4 n5 n6 n7 n8 n9 n10 r0 r1 r2 r3 r4 r5 r6 r7 r8 r9 r10 f0 f1 f2 f3 f4 f5 f6 f7 f8 f9 f10 m0 m1 m2 m3 m4 m5 m6 m7 m8 m9 m10
        obtain ⟨n0, n1, n2, n3, n4, n5, n6, n7, n8, n9, n10⟩ := cells11 HDB6.out.two.2
        obtain ⟨r0, r1, r2, r3, r4, r5, r6, r7, r8, r9, r10⟩ := cells11 HDB6.out.two.1
        obtain ⟨f0, f1, f2, f3, f4, f5, f6, f7, f8, f9, f10⟩ := froz11 HDB6.out.two.1
        obtain ⟨m0, m1, m2, m3, m4, m5, m6, m7, m8, m9, m10⟩ := cells11 HDB6.out.box
        by_cases hE : frameE f = 0
        · have hEb : (frameE f == 0) = true := beq_iff_eq.2 hE
          have HE2 : Hid (D = (f, 0)) := hid (by rw [HFIN.out]; simp [hE])
          rw [hE]
          clear hE hEb
          go_wp2
          have hS := st11_grown w6 w.heap.size (.int .i64 f.fr) (.int .i64 f.to) (.int .i64 f.seq) (.bool f.ack) (.int .i64 f.thread) (.int .i64 f.mail.host) (.int .i64 f.mail.thread) (.slice pl f.mail.label.length cl) (.slice pg f.mail.grants.length cg) (.string ⟨f.mail.text.toArray⟩) (.slice pc f.certs.length cc)
          have hW := st11_heap (.int .i64 f.fr) (.int .i64 f.to) (.int .i64 f.seq) (.bool f.ack) (.int .i64 f.thread) (.int .i64 f.mail.host) (.int .i64 f.mail.thread) (.slice pl f.mail.label.length cl) (.slice pg f.mail.grants.length cg) (.string ⟨f.mail.text.toArray⟩) (.slice pc f.certs.length cc) HDB6.out.two.1
          have hbE := HDB6.out.below.grown hS HDB6.out.below.size (fun k e => by have := Option.some.inj e; omega)
          refine bodyPost_ret (results_ct rfl _ _ w.heap.size _ rfl (load_frame rfl hW)) rfl ⟨_, by rw [HE2.out]; rfl, ?_, hbE⟩
          rw [HE2.out]
          have hl := own_store11 HDB6.out.lab HDB6.out.two.1 (by decide) (.int .i64 f.fr) (.int .i64 f.to) (.int .i64 f.seq) (.bool f.ack) (.int .i64 f.thread) (.int .i64 f.mail.host) (.int .i64 f.mail.thread) (.slice pl f.mail.label.length cl) (.slice pg f.mail.grants.length cg) (.string ⟨f.mail.text.toArray⟩) (.slice pc f.certs.length cc)
          have hg := own_store11 HDB6.out.gra HDB6.out.two.1 (by decide) (.int .i64 f.fr) (.int .i64 f.to) (.int .i64 f.seq) (.bool f.ack) (.int .i64 f.thread) (.int .i64 f.mail.host) (.int .i64 f.mail.thread) (.slice pl f.mail.label.length cl) (.slice pg f.mail.grants.length cg) (.string ⟨f.mail.text.toArray⟩) (.slice pc f.certs.length cc)
          have hc := own_store11 HDB6.out.crt HDB6.out.two.1 (by decide) (.int .i64 f.fr) (.int .i64 f.to) (.int .i64 f.seq) (.bool f.ack) (.int .i64 f.thread) (.int .i64 f.mail.host) (.int .i64 f.mail.thread) (.slice pl f.mail.label.length cl) (.slice pg f.mail.grants.length cg) (.string ⟨f.mail.text.toArray⟩) (.slice pc f.certs.length cc)
          exact ⟨_, _, _, rfl, labs_of_own hl (Nat.le_trans hl1 (by decide)), nums_of_own hg (Nat.le_trans hl2 (by decide)), crts_of_own hc (Nat.le_trans hl3 (by decide))⟩
        · have hEb : (frameE f == 0) = false := beq_eq_false_iff_ne.2 hE
          have HE2 : Hid (D = (zeroFrm, frameE f)) := hid (by rw [HFIN.out]; simp [hE])
          clear hE
          generalize frameE f = cE at *
          go_wp2
          obtain ⟨hW, hS⟩ := zero_ret HDB6.out
          refine bodyPost_ret (results_ct rfl _ _ w.heap.size _ rfl (load_frame rfl hW)) rfl ⟨.agg zero11, ?_, ?_, hS⟩
          · rw [HE2.out]; rfl
          · rw [HE2.out]; exact zero_frm _
end Go.Proofs.Ytagmnfghkfeplaa
