/- Plain facts on frames and bytes: a good frame is read back from its bytes, bytes that are read are the bytes of what is read, and a beginning of them is no frame; no program is named here. -/
import Derived.Test.YtagmnfghkfeplaaPlainWire
namespace Go.Proofs.Parclose

/-- a taker with more behind it -/
def exT (q : List UInt8) (t : Tk) : Tk := (t.1 ++ q, t.2)
/-- more behind is left behind -/
def Ex {α : Type} (q : List UInt8) (X : Tk → α × Tk) (t : Tk) : Prop := (X t).2.2 = false → X (exT q t) = ((X t).1, exT q (X t).2)

theorem ex_text (q : List UInt8) (n : Nat) (t : Tk) : Ex q (textT n) t := by
  intro h
  obtain ⟨e, hl⟩ := text1 h
  have e1 : exT q t = ((textT n t).1 ++ ((textT n t).2.1 ++ q), false) := by
    unfold exT
    rw [← List.append_assoc]
    have f := congrArg Prod.fst e
    have g := congrArg Prod.snd e
    simp only at f g
    rw [← f, ← g]
  rw [e1, textT_app' _ _ hl]
  unfold exT
  rw [h]

theorem ex_num (q : List UInt8) (n : Nat) (t : Tk) : Ex q (numT n) t := by
  intro h
  have h1 := ex_text q n t h
  unfold numT
  rw [h1]

theorem num_false {n : Nat} {t : Tk} (h : (numT n t).2.2 = false) : t.2 = false := tk_false (text1 (n := n) h).1

theorem ex_crt (q : List UInt8) (t : Tk) : Ex q crtT t := by
  intro h
  simp only [crtT] at h ⊢
  have h3 := num_false h
  have h2 := num_false h3
  have h1 := num_false h2
  rw [ex_num q 1 t h1]
  simp only
  rw [ex_num q 1 _ h2]
  simp only
  rw [ex_num q 1 _ h3]
  simp only
  rw [ex_num q 6 _ h]

theorem ex_levs (q : List UInt8) (n : Nat) (t : Tk) : Ex q (fun t => iterN levStep n ([], t)) t := by
  induction n with
  | zero => intro _; rfl
  | succ n ih =>
    intro h
    simp only [iterN] at h ⊢
    simp only [Ex] at ih
    have h2 : (numT 1 (numT 1 (iterN levStep n ([], t)).2).2).2.2 = false := h
    have h1 := num_false h2
    rw [ih (num_false h1)]
    generalize iterN levStep n ([], t) = s at h2 h1 ⊢
    simp only [levStep]
    rw [ex_num q 1 _ h1]
    simp only
    rw [ex_num q 1 _ h2]

theorem ex_grs (q : List UInt8) (n : Nat) (t : Tk) : Ex q (fun t => iterN grStep n ([], t)) t := by
  induction n with
  | zero => intro _; rfl
  | succ n ih =>
    intro h
    simp only [iterN] at h ⊢
    simp only [Ex] at ih
    have h1 : (numT 1 (iterN grStep n ([], t)).2).2.2 = false := h
    rw [ih (num_false h1)]
    generalize iterN grStep n ([], t) = s at h1 ⊢
    simp only [grStep]
    rw [ex_num q 1 _ h1]

theorem ex_crs (q : List UInt8) (n : Nat) (t : Tk) : Ex q (fun t => iterN crStep n ([], t)) t := by
  induction n with
  | zero => intro _; rfl
  | succ n ih =>
    intro h
    simp only [iterN] at h ⊢
    simp only [Ex] at ih
    have h1 : (crtT (iterN crStep n ([], t)).2).2.2 = false := h
    rw [ih (tk_false (crt1 h1))]
    generalize iterN crStep n ([], t) = s at h1 ⊢
    simp only [crStep]
    rw [ex_crt q _ h1]

theorem ex_lab (q : List UInt8) (t : Tk) : Ex q labT t := by
  intro h
  unfold labT at h ⊢
  rw [ex_num q 1 t (tk_false (levs h).1)]
  exact ex_levs q _ _ h

theorem ex_gr (q : List UInt8) (t : Tk) : Ex q grT t := by
  intro h
  unfold grT at h ⊢
  rw [ex_num q 1 t (tk_false (grs h).1)]
  exact ex_grs q _ _ h

theorem ex_tx (q : List UInt8) (t : Tk) : Ex q txT t := by
  intro h
  unfold txT at h ⊢
  rw [ex_num q 1 t (tk_false (text1 h).1)]
  exact ex_text q _ _ h

theorem ex_certs (q : List UInt8) (t : Tk) : Ex q certsT t := by
  intro h
  unfold certsT at h ⊢
  rw [ex_num q 1 t (tk_false (crs h).1)]
  exact ex_crs q _ _ h

theorem ex_mail (q : List UInt8) (fr : Int) (t : Tk) : Ex q (mailT fr) t := by
  intro h
  simp only [mailT] at h ⊢
  have h3 := tk_false (tx1 h)
  have h2 := tk_false (gr1 h3)
  have h1 := tk_false (lab1 h2)
  rw [ex_num q 1 t h1]
  simp only
  rw [ex_lab q _ h2]
  simp only
  rw [ex_gr q _ h3]
  simp only
  rw [ex_tx q _ h]

theorem ex_head (q : List UInt8) (t : Tk) : Ex q headT t := by
  intro h
  simp only [headT] at h ⊢
  have h3 := num_false h
  have h2 := num_false h3
  have h1 := num_false h2
  rw [ex_num q 1 t h1]
  simp only
  rw [ex_num q 1 _ h2]
  simp only
  rw [ex_num q 1 _ h3]
  simp only
  rw [ex_num q 6 _ h]

theorem ex_frame (q : List UInt8) (t : Tk) : Ex q frameT t := by
  intro h
  have hh : (headT t).2.2 = false := by
    unfold frameT at h
    split at h
    · exact h
    · split at h
      · simp only [loadT] at h
        exact num_false (tk_false (mail1 (tk_false (certs1 h))))
      · simp at h
  have e := ex_head q t hh
  unfold frameT at h ⊢
  rw [e]
  by_cases h1 : (headT t).1.1 = 1
  · simp only [h1, if_true]
  · simp only [h1, if_false] at h ⊢
    by_cases h0 : (headT t).1.1 = 0
    · simp only [h0, if_true] at h ⊢
      generalize headT t = H at h ⊢
      simp only [loadT] at h ⊢
      have h3 := tk_false (certs1 h)
      have h2 := tk_false (mail1 h3)
      rw [ex_num q 1 _ h2]
      simp only
      rw [ex_mail q _ _ h3]
      simp only
      rw [ex_certs q _ h]
    · simp only [h0, if_false] at h
      simp at h

theorem iterN_first {α : Type} (f : α → α) (n : Nat) (s : α) : iterN f (n + 1) s = iterN f n (f s) := by
  induction n with
  | zero => rfl
  | succ n ih =>
    show f (iterN f (n + 1) s) = f (iterN f n (f s))
    rw [ih]

theorem levs_app (l : List (Int × Int)) (hl : ∀ x ∈ l, 0 ≤ x.1 ∧ x.1 < 80 ∧ 0 ≤ x.2 ∧ x.2 ≤ 3) (r : List UInt8) (acc : List (Int × Int)) : iterN levStep l.length (acc, (levelsL l ++ r, false)) = (acc ++ l, (r, false)) := by
  induction l generalizing acc with
  | nil => simp [iterN, levelsL]
  | cons x l ih =>
    obtain ⟨h1, h2, h3, h4⟩ := hl x (by simp)
    rw [List.length_cons, iterN_first]
    have e : levStep (acc, (levelsL (x :: l) ++ r, false)) = (acc ++ [x], (levelsL l ++ r, false)) := by
      have e0 : levelsL (x :: l) ++ r = byteL x.1 :: byteL x.2 :: (levelsL l ++ r) := by simp [levelsL]
      unfold levStep
      rw [e0]
      simp only
      rw [numT1_app x.1 _ h1 (by omega)]
      simp only
      rw [numT1_app x.2 _ h3 (by omega)]
    rw [e, ih (fun y hy => hl y (by simp [hy]))]
    simp

theorem grs_app (l : List Int) (hl : ∀ x ∈ l, 0 ≤ x ∧ x < 80) (r : List UInt8) (acc : List Int) : iterN grStep l.length (acc, (l.map byteL ++ r, false)) = (acc ++ l, (r, false)) := by
  induction l generalizing acc with
  | nil => simp [iterN]
  | cons x l ih =>
    obtain ⟨h1, h2⟩ := hl x (by simp)
    rw [List.length_cons, iterN_first]
    have e : grStep (acc, ((x :: l).map byteL ++ r, false)) = (acc ++ [x], (l.map byteL ++ r, false)) := by
      unfold grStep
      simp only [List.map_cons, List.cons_append]
      rw [numT1_app x _ h1 (by omega)]
    rw [e, ih (fun y hy => hl y (by simp [hy]))]
    simp

theorem hostB_iff (h : Int) : hostB h = true ↔ 0 ≤ h ∧ h < 4 := by unfold hostB; exact decide_eq_true_iff
theorem timeB_iff (h : Int) : timeB h = true ↔ 0 ≤ h ∧ h ≤ 1099511627776 := by unfold timeB; exact decide_eq_true_iff
theorem catB_iff (h : Int) : catB h = true ↔ 0 ≤ h ∧ h < 80 := by unfold catB; exact decide_eq_true_iff

theorem certB_iff (x : Crt) : certB x = true ↔ (0 ≤ x.c ∧ x.c < 80) ∧ (0 ≤ x.b ∧ x.b < 4) ∧ (0 ≤ x.h ∧ x.h < 4) ∧ x.b ≠ x.h ∧ (0 ≤ x.u ∧ x.u ≤ 1099511627776) := by
  unfold certB twoB
  simp only [Bool.and_eq_true, hostB_iff, timeB_iff, catB_iff, Bool.not_eq_true', beq_eq_false_iff_ne]
  constructor
  · rintro ⟨⟨h1, ⟨h2, h3⟩, h4⟩, h5⟩
    exact ⟨h1, h2, h3, h4, h5⟩
  · rintro ⟨h1, h2, h3, h4, h5⟩
    exact ⟨⟨h1, ⟨h2, h3⟩, h4⟩, h5⟩

theorem crs_app (l : List Crt) (hl : ∀ x ∈ l, certB x = true) (r : List UInt8) (acc : List Crt) : iterN crStep l.length (acc, (l.flatMap certL ++ r, false)) = (acc ++ l, (r, false)) := by
  induction l generalizing acc with
  | nil => simp [iterN]
  | cons x l ih =>
    obtain ⟨h1, h2, h3, _, h5⟩ := (certB_iff x).1 (hl x (by simp))
    rw [List.length_cons, iterN_first]
    have e : crStep (acc, ((x :: l).flatMap certL ++ r, false)) = (acc ++ [x], (l.flatMap certL ++ r, false)) := by
      have e0 : (x :: l).flatMap certL ++ r = byteL x.c :: byteL x.b :: byteL x.h :: (timeL x.u ++ (l.flatMap certL ++ r)) := by simp [certL]
      unfold crStep crtT
      rw [e0]
      simp only
      rw [numT1_app x.c _ h1.1 (by omega)]
      simp only
      rw [numT1_app x.b _ h2.1 (by omega)]
      simp only
      rw [numT1_app x.h _ h3.1 (by omega)]
      simp only
      rw [numT6_app x.u _ h5.1 (by omega)]
    rw [e, ih (fun y hy => hl y (by simp [hy]))]
    simp

theorem numT1_len (n : Nat) (r : List UInt8) (h : n < 256) : numT 1 (byteL (n : Int) :: r, false) = ((n : Int), (r, false)) := numT1_app n r (by omega) (by omega)

theorem lab_app (l : List (Int × Int)) (hn : l.length < 256) (hl : ∀ x ∈ l, 0 ≤ x.1 ∧ x.1 < 80 ∧ 0 ≤ x.2 ∧ x.2 ≤ 3) (r : List UInt8) : labT (byteL l.length :: (levelsL l ++ r), false) = (l, (r, false)) := by
  unfold labT
  rw [numT1_len _ _ hn]
  simp only [Int.toNat_natCast]
  rw [levs_app l hl]
  simp

theorem gr_app (l : List Int) (hn : l.length < 256) (hl : ∀ x ∈ l, 0 ≤ x ∧ x < 80) (r : List UInt8) : grT (byteL l.length :: (l.map byteL ++ r), false) = (l, (r, false)) := by
  unfold grT
  rw [numT1_len _ _ hn]
  simp only [Int.toNat_natCast]
  rw [grs_app l hl]
  simp

theorem tx_app (x : List UInt8) (hn : x.length < 256) (r : List UInt8) : txT (byteL x.length :: (x ++ r), false) = (x, (r, false)) := by
  unfold txT
  rw [numT1_len _ _ hn]
  simp only [Int.toNat_natCast]
  rw [textT_app]

theorem certs_app (l : List Crt) (hn : l.length < 256) (hl : ∀ x ∈ l, certB x = true) (r : List UInt8) : certsT (certsL l ++ r, false) = (l, (r, false)) := by
  unfold certsT certsL
  rw [show [byteL (l.length : Int)] ++ l.flatMap certL ++ r = byteL (l.length : Int) :: (l.flatMap certL ++ r) by simp, numT1_len _ _ hn]
  simp only [Int.toNat_natCast]
  rw [crs_app l hl]
  simp

theorem grantsB_iff (l : List Int) : grantsB l = true ↔ l.length ≤ 8 ∧ (∀ x ∈ l, 0 ≤ x ∧ x < 80) ∧ l.Pairwise (· < ·) := by unfold grantsB; exact decide_eq_true_iff

theorem mailE_zero {m : Mal} (h : mailE m = 0) : (0 ≤ m.host ∧ m.host < 4) ∧ (0 ≤ m.thread ∧ m.thread < 4) ∧ goodB m.label = true ∧ grantsB m.grants = true ∧ m.text.length ≤ 64 := by
  unfold mailE at h
  split at h
  · rename_i h1
    simp only [Bool.and_eq_true, hostB_iff] at h1
    split at h
    · exact ⟨h1.1.1.1, h1.1.1.2, h1.1.2, h1.2, by assumption⟩
    · simp at h
  · simp at h

theorem mail_app (m : Mal) (h : mailE m = 0) (r : List UInt8) : mailT m.host (mailL m ++ r, false) = (m, (r, false)) := by
  obtain ⟨h1, h2, h3, h4, h5⟩ := mailE_zero h
  obtain ⟨g1, g2, _⟩ := of_decide_eq_true h3
  obtain ⟨k1, k2, _⟩ := (grantsB_iff _).1 h4
  have e : mailL m ++ r = byteL m.thread :: (byteL m.label.length :: (levelsL m.label ++ (byteL m.grants.length :: (m.grants.map byteL ++ (byteL m.text.length :: (m.text ++ r)))))) := by simp [mailL]
  rw [e]
  unfold mailT
  rw [numT1_app _ _ h2.1 (by omega)]
  simp only
  rw [lab_app _ (by omega) (fun x hx => ⟨(g2 x hx).1, (g2 x hx).2.1, (g2 x hx).2.2.1, (g2 x hx).2.2.2.1⟩)]
  simp only
  rw [gr_app _ (by omega) k2]
  simp only
  rw [tx_app _ (by omega)]

theorem headB_iff (f : Frm) : headB f = true ↔ (0 ≤ f.fr ∧ f.fr < 4) ∧ (0 ≤ f.to ∧ f.to < 4) ∧ f.fr ≠ f.to ∧ f.seq ≠ 0 ∧ (0 ≤ f.seq ∧ f.seq ≤ 1099511627776) ∧ (0 ≤ f.thread ∧ f.thread < 4) := by
  unfold headB twoB
  simp only [Bool.and_eq_true, hostB_iff, timeB_iff, Bool.not_eq_true', beq_eq_false_iff_ne]
  constructor
  · rintro ⟨⟨⟨⟨⟨h1, h2⟩, h3⟩, h4⟩, h5⟩, h6⟩
    exact ⟨h1, h2, h3, h4, h5, h6⟩
  · rintro ⟨h1, h2, h3, h4, h5, h6⟩
    exact ⟨⟨⟨⟨⟨h1, h2⟩, h3⟩, h4⟩, h5⟩, h6⟩

theorem answerE_zero {f : Frm} (h : answerE f = 0) : f.thread = 0 ∧ f.mail = zeroMal ∧ f.certs = [] := by
  unfold answerE at h
  split at h
  · rename_i h1
    obtain ⟨fr, to, seq, ack, th, ⟨mh, mt, ml, mg, mx⟩, cs⟩ := f
    simp only [emptyB, Bool.and_eq_true, beq_iff_eq, List.isEmpty_iff] at h1
    obtain ⟨⟨rfl, ⟨⟨⟨rfl, rfl⟩, rfl⟩, rfl⟩, rfl⟩, rfl⟩ := h1
    exact ⟨rfl, rfl, rfl⟩
  · simp at h

theorem certsE_zero {l : List Crt} (h : certsE l = 0) : l.length ≤ 24 ∧ ∀ x ∈ l, certB x = true := by
  unfold certsE at h
  split at h
  · split at h
    · rename_i h1 h2
      exact ⟨h1, List.all_eq_true.1 h2⟩
    · simp at h
  · simp at h

theorem mailE_cases (m : Mal) : mailE m = 0 ∨ mailE m = 2 ∨ mailE m = 9 := by
  unfold mailE
  split
  · split
    · exact Or.inl rfl
    · exact Or.inr (Or.inr rfl)
  · exact Or.inr (Or.inl rfl)

theorem loadE_zero {f : Frm} (h : loadE f = 0) : mailE f.mail = 0 ∧ f.mail.host = f.fr ∧ certsE f.certs = 0 := by
  unfold loadE at h
  split at h
  · split at h
    · exact ⟨by assumption, by assumption, h⟩
    · simp at h
  · exact absurd h (by assumption)

theorem head_app (k : Int) (f : Frm) (hk : 0 ≤ k ∧ k < 256) (h : headB f = true) (r : List UInt8) : headT (headL k f ++ r, false) = ((k, f.fr, f.to, f.seq), (r, false)) := by
  obtain ⟨h1, h2, _, _, h5, _⟩ := (headB_iff f).1 h
  have e : headL k f ++ r = byteL k :: (byteL f.fr :: (byteL f.to :: (timeL f.seq ++ r))) := by simp [headL]
  rw [e]
  unfold headT
  rw [numT1_app _ _ hk.1 hk.2]
  simp only
  rw [numT1_app _ _ h1.1 (by omega)]
  simp only
  rw [numT1_app _ _ h2.1 (by omega)]
  simp only
  rw [numT6_app _ _ h5.1 (by omega)]

/-- A GOOD FRAME IS READ BACK -/
theorem frame_app (f : Frm) (h : frameE f = 0) (r : List UInt8) : frameT (encL f ++ r, false) = (f, (r, false)) := by
  unfold frameE at h
  split at h
  · rename_i hh
    have hb := (headB_iff f).1 hh
    cases ha : f.ack with
    | true =>
      rw [ha, if_pos rfl] at h
      obtain ⟨h1, h2, h3⟩ := answerE_zero h
      unfold encL
      rw [ha, if_pos rfl]
      unfold frameT
      rw [head_app 1 f (by omega) hh]
      simp only [if_true]
      rw [← h1, ← h2, ← h3, ← ha]
    | false =>
      rw [ha, if_neg (by simp)] at h
      obtain ⟨h1, h2, h3⟩ := loadE_zero h
      obtain ⟨k1, k2⟩ := certsE_zero h3
      unfold encL
      rw [ha, if_neg (by simp), List.append_assoc, List.append_assoc, List.append_assoc]
      unfold frameT
      rw [head_app 0 f (by omega) hh]
      simp only [show ((0 : Int) = 1) = False by simp, if_false, if_true]
      unfold loadT
      simp only [List.cons_append, List.nil_append]
      rw [numT1_app _ _ hb.2.2.2.2.2.1 (by omega)]
      simp only
      rw [← h2, mail_app f.mail h1]
      simp only
      rw [certs_app f.certs (by omega) k2]
      rw [h2, ← ha]
  · simp at h

theorem back (f : Frm) (h : frameE f = 0) : decL (encL f) = (f, 0) := by
  have e := frame_app f h []
  rw [List.append_nil] at e
  unfold decL
  rw [e]
  simp [doneB, h]

theorem back_more (f : Frm) (h : frameE f = 0) (q : List UInt8) (hq : q ≠ []) : decL (encL f ++ q) = (zeroFrm, 1) := by
  unfold decL
  rw [frame_app f h q]
  simp [doneB, hq]

theorem only {s : List UInt8} (h : (decL s).2 = 0) : encL (decL s).1 = s ∧ frameE (decL s).1 = 0 := by
  unfold decL at h ⊢
  by_cases hd : doneB (frameT (s, false)).2 = true
  · rw [if_pos hd] at h ⊢
    by_cases he : frameE (frameT (s, false)).1 = 0
    · rw [if_pos he]
      refine ⟨?_, he⟩
      simp only [doneB, Bool.and_eq_true, Bool.not_eq_true', List.isEmpty_iff] at hd
      have e := congrArg Prod.fst (frame1 hd.1)
      simp only [hd.2, List.append_nil] at e
      exact e.symm
    · rw [if_neg he] at h
      exact absurd h he
  · rw [if_neg hd] at h
    simp at h

theorem only_zero {s : List UInt8} (h : (decL s).2 ≠ 0) : (decL s).1 = zeroFrm := by
  unfold decL at h ⊢
  split
  · split
    · rename_i h1 h2
      rw [if_pos h1, if_pos h2] at h
      exact absurd rfl h
    · rfl
  · rfl

/-- A BEGINNING OF THE BYTES IS NO FRAME -/
theorem cut (f : Frm) (h : frameE f = 0) (n : Nat) (hn : n < (encL f).length) : (decL ((encL f).take n)).2 = 1 := by
  unfold decL
  by_cases hd : doneB (frameT ((encL f).take n, false)).2 = true
  · exfalso
    simp only [doneB, Bool.and_eq_true, Bool.not_eq_true', List.isEmpty_iff] at hd
    have e := ex_frame ((encL f).drop n) ((encL f).take n, false) hd.1
    have e2 := frame_app f h []
    rw [List.append_nil] at e2
    unfold exT at e
    simp only [List.take_append_drop, hd.2, List.nil_append] at e
    rw [e2] at e
    have e3 := congrArg (fun p => p.2.1) e
    simp only at e3
    have : ((encL f).drop n).length = 0 := by rw [← e3]; rfl
    rw [List.length_drop] at this
    omega
  · rw [if_neg hd]
end Go.Proofs.Parclose
