/- The reference's DecodeFrame: the frame in its box, and what is put into it. -/
import Derived.Test.YtagmnfghkfeplaaWDecA
namespace Go.Proofs.Ytagmnfghkfeplaa
open Go.RowKit Go.Proofs.Parclose

theorem own_laterD {w w' : World} {base : Nat} {e : TypeId} {s : Nat} {v : Value} {n : Nat} {xs : List Value} (h : w.ownsRow base e s v n xs) (hb : Below w.heap.size w w') : w'.ownsRow base e s v n xs := by
  refine ⟨h.1, ?_⟩
  rcases h.2 with hn | ⟨g, cap, cur, rfl, hbg, hgg, rest⟩
  · exact .inl hn
  · exact .inr ⟨g, cap, cur, rfl, hbg, by rw [hb.block g (heap_lt hgg), hgg], rest⟩

structure DecBox (w wr : World) (F : Nat) (vl vg vc : Value) (f : Frm) : Prop where
  two : TwoAt wr w.heap.size
  far : w.heap.size + 1 < F
  box : wr.heap[F]? = some (.cells #[.int .i64 f.fr, .int .i64 f.to, .int .i64 f.seq, .bool f.ack, .int .i64 f.thread, .int .i64 f.mail.host, .int .i64 f.mail.thread, vl, vg, .string ⟨f.mail.text.toArray⟩, vc] 29 (0, 0))
  lab : wr.ownsRow w.heap.size 55 2 vl f.mail.label.length (flat2 f.mail.label)
  gra : wr.ownsRow w.heap.size 3 1 vg f.mail.grants.length (flat1 f.mail.grants)
  crt : wr.ownsRow w.heap.size 39 4 vc f.certs.length (flat4 f.certs)
  below : Below w.heap.size w wr

theorem DecBox.later {w wr ws : World} {F : Nat} {vl vg vc : Value} {f : Frm} (h : DecBox w wr F vl vg vc f) (hb : Below wr.heap.size wr ws) : DecBox w ws F vl vg vc f :=
  ⟨h.two.keep hb, h.far, heap_keep h.box hb, own_laterD h.lab hb, own_laterD h.gra hb, own_laterD h.crt hb, below_then h.below hb⟩

theorem DecBox.text {w wr : World} {F : Nat} {vl vg vc : Value} {f : Frm} (h : DecBox w wr F vl vg vc f) (x : List UInt8) : DecBox w (wr.setCell ⟨F, 9, none⟩ (.string ⟨x.toArray⟩)) F vl vg vc { f with mail := { f.mail with text := x } } :=
  ⟨h.two.store h.far 9 _, h.far, by rw [heap_setCell h.box]; rfl, own_store h.lab h.box (by decide) 9 _, own_store h.gra h.box (by decide) 9 _, own_store h.crt h.box (by decide) 9 _,
    h.below.grown (grown_setCell wr F 9 _) h.below.size (fun k e => by have := Option.some.inj e; have := h.far; omega)⟩

theorem DecBox.head {w wr : World} {F : Nat} {vl vg vc : Value} {f : Frm} (h : DecBox w wr F vl vg vc f) (t mh mt : Int) : DecBox w (((wr.setCell ⟨F, 4, none⟩ (.int .i64 t)).setCell ⟨F, 5, none⟩ (.int .i64 mh)).setCell ⟨F, 6, none⟩ (.int .i64 mt)) F vl vg vc { f with thread := t, mail := { f.mail with host := mh, thread := mt } } := by
  have h1 := heap_setCell (j := 4) h.box (.int .i64 t)
  have h2 := heap_setCell (j := 5) h1 (.int .i64 mh)
  have h3 := heap_setCell (j := 6) h2 (.int .i64 mt)
  refine ⟨((h.two.store h.far 4 _).store h.far 5 _).store h.far 6 _, h.far, h3, own_store (own_store (own_store h.lab h.box (by decide) 4 _) h1 (by decide) 5 _) h2 (by decide) 6 _, own_store (own_store (own_store h.gra h.box (by decide) 4 _) h1 (by decide) 5 _) h2 (by decide) 6 _, own_store (own_store (own_store h.crt h.box (by decide) 4 _) h1 (by decide) 5 _) h2 (by decide) 6 _, ?_⟩
  exact h.below.grown (grown_trans (grown_trans (grown_setCell wr F 4 _) (grown_setCell _ F 5 _)) (grown_setCell _ F 6 _)) h.below.size (fun k e => by have := Option.some.inj e; have := h.far; omega)

theorem DecBox.addL {w wr ws : World} {F : Nat} {vl vg vc v' : Value} {f : Frm} (h : DecBox w wr F vl vg vc f) {x y : Int} (hn : ws.ownsRow w.heap.size 55 2 v' (f.mail.label.length + 1) (flat2 f.mail.label ++ [.int .i64 x, .int .i64 y])) (hg : wr.grownBy ws vl.ownBlock) :
    DecBox w (ws.setCell ⟨F, 7, none⟩ v') F v' vg vc { f with mail := { f.mail with label := f.mail.label ++ [(x, y)] } } := by
  have hbox := heap_own h.box h.lab (by decide) hg
  refine ⟨(h.two.own h.lab (by decide) hg).store h.far 7 _, h.far, by rw [heap_setCell hbox]; rfl, ?_, own_store (own_own h.gra h.lab (by decide) hg) hbox (by decide) 7 _, own_store (own_own h.crt h.lab (by decide) hg) hbox (by decide) 7 _, ?_⟩
  · have := own_store hn hbox (by decide) 7 v'
    simpa [flat2_snoc] using this
  · exact (h.below.grown hg h.below.size (fun k e => own_base h.lab e)).grown (grown_setCell ws F 7 _) (Nat.le_trans h.below.size hg.size) (fun k e => by have := Option.some.inj e; have := h.far; omega)

theorem DecBox.addG {w wr ws : World} {F : Nat} {vl vg vc v' : Value} {f : Frm} (h : DecBox w wr F vl vg vc f) {x : Int} (hn : ws.ownsRow w.heap.size 3 1 v' (f.mail.grants.length + 1) (flat1 f.mail.grants ++ [.int .i64 x])) (hg : wr.grownBy ws vg.ownBlock) :
    DecBox w (ws.setCell ⟨F, 8, none⟩ v') F vl v' vc { f with mail := { f.mail with grants := f.mail.grants ++ [x] } } := by
  have hbox := heap_own h.box h.gra (by decide) hg
  refine ⟨(h.two.own h.gra (by decide) hg).store h.far 8 _, h.far, by rw [heap_setCell hbox]; rfl, own_store (own_own h.lab h.gra (by decide) hg) hbox (by decide) 8 _, ?_, own_store (own_own h.crt h.gra (by decide) hg) hbox (by decide) 8 _, ?_⟩
  · have := own_store hn hbox (by decide) 8 v'
    simpa [flat1_snoc] using this
  · exact (h.below.grown hg h.below.size (fun k e => own_base h.gra e)).grown (grown_setCell ws F 8 _) (Nat.le_trans h.below.size hg.size) (fun k e => by have := Option.some.inj e; have := h.far; omega)

theorem flat4_snocD (l : List Crt) (x : Crt) : flat4 (l ++ [x]) = flat4 l ++ [.int .i64 x.c, .int .i64 x.b, .int .i64 x.h, .int .i64 x.u] := by simp [flat4]
theorem DecBox.addC {w wr ws : World} {F : Nat} {vl vg vc v' : Value} {f : Frm} (h : DecBox w wr F vl vg vc f) {x : Crt} (hn : ws.ownsRow w.heap.size 39 4 v' (f.certs.length + 1) (flat4 f.certs ++ [.int .i64 x.c, .int .i64 x.b, .int .i64 x.h, .int .i64 x.u])) (hg : wr.grownBy ws vc.ownBlock) :
    DecBox w (ws.setCell ⟨F, 10, none⟩ v') F vl vg v' { f with certs := f.certs ++ [x] } := by
  have hbox := heap_own h.box h.crt (by decide) hg
  refine ⟨(h.two.own h.crt (by decide) hg).store h.far 10 _, h.far, by rw [heap_setCell hbox]; rfl, own_store (own_own h.lab h.crt (by decide) hg) hbox (by decide) 10 _, own_store (own_own h.gra h.crt (by decide) hg) hbox (by decide) 10 _, ?_, ?_⟩
  · have := own_store hn hbox (by decide) 10 v'
    simpa [flat4_snocD] using this
  · exact (h.below.grown hg h.below.size (fun k e => own_base h.crt e)).grown (grown_setCell ws F 10 _) (Nat.le_trans h.below.size hg.size) (fun k e => by have := Option.some.inj e; have := h.far; omega)

theorem dec_new {w w0 wz : World} {F : Nat} {f t q : Int} {k : Bool} (h2 : TwoAt w0 w.heap.size) (hb : Below w.heap.size w w0) (hsz : w0.heap.size = w.heap.size + 2) (hbw : Below w0.heap.size w0 wz) (hF : w0.heap.size ≤ F)
    (hbox : wz.heap[F]? = some (.cells #[.int .i64 f, .int .i64 t, .int .i64 q, .bool k, .int .i64 0, .int .i64 0, .int .i64 0, .slice none 0 0, .slice none 0 0, .string ⟨#[]⟩, .slice none 0 0] 29 (0, 0))) :
    DecBox w wz F (.slice none 0 0) (.slice none 0 0) (.slice none 0 0) ⟨f, t, q, k, 0, zeroMal, []⟩ :=
  ⟨h2.keep hbw, by omega, hbox, World.ownsRow_nil _ _ _ _, World.ownsRow_nil _ _ _ _, World.ownsRow_nil _ _ _ _, below_then hb hbw⟩

/-- the end of a way on which nothing is read -/
theorem zero_ret {w wr : World} {F : Nat} {vl vg vc : Value} {f : Frm} (h : DecBox w wr F vl vg vc f) : (st11 wr w.heap.size (.int .i64 0) (.int .i64 0) (.int .i64 0) (.bool false) (.int .i64 0) (.int .i64 0) (.int .i64 0) (.slice none 0 0) (.slice none 0 0) (.string ⟨#[]⟩) (.slice none 0 0)).heap[w.heap.size]? = some (.cells zero11 29 (0, 0)) ∧ Below w.heap.size w (st11 wr w.heap.size (.int .i64 0) (.int .i64 0) (.int .i64 0) (.bool false) (.int .i64 0) (.int .i64 0) (.int .i64 0) (.slice none 0 0) (.slice none 0 0) (.string ⟨#[]⟩) (.slice none 0 0)) := by
  have hS := st11_grown wr w.heap.size (.int .i64 0) (.int .i64 0) (.int .i64 0) (.bool false) (.int .i64 0) (.int .i64 0) (.int .i64 0) (.slice none 0 0) (.slice none 0 0) (.string ⟨#[]⟩) (.slice none 0 0)
  exact ⟨st11_heap (.int .i64 0) (.int .i64 0) (.int .i64 0) (.bool false) (.int .i64 0) (.int .i64 0) (.int .i64 0) (.slice none 0 0) (.slice none 0 0) (.string ⟨#[]⟩) (.slice none 0 0) h.two.1, h.below.grown hS h.below.size (fun k e => by have := Option.some.inj e; omega)⟩

/-- texts in a row -/
def strsV (rs : List (List UInt8)) : List Value := rs.map fun x => .string ⟨x.toArray⟩
theorem rowsV_strs (x : List UInt8) (sz n : Nat) : rowsV x sz n = strsV (rowsL x sz n) := by simp [rowsV, rowsL, strsV]
theorem rrows_row {s : List UInt8} {sz : Nat} (w : World) (hs : sz ≤ 9) {rs : List (List UInt8)} {q : List UInt8} (h : rowsP sz s = some (rs, q)) :
    (rs.length ≤ 255 ∧ ∀ j (_ : j < rs.length), rs[j].length = sz) ∧ Calls Try.prog 46 #[.string ⟨s.toArray⟩, .int .i64 sz] w fun e w' => ∃ p cap, e = .returned (.tuple #[.slice p rs.length cap, .string ⟨q.toArray⟩, .bool true]) ∧ w'.ownsRow w.heap.size 9 1 (.slice p rs.length cap) rs.length (strsV rs) ∧ Below w.heap.size w w' := by
  cases s with
  | nil => cases h
  | cons b r =>
    simp only [rowsP] at h
    split at h
    · cases h
    · rename_i hl
      injection h with h
      injection h with h1 h2
      subst h1
      subst h2
      have hb := b.toNat_lt
      refine ⟨⟨by rw [rowsL_length]; omega, fun j hj => ?_⟩, ?_⟩
      · rw [rowsL_length] at hj
        have := rowL_length (r.take (b.toNat * sz)) sz b.toNat j (by rw [List.length_take]; omega) hj
        simpa [rowsL] using this
      · refine (rrows_ok b r sz w hs (by omega)).mono ?_
        rintro e w' ⟨v', rfl, h1, h2⟩
        rw [rowsV_strs] at h1
        obtain ⟨p, cap, rfl, _⟩ := owns_cells h1
        refine ⟨p, cap, ?_, ?_, h2⟩
        · rw [rowsL_length]
        · rw [rowsL_length]; exact h1
theorem strs_get {w : World} {B : Nat} {p : Option Addr} {n cap : Nat} {rs : List (List UInt8)} (h : w.ownsRow B 9 1 (.slice p n cap) rs.length (strsV rs)) (k : Nat) (hk : k < rs.length) : ∃ g, p = some ⟨g, 0, none⟩ ∧ w.cell? ⟨g, k, none⟩ = some (.string ⟨rs[k].toArray⟩) := by
  obtain ⟨p', cap', e, _, h2⟩ := owns_cells h
  cases e
  obtain ⟨g, rfl, hc⟩ := h2 (by omega)
  exact ⟨g, rfl, hc k _ (by simp [strsV, hk])⟩
theorem cell_new {w : World} {o : Obj} {a : Addr} {v : Value} (h : w.cell? a = some v) : (w.alloc o).cell? a = some v := by
  rw [(below_box w o).cell (cell_block h), h]
theorem ix2 (a b : UInt8) : (∀ h : 0 < (⟨[a, b].toArray⟩ : ByteArray).size, (⟨[a, b].toArray⟩ : ByteArray)[0]'h = a) ∧ (∀ h : 1 < (⟨[a, b].toArray⟩ : ByteArray).size, (⟨[a, b].toArray⟩ : ByteArray)[1]'h = b) := ⟨fun _ => rfl, fun _ => rfl⟩
theorem ixh (a b : UInt8) (q : List UInt8) : (∀ h : 0 < (⟨(a :: b :: q).toArray⟩ : ByteArray).size, (⟨(a :: b :: q).toArray⟩ : ByteArray)[0]'h = a) ∧ (∀ h : 1 < (⟨(a :: b :: q).toArray⟩ : ByteArray).size, (⟨(a :: b :: q).toArray⟩ : ByteArray)[1]'h = b) := ⟨fun _ => rfl, fun _ => rfl⟩
theorem tail2 (a b : UInt8) (q : List UInt8) : (⟨(a :: b :: q).toArray⟩ : ByteArray).extract 2 (q.length + 1 + 1) = ⟨q.toArray⟩ := by
  rw [ByteArray.extract_mk]
  simp
theorem wrapb (b : UInt8) : IntKind.i64.wrap (b.toNat : Int) = (b.toNat : Int) := wrap_small (by omega) (by have := b.toNat_lt; omega)
theorem wrapb64 (b : UInt8) : wrap64 (b.toNat : Int) = (b.toNat : Int) := by have := b.toNat_lt; unfold wrap64; omega
theorem take_map_succ {α β : Type} (f : α → β) (l : List α) (k : Nat) (hk : k < l.length) : (l.take (k + 1)).map f = (l.take k).map f ++ [f l[k]] := by
  rw [List.take_succ_eq_append_getElem hk, List.map_append]
  rfl
end Go.Proofs.Ytagmnfghkfeplaa
