/- Plain facts on clusters: the certs and the frames under way are good, behind every act. -/
import Derived.Test.YtlbdaklmlknmbaaGreatUPlain
namespace Go.Proofs.Parclose
end Go.Proofs.Parclose
namespace Go.Proofs.Parclose
def MOwn (O : Int → Int → Int → Prop) (m : Mal) : Prop := ∀ g ∈ m.grants, O m.host m.thread g
def COwn (O : Int → Int → Int → Prop) (x : Crt) : Prop := 0 ≤ x.b ∧ x.b < 4 ∧ ∃ t : Nat, t < 4 ∧ O x.b t x.c
def FOwn (O : Int → Int → Int → Prop) (f : Frm) : Prop := MOwn O f.mail ∧ ∀ x ∈ f.certs, COwn O x
structure OwnC (O : Int → Int → Int → Prop) (C : Clu) : Prop where
 mails : ∀ (h : Nat) t, ∀ m ∈ (thrOf (C.ks h) t).mails, MOwn O m
 certs : ∀ (h : Nat), ∀ x ∈ C.certs h, COwn O x
 net : ∀ s ∈ C.net, ∃ f, frameE f = 0 ∧ s = encL f ∧ FOwn O f
 sent : ∀ (a b : Nat), ∀ s ∈ (C.lines a b).sent, FOwn O s.f
theorem MOwn.mono {O P : Int → Int → Int → Prop} (hp : ∀ h t c, O h t c → P h t c) {m : Mal} (h : MOwn O m) : MOwn P m := fun g hg => hp _ _ _ (h g hg)
theorem COwn.mono {O P : Int → Int → Int → Prop} (hp : ∀ h t c, O h t c → P h t c) {x : Crt} (h : COwn O x) : COwn P x := by
 obtain ⟨h0, h1, t, ht, e⟩ := h
 exact ⟨h0, h1, t, ht, hp _ _ _ e⟩
theorem FOwn.mono {O P : Int → Int → Int → Prop} (hp : ∀ h t c, O h t c → P h t c) {f : Frm} (h : FOwn O f) : FOwn P f := ⟨h.1.mono hp, fun x hx => (h.2 x hx).mono hp⟩
theorem OwnC.mono {O P : Int → Int → Int → Prop} (hp : ∀ h t c, O h t c → P h t c) {C : Clu} (h : OwnC O C) : OwnC P C :=
 ⟨fun a t m hm => (h.mails a t m hm).mono hp, fun a x hx => (h.certs a x hx).mono hp, fun s hs => by
  obtain ⟨f, h1, h2, h3⟩ := h.net s hs
  exact ⟨f, h1, h2, h3.mono hp⟩, fun a b s hs => (h.sent a b s hs).mono hp⟩
theorem freshO (O : Int → Int → Int → Prop) : OwnC O freshClu := by
 refine ⟨fun h t m hm => ?_, fun _ _ h => (by cases h), fun _ h => (by cases h), fun _ _ _ h => (by cases h)⟩
 have : (thrOf (freshKer h) t).mails = [] := by
  unfold thrOf getT freshKer
  split
  · generalize t.toNat = n
    match n with
    | 0 => rfl
    | 1 => rfl
    | 2 => rfl
    | 3 => rfl
    | n + 4 => rfl
  · rfl
 rw [show freshClu.ks h = freshKer h from rfl, this] at hm
 cases hm
section
variable {O : Int → Int → Int → Prop}
theorem putC_o {C : Clu} (h : OwnC O C) {f : Frm} (hf : FOwn O f) : OwnC O (putC C f) := by
 unfold putC
 split
 · rename_i h1
   refine ⟨h.mails, h.certs, fun s hs => ?_, h.sent⟩
   rcases List.mem_append.1 hs with e | e
   · exact h.net s e
   · exact ⟨f, h1.1, List.mem_singleton.1 e, hf⟩
 · exact h
theorem setLi_o {C : Clu} (h : OwnC O C) (a b : Int) {l : Lne} (hl : ∀ s ∈ l.sent, FOwn O s.f) : OwnC O (setLi C a b l) := by
 refine ⟨h.mails, h.certs, h.net, fun x y => ?_⟩
 show ∀ s ∈ (if x = a.toNat ∧ y = b.toNat then l else C.lines x y).sent, FOwn O s.f
 split
 · exact hl
 · exact h.sent x y
theorem addC_o {C : Clu} (h : OwnC O C) (a : Int) {x : Crt} (hx : COwn O x) : OwnC O (addC C a x).1 := by
 unfold addC
 split
 · rename_i h1
   refine ⟨h.mails, fun g y hy => ?_, h.net, h.sent⟩
   replace hy : y ∈ (if g = a.toNat then (addL (crtC C a) x).1 else C.certs g) := hy
   split at hy
   · rcases ((addL_good h1).2.2.2.2 y).1 hy with e | e
     · exact h.certs _ y e
     · rw [e]; exact hx
   · exact h.certs g y hy
 · exact h
theorem takeC_o : ∀ (l : List Crt) {C : Clu} (_ : OwnC O C) (a : Int) (_ : ∀ x ∈ l, COwn O x), OwnC O (takeC C a l)
 | [], _, h, _, _ => h
 | x :: r, _, h, a, hl => takeC_o r (addC_o h a (hl x (by simp))) a (fun y hy => hl y (List.mem_cons_of_mem _ hy))
theorem setK_o {C : Clu} (h : OwnC O C) (a : Int) {K : Ker} (hK : ∀ t, ∀ m ∈ (thrOf K t).mails, MOwn O m) : OwnC O (setK C a K) := by
 refine ⟨fun g t m hm => ?_, h.certs, h.net, h.sent⟩
 replace hm : m ∈ (thrOf (if g = a.toNat then K else C.ks g) t).mails := hm
 split at hm
 · exact hK t m hm
 · exact h.mails g t m hm
theorem deliver_o {K : Ker} {t : Int} {m : Mal} (hK : ∀ t, ∀ m ∈ (thrOf K t).mails, MOwn O m) (hm : MOwn O m) : ∀ u, ∀ x ∈ (thrOf (deliverL K t m) u).mails, MOwn O x := fun u x hx => by
 rcases deliverL_mails K t m u with q | ⟨_, _, _, _, q⟩
 · rw [q] at hx; exact hK u x hx
 · rw [q] at hx
   rcases List.mem_append.1 hx with e | e
   · exact hK u x e
   · rw [List.mem_singleton.1 e]; exact hm
theorem awayC_o {C : Clu} (h : OwnC O C) (fr to t : Int) {m : Mal} (hm : MOwn O m) : OwnC O (awayC C fr to t m).1 := by
 unfold awayC
 split
 · dsimp only
   have hf : ∀ q, FOwn O ⟨fr, to, q, false, t, m, showL (crtC C fr) m⟩ := fun q => ⟨hm, fun x hx => h.certs _ x ((List.mem_filter.1 hx).1)⟩
   split
   · rename_i h1
     refine putC_o (setLi_o h _ _ fun s hs => ?_) ?_
     · unfold sendLn at hs h1
       split at hs
       · split at hs
         · exact h.sent _ _ s hs
         · rcases List.mem_append.1 hs with e | e
           · exact h.sent _ _ s e
           · rw [List.mem_singleton.1 e]; exact hf _
       · exact h.sent _ _ s hs
     · unfold sendLn at h1 ⊢
       split
       · rename_i h2
         rw [if_pos h2] at h1
         split
         · rename_i h3
           rw [if_pos h3] at h1
           cases h1
         · exact hf _
       · rename_i h2
         rw [if_neg h2] at h1
         cases h1
   · exact h
 · exact h
theorem letter_o {C : Clu} (hO : ∀ (h : Nat), h < 4 → ∀ t c, c ∈ (thrOf (C.ks h) t).own → O h t c) (hh : HostC C) {a t : Int} (ha : hostB a = true) {c : Cal} (h : (letterL (kerC C a) t c).2 = 0) : MOwn O (letterL (kerC C a) t c).1 := by
 have h4 : 0 ≤ a ∧ a < 4 := of_decide_eq_true ha
 obtain ⟨th, e1, e2, _, e4, _⟩ := letterL_sent h
 rw [e2]
 intro g hg
 have := hO a.toNat (by omega) t g (by
  have : thrOf (C.ks a.toNat) t = th := thrOf_some e1
  rw [this]; exact e4 g hg)
 show O (kerC C a).host t g
 rw [show (kerC C a).host = ((a.toNat : Nat) : Int) from hh _]
 exact this
theorem sendC_o {C : Clu} (h : OwnC O C) (hO : ∀ (h : Nat), h < 4 → ∀ t c, c ∈ (thrOf (C.ks h) t).own → O h t c) (hh : HostC C) (a t : Int) (c : Cal) (ha : hostB a = true) : OwnC O (sendC C a t c).1 := by
 unfold sendC
 split
 · exact h
 · split
   · split
     · rename_i h1
       have hm := letter_o hO hh ha h1
       split
       · exact setK_o h _ (deliver_o (fun t m hm => h.mails _ t m hm) hm)
       · exact awayC_o h _ _ _ hm
     · exact h
   · exact h
theorem certifyC_o {C : Clu} (h : OwnC O C) (hO : ∀ (h : Nat), h < 4 → ∀ t c, c ∈ (thrOf (C.ks h) t).own → O h t c) (a t : Int) (c : Cal) (ha : hostB a = true) (ht : hostB t = true) : OwnC O (certifyC C a t c).1 := by
 unfold certifyC
 split
 · split
   · rename_i h1
     have h4 : 0 ≤ a ∧ a < 4 := of_decide_eq_true ha
     have t4 : 0 ≤ t ∧ t < 4 := of_decide_eq_true ht
     refine addC_o h _ ⟨h4.1, h4.2, t.toNat, by omega, ?_⟩
     have := hO a.toNat (by omega) t c.c (by simpa [thrOf, kerC] using h1)
     show O a _ c.c
     rw [show ((t.toNat : Nat) : Int) = t by omega, show a = ((a.toNat : Nat) : Int) by omega]
     exact this
   · exact h
 · exact h
theorem callC_o {C : Clu} (h : OwnC O C) (hO : ∀ (h : Nat), h < 4 → ∀ t c, c ∈ (thrOf (C.ks h) t).own → O h t c) (hh : HostC C) (hg : GoodC C) (a t : Int) (c : Cal) : OwnC O (callC C a t c).1 := by
 unfold callC
 split
 · rename_i h1
   rw [Bool.and_eq_true] at h1
   have t4 : 0 ≤ t ∧ t < 4 := of_decide_eq_true h1.2
   split
   · exact sendC_o h hO hh _ _ _ h1.1
   · split
     · exact certifyC_o h hO _ _ _ h1.1 h1.2
     · refine setK_o h _ fun u m hm => ?_
       have hn : t.toNat < (kerC C a).ths.length := by rw [(hg.ker h1.1).four]; omega
       obtain ⟨k, hk⟩ := callL_mails hn c u
       rw [show ((t.toNat : Nat) : Int) = t by omega] at hk
       rw [hk] at hm
       exact h.mails _ u m (List.mem_of_mem_drop hm)
 · exact h
theorem acceptC_o {C : Clu} (h : OwnC O C) {f : Frm} (hf : FOwn O f) : OwnC O (acceptC C f) := by
 unfold acceptC
 dsimp only
 have hT := takeC_o f.certs h f.to hf.2
 split
 · exact setK_o hT _ (deliver_o (fun t m hm => hT.mails _ t m hm) hf.1)
 · exact hT
theorem take_sent (l : Lne) (q : Int) : (takeLn l q).1.sent = l.sent := by
 unfold takeLn
 (repeat' split) <;> rfl
theorem ans_sent (l : Lne) (q : Int) : ∀ s ∈ (ansLn l q).1.sent, s ∈ l.sent := fun s hs => by
 unfold ansLn at hs
 split at hs
 · split at hs
   · exact hs
   · exact (List.mem_filter.1 hs).1
 · exact hs
theorem ack_own (a b q : Int) : FOwn O ⟨a, b, q, true, 0, zeroMal, []⟩ := ⟨fun g hg => (by cases hg), fun _ h => by cases h⟩
theorem comeC_o {C : Clu} (h : OwnC O C) {s : List UInt8} (hs : ∃ f, frameE f = 0 ∧ s = encL f ∧ FOwn O f) : OwnC O (comeC C s) := by
 obtain ⟨f, hf, rfl, hfo⟩ := hs
 unfold comeC
 rw [back f hf]
 rw [if_pos rfl]
 dsimp only
 split
 · exact setLi_o h _ _ fun s hs => h.sent _ _ s (ans_sent _ _ s hs)
 · have hD : OwnC O (setLi C f.fr f.to (takeLn (lineC C f.fr f.to) f.seq).1) := setLi_o h _ _ fun s hs => h.sent _ _ s (by rw [take_sent] at hs; exact hs)
   have hE : ∀ (b : Prop) [Decidable b], OwnC O (if b then putC (setLi C f.fr f.to (takeLn (lineC C f.fr f.to) f.seq).1) ⟨f.to, f.fr, f.seq, true, 0, zeroMal, []⟩ else (setLi C f.fr f.to (takeLn (lineC C f.fr f.to) f.seq).1)) := fun b _ => by
    split
    · exact putC_o hD (ack_own _ _ _)
    · exact hD
   split
   · exact acceptC_o (hE _) hfo
   · exact hE _
theorem moveC_o {C : Clu} (h : OwnC O C) (kind n : Int) : OwnC O (moveC C kind n).1 := by
 unfold moveC
 split
 · rename_i h5
   dsimp only
   have hmem : C.net.getD n.toNat [] ∈ C.net := by
    rw [List.getD_eq_getElem?_getD, List.getElem?_eq_getElem (by omega)]
    exact List.getElem_mem _
   have hD : ∀ (b : Prop) [Decidable b], OwnC O (if b then C else { C with net := C.net.take n.toNat ++ C.net.drop (n.toNat + 1) }) := fun b _ => by
    split
    · exact h
    · refine ⟨h.mails, h.certs, fun s hs => h.net s ?_, h.sent⟩
      rcases List.mem_append.1 hs with e | e
      · exact List.mem_of_mem_take e
      · exact List.mem_of_mem_drop e
   split
   · exact hD _
   · exact comeC_o (hD _) (h.net _ hmem)
 · exact h
theorem foldl_put_o : ∀ (l : List Frm) {C : Clu} (_ : OwnC O C) (_ : ∀ f ∈ l, FOwn O f), OwnC O (l.foldl putC C)
 | [], _, h, _ => h
 | f :: r, _, h, hl => foldl_put_o r (putC_o h (hl f (by simp))) (fun g hg => hl g (List.mem_cons_of_mem _ hg))
theorem again_sent (l : Lne) (now : Int) : (∀ s ∈ (againLn l now).1.sent, ∃ s' ∈ l.sent, s.f = s'.f) ∧ ∀ f ∈ (againLn l now).2.1, ∃ s' ∈ l.sent, f = s'.f := by
 unfold againLn
 split
 · refine ⟨fun s hs => ?_, fun f hf => ?_⟩
   · obtain ⟨s', h1, h2⟩ := List.mem_flatMap.1 hs
     refine ⟨s', h1, ?_⟩
     unfold againS at h2
     split at h2
     · rw [List.mem_singleton.1 h2]
     · split at h2
       · cases h2
       · rw [List.mem_singleton.1 h2]
   · obtain ⟨s', h1, h2⟩ := List.mem_flatMap.1 hf
     refine ⟨s', h1, ?_⟩
     unfold againF at h2
     split at h2
     · cases h2
     · split at h2
       · cases h2
       · exact List.mem_singleton.1 h2
 · exact ⟨fun s hs => ⟨s, hs, rfl⟩, fun _ h => by cases h⟩
theorem againC_o {C : Clu} (h : OwnC O C) (a b : Int) : OwnC O (againC C a b).1 := by
 unfold againC
 obtain ⟨h1, h2⟩ := again_sent (lineC C a b) C.now
 refine foldl_put_o _ (setLi_o h _ _ fun s hs => ?_) fun f hf => ?_
 · obtain ⟨s', e1, e2⟩ := h1 s hs
   rw [e2]; exact h.sent _ _ s' e1
 · obtain ⟨s', e1, e2⟩ := h2 f hf
   rw [e2]; exact h.sent _ _ s' e1
theorem foldl_again_o : ∀ (l : List (Int × Int)) (s : Clu × Nat) (_ : OwnC O s.1), OwnC O (l.foldl (fun (s : Clu × Nat) ab => ((againC s.1 ab.1 ab.2).1, s.2 + (againC s.1 ab.1 ab.2).2)) s).1
 | [], _, h => h
 | x :: r, s, h => by
  rw [List.foldl_cons]
  exact foldl_again_o r _ (againC_o h _ _)
theorem tickC_o {C : Clu} (h : OwnC O C) (n : Int) : OwnC O (tickC C n).1 := by
 unfold tickC
 split
 · dsimp only
   exact foldl_again_o _ _ ⟨h.mails, h.certs, h.net, h.sent⟩
 · exact h
theorem doC_o1 {C : Clu} (h : OwnC O C) (hO : ∀ (h : Nat), h < 4 → ∀ t c, c ∈ (thrOf (C.ks h) t).own → O h t c) (hh : HostC C) (hg : GoodC C) (a : Ac) : OwnC O (doC C a).1 := by
 unfold doC
 split
 · exact h
 · rename_i h3
   dsimp only
   have hD : OwnC O { C with acts := C.acts + 1 } := ⟨h.mails, h.certs, h.net, h.sent⟩
   split
   · exact callC_o hD hO hh ⟨hg.ks, hg.now, by show C.acts + 1 ≤ 300; omega, hg.net⟩ _ _ _
   · split
     · exact moveC_o hD _ _
     · split
       · exact tickC_o hD _
       · exact hD
end
def ownsC (C : Clu) : Int → Int → Int → Prop := fun h t c => 0 ≤ h ∧ h < 4 ∧ c ∈ (thrOf (C.ks h.toNat) t).own
theorem ownsC_grows {C : Clu} (hg : GoodC C) (a : Ac) : ∀ h t c, ownsC C h t c → ownsC (doC C a).1 h t c := fun h t c ⟨h0, h1, h2⟩ => ⟨h0, h1, (doC_granted hg a h.toNat (by omega) t c).2.1 h2⟩
theorem doC_owned {C : Clu} (hg : GoodC C) (hh : HostC C) (h : OwnC (ownsC C) C) (a : Ac) : OwnC (ownsC (doC C a).1) (doC C a).1 :=
 doC_o1 (h.mono (ownsC_grows hg a)) (fun g h4 t c hc => ownsC_grows hg a g t c ⟨by omega, by omega, by rw [Int.toNat_natCast]; exact hc⟩) hh hg a
theorem playC_owned : ∀ (l : List Ac) {C : Clu} (_ : GoodC C) (_ : HostC C) (_ : OwnC (ownsC C) C), OwnC (ownsC (playC C l)) (playC C l)
 | [], _, _, _, h => h
 | a :: r, _, hg, hh, h => playC_owned r (doC_good hg a) (doC_h hh a) (doC_owned hg hh h a)
end Go.Proofs.Parclose
