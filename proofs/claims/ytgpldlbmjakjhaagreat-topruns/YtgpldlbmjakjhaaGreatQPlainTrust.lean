/- Plain facts on threads and kernels: what a call does; no program is named here. -/
import Derived.Test.YtgpldlbmjakjhaaGreatQPlainBack
import Derived.Test.YtgpldlbmjakjhaaGreatQPlain
import Derived.Test.YtgpldlbmjakjhaaGreatQPlainWire
import Derived.Test.YtgpldlbmjakjhaaGreatQCat
import Derived.Deep.RegionHeld3
import Derived.Test.YtgpldlbmjakjhaaGreatQPlainLine
namespace Go.Proofs.Parclose

structure Obt where
  label : List (Int × Int)
  text : List UInt8

structure Thr where
  label : List (Int × Int)
  own : List Int
  text : List UInt8
  objs : List Obt
  mails : List Mal

structure Ker where
  host : Int
  made : Int
  ths : List Thr

structure Cal where
  kind : Int
  h : Int
  t : Int
  n : Int
  c : Int
  label : List (Int × Int)
  grants : List Int
  text : List UInt8

structure Rep where
  code : Int
  n : Int
  text : List UInt8

def zeroThr : Thr := ⟨[], [], [], [], []⟩
def freshKer (h : Int) : Ker := ⟨h, 0, [zeroThr, zeroThr, zeroThr, zeroThr]⟩
def code (e : Int) : Rep := ⟨e, 0, []⟩
/-- the last of a text -/
def lastL (x : List UInt8) : List UInt8 := x.drop (x.length - 64)
theorem lastL_len (x : List UInt8) : (lastL x).length ≤ 64 := by unfold lastL; rw [List.length_drop]; omega
theorem lastL_short {x : List UInt8} (h : x.length ≤ 64) : lastL x = x := by unfold lastL; rw [show x.length - 64 = 0 by omega]; rfl

/-- a category more -/
def insL (l : List Int) (c : Int) : List Int := l.take (l.countP (· < c)) ++ c :: l.drop (l.countP (· < c))
/-- to own a category more: the error, and what is owned -/
def ownL (l : List Int) (c : Int) : Int × List Int := if l.contains c then (0, l) else if 8 ≤ l.length then (5, l) else (0, insL l c)

/-- what forbids a thread to send mail -/
def mayL (th : Thr) (m : Mal) : Int := if mailE m = 0 then (if m.grants.all (th.own.contains ·) then (if flowsL th.label m.label th.own then 0 else 6) else 7) else mailE m

def getT (K : Ker) (t : Int) : Option Thr := if 0 ≤ t then K.ths[t.toNat]? else none
def setT (K : Ker) (t : Int) (th : Thr) : Ker := { K with ths := K.ths.set t.toNat th }

def letterM (K : Ker) (t : Int) (c : Cal) (th : Thr) : Mal := ⟨K.host, t, c.label, c.grants, lastL (th.text ++ c.text)⟩
def letterL (K : Ker) (t : Int) (c : Cal) : Mal × Int :=
  match getT K t with
  | none => (zeroMal, 4)
  | some th => if mayL th (letterM K t c th) = 0 then (letterM K t c th, 0) else (zeroMal, mayL th (letterM K t c th))

/-- mail into a box -/
def boxL (th : Thr) (m : Mal) : Thr := if mailE m = 0 ∧ flowsL m.label th.label th.own = true ∧ th.mails.length < 6 then { th with mails := th.mails ++ [m] } else th
def deliverL (K : Ker) (t : Int) (m : Mal) : Ker :=
  match getT K t with
  | none => K
  | some th => setT K t (boxL th m)

/-- grants, one by one, up to the first for which there is no room -/
def grantL : List Int → List Int → List Int
  | [], o => o
  | c :: r, o => if (ownL o c).1 = 0 then grantL r (ownL o c).2 else o
def readL (th : Thr) (m : Mal) : Thr := { th with text := lastL (th.text ++ m.text), own := grantL m.grants th.own }
/-- mail by mail -/
def takeL (th : Thr) : List Mal → Thr × Rep
  | [] => ({ th with mails := [] }, code 4)
  | m :: r => if flowsL m.label th.label th.own then ({ readL th m with mails := r }, ⟨0, m.host * 4 + m.thread, []⟩) else takeL th r

def objectL (th : Thr) (l : List (Int × Int)) : Thr × Rep :=
  if goodB l then (if flowsL th.label l th.own then (if 4 ≤ th.objs.length then (th, code 5) else ({ th with objs := th.objs ++ [⟨l, []⟩] }, ⟨0, (th.objs.length : Int), []⟩)) else (th, code 6)) else (th, code 2)
def levelL (th : Thr) (c n : Int) : Thr × Int :=
  if setE th.label c n = 0 then (if flowsL th.label (setL th.label c n) th.own then ({ th with label := setL th.label c n }, 0) else (th, 6)) else (th, setE th.label c n)
/-- the object n of a thread -/
def objAt (K : Ker) (t n : Int) : Option Obt :=
  match getT K t with
  | none => none
  | some th => if 0 ≤ n then th.objs[n.toNat]? else none
def putO (th : Thr) (n : Int) (x : List UInt8) : Thr := { th with objs := th.objs.modify n.toNat fun o => { o with text := x } }
def putL (K : Ker) (th : Thr) (c : Cal) : Ker :=
  match getT K c.t, objAt K c.t c.n with
  | some u, some o => if flowsL th.label o.label th.own then setT K c.t (putO u c.n (lastL (th.text ++ c.text))) else K
  | _, _ => K
def getL (K : Ker) (t : Int) (th : Thr) (c : Cal) : Ker × Rep :=
  match objAt K c.t c.n with
  | none => (K, code 4)
  | some o => if flowsL o.label th.label th.own then (setT K t { th with text := lastL (th.text ++ o.text) }, ⟨0, (o.text.length : Int), []⟩) else (K, code 4)
def categoryL (K : Ker) (t : Int) (th : Thr) : Ker × Rep :=
  if 20 ≤ K.made then (K, code 5)
  else if (ownL th.own (K.host * 20 + K.made)).1 = 0 then ({ setT K t { th with own := (ownL th.own (K.host * 20 + K.made)).2 } with made := K.made + 1 }, ⟨0, K.host * 20 + K.made, []⟩)
  else (K, code (ownL th.own (K.host * 20 + K.made)).1)

def callT (K : Ker) (t : Int) (th : Thr) (c : Cal) : Ker × Rep :=
  if 64 < c.text.length then (K, code 9)
  else if c.kind = 1 then categoryL K t th
  else if c.kind = 2 then (setT K t (objectL th c.label).1, (objectL th c.label).2)
  else if c.kind = 3 then (putL K th c, code 0)
  else if c.kind = 4 then getL K t th c
  else if c.kind = 5 then (setT K t (levelL th c.c c.n).1, code (levelL th c.c c.n).2)
  else if c.kind = 7 then (setT K t (takeL th th.mails).1, (takeL th th.mails).2)
  else if c.kind = 9 then (setT K t { th with text := lastL c.text }, code 0)
  else if c.kind = 10 then (K, ⟨0, 0, th.text⟩)
  else (K, code 3)
def callL (K : Ker) (t : Int) (c : Cal) : Ker × Rep :=
  match getT K t with
  | none => (K, code 4)
  | some th => callT K t th c
end Go.Proofs.Parclose

namespace Go.Proofs.Parclose

theorem Crt.ext4 {x y : Crt} (h1 : x.c = y.c) (h2 : x.b = y.b) (h3 : x.h = y.h) (h4 : x.u = y.u) : x = y := by
  cases x; cases y
  simp_all

instance : DecidableEq Crt := fun x y =>
  if h : x.c = y.c ∧ x.b = y.b ∧ x.h = y.h ∧ x.u = y.u then isTrue (Crt.ext4 h.1 h.2.1 h.2.2.1 h.2.2.2) else isFalse fun e => h (by subst e; exact ⟨rfl, rfl, rfl, rfl⟩)

/-- what == says of two certs -/
def sameC (x y : Crt) : Bool := x.c == y.c && x.b == y.b && x.h == y.h && x.u == y.u
theorem sameC_iff (x y : Crt) : sameC x y = true ↔ x = y := by
  unfold sameC
  simp only [Bool.and_eq_true, beq_iff_eq]
  constructor
  · rintro ⟨⟨⟨h1, h2⟩, h3⟩, h4⟩
    exact Crt.ext4 h1 h2 h3 h4
  · rintro rfl
    exact ⟨⟨⟨rfl, rfl⟩, rfl⟩, rfl⟩

/-- a good list of certs -/
def goodCs (l : List Crt) : Prop := l.length ≤ 24 ∧ (∀ x ∈ l, certB x = true) ∧ l.Nodup
instance (l : List Crt) : Decidable (goodCs l) := by unfold goodCs; infer_instance
def csB (l : List Crt) : Bool := decide (goodCs l)

theorem csB_long {l : List Crt} (h : 24 < l.length) : csB l = false := decide_eq_false fun g => by have := g.1; omega
theorem csB_bad {l : List Crt} {k : Nat} (hk : k < l.length) (h : certB l[k] = false) : csB l = false := decide_eq_false fun g => by
  have := g.2.1 l[k] (List.getElem_mem hk)
  rw [h] at this
  cases this
theorem csB_twice {l : List Crt} {k : Nat} (hk : k < l.length) (h : l[k] ∈ l.take k) : csB l = false := decide_eq_false fun g => by
  obtain ⟨j, hj, e⟩ := List.mem_iff_getElem.1 h
  rw [List.length_take] at hj
  rw [List.getElem_take] at e
  exact List.pairwise_iff_getElem.1 g.2.2 j k (by omega) hk (by omega) e
theorem csB_all {l : List Crt} (h24 : l.length ≤ 24) (h1 : ∀ j (hj : j < l.length), certB l[j] = true) (h2 : ∀ j (hj : j < l.length), l[j] ∉ l.take j) : csB l = true := decide_eq_true ⟨h24, fun x hx => by
  obtain ⟨j, hj, rfl⟩ := List.mem_iff_getElem.1 hx
  exact h1 j hj, by
  rw [List.nodup_iff_pairwise_ne, List.pairwise_iff_getElem]
  intro i j hi hj hij e
  refine h2 j hj ?_
  rw [← e]
  exact List.mem_iff_getElem.2 ⟨i, by rw [List.length_take]; omega, by rw [List.getElem_take]⟩⟩

/-- with a cert more: the list, and the errors number -/
def addL (l : List Crt) (x : Crt) : List Crt × Int :=
  if goodCs l ∧ certB x = true then (if x ∈ l then (l, 0) else if 24 ≤ l.length then ([], 5) else (l ++ [x], 0)) else ([], 2)

/-- who is trusted: the one who made it, and whom one of these names -/
inductive Reach (l : List Crt) (c now : Int) : Int → Prop
  | home : Reach l c now (c / 20)
  | step {x : Crt} : Reach l c now x.b → x ∈ l → x.c = c → now ≤ x.u → Reach l c now x.h

theorem Reach.more {l l' : List Crt} {c now h : Int} (hr : Reach l c now h) (hl : ∀ x ∈ l, x.c = c → now ≤ x.u → x ∈ l') : Reach l' c now h := by
  induction hr with
  | home => exact .home
  | step h1 h2 h3 h4 ih => exact .step ih (hl _ h2 h3 h4) h3 h4
def Trusts (l : List Crt) (c now h : Int) : Prop := catB c = true ∧ goodCs l ∧ Reach l c now h
open Classical in
noncomputable def trB (l : List Crt) (c now h : Int) : Bool := decide (Trusts l c now h)
theorem trB_iff (l : List Crt) (c now h : Int) : trB l c now h = true ↔ Trusts l c now h := by unfold trB; exact @decide_eq_true_iff _ (_)
theorem trB_nocat {l : List Crt} {c now h : Int} (hc : catB c = false) : trB l c now h = false := by
  rw [← Bool.not_eq_true, trB_iff]
  rintro ⟨h1, _⟩
  rw [hc] at h1
  cases h1
theorem trB_bad {l : List Crt} {c now h : Int} (hc : csB l = false) : trB l c now h = false := by
  rw [← Bool.not_eq_true, trB_iff]
  rintro ⟨_, h1, _⟩
  rw [show csB l = true from decide_eq_true h1] at hc
  cases hc

/-- while the row is gone through: the hosts that are marked, the row, how many were asked -/
structure Work (l : List Crt) (c now : Int) (b : Int → Bool) (row : List Int) : Prop where
  home : b (c / 20) = true
  mark : ∀ h, 0 ≤ h → h < 4 → (b h = true ↔ h ∈ row)
  host : ∀ h ∈ row, 0 ≤ h ∧ h < 4
  once : row.Nodup
  real : ∀ h ∈ row, Reach l c now h

theorem count_four (row : List Int) (h2 : ∀ h ∈ row, 0 ≤ h ∧ h < 4) : row.length = row.count 0 + row.count 1 + row.count 2 + row.count 3 := by
  induction row with
  | nil => rfl
  | cons x r ih =>
    have h := ih fun y hy => h2 y (List.mem_cons_of_mem _ hy)
    have hx := h2 x List.mem_cons_self
    have : x = 0 ∨ x = 1 ∨ x = 2 ∨ x = 3 := by omega
    rcases this with rfl | rfl | rfl | rfl <;> simp <;> omega
theorem nodup_count {row : List Int} (h1 : row.Nodup) (a : Int) : row.count a ≤ 1 := by
  induction row with
  | nil => simp
  | cons x r ih =>
    have h := List.nodup_cons.1 h1
    have := ih h.2
    rw [List.count_cons]
    by_cases e : x = a
    · subst e
      have : r.count x = 0 := List.count_eq_zero.2 h.1
      simp [this]
    · simp [e]; omega
theorem nodup_four {row : List Int} (h1 : row.Nodup) (h2 : ∀ h ∈ row, 0 ≤ h ∧ h < 4) : row.length ≤ 4 := by
  have h := count_four row h2
  have := nodup_count h1 0
  have := nodup_count h1 1
  have := nodup_count h1 2
  have := nodup_count h1 3
  omega

theorem Work.four {l : List Crt} {c now : Int} {b : Int → Bool} {row : List Int} (h : Work l c now b row) : row.length ≤ 4 := nodup_four h.once h.host

/-- the cert x is asked already: whom it names is marked -/
def Asked (c now : Int) (b : Int → Bool) (h : Int) (x : Crt) : Prop := x.c = c → x.b = h → now ≤ x.u → b x.h = true

theorem Work.start {l : List Crt} {c now : Int} (hc : catB c = true) (b : Int → Bool) (hb : ∀ h, 0 ≤ h → h < 4 → b h = decide (h = c / 20)) : Work l c now b [c / 20] := by
  have hc' : 0 ≤ c ∧ c < 80 := of_decide_eq_true hc
  have h1 : 0 ≤ c / 20 ∧ c / 20 < 4 := by omega
  refine ⟨by rw [hb _ h1.1 h1.2]; simp, fun h g1 g2 => by rw [hb h g1 g2]; simp, fun h hh => ?_, by simp, fun h hh => ?_⟩
  · rw [List.mem_singleton.1 hh]; exact h1
  · rw [List.mem_singleton.1 hh]; exact .home

theorem Work.put {l : List Crt} {c now : Int} {b b' : Int → Bool} {row : List Int} (w : Work l c now b row) {x : Crt} (hx : x ∈ l) (hc : x.c = c) (hr : x.b ∈ row) (hu : now ≤ x.u) (hb : b x.h = false) (hh : 0 ≤ x.h ∧ x.h < 4)
    (hb' : ∀ h, 0 ≤ h → h < 4 → b' h = (b h || decide (h = x.h))) (hc2 : 0 ≤ c / 20 ∧ c / 20 < 4) : Work l c now b' (row ++ [x.h]) := by
  have hn : x.h ∉ row := fun h => by
    have := (w.mark x.h hh.1 hh.2).2 h
    rw [hb] at this
    cases this
  refine ⟨by rw [hb' _ hc2.1 hc2.2, w.home]; rfl, fun h g1 g2 => ?_, fun h hh' => ?_, ?_, fun h hh' => ?_⟩
  · rw [hb' h g1 g2, Bool.or_eq_true, decide_eq_true_iff, w.mark h g1 g2, List.mem_append, List.mem_singleton]
  · rcases List.mem_append.1 hh' with g | g
    · exact w.host h g
    · rw [List.mem_singleton.1 g]; exact hh
  · rw [List.nodup_append]
    refine ⟨w.once, by simp, fun a ha b hb2 => ?_⟩
    rw [List.mem_singleton.1 hb2]
    rintro rfl
    exact hn ha
  · rcases List.mem_append.1 hh' with g | g
    · exact w.real h g
    · rw [List.mem_singleton.1 g]; exact .step (w.real _ hr) hx hc hu

/-- when all of the row are asked, the marks say who is trusted -/
theorem Work.done {l : List Crt} {c now : Int} {b : Int → Bool} {row : List Int} (w : Work l c now b row) (hc : catB c = true) (hg : goodCs l) (ha : ∀ h ∈ row, ∀ x ∈ l, Asked c now b h x) (h : Int) (h1 : 0 ≤ h) (h2 : h < 4) : b h = trB l c now h := by
  have hc' : 0 ≤ c ∧ c < 80 := of_decide_eq_true hc
  have hall : ∀ g, Reach l c now g → (0 ≤ g ∧ g < 4) ∧ b g = true := by
    intro g hr
    induction hr with
    | home => exact ⟨by omega, w.home⟩
    | @step x _ hx hxc hxu ih =>
      have hcx := hg.2.1 x hx
      unfold certB twoB hostB at hcx
      simp only [Bool.and_eq_true, decide_eq_true_iff] at hcx
      exact ⟨hcx.1.2.1.2, ha x.b ((w.mark x.b ih.1.1 ih.1.2).1 ih.2) x hx hxc rfl hxu⟩
  cases hb : b h with
  | true => exact ((trB_iff _ _ _ _).2 ⟨hc, hg, w.real h ((w.mark h h1 h2).1 hb)⟩).symm
  | false =>
    cases ht : trB l c now h with
    | false => rfl
    | true =>
      have := (hall h ((trB_iff _ _ _ _).1 ht).2.2).2
      rw [hb] at this
      cases this

/-- what mail names -/
def namesL (m : Mal) : List Int := Lib.compact ((m.label.map (·.1) ++ m.grants).mergeSort fun x y => decide (x ≤ y))
theorem namesL_rises (m : Mal) : (namesL m).Pairwise (· < ·) := by
  unfold namesL Lib.compact
  have hs := List.pairwise_mergeSort (le := fun x y : Int => decide (x ≤ y)) (by intro x y z; simp; omega) (by intro x y; simp; omega) (m.label.map (·.1) ++ m.grants)
  refine compactUpTo_rises _ ?_ _ (by simp)
  intro i j hij hj
  rw [getElem!_pos _ i (by omega), getElem!_pos _ j hj]
  by_cases e : i = j
  · subst e; omega
  · have := (List.pairwise_iff_getElem.1 hs) i j (by simp at hj ⊢; omega) (by simpa using hj) (by omega)
    simpa using this
theorem namesL_length (m : Mal) : (namesL m).length ≤ m.label.length + m.grants.length := by
  unfold namesL Lib.compact Lib.compactUpTo
  have h1 := List.length_filter_le (Lib.keeps ((m.label.map (·.1) ++ m.grants).mergeSort fun x y => decide (x ≤ y)).toArray) (List.range ((m.label.map (·.1) ++ m.grants).mergeSort fun x y => decide (x ≤ y)).length)
  simp at h1 ⊢
  exact h1

noncomputable def mayB (l : List Crt) (h : Int) (m : Mal) (now : Int) : Bool := hostB h && (namesL m).all fun c => trB l c now h
def showL (l : List Crt) (m : Mal) : List Crt := l.filter fun x => decide (x.c ∈ namesL m)

theorem mayB_iff (l : List Crt) (h : Int) (m : Mal) (now : Int) : mayB l h m now = true ↔ hostB h = true ∧ ∀ c ∈ namesL m, Trusts l c now h := by
  unfold mayB
  rw [Bool.and_eq_true, List.all_eq_true]
  simp only [trB_iff]

end Go.Proofs.Parclose

namespace Go.Proofs.YtgpldlbmjakjhaaGreat
open Go.RowKit Go.Proofs.Parclose

theorem eql_cert (x y : Crt) (w : World) : (binOp .eql 78 (.agg #[.int .i64 x.c, .int .i64 x.b, .int .i64 x.h, .int .i64 x.u]) (.agg #[.int .i64 y.c, .int .i64 y.b, .int .i64 y.h, .int .i64 y.u])).run Tryz.prog w = .ok (.bool (sameC x y)) w := by
  have u3 := Tryz.underlying3
  have hS : Tryz.prog.underlying 78 = some (.struct (Tryz.prog.fieldsOf 78)) := by kernel_rfl
  have hp : Tryz.prog.stoodInHeld 78 = false := by kernel_rfl
  rw [run_eql_struct, show (10000 : Nat) = 9999 + 1 from rfl, run_equalIn_agg w 9999 78 _ _ hS hp]
  simp only [Program.fieldsOf, Tryz.underlying78]
  go_simp
  unfold sameC
  by_cases h1 : x.c = y.c <;> by_cases h2 : x.b = y.b <;> by_cases h3 : x.h = y.h <;> by_cases h4 : x.u = y.u <;> simp [h1, h2, h3, h4]

theorem guard_cert (op : BinOp) (a b : Operand) (x y : Array Value) (w : World) : (eqGuard op 78 a b (.agg x) (.agg y)).run Tryz.prog w = .ok () w :=
  run_eqGuard_agg w op 78 a b x y (by kernel_rfl)

theorem CrtsAt.take {w : World} {p : Option Addr} {n cap : Nat} {l : List Crt} (h : CrtsAt w (.slice p n cap) l) (i : Nat) (hi : i ≤ l.length) : CrtsAt w (.slice p i cap) (l.take i) := by
  obtain ⟨p', cap', e, h1, h2, h3⟩ := h
  cases e
  have hl : (l.take i).length = i := by rw [List.length_take]; omega
  refine ⟨p, cap, by rw [hl], ⟨by rw [hl]; omega, h1.2⟩, by rw [hl]; omega, fun h0 => ?_⟩
  obtain ⟨b, o, e, hc⟩ := h3 (by rw [hl] at h0; omega)
  refine ⟨b, o, e, fun j hj => ?_⟩
  have := hc j (by rw [hl] at hj; omega)
  rw [List.getElem_take]
  exact this

theorem tundrew {w w' : World} (h : Below w.drew.heap.size w.drew w') : Below w.heap.size w w' := ⟨h.os, h.tape, h.output, h.size, h.block⟩
theorem cell_over {w : World} (ob : Obj) {a : Addr} {v : Value} (h : w.cell? a = some v) : (w.alloc ob).cell? a = some v := by
  rw [(below_box w ob).cell (cell_block h), h]

set_option maxHeartbeats 800000 in
theorem has_any (v : Value) (l : List Crt) (x : Crt) (w : World) (hv : CrtsAt w v l) :
    Calls Tryz.prog 31 #[v, crtV x] w fun e w' => e = .returned (.bool (decide (x ∈ l))) ∧ Below w.heap.size w w' := by
  obtain ⟨p, cap, rfl, hlc, hcap, hcells⟩ := hv
  have hgd := guard_cert
  unfold crtV
  go_enter Tryz.func31, Tryz.ntmps31
  go_wp2
  go_loopw [9] (fun i wr => ∃ k : Nat, k ≤ l.length ∧ i = .int .i64 k ∧ (∀ j (hj : j < k) (hja : j < l.length), l[j] ≠ x) ∧ Below (w.heap.size + 1) (w.alloc (.cells #[.int .i64 x.c, .int .i64 x.b, .int .i64 x.h, .int .i64 x.u] 78)) wr) (fun i _ => l.length - (intOf i).toNat)
  case atStart => exact ⟨0, Nat.zero_le _, rfl, fun j hj => absurd hj (Nat.not_lt_zero _), Below.refl _ _⟩
  case round =>
    obtain ⟨k, hk, rfl, heq0, hbx⟩ := hrel
    have hb : Below w.heap.size w wr := (below_box w _).trans (hbx.mono (by omega))
    have hsz := hbx.size
    rw [size_box] at hsz
    have x0 := fun ob => cell_over ob (box_cell hbx (by omega) 0 : wr.cell? ⟨w.heap.size, 0, none⟩ = some (.int .i64 x.c))
    have x1 := fun ob => cell_over ob (box_cell hbx (by omega) 1 : wr.cell? ⟨w.heap.size, 1, none⟩ = some (.int .i64 x.b))
    have x2 := fun ob => cell_over ob (box_cell hbx (by omega) 2 : wr.cell? ⟨w.heap.size, 2, none⟩ = some (.int .i64 x.h))
    have x3 := fun ob => cell_over ob (box_cell hbx (by omega) 3 : wr.cell? ⟨w.heap.size, 3, none⟩ = some (.int .i64 x.u))
    have HE : Hid (∀ j (hj : j < k) (hja : j < l.length), l[j] ≠ x) := heq0
    clear heq0
    by_cases hlt : k < l.length
    · obtain ⟨b, o, rfl, hc⟩ := hcells (by omega)
      obtain ⟨g1, g2, g3, g4⟩ := hc.below hb k hlt
      have heq := fun w => eql_cert l[k] x w
      clear hcells hc
      cases hd : sameC l[k] x with
      | true =>
        rw [hd] at heq
        have HK : Hid (decide (x ∈ l) = true) := decide_eq_true (by rw [← (sameC_iff _ _).1 hd]; exact List.getElem_mem hlt)
        clear hd
        go_wp2
        go_ret
        exact ⟨ret_bool HK.out.symm, hb.alloc (by omega) _⟩
      | false =>
        rw [hd] at heq
        have HK : Hid (l[k] ≠ x) := fun e => by rw [(sameC_iff _ _).2 e] at hd; cases hd
        clear hd
        go_wp2
        go_roundw
        case rel => exact ⟨k + 1, hlt, by go_num, fun j hj hja => by
          by_cases e : j = k
          · subst e; exact HK.out
          · exact HE.out j (by omega) hja, hbx.alloc hsz _⟩
        case measure => simp [intOf]; omega
    · have HK : Hid (decide (x ∈ l) = false) := decide_eq_false fun h => by
        obtain ⟨j, hj, e⟩ := List.mem_iff_getElem.1 h
        exact HE.out j (by omega) hj e
      go_wp2
      go_ret
      exact ⟨ret_bool HK.out.symm, hb⟩

set_option maxHeartbeats 800000 in
theorem tgood_any (v : Value) (l : List Crt) (w : World) (hv : CrtsAt w v l) :
    Calls Tryz.prog 11 #[v] w fun e w' => e = .returned (.bool (csB l)) ∧ Below w.heap.size w w' := by
  have hv0 := hv
  obtain ⟨p, cap, rfl, hlc, hcap, hcells⟩ := hv
  by_cases h24 : l.length ≤ 24
  rotate_left
  · have HE : Hid (csB l = false) := csB_long (by omega)
    go_enter Tryz.func11, Tryz.ntmps11
    go_wp2
    go_ret
    exact ⟨ret_bool HE.out.symm, Below.refl _ _⟩
  go_enter Tryz.func11, Tryz.ntmps11
  go_wp2
  go_loopw [10] (fun i wr => ∃ k : Nat, k ≤ l.length ∧ i = .int .i64 k ∧ (∀ j (hj : j < k) (hja : j < l.length), certB l[j] = true ∧ l[j] ∉ l.take j) ∧ Below w.heap.size w wr) (fun i _ => l.length - (intOf i).toNat)
  case atStart => exact ⟨0, Nat.zero_le _, rfl, fun j hj => absurd hj (Nat.not_lt_zero _), Below.refl _ _⟩
  case round =>
    obtain ⟨k, hk, rfl, heq0, hb⟩ := hrel
    have HE : Hid (∀ j (hj : j < k) (hja : j < l.length), certB l[j] = true ∧ l[j] ∉ l.take j) := heq0
    clear heq0
    by_cases hlt : k < l.length
    · obtain ⟨b, o, rfl, hc⟩ := hcells (by omega)
      obtain ⟨g1, g2, g3, g4⟩ := hc.below hb k hlt
      have hcert := fun wx => goodCert_any l[k] wx
      have hhas := fun wx (h : Below w.heap.size w wx) => has_any (.slice (some ⟨b, o, none⟩) k cap) (l.take k) l[k] wx ((hv0.take k hk).below h)
      unfold crtV at hcert hhas
      clear hcells hc hv0
      have g5 : (k : Int) ≤ (cap : Int) := by omega
      have HBW := hid (Below.refl (wr.alloc (.cells #[.int .i64 l[k].c, .int .i64 l[k].b, .int .i64 l[k].h, .int .i64 l[k].u] 78)).heap.size (wr.alloc (.cells #[.int .i64 l[k].c, .int .i64 l[k].b, .int .i64 l[k].h, .int .i64 l[k].u] 78)))
      have hsz := hb.size
      have HBB := hid hb
      cases hcb : certB l[k] with
      | false =>
        have HG : Hid (csB l = false) := csB_bad hlt hcb
        go_wp2
        first
        | (go_region_with
            (first
              | (go_at_call 30; refine (hcert _).mono ?_; rintro e w2 ⟨rfl, hwd⟩; have hw := tundrew hwd; have HB2 := hid (below_then HBW.out hw); have r0 := box_cell HB2.out (by simp) 0; have r1 := box_cell HB2.out (by simp) 1; have r2 := box_cell HB2.out (by simp) 2; have r3 := box_cell HB2.out (by simp) 3; clear hw hwd)))
        | fail
        all_goals
          go_wp2
          go_ret
          exact ⟨ret_bool HG.out.symm, below_then HBB.out (below_then (below_box wr _) HB2.out)⟩
      | true =>
        cases hd : decide (l[k] ∈ l.take k) with
        | true =>
          have HG : Hid (csB l = false) := csB_twice hlt (of_decide_eq_true hd)
          rw [hd] at hhas
          clear hd
          go_wp2
          first
          | (go_region_with
              (first
                | (go_at_call 30; refine (hcert _).mono ?_; rintro e w2 ⟨rfl, hwd⟩; have hw := tundrew hwd; have HB2 := hid (below_then HBW.out hw); have r0 := box_cell HB2.out (by simp) 0; have r1 := box_cell HB2.out (by simp) 1; have r2 := box_cell HB2.out (by simp) 2; have r3 := box_cell HB2.out (by simp) 3; clear hw hwd)
                | (go_at_call 31; refine (hhas _ (below_then HBB.out (below_then (below_box wr _) HB2.out))).mono ?_; rintro e w3 ⟨rfl, hw⟩; have HB3 := hid (below_then HB2.out hw); clear r0 r1 r2 r3; have r0 := box_cell HB3.out (by simp) 0; have r1 := box_cell HB3.out (by simp) 1; have r2 := box_cell HB3.out (by simp) 2; have r3 := box_cell HB3.out (by simp) 3; clear hw)))
          | fail
          all_goals
            go_wp2
            go_ret
            exact ⟨ret_bool HG.out.symm, below_then HBB.out (below_then (below_box wr _) HB3.out)⟩
        | false =>
          have HG : Hid (certB l[k] = true ∧ l[k] ∉ l.take k) := ⟨hcb, of_decide_eq_false hd⟩
          rw [hd] at hhas
          clear hd
          go_wp2
          first
          | (go_region_with
              (first
                | (go_at_call 30; refine (hcert _).mono ?_; rintro e w2 ⟨rfl, hwd⟩; have hw := tundrew hwd; have HB2 := hid (below_then HBW.out hw); have r0 := box_cell HB2.out (by simp) 0; have r1 := box_cell HB2.out (by simp) 1; have r2 := box_cell HB2.out (by simp) 2; have r3 := box_cell HB2.out (by simp) 3; clear hw hwd)
                | (go_at_call 31; refine (hhas _ (below_then HBB.out (below_then (below_box wr _) HB2.out))).mono ?_; rintro e w3 ⟨rfl, hw⟩; have HB3 := hid (below_then HB2.out hw); clear r0 r1 r2 r3; have r0 := box_cell HB3.out (by simp) 0; have r1 := box_cell HB3.out (by simp) 1; have r2 := box_cell HB3.out (by simp) 2; have r3 := box_cell HB3.out (by simp) 3; clear hw)))
          | fail
          all_goals
            go_wp2
            go_roundw
            case rel => exact ⟨k + 1, hlt, by go_num, fun j hj hja => by
              by_cases e : j = k
              · subst e; exact HG.out
              · exact HE.out j (by omega) hja, below_then HBB.out (below_then (below_box wr _) HB3.out)⟩
            case measure => simp [intOf]; omega
    · have HK : Hid (csB l = true) := csB_all h24 (fun j hj => (HE.out j (by omega) hj).1) (fun j hj => (HE.out j (by omega) hj).2)
      go_wp2
      go_ret
      exact ⟨ret_bool HK.out.symm, hb⟩
end Go.Proofs.YtgpldlbmjakjhaaGreat

namespace Go.Proofs.YtgpldlbmjakjhaaGreat
open Go.RowKit Go.Proofs.Parclose

theorem home_any (c : Int) (w : World) (hc : 0 ≤ c) (hc2 : c < 9223372036854775808) : Calls Tryz.prog 154 #[.int .i64 c] w fun e w' => e = .returned (.int .i64 (c / 20)) ∧ w' = w := by
  go_enter Tryz.func154, Tryz.ntmps154
  go_wp2
  go_ret
  exact ⟨rfl, rfl⟩

theorem news1 {W : World} {n : Nat} (hn : W.heap.size = n) (a : Value) (t : TypeId) : ∀ j u, [a][j]? = some u → (W.alloc (.cells #[a] t)).cell? ((⟨n, 0, none⟩ : Addr).add j) = some u := by
  subst hn
  exact laid1 W a t

noncomputable def trV (l : List Crt) (c now : Int) : Value := .agg #[.bool (trB l c now 0), .bool (trB l c now 1), .bool (trB l c now 2), .bool (trB l c now 3)]

/-- what holds while the row of hosts is gone through -/
structure Inv (w : World) (l : List Crt) (c now : Int) (wr : World) (v : Value) (row : List Int) (B : Int → Bool) (k : Nat) : Prop where
  own : wr.ownsRow (w.heap.size + 2) 3 1 v row.length (flat1 row)
  work : Work l c now B row
  past : ∀ m h, m < k → row[m]? = some h → ∀ x ∈ l, Asked c now B h x
  tr : wr.heap[w.heap.size + 1]? = some (.cells #[.bool (B 0), .bool (B 1), .bool (B 2), .bool (B 3)] 196 (0, 0))
  res : wr.heap[w.heap.size]? = some (.cells #[.bool false, .bool false, .bool false, .bool false] 196 (0, 0))
  below : Below w.heap.size w wr
  size : w.heap.size + 2 ≤ wr.heap.size

theorem Inv.more {w : World} {l : List Crt} {c now : Int} {wr ws : World} {v : Value} {row : List Int} {B : Int → Bool} {k : Nat} (h : Inv w l c now wr v row B k) (hb : Below wr.heap.size wr ws) : Inv w l c now ws v row B k :=
  ⟨own_since h.own (since_below hb), h.work, h.past, heap_keep h.tr hb, heap_keep h.res hb, h.below.trans (hb.mono (by have := h.size; omega)), Nat.le_trans h.size hb.size⟩

def withH (B : Int → Bool) (x : Int) : Int → Bool := fun h => B h || decide (h = x)

theorem asked_more {c now : Int} {B : Int → Bool} {h y : Int} {x : Crt} (ha : Asked c now B h x) : Asked c now (withH B y) h x := fun h1 h2 h3 => by
  unfold withH
  rw [ha h1 h2 h3]
  rfl

theorem tr_cells {w : World} {T : Nat} {B : Int → Bool} {h : Int} (ht : w.heap[T]? = some (.cells #[.bool (B 0), .bool (B 1), .bool (B 2), .bool (B 3)] 196 (0, 0))) (h1 : 0 ≤ h) (h2 : h < 4) : w.cell? ⟨T, h.toNat, none⟩ = some (.bool (B h)) := by
  rw [heap_cell ht]
  have : h = 0 ∨ h = 1 ∨ h = 2 ∨ h = 3 := by omega
  rcases this with rfl | rfl | rfl | rfl <;> rfl
theorem tr_put {w : World} {T : Nat} {B : Int → Bool} {h : Int} (ht : w.heap[T]? = some (.cells #[.bool (B 0), .bool (B 1), .bool (B 2), .bool (B 3)] 196 (0, 0))) (h1 : 0 ≤ h) (h2 : h < 4) :
    (w.setCell ⟨T, h.toNat, none⟩ (.bool true)).heap[T]? = some (.cells #[.bool (withH B h 0), .bool (withH B h 1), .bool (withH B h 2), .bool (withH B h 3)] 196 (0, 0)) := by
  rw [heap_setCell ht]
  have : h = 0 ∨ h = 1 ∨ h = 2 ∨ h = 3 := by omega
  rcases this with rfl | rfl | rfl | rfl <;> simp [withH]

/-- a host more -/
theorem Inv.put {w : World} {l : List Crt} {c now : Int} {wr w2 : World} {v v2 : Value} {row : List Int} {B : Int → Bool} {k : Nat} (h : Inv w l c now wr v row B k) {x : Crt} (hx : x ∈ l) (hc : x.c = c) (hr : x.b ∈ row) (hu : now ≤ x.u) (hb : B x.h = false) (hh : 0 ≤ x.h ∧ x.h < 4) (hcat : catB c = true) (hk : k < row.length)
    (o : Obj) (h2 : w2.ownsRow (w.heap.size + 2) 3 1 v2 (row.length + 1) (flat1 row ++ [.int .i64 x.h])) (hg : ((wr.setCell ⟨w.heap.size + 1, x.h.toNat, none⟩ (.bool true)).alloc o).grownBy w2 v.ownBlock) :
    Inv w l c now w2 v2 (row ++ [x.h]) (withH B x.h) k := by
  have hs := h.size
  have hc2 : 0 ≤ c ∧ c < 80 := of_decide_eq_true hcat
  have ht1 := heap_new (tr_put h.tr hh.1 hh.2) o
  have hr1 := heap_new (heap_store h.res (by omega : w.heap.size ≠ w.heap.size + 1) x.h.toNat (.bool true)) o
  have hown : ∀ j, v.ownBlock = some j → w.heap.size + 2 ≤ j := fun j hj => own_base h.own hj
  have hb1 : Below w.heap.size w ((wr.setCell ⟨w.heap.size + 1, x.h.toNat, none⟩ (.bool true)).alloc o) := by
    refine Below.alloc ?_ (by simp; omega) _
    exact h.below.grown (grown_setCell wr _ _ _) (by omega) (fun j hj => by have := Option.some.inj hj; omega)
  have hz : ((wr.setCell ⟨w.heap.size + 1, x.h.toNat, none⟩ (.bool true)).alloc o).heap.size = wr.heap.size + 1 := by simp
  refine ⟨by simpa [flat1] using h2, h.work.put hx hc hr hu hb hh (fun g _ _ => rfl) (by omega), fun m g hm hg2 y hy => ?_, ?_, ?_, hb1.grown hg (by rw [hz]; omega) (fun j hj => by have := hown j hj; omega), by have := hg.size; omega⟩
  · rw [List.getElem?_append_left (by omega)] at hg2
    exact asked_more (h.past m g hm hg2 y hy)
  · rw [hg.block _ (by omega) (fun e => by have := hown _ e.symm; omega)]
    exact ht1
  · rw [hg.block _ (by omega) (fun e => by have := hown _ e.symm; omega)]
    exact hr1
end Go.Proofs.YtgpldlbmjakjhaaGreat

namespace Go.Proofs.Parclose

structure Clu where
  now : Int
  acts : Nat
  ks : Nat → Ker
  certs : Nat → List Crt
  lines : Nat → Nat → Lne
  net : List (List UInt8)

structure Ac where
  kind : Int
  h : Int
  t : Int
  n : Int
  call : Cal

def freshClu : Clu := ⟨0, 0, fun h => freshKer h, fun _ => [], fun _ _ => zeroLne, []⟩
def kerC (C : Clu) (h : Int) : Ker := C.ks h.toNat
def crtC (C : Clu) (h : Int) : List Crt := C.certs h.toNat
def lineC (C : Clu) (a b : Int) : Lne := C.lines a.toNat b.toNat
def setK (C : Clu) (h : Int) (K : Ker) : Clu := { C with ks := fun g => if g = h.toNat then K else C.ks g }
def setC (C : Clu) (h : Int) (l : List Crt) : Clu := { C with certs := fun g => if g = h.toNat then l else C.certs g }
def setLi (C : Clu) (a b : Int) (l : Lne) : Clu := { C with lines := fun x y => if x = a.toNat ∧ y = b.toNat then l else C.lines x y }
/-- a frame is put under way -/
def putC (C : Clu) (f : Frm) : Clu := if frameE f = 0 ∧ C.net.length < 60 then { C with net := C.net ++ [encL f] } else C
/-- a cert more of a host, and the errors number -/
def addC (C : Clu) (h : Int) (x : Crt) : Clu × Int := if (addL (crtC C h) x).2 = 0 then (setC C h (addL (crtC C h) x).1, 0) else (C, (addL (crtC C h) x).2)

noncomputable def awayC (C : Clu) (fr to t : Int) (m : Mal) : Clu × Int :=
  if mayB (crtC C fr) to m C.now then
    let f : Frm := ⟨fr, to, 0, false, t, m, showL (crtC C fr) m⟩
    let s := sendLn (lineC C fr to) f C.now
    if s.2.2 = 0 then (putC (setLi C fr to s.1) s.2.1, 0) else (C, s.2.2)
  else (C, 8)
noncomputable def sendC (C : Clu) (h t : Int) (c : Cal) : Clu × Int :=
  if 64 < c.text.length then (C, 9)
  else if hostB c.h && hostB c.t then
    (if (letterL (kerC C h) t c).2 = 0 then
      (if c.h = h then (setK C h (deliverL (kerC C h) c.t (letterL (kerC C h) t c).1), 0) else awayC C h c.h c.t (letterL (kerC C h) t c).1)
    else (C, (letterL (kerC C h) t c).2))
  else (C, 4)
def certifyC (C : Clu) (h t : Int) (c : Cal) : Clu × Int :=
  if hostB c.h && !(c.h == h) && timeB c.n then
    (if (((getT (kerC C h) t).getD zeroThr).own.contains c.c) then addC C h ⟨c.c, h, c.h, c.n⟩ else (C, 7))
  else (C, 2)
noncomputable def callC (C : Clu) (h t : Int) (c : Cal) : Clu × Rep :=
  if hostB h && hostB t then
    (if c.kind = 6 then ((sendC C h t c).1, code (sendC C h t c).2)
    else if c.kind = 8 then ((certifyC C h t c).1, code (certifyC C h t c).2)
    else (setK C h (callL (kerC C h) t c).1, (callL (kerC C h) t c).2))
  else (C, code 4)
def takeC (C : Clu) : Int → List Crt → Clu
  | _, [] => C
  | h, x :: r => takeC (addC C h x).1 h r
noncomputable def acceptC (C : Clu) (f : Frm) : Clu :=
  let D := takeC C f.to f.certs
  if mayB (crtC D f.to) f.fr f.mail D.now then setK D f.to (deliverL (kerC D f.to) f.thread f.mail) else D
noncomputable def comeC (C : Clu) (s : List UInt8) : Clu :=
  if (decL s).2 = 0 then
    let f := (decL s).1
    if f.ack then setLi C f.to f.fr (ansLn (lineC C f.to f.fr) f.seq).1
    else
      let k := takeLn (lineC C f.fr f.to) f.seq
      let D := setLi C f.fr f.to k.1
      let E := if k.2 = 0 ∨ k.2 = 10 then putC D ⟨f.to, f.fr, f.seq, true, 0, zeroMal, []⟩ else D
      if k.2 = 0 then acceptC E f else E
  else C
noncomputable def moveC (C : Clu) (kind n : Int) : Clu × Rep :=
  if 0 ≤ n ∧ n < (C.net.length : Int) then
    let s := C.net.getD n.toNat []
    let D := if kind = 3 then C else { C with net := C.net.take n.toNat ++ C.net.drop (n.toNat + 1) }
    ((if kind = 4 then D else comeC D s), ⟨0, (s.length : Int), []⟩)
  else (C, code 4)
/-- what a line sends again -/
def againC (C : Clu) (a b : Int) : Clu × Nat :=
  let k := againLn (lineC C a b) C.now
  (k.2.1.foldl putC (setLi C a b k.1), k.2.1.length)
def tickC (C : Clu) (n : Int) : Clu × Rep :=
  if 1 ≤ n ∧ n ≤ 1099511627776 - C.now then
    let D := { C with now := C.now + n }
    let r := ([0, 1, 2, 3].flatMap fun a => [0, 1, 2, 3].map fun b => ((a : Int), (b : Int))).foldl (fun (s : Clu × Nat) ab => ((againC s.1 ab.1 ab.2).1, s.2 + (againC s.1 ab.1 ab.2).2)) (D, 0)
    (r.1, ⟨0, (r.2 : Int), []⟩)
  else (C, code 2)
noncomputable def doC (C : Clu) (a : Ac) : Clu × Rep :=
  if 300 ≤ C.acts then (C, code 5)
  else
    let D := { C with acts := C.acts + 1 }
    if a.kind = 1 then callC D a.h a.t a.call
    else if a.kind = 2 ∨ a.kind = 3 ∨ a.kind = 4 then moveC D a.kind a.n
    else if a.kind = 5 then tickC D a.n
    else (D, code 3)
noncomputable def runC : Clu → List Ac → List Rep
  | _, [] => []
  | C, a :: r => (doC C a).2 :: runC (doC C a).1 r
noncomputable def playC : Clu → List Ac → Clu
  | C, [] => C
  | C, a :: r => playC (doC C a).1 r

theorem runC_take : ∀ (l : List Ac) (C : Clu) (k : Nat), runC C (l.take k) = (runC C l).take k
  | [], _, k => by simp [runC]
  | a :: r, C, 0 => by simp [runC]
  | a :: r, C, k + 1 => by
    simp only [List.take_succ_cons, runC]
    rw [runC_take r (doC C a).1 k]
theorem runC_length : ∀ (l : List Ac) (C : Clu), (runC C l).length = l.length
  | [], _ => rfl
  | a :: r, C => by simp [runC, runC_length r]

theorem doC_full (C : Clu) (a : Ac) (h : 300 ≤ C.acts) : doC C a = (C, code 5) := by
  unfold doC
  rw [if_pos h]
end Go.Proofs.Parclose
