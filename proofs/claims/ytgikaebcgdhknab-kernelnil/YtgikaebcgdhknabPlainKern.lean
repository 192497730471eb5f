/- Plain facts on threads and kernels: what a call does; no program is named here. -/
import Derived.Test.YtgikaebcgdhknabPlainBack
import Derived.Test.YtgikaebcgdhknabPlainSet
namespace Go.Proofs.Parclose

structure Obt where
  label : List (Int × Int)
  text : List UInt8

structure Thr where
  label : List (Int × Int)
  own : List Int
  text : List UInt8
  objs : List Obt
  mails : List Mal

structure Ker where
  host : Int
  made : Int
  ths : List Thr

structure Cal where
  kind : Int
  h : Int
  t : Int
  n : Int
  c : Int
  label : List (Int × Int)
  grants : List Int
  text : List UInt8

structure Rep where
  code : Int
  n : Int
  text : List UInt8

def zeroThr : Thr := ⟨[], [], [], [], []⟩
def freshKer (h : Int) : Ker := ⟨h, 0, [zeroThr, zeroThr, zeroThr, zeroThr]⟩
def code (e : Int) : Rep := ⟨e, 0, []⟩
/-- the last of a text -/
def lastL (x : List UInt8) : List UInt8 := x.drop (x.length - 64)
theorem lastL_len (x : List UInt8) : (lastL x).length ≤ 64 := by unfold lastL; rw [List.length_drop]; omega
theorem lastL_short {x : List UInt8} (h : x.length ≤ 64) : lastL x = x := by unfold lastL; rw [show x.length - 64 = 0 by omega]; rfl

/-- a category more -/
def insL (l : List Int) (c : Int) : List Int := l.take (l.countP (· < c)) ++ c :: l.drop (l.countP (· < c))
/-- to own a category more: the error, and what is owned -/
def ownL (l : List Int) (c : Int) : Int × List Int := if l.contains c then (0, l) else if 8 ≤ l.length then (5, l) else (0, insL l c)

/-- what forbids a thread to send mail -/
def mayL (th : Thr) (m : Mal) : Int := if mailE m = 0 then (if m.grants.all (th.own.contains ·) then (if flowsL th.label m.label th.own then 0 else 6) else 7) else mailE m

def getT (K : Ker) (t : Int) : Option Thr := if 0 ≤ t then K.ths[t.toNat]? else none
def setT (K : Ker) (t : Int) (th : Thr) : Ker := { K with ths := K.ths.set t.toNat th }

def letterM (K : Ker) (t : Int) (c : Cal) (th : Thr) : Mal := ⟨K.host, t, c.label, c.grants, lastL (th.text ++ c.text)⟩
def letterL (K : Ker) (t : Int) (c : Cal) : Mal × Int :=
  match getT K t with
  | none => (zeroMal, 4)
  | some th => if mayL th (letterM K t c th) = 0 then (letterM K t c th, 0) else (zeroMal, mayL th (letterM K t c th))

/-- mail into a box -/
def boxL (th : Thr) (m : Mal) : Thr := if mailE m = 0 ∧ flowsL m.label th.label th.own = true ∧ th.mails.length < 6 then { th with mails := th.mails ++ [m] } else th
def deliverL (K : Ker) (t : Int) (m : Mal) : Ker :=
  match getT K t with
  | none => K
  | some th => setT K t (boxL th m)

/-- grants, one by one, up to the first for which there is no room -/
def grantL : List Int → List Int → List Int
  | [], o => o
  | c :: r, o => if (ownL o c).1 = 0 then grantL r (ownL o c).2 else o
def readL (th : Thr) (m : Mal) : Thr := { th with text := lastL (th.text ++ m.text), own := grantL m.grants th.own }
/-- mail by mail -/
def takeL (th : Thr) : List Mal → Thr × Rep
  | [] => ({ th with mails := [] }, code 4)
  | m :: r => if flowsL m.label th.label th.own then ({ readL th m with mails := r }, ⟨0, m.host * 4 + m.thread, []⟩) else takeL th r

def objectL (th : Thr) (l : List (Int × Int)) : Thr × Rep :=
  if goodB l then (if flowsL th.label l th.own then (if 4 ≤ th.objs.length then (th, code 5) else ({ th with objs := th.objs ++ [⟨l, []⟩] }, ⟨0, (th.objs.length : Int), []⟩)) else (th, code 6)) else (th, code 2)
def levelL (th : Thr) (c n : Int) : Thr × Int :=
  if setE th.label c n = 0 then (if flowsL th.label (setL th.label c n) th.own then ({ th with label := setL th.label c n }, 0) else (th, 6)) else (th, setE th.label c n)
/-- the object n of a thread -/
def objAt (K : Ker) (t n : Int) : Option Obt :=
  match getT K t with
  | none => none
  | some th => if 0 ≤ n then th.objs[n.toNat]? else none
def putO (th : Thr) (n : Int) (x : List UInt8) : Thr := { th with objs := th.objs.modify n.toNat fun o => { o with text := x } }
def putL (K : Ker) (th : Thr) (c : Cal) : Ker :=
  match getT K c.t, objAt K c.t c.n with
  | some u, some o => if flowsL th.label o.label th.own then setT K c.t (putO u c.n (lastL (th.text ++ c.text))) else K
  | _, _ => K
def getL (K : Ker) (t : Int) (th : Thr) (c : Cal) : Ker × Rep :=
  match objAt K c.t c.n with
  | none => (K, code 4)
  | some o => if flowsL o.label th.label th.own then (setT K t { th with text := lastL (th.text ++ o.text) }, ⟨0, (o.text.length : Int), []⟩) else (K, code 4)
def categoryL (K : Ker) (t : Int) (th : Thr) : Ker × Rep :=
  if 20 ≤ K.made then (K, code 5)
  else if (ownL th.own (K.host * 20 + K.made)).1 = 0 then ({ setT K t { th with own := (ownL th.own (K.host * 20 + K.made)).2 } with made := K.made + 1 }, ⟨0, K.host * 20 + K.made, []⟩)
  else (K, code (ownL th.own (K.host * 20 + K.made)).1)

def callT (K : Ker) (t : Int) (th : Thr) (c : Cal) : Ker × Rep :=
  if 64 < c.text.length then (K, code 9)
  else if c.kind = 1 then categoryL K t th
  else if c.kind = 2 then (setT K t (objectL th c.label).1, (objectL th c.label).2)
  else if c.kind = 3 then (putL K th c, code 0)
  else if c.kind = 4 then getL K t th c
  else if c.kind = 5 then (setT K t (levelL th c.c c.n).1, code (levelL th c.c c.n).2)
  else if c.kind = 7 then (setT K t (takeL th th.mails).1, (takeL th th.mails).2)
  else if c.kind = 9 then (setT K t { th with text := lastL c.text }, code 0)
  else if c.kind = 10 then (K, ⟨0, 0, th.text⟩)
  else (K, code 3)
def callL (K : Ker) (t : Int) (c : Cal) : Ker × Rep :=
  match getT K t with
  | none => (K, code 4)
  | some th => callT K t th c
end Go.Proofs.Parclose
