/- Plain facts: where the first with a number stands in what was sent. No program is named here. -/
import Derived.Test.YtmpjddnbdidleaaPlainLine
namespace Go.Proofs.Parclose

/-- where the first with the number q stands, from k on -/
def firstN (q : Int) : Nat → List Snt → Int
  | _, [] => -1
  | k, s :: r => if s.f.seq = q then k else firstN q (k + 1) r
theorem firstN_or (q : Int) : ∀ (l : List Snt) (k : Nat), (firstN q k l = -1 ∧ ∀ s ∈ l, s.f.seq ≠ q) ∨ ∃ (i : Nat) (h : i < l.length), firstN q k l = ((k + i : Nat) : Int) ∧ (l[i]).f.seq = q
  | [], _ => Or.inl ⟨rfl, fun s hs => absurd hs (by simp)⟩
  | s :: r, k => by
    by_cases hs : s.f.seq = q
    · exact Or.inr ⟨0, by simp, by simp [firstN, hs], hs⟩
    · rcases firstN_or q r (k + 1) with ⟨h1, h2⟩ | ⟨i, hi, h1, h2⟩
      · refine Or.inl ⟨by simp [firstN, hs, h1], fun x hx => ?_⟩
        rcases List.mem_cons.1 hx with e | hx
        · rw [e]; exact hs
        · exact h2 x hx
      · refine Or.inr ⟨i + 1, by simpa using hi, ?_, by simpa using h2⟩
        simp only [firstN, hs, if_false]
        rw [h1]
        congr 1
        omega
theorem ans_none {l : Lne} {q : Int} (hg : goodLn l = true) (h : ∀ s ∈ l.sent, s.f.seq ≠ q) : ansLn l q = (l, 4) := by
  unfold ansLn
  rw [if_pos hg, if_pos]
  rw [List.all_eq_true]
  intro s hs
  simpa using h s hs
theorem ans_some {l : Lne} {q : Int} (hg : goodLn l = true) (i : Nat) (hi : i < l.sent.length) (h : (l.sent[i]).f.seq = q) : ansLn l q = ({ l with sent := l.sent.take i ++ l.sent.drop (i + 1) }, 0) := by
  unfold ansLn
  have hne : ¬ (l.sent.all (fun s => !(s.f.seq == q)) = true) := fun ha => by
    have := List.all_eq_true.1 ha _ (List.getElem_mem hi)
    simp [h] at this
  rw [if_pos hg, if_neg hne, ← h, rises_only (goodLn_rises hg) i hi]
theorem ans_bad {l : Lne} {q : Int} (hg : goodLn l = false) : ansLn l q = (l, 2) := by
  unfold ansLn
  rw [hg]
  rfl
end Go.Proofs.Parclose
