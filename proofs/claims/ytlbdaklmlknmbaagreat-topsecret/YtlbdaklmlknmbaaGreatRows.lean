/-
  No cell of these rows narrows 'for every input' (looked for: loops, veiled, ifaces, maps, wideKeys, modest, calm, conditions, laid).
  DERIVED. THE GIVEN ROWS OF THIS SEAT. 6 by the template 'for every input the law returns true; each argument reads behind the call as it read before'; 0 by the template 'total and deterministic' (their statements: YtlbdaklmlknmbaaGreatTotals.lean).
  GIVEN WITH THE SEED: the statements are not yours to turn. If you find one false, say at which input.
  Laid BY PROGRAM, IN A SANDBOX (cutbox-rows.mjs): the forced cells as the released guide's own fill.sh prints them over the translation a476c60473b4eb5f… (all of the seat's roots in one cut). By AI agents, Wed Nov 11 2026. No macro, syntax, notation, axiom, sorry.
-/
import Derived.Test.YtlbdaklmlknmbaaGreatChecked
import GoSem.Claim
import GoSem.ClaimJoined
import GoSem.ClaimMapViews
import Derived.JoinedTies
import Derived.KernelRfl
namespace Go.Proofs.YtlbdaklmlknmbaaGreat
/- THE CELL 'sum', in the pinned program and in every row, IS THE sha256 OF THE DUMP (.gsa) THAT YtlbdaklmlknmbaaGreatProg.lean LOADS. Nothing in Lean hashes anything: it is a label: what it is worth is what the hold of that sum in a sandbox is worth. -/
noncomputable def Tryz.pinned : Pinned := { name := "ytlbdaklmlknmbaagreat", sum := "a476c60473b4eb5f8576361eda3965232ed4adf7f06b1b774d61e611aed62b71", checked := Tryz.checked }
namespace Rows
def none {H : Type} : Left H := { results := [], args := [] }

/-- 'parclosetop.TopSecret': WHATEVER THE INPUT: true; the input reads as it did. -/
def topSecretSpec : ChangeSpec := { name := "topSecret", fn := fun _ => fun
  | [d1, d2, d3] => { results := [.lit (.bool true)], args := [d1, d2, d3] }
  | _ => none }
def topSecretRow : OpenClaim := { program := "ytlbdaklmlknmbaagreat", sum := "a476c60473b4eb5f8576361eda3965232ed4adf7f06b1b774d61e611aed62b71", func := "parclose/parclosetop.TopSecret", spec := "topSecret", inPlace := ["slices.overlaps[int]"], unfollowed := true, recurses := true, apart := false }
def TopSecretSaid : Prop := topSecretRow.holds Tryz.pinned (OpenSpec.ofChange topSecretSpec)

/-- ITS FALSE NEIGHBOUR: 'it returns false'. Refute it at one input. -/
def topSecretWrong : ChangeSpec := { name := "topSecret", fn := fun _ => fun
  | [d1, d2, d3] => { results := [.lit (.bool false)], args := [d1, d2, d3] }
  | _ => none }
def TopSecretWrongFalsely : Prop := topSecretRow.holds Tryz.pinned (OpenSpec.ofChange topSecretWrong)

/-- 'parclosetop.TopOwned': WHATEVER THE INPUT: true; the input reads as it did. -/
def topOwnedSpec : ChangeSpec := { name := "topOwned", fn := fun _ => fun
  | [d] => { results := [.lit (.bool true)], args := [d] }
  | _ => none }
def topOwnedRow : OpenClaim := { program := "ytlbdaklmlknmbaagreat", sum := "a476c60473b4eb5f8576361eda3965232ed4adf7f06b1b774d61e611aed62b71", func := "parclose/parclosetop.TopOwned", spec := "topOwned", inPlace := ["slices.overlaps[int]"], unfollowed := true, recurses := true, apart := false }
def TopOwnedSaid : Prop := topOwnedRow.holds Tryz.pinned (OpenSpec.ofChange topOwnedSpec)

/-- ITS FALSE NEIGHBOUR: 'it returns false'. Refute it at one input. -/
def topOwnedWrong : ChangeSpec := { name := "topOwned", fn := fun _ => fun
  | [d] => { results := [.lit (.bool false)], args := [d] }
  | _ => none }
def TopOwnedWrongFalsely : Prop := topOwnedRow.holds Tryz.pinned (OpenSpec.ofChange topOwnedWrong)

/-- 'parclosetop.TopGranted': WHATEVER THE INPUT: true; the input reads as it did. -/
def topGrantedSpec : ChangeSpec := { name := "topGranted", fn := fun _ => fun
  | [d] => { results := [.lit (.bool true)], args := [d] }
  | _ => none }
def topGrantedRow : OpenClaim := { program := "ytlbdaklmlknmbaagreat", sum := "a476c60473b4eb5f8576361eda3965232ed4adf7f06b1b774d61e611aed62b71", func := "parclose/parclosetop.TopGranted", spec := "topGranted", inPlace := ["slices.overlaps[int]"], unfollowed := true, recurses := true, apart := false }
def TopGrantedSaid : Prop := topGrantedRow.holds Tryz.pinned (OpenSpec.ofChange topGrantedSpec)

/-- ITS FALSE NEIGHBOUR: 'it returns false'. Refute it at one input. -/
def topGrantedWrong : ChangeSpec := { name := "topGranted", fn := fun _ => fun
  | [d] => { results := [.lit (.bool false)], args := [d] }
  | _ => none }
def TopGrantedWrongFalsely : Prop := topGrantedRow.holds Tryz.pinned (OpenSpec.ofChange topGrantedWrong)

/-- 'parclosetop.TopTrusted': WHATEVER THE INPUT: true; the input reads as it did. -/
def topTrustedSpec : ChangeSpec := { name := "topTrusted", fn := fun _ => fun
  | [d] => { results := [.lit (.bool true)], args := [d] }
  | _ => none }
def topTrustedRow : OpenClaim := { program := "ytlbdaklmlknmbaagreat", sum := "a476c60473b4eb5f8576361eda3965232ed4adf7f06b1b774d61e611aed62b71", func := "parclose/parclosetop.TopTrusted", spec := "topTrusted", inPlace := ["slices.overlaps[int]"], unfollowed := true, recurses := true, apart := false }
def TopTrustedSaid : Prop := topTrustedRow.holds Tryz.pinned (OpenSpec.ofChange topTrustedSpec)

/-- ITS FALSE NEIGHBOUR: 'it returns false'. Refute it at one input. -/
def topTrustedWrong : ChangeSpec := { name := "topTrusted", fn := fun _ => fun
  | [d] => { results := [.lit (.bool false)], args := [d] }
  | _ => none }
def TopTrustedWrongFalsely : Prop := topTrustedRow.holds Tryz.pinned (OpenSpec.ofChange topTrustedWrong)

/-- 'parclosetop.TopSent': WHATEVER THE INPUT: true; the input reads as it did. -/
def topSentSpec : ChangeSpec := { name := "topSent", fn := fun _ => fun
  | [d] => { results := [.lit (.bool true)], args := [d] }
  | _ => none }
def topSentRow : OpenClaim := { program := "ytlbdaklmlknmbaagreat", sum := "a476c60473b4eb5f8576361eda3965232ed4adf7f06b1b774d61e611aed62b71", func := "parclose/parclosetop.TopSent", spec := "topSent", inPlace := ["slices.overlaps[int]"], unfollowed := true, recurses := true, apart := false }
def TopSentSaid : Prop := topSentRow.holds Tryz.pinned (OpenSpec.ofChange topSentSpec)

/-- ITS FALSE NEIGHBOUR: 'it returns false'. Refute it at one input. -/
def topSentWrong : ChangeSpec := { name := "topSent", fn := fun _ => fun
  | [d] => { results := [.lit (.bool false)], args := [d] }
  | _ => none }
def TopSentWrongFalsely : Prop := topSentRow.holds Tryz.pinned (OpenSpec.ofChange topSentWrong)

/-- 'parclosetop.TopOnce': WHATEVER THE INPUT: true; the input reads as it did. -/
def topOnceSpec : ChangeSpec := { name := "topOnce", fn := fun _ => fun
  | [d] => { results := [.lit (.bool true)], args := [d] }
  | _ => none }
def topOnceRow : OpenClaim := { program := "ytlbdaklmlknmbaagreat", sum := "a476c60473b4eb5f8576361eda3965232ed4adf7f06b1b774d61e611aed62b71", func := "parclose/parclosetop.TopOnce", spec := "topOnce", inPlace := ["slices.overlaps[int]"], unfollowed := true, recurses := true, apart := false }
def TopOnceSaid : Prop := topOnceRow.holds Tryz.pinned (OpenSpec.ofChange topOnceSpec)

/-- ITS FALSE NEIGHBOUR: 'it returns false'. Refute it at one input. -/
def topOnceWrong : ChangeSpec := { name := "topOnce", fn := fun _ => fun
  | [d] => { results := [.lit (.bool false)], args := [d] }
  | _ => none }
def TopOnceWrongFalsely : Prop := topOnceRow.holds Tryz.pinned (OpenSpec.ofChange topOnceWrong)

/- THE SECOND FORM. 'bulk': how many values and letters a reading holds, each counted each time it is reached (what is shared counts as often as it is met; a slice's spare places count too). A statement '..UptoSaid' is the law's where the arguments, and the package variables that the reading takes, are together of bulk at most 1048576: NARROWER than '..Said'. Prove '..Said' where nothing that the law and all that it calls make is longer than what came in: it says more and counts as full. Else prove '..UptoSaid'. A law counts once. -/
mutual
def uptoBulk {H : Type} : DataW H → Nat
  | .lit (.string bytes) => bytes.length + 1
  | .lit _ => 1
  | .nil => 1
  | .ptr d => uptoBulk d + 1
  | .slice elems spare => uptoBulkAll elems + uptoBulkAll spare + 1
  | .agg parts => uptoBulkAll parts + 1
  | .iface _ d => uptoBulk d + 1
  | .map entries => uptoBulkEntries entries + 1
  | .held _ => 1
def uptoBulkAll {H : Type} : List (DataW H) → Nat
  | [] => 0
  | d :: r => uptoBulk d + uptoBulkAll r
def uptoBulkEntries {H : Type} : List (Lit × DataW H) → Nat
  | [] => 0
  | x :: r => uptoBulkEntry x + uptoBulkEntries r
def uptoBulkEntry {H : Type} : Lit × DataW H → Nat
  | (.string bytes, d) => bytes.length + uptoBulk d + 1
  | (_, d) => uptoBulk d + 1
 end
def uptoSmall : (H : Type) → List (DataW H) → Bool := fun _ ds => decide (uptoBulkAll ds ≤ 1048576)
def OpenSpec.upto (s : _root_.Go.ChangeSpec) : _root_.Go.OpenSpec := { _root_.Go.OpenSpec.ofChange s with cond := some uptoSmall }

/-- 'parclosetop.TopSecret', WHERE WHAT IT READS IS OF BULK AT MOST 1048576: true; the input reads as it did. -/
def topSecretUptoRow : OpenClaim := { program := "ytlbdaklmlknmbaagreat", sum := "a476c60473b4eb5f8576361eda3965232ed4adf7f06b1b774d61e611aed62b71", func := "parclose/parclosetop.TopSecret", spec := "topSecret", inPlace := ["slices.overlaps[int]"], unfollowed := true, recurses := true, apart := false, narrowed := true }
def TopSecretUptoSaid : Prop := topSecretUptoRow.holds Tryz.pinned (OpenSpec.upto topSecretSpec)

/-- 'parclosetop.TopOwned', WHERE WHAT IT READS IS OF BULK AT MOST 1048576: true; the input reads as it did. -/
def topOwnedUptoRow : OpenClaim := { program := "ytlbdaklmlknmbaagreat", sum := "a476c60473b4eb5f8576361eda3965232ed4adf7f06b1b774d61e611aed62b71", func := "parclose/parclosetop.TopOwned", spec := "topOwned", inPlace := ["slices.overlaps[int]"], unfollowed := true, recurses := true, apart := false, narrowed := true }
def TopOwnedUptoSaid : Prop := topOwnedUptoRow.holds Tryz.pinned (OpenSpec.upto topOwnedSpec)

/-- 'parclosetop.TopGranted', WHERE WHAT IT READS IS OF BULK AT MOST 1048576: true; the input reads as it did. -/
def topGrantedUptoRow : OpenClaim := { program := "ytlbdaklmlknmbaagreat", sum := "a476c60473b4eb5f8576361eda3965232ed4adf7f06b1b774d61e611aed62b71", func := "parclose/parclosetop.TopGranted", spec := "topGranted", inPlace := ["slices.overlaps[int]"], unfollowed := true, recurses := true, apart := false, narrowed := true }
def TopGrantedUptoSaid : Prop := topGrantedUptoRow.holds Tryz.pinned (OpenSpec.upto topGrantedSpec)

/-- 'parclosetop.TopTrusted', WHERE WHAT IT READS IS OF BULK AT MOST 1048576: true; the input reads as it did. -/
def topTrustedUptoRow : OpenClaim := { program := "ytlbdaklmlknmbaagreat", sum := "a476c60473b4eb5f8576361eda3965232ed4adf7f06b1b774d61e611aed62b71", func := "parclose/parclosetop.TopTrusted", spec := "topTrusted", inPlace := ["slices.overlaps[int]"], unfollowed := true, recurses := true, apart := false, narrowed := true }
def TopTrustedUptoSaid : Prop := topTrustedUptoRow.holds Tryz.pinned (OpenSpec.upto topTrustedSpec)

/-- 'parclosetop.TopSent', WHERE WHAT IT READS IS OF BULK AT MOST 1048576: true; the input reads as it did. -/
def topSentUptoRow : OpenClaim := { program := "ytlbdaklmlknmbaagreat", sum := "a476c60473b4eb5f8576361eda3965232ed4adf7f06b1b774d61e611aed62b71", func := "parclose/parclosetop.TopSent", spec := "topSent", inPlace := ["slices.overlaps[int]"], unfollowed := true, recurses := true, apart := false, narrowed := true }
def TopSentUptoSaid : Prop := topSentUptoRow.holds Tryz.pinned (OpenSpec.upto topSentSpec)

/-- 'parclosetop.TopOnce', WHERE WHAT IT READS IS OF BULK AT MOST 1048576: true; the input reads as it did. -/
def topOnceUptoRow : OpenClaim := { program := "ytlbdaklmlknmbaagreat", sum := "a476c60473b4eb5f8576361eda3965232ed4adf7f06b1b774d61e611aed62b71", func := "parclose/parclosetop.TopOnce", spec := "topOnce", inPlace := ["slices.overlaps[int]"], unfollowed := true, recurses := true, apart := false, narrowed := true }
def TopOnceUptoSaid : Prop := topOnceUptoRow.holds Tryz.pinned (OpenSpec.upto topOnceSpec)

end Rows
end Go.Proofs.YtlbdaklmlknmbaaGreat
