/-
  No cell of these rows narrows 'for every input' (looked for: loops, veiled, ifaces, maps, wideKeys, modest, calm, conditions, laid).
  DERIVED. THE GIVEN ROWS OF THIS SEAT. 6 by the template 'for every input the law returns true; each argument reads behind the call as it read before'; 0 by the template 'total and deterministic' (their statements: YtfjhocmnafdnfaaTotals.lean).
  GIVEN WITH THE SEED: the statements are not yours to turn. If you find one false, say at which input.
  Laid BY PROGRAM, IN A SANDBOX (cutbox-rows.mjs): the forced cells as the released guide's own fill.sh prints them over the translation 7bbb20bd42b9dc81… (all of the seat's roots in one cut). By AI agents, Wed Nov 11 2026. No macro, syntax, notation, axiom, sorry.
-/
import Derived.Test.YtfjhocmnafdnfaaChecked
import GoSem.Claim
import GoSem.ClaimJoined
import GoSem.ClaimMapViews
import Derived.JoinedTies
import Derived.KernelRfl
namespace Go.Proofs.Ytfjhocmnafdnfaa
/- THE CELL 'sum', in the pinned program and in every row, IS THE sha256 OF THE DUMP (.gsa) THAT YtfjhocmnafdnfaaProg.lean LOADS. Nothing in Lean hashes anything: it is a label: what it is worth is what the hold of that sum in a sandbox is worth. -/
noncomputable def Try.pinned : Pinned := { name := "ytfjhocmnafdnfaa", sum := "7bbb20bd42b9dc81bf5c429abbec987ee6cb4deb3747c26389f6f47233197da5", checked := Try.checked }
namespace Rows
def none {H : Type} : Left H := { results := [], args := [] }

/-- 'laws.FnExactGreatestSet': WHATEVER THE INPUT: true; the input reads as it did. -/
def fnExactGreatestSetSpec : ChangeSpec := { name := "fnExactGreatestSet", fn := fun _ => fun
  | [d] => { results := [.lit (.bool true)], args := [d] }
  | _ => none }
def fnExactGreatestSetRow : OpenClaim := { program := "ytfjhocmnafdnfaa", sum := "7bbb20bd42b9dc81bf5c429abbec987ee6cb4deb3747c26389f6f47233197da5", func := "loop.example/g01177/laws.FnExactGreatestSet", spec := "fnExactGreatestSet", unfollowed := true, recurses := true, apart := false }
def FnExactGreatestSetSaid : Prop := fnExactGreatestSetRow.holds Try.pinned (OpenSpec.ofChange fnExactGreatestSetSpec)

/-- ITS FALSE NEIGHBOUR: 'it returns false'. Refute it at one input. -/
def fnExactGreatestSetWrong : ChangeSpec := { name := "fnExactGreatestSet", fn := fun _ => fun
  | [d] => { results := [.lit (.bool false)], args := [d] }
  | _ => none }
def FnExactGreatestSetWrongFalsely : Prop := fnExactGreatestSetRow.holds Try.pinned (OpenSpec.ofChange fnExactGreatestSetWrong)

/-- 'laws.FnSequencesMoved': WHATEVER THE INPUT: true; the input reads as it did. -/
def fnSequencesMovedSpec : ChangeSpec := { name := "fnSequencesMoved", fn := fun _ => fun
  | [d1, d2] => { results := [.lit (.bool true)], args := [d1, d2] }
  | _ => none }
def fnSequencesMovedRow : OpenClaim := { program := "ytfjhocmnafdnfaa", sum := "7bbb20bd42b9dc81bf5c429abbec987ee6cb4deb3747c26389f6f47233197da5", func := "loop.example/g01177/laws.FnSequencesMoved", spec := "fnSequencesMoved", unfollowed := true, recurses := true, apart := false }
def FnSequencesMovedSaid : Prop := fnSequencesMovedRow.holds Try.pinned (OpenSpec.ofChange fnSequencesMovedSpec)

/-- ITS FALSE NEIGHBOUR: 'it returns false'. Refute it at one input. -/
def fnSequencesMovedWrong : ChangeSpec := { name := "fnSequencesMoved", fn := fun _ => fun
  | [d1, d2] => { results := [.lit (.bool false)], args := [d1, d2] }
  | _ => none }
def FnSequencesMovedWrongFalsely : Prop := fnSequencesMovedRow.holds Try.pinned (OpenSpec.ofChange fnSequencesMovedWrong)

/-- 'laws.FnCorrelationsMoved': WHATEVER THE INPUT: true; the input reads as it did. -/
def fnCorrelationsMovedSpec : ChangeSpec := { name := "fnCorrelationsMoved", fn := fun _ => fun
  | [d1, d2] => { results := [.lit (.bool true)], args := [d1, d2] }
  | _ => none }
def fnCorrelationsMovedRow : OpenClaim := { program := "ytfjhocmnafdnfaa", sum := "7bbb20bd42b9dc81bf5c429abbec987ee6cb4deb3747c26389f6f47233197da5", func := "loop.example/g01177/laws.FnCorrelationsMoved", spec := "fnCorrelationsMoved", unfollowed := true, recurses := true, apart := false }
def FnCorrelationsMovedSaid : Prop := fnCorrelationsMovedRow.holds Try.pinned (OpenSpec.ofChange fnCorrelationsMovedSpec)

/-- ITS FALSE NEIGHBOUR: 'it returns false'. Refute it at one input. -/
def fnCorrelationsMovedWrong : ChangeSpec := { name := "fnCorrelationsMoved", fn := fun _ => fun
  | [d1, d2] => { results := [.lit (.bool false)], args := [d1, d2] }
  | _ => none }
def FnCorrelationsMovedWrongFalsely : Prop := fnCorrelationsMovedRow.holds Try.pinned (OpenSpec.ofChange fnCorrelationsMovedWrong)

/-- 'laws.FnCorrelationsAgree': WHATEVER THE INPUT: true; the input reads as it did. -/
def fnCorrelationsAgreeSpec : ChangeSpec := { name := "fnCorrelationsAgree", fn := fun _ => fun
  | [d1, d2] => { results := [.lit (.bool true)], args := [d1, d2] }
  | _ => none }
def fnCorrelationsAgreeRow : OpenClaim := { program := "ytfjhocmnafdnfaa", sum := "7bbb20bd42b9dc81bf5c429abbec987ee6cb4deb3747c26389f6f47233197da5", func := "loop.example/g01177/laws.FnCorrelationsAgree", spec := "fnCorrelationsAgree", unfollowed := true, recurses := true, apart := false }
def FnCorrelationsAgreeSaid : Prop := fnCorrelationsAgreeRow.holds Try.pinned (OpenSpec.ofChange fnCorrelationsAgreeSpec)

/-- ITS FALSE NEIGHBOUR: 'it returns false'. Refute it at one input. -/
def fnCorrelationsAgreeWrong : ChangeSpec := { name := "fnCorrelationsAgree", fn := fun _ => fun
  | [d1, d2] => { results := [.lit (.bool false)], args := [d1, d2] }
  | _ => none }
def FnCorrelationsAgreeWrongFalsely : Prop := fnCorrelationsAgreeRow.holds Try.pinned (OpenSpec.ofChange fnCorrelationsAgreeWrong)

/-- 'laws.FnMeritsAndRoots': WHATEVER THE INPUT: true; the input reads as it did. -/
def fnMeritsAndRootsSpec : ChangeSpec := { name := "fnMeritsAndRoots", fn := fun _ => fun
  | [d1, d2] => { results := [.lit (.bool true)], args := [d1, d2] }
  | _ => none }
def fnMeritsAndRootsRow : OpenClaim := { program := "ytfjhocmnafdnfaa", sum := "7bbb20bd42b9dc81bf5c429abbec987ee6cb4deb3747c26389f6f47233197da5", func := "loop.example/g01177/laws.FnMeritsAndRoots", spec := "fnMeritsAndRoots", unfollowed := true, recurses := true, apart := false }
def FnMeritsAndRootsSaid : Prop := fnMeritsAndRootsRow.holds Try.pinned (OpenSpec.ofChange fnMeritsAndRootsSpec)

/-- ITS FALSE NEIGHBOUR: 'it returns false'. Refute it at one input. -/
def fnMeritsAndRootsWrong : ChangeSpec := { name := "fnMeritsAndRoots", fn := fun _ => fun
  | [d1, d2] => { results := [.lit (.bool false)], args := [d1, d2] }
  | _ => none }
def FnMeritsAndRootsWrongFalsely : Prop := fnMeritsAndRootsRow.holds Try.pinned (OpenSpec.ofChange fnMeritsAndRootsWrong)

/-- 'laws.FnSequencesJoined': WHATEVER THE INPUT: true; the input reads as it did. -/
def fnSequencesJoinedSpec : ChangeSpec := { name := "fnSequencesJoined", fn := fun _ => fun
  | [d1, d2] => { results := [.lit (.bool true)], args := [d1, d2] }
  | _ => none }
def fnSequencesJoinedRow : OpenClaim := { program := "ytfjhocmnafdnfaa", sum := "7bbb20bd42b9dc81bf5c429abbec987ee6cb4deb3747c26389f6f47233197da5", func := "loop.example/g01177/laws.FnSequencesJoined", spec := "fnSequencesJoined", inPlace := ["internal/bytealg.IndexByteString"], unfollowed := true, recurses := true, apart := false }
def FnSequencesJoinedSaid : Prop := fnSequencesJoinedRow.holds Try.pinned (OpenSpec.ofChange fnSequencesJoinedSpec)

/-- ITS FALSE NEIGHBOUR: 'it returns false'. Refute it at one input. -/
def fnSequencesJoinedWrong : ChangeSpec := { name := "fnSequencesJoined", fn := fun _ => fun
  | [d1, d2] => { results := [.lit (.bool false)], args := [d1, d2] }
  | _ => none }
def FnSequencesJoinedWrongFalsely : Prop := fnSequencesJoinedRow.holds Try.pinned (OpenSpec.ofChange fnSequencesJoinedWrong)

/- THE SECOND FORM. 'bulk': how many values and letters a reading holds, each counted each time it is reached (what is shared counts as often as it is met; a slice's spare places count too). A statement '..UptoSaid' is the law's where the arguments, and the package variables that the reading takes, are together of bulk at most 1048576: NARROWER than '..Said'. Prove '..Said' where nothing that the law and all that it calls make is longer than what came in: it says more and counts as full. Else prove '..UptoSaid'. A law counts once. -/
mutual
def uptoBulk {H : Type} : DataW H → Nat
  | .lit (.string bytes) => bytes.length + 1
  | .lit _ => 1
  | .nil => 1
  | .ptr d => uptoBulk d + 1
  | .slice elems spare => uptoBulkAll elems + uptoBulkAll spare + 1
  | .agg parts => uptoBulkAll parts + 1
  | .iface _ d => uptoBulk d + 1
  | .map entries => uptoBulkEntries entries + 1
  | .held _ => 1
def uptoBulkAll {H : Type} : List (DataW H) → Nat
  | [] => 0
  | d :: r => uptoBulk d + uptoBulkAll r
def uptoBulkEntries {H : Type} : List (Lit × DataW H) → Nat
  | [] => 0
  | x :: r => uptoBulkEntry x + uptoBulkEntries r
def uptoBulkEntry {H : Type} : Lit × DataW H → Nat
  | (.string bytes, d) => bytes.length + uptoBulk d + 1
  | (_, d) => uptoBulk d + 1
 end
def uptoSmall : (H : Type) → List (DataW H) → Bool := fun _ ds => decide (uptoBulkAll ds ≤ 1048576)
def OpenSpec.upto (s : _root_.Go.ChangeSpec) : _root_.Go.OpenSpec := { _root_.Go.OpenSpec.ofChange s with cond := some uptoSmall }

/-- 'laws.FnExactGreatestSet', WHERE WHAT IT READS IS OF BULK AT MOST 1048576: true; the input reads as it did. -/
def fnExactGreatestSetUptoRow : OpenClaim := { program := "ytfjhocmnafdnfaa", sum := "7bbb20bd42b9dc81bf5c429abbec987ee6cb4deb3747c26389f6f47233197da5", func := "loop.example/g01177/laws.FnExactGreatestSet", spec := "fnExactGreatestSet", unfollowed := true, recurses := true, apart := false, narrowed := true }
def FnExactGreatestSetUptoSaid : Prop := fnExactGreatestSetUptoRow.holds Try.pinned (OpenSpec.upto fnExactGreatestSetSpec)

/-- 'laws.FnSequencesMoved', WHERE WHAT IT READS IS OF BULK AT MOST 1048576: true; the input reads as it did. -/
def fnSequencesMovedUptoRow : OpenClaim := { program := "ytfjhocmnafdnfaa", sum := "7bbb20bd42b9dc81bf5c429abbec987ee6cb4deb3747c26389f6f47233197da5", func := "loop.example/g01177/laws.FnSequencesMoved", spec := "fnSequencesMoved", unfollowed := true, recurses := true, apart := false, narrowed := true }
def FnSequencesMovedUptoSaid : Prop := fnSequencesMovedUptoRow.holds Try.pinned (OpenSpec.upto fnSequencesMovedSpec)

/-- 'laws.FnCorrelationsMoved', WHERE WHAT IT READS IS OF BULK AT MOST 1048576: true; the input reads as it did. -/
def fnCorrelationsMovedUptoRow : OpenClaim := { program := "ytfjhocmnafdnfaa", sum := "7bbb20bd42b9dc81bf5c429abbec987ee6cb4deb3747c26389f6f47233197da5", func := "loop.example/g01177/laws.FnCorrelationsMoved", spec := "fnCorrelationsMoved", unfollowed := true, recurses := true, apart := false, narrowed := true }
def FnCorrelationsMovedUptoSaid : Prop := fnCorrelationsMovedUptoRow.holds Try.pinned (OpenSpec.upto fnCorrelationsMovedSpec)

/-- 'laws.FnCorrelationsAgree', WHERE WHAT IT READS IS OF BULK AT MOST 1048576: true; the input reads as it did. -/
def fnCorrelationsAgreeUptoRow : OpenClaim := { program := "ytfjhocmnafdnfaa", sum := "7bbb20bd42b9dc81bf5c429abbec987ee6cb4deb3747c26389f6f47233197da5", func := "loop.example/g01177/laws.FnCorrelationsAgree", spec := "fnCorrelationsAgree", unfollowed := true, recurses := true, apart := false, narrowed := true }
def FnCorrelationsAgreeUptoSaid : Prop := fnCorrelationsAgreeUptoRow.holds Try.pinned (OpenSpec.upto fnCorrelationsAgreeSpec)

/-- 'laws.FnMeritsAndRoots', WHERE WHAT IT READS IS OF BULK AT MOST 1048576: true; the input reads as it did. -/
def fnMeritsAndRootsUptoRow : OpenClaim := { program := "ytfjhocmnafdnfaa", sum := "7bbb20bd42b9dc81bf5c429abbec987ee6cb4deb3747c26389f6f47233197da5", func := "loop.example/g01177/laws.FnMeritsAndRoots", spec := "fnMeritsAndRoots", unfollowed := true, recurses := true, apart := false, narrowed := true }
def FnMeritsAndRootsUptoSaid : Prop := fnMeritsAndRootsUptoRow.holds Try.pinned (OpenSpec.upto fnMeritsAndRootsSpec)

/-- 'laws.FnSequencesJoined', WHERE WHAT IT READS IS OF BULK AT MOST 1048576: true; the input reads as it did. -/
def fnSequencesJoinedUptoRow : OpenClaim := { program := "ytfjhocmnafdnfaa", sum := "7bbb20bd42b9dc81bf5c429abbec987ee6cb4deb3747c26389f6f47233197da5", func := "loop.example/g01177/laws.FnSequencesJoined", spec := "fnSequencesJoined", inPlace := ["internal/bytealg.IndexByteString"], unfollowed := true, recurses := true, apart := false, narrowed := true }
def FnSequencesJoinedUptoSaid : Prop := fnSequencesJoinedUptoRow.holds Try.pinned (OpenSpec.upto fnSequencesJoinedSpec)

end Rows
end Go.Proofs.Ytfjhocmnafdnfaa
