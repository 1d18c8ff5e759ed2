/-
  No cell of these rows narrows 'for every input' (looked for: loops, veiled, ifaces, maps, wideKeys, modest, calm, conditions, laid).
  DERIVED. THE GIVEN ROWS OF THIS SEAT. 8 by the template 'for every input the law returns true; each argument reads behind the call as it read before'; 0 by the template 'total and deterministic' (their statements: YtbppbkoppbnodabTotals.lean).
  GIVEN WITH THE SEED: the statements are not yours to turn. If you find one false, say at which input.
  Laid BY PROGRAM, IN A SANDBOX (cutbox-rows.mjs): the forced cells as the released guide's own fill.sh prints them over the translation 8a77022da66ff0b6… (all of the seat's roots in one cut). By AI agents, Wed Nov 11 2026. No macro, syntax, notation, axiom, sorry.
-/
import Derived.Test.YtbppbkoppbnodabChecked
import GoSem.Claim
import GoSem.ClaimJoined
import GoSem.ClaimMapViews
import Derived.JoinedTies
import Derived.KernelRfl
namespace Go.Proofs.Ytbppbkoppbnodab
/- THE CELL 'sum', in the pinned program and in every row, IS THE sha256 OF THE DUMP (.gsa) THAT YtbppbkoppbnodabProg.lean LOADS. Nothing in Lean hashes anything: it is a label: what it is worth is what the hold of that sum in a sandbox is worth. -/
noncomputable def Try.pinned : Pinned := { name := "ytbppbkoppbnodab", sum := "8a77022da66ff0b6a5da924ef5e9aa311f4d279b7e00cf0a78119f5858f75335", checked := Try.checked }
namespace Rows
def none {H : Type} : Left H := { results := [], args := [] }

/-- 'laws.FnExactIsMatrix': WHATEVER THE INPUT: true; the input reads as it did. -/
def fnExactIsMatrixSpec : ChangeSpec := { name := "fnExactIsMatrix", fn := fun _ => fun
  | [d] => { results := [.lit (.bool true)], args := [d] }
  | _ => none }
def fnExactIsMatrixRow : OpenClaim := { program := "ytbppbkoppbnodab", sum := "8a77022da66ff0b6a5da924ef5e9aa311f4d279b7e00cf0a78119f5858f75335", func := "loop.example/g01177/laws.FnExactIsMatrix", spec := "fnExactIsMatrix", apart := false }
def FnExactIsMatrixSaid : Prop := fnExactIsMatrixRow.holds Try.pinned (OpenSpec.ofChange fnExactIsMatrixSpec)

/-- ITS FALSE NEIGHBOUR: 'it returns false'. Refute it at one input. -/
def fnExactIsMatrixWrong : ChangeSpec := { name := "fnExactIsMatrix", fn := fun _ => fun
  | [d] => { results := [.lit (.bool false)], args := [d] }
  | _ => none }
def FnExactIsMatrixWrongFalsely : Prop := fnExactIsMatrixRow.holds Try.pinned (OpenSpec.ofChange fnExactIsMatrixWrong)

/-- 'laws.FnExactInnerOf': WHATEVER THE INPUT: true; the input reads as it did. -/
def fnExactInnerOfSpec : ChangeSpec := { name := "fnExactInnerOf", fn := fun _ => fun
  | [d1, d2, d3] => { results := [.lit (.bool true)], args := [d1, d2, d3] }
  | _ => none }
def fnExactInnerOfRow : OpenClaim := { program := "ytbppbkoppbnodab", sum := "8a77022da66ff0b6a5da924ef5e9aa311f4d279b7e00cf0a78119f5858f75335", func := "loop.example/g01177/laws.FnExactInnerOf", spec := "fnExactInnerOf", apart := false }
def FnExactInnerOfSaid : Prop := fnExactInnerOfRow.holds Try.pinned (OpenSpec.ofChange fnExactInnerOfSpec)

/-- ITS FALSE NEIGHBOUR: 'it returns false'. Refute it at one input. -/
def fnExactInnerOfWrong : ChangeSpec := { name := "fnExactInnerOf", fn := fun _ => fun
  | [d1, d2, d3] => { results := [.lit (.bool false)], args := [d1, d2, d3] }
  | _ => none }
def FnExactInnerOfWrongFalsely : Prop := fnExactInnerOfRow.holds Try.pinned (OpenSpec.ofChange fnExactInnerOfWrong)

/-- 'laws.FnExactIsHadamard': WHATEVER THE INPUT: true; the input reads as it did. -/
def fnExactIsHadamardSpec : ChangeSpec := { name := "fnExactIsHadamard", fn := fun _ => fun
  | [d] => { results := [.lit (.bool true)], args := [d] }
  | _ => none }
def fnExactIsHadamardRow : OpenClaim := { program := "ytbppbkoppbnodab", sum := "8a77022da66ff0b6a5da924ef5e9aa311f4d279b7e00cf0a78119f5858f75335", func := "loop.example/g01177/laws.FnExactIsHadamard", spec := "fnExactIsHadamard", apart := false }
def FnExactIsHadamardSaid : Prop := fnExactIsHadamardRow.holds Try.pinned (OpenSpec.ofChange fnExactIsHadamardSpec)

/-- ITS FALSE NEIGHBOUR: 'it returns false'. Refute it at one input. -/
def fnExactIsHadamardWrong : ChangeSpec := { name := "fnExactIsHadamard", fn := fun _ => fun
  | [d] => { results := [.lit (.bool false)], args := [d] }
  | _ => none }
def FnExactIsHadamardWrongFalsely : Prop := fnExactIsHadamardRow.holds Try.pinned (OpenSpec.ofChange fnExactIsHadamardWrong)

/-- 'laws.FnExactExcessOf': WHATEVER THE INPUT: true; the input reads as it did. -/
def fnExactExcessOfSpec : ChangeSpec := { name := "fnExactExcessOf", fn := fun _ => fun
  | [d] => { results := [.lit (.bool true)], args := [d] }
  | _ => none }
def fnExactExcessOfRow : OpenClaim := { program := "ytbppbkoppbnodab", sum := "8a77022da66ff0b6a5da924ef5e9aa311f4d279b7e00cf0a78119f5858f75335", func := "loop.example/g01177/laws.FnExactExcessOf", spec := "fnExactExcessOf", apart := false }
def FnExactExcessOfSaid : Prop := fnExactExcessOfRow.holds Try.pinned (OpenSpec.ofChange fnExactExcessOfSpec)

/-- ITS FALSE NEIGHBOUR: 'it returns false'. Refute it at one input. -/
def fnExactExcessOfWrong : ChangeSpec := { name := "fnExactExcessOf", fn := fun _ => fun
  | [d] => { results := [.lit (.bool false)], args := [d] }
  | _ => none }
def FnExactExcessOfWrongFalsely : Prop := fnExactExcessOfRow.holds Try.pinned (OpenSpec.ofChange fnExactExcessOfWrong)

/-- 'laws.FnExactGreatestExcess': WHATEVER THE INPUT: true; the input reads as it did. -/
def fnExactGreatestExcessSpec : ChangeSpec := { name := "fnExactGreatestExcess", fn := fun _ => fun
  | [d] => { results := [.lit (.bool true)], args := [d] }
  | _ => none }
def fnExactGreatestExcessRow : OpenClaim := { program := "ytbppbkoppbnodab", sum := "8a77022da66ff0b6a5da924ef5e9aa311f4d279b7e00cf0a78119f5858f75335", func := "loop.example/g01177/laws.FnExactGreatestExcess", spec := "fnExactGreatestExcess", apart := false }
def FnExactGreatestExcessSaid : Prop := fnExactGreatestExcessRow.holds Try.pinned (OpenSpec.ofChange fnExactGreatestExcessSpec)

/-- ITS FALSE NEIGHBOUR: 'it returns false'. Refute it at one input. -/
def fnExactGreatestExcessWrong : ChangeSpec := { name := "fnExactGreatestExcess", fn := fun _ => fun
  | [d] => { results := [.lit (.bool false)], args := [d] }
  | _ => none }
def FnExactGreatestExcessWrongFalsely : Prop := fnExactGreatestExcessRow.holds Try.pinned (OpenSpec.ofChange fnExactGreatestExcessWrong)

/-- 'laws.FnExactCountHadamard': WHATEVER THE INPUT: true; the input reads as it did. -/
def fnExactCountHadamardSpec : ChangeSpec := { name := "fnExactCountHadamard", fn := fun _ => fun
  | [d] => { results := [.lit (.bool true)], args := [d] }
  | _ => none }
def fnExactCountHadamardRow : OpenClaim := { program := "ytbppbkoppbnodab", sum := "8a77022da66ff0b6a5da924ef5e9aa311f4d279b7e00cf0a78119f5858f75335", func := "loop.example/g01177/laws.FnExactCountHadamard", spec := "fnExactCountHadamard", recurses := true, apart := false }
def FnExactCountHadamardSaid : Prop := fnExactCountHadamardRow.holds Try.pinned (OpenSpec.ofChange fnExactCountHadamardSpec)

/-- ITS FALSE NEIGHBOUR: 'it returns false'. Refute it at one input. -/
def fnExactCountHadamardWrong : ChangeSpec := { name := "fnExactCountHadamard", fn := fun _ => fun
  | [d] => { results := [.lit (.bool false)], args := [d] }
  | _ => none }
def FnExactCountHadamardWrongFalsely : Prop := fnExactCountHadamardRow.holds Try.pinned (OpenSpec.ofChange fnExactCountHadamardWrong)

/-- 'laws.FnExactDeterminantOf': WHATEVER THE INPUT: true; the input reads as it did. -/
def fnExactDeterminantOfSpec : ChangeSpec := { name := "fnExactDeterminantOf", fn := fun _ => fun
  | [d] => { results := [.lit (.bool true)], args := [d] }
  | _ => none }
def fnExactDeterminantOfRow : OpenClaim := { program := "ytbppbkoppbnodab", sum := "8a77022da66ff0b6a5da924ef5e9aa311f4d279b7e00cf0a78119f5858f75335", func := "loop.example/g01177/laws.FnExactDeterminantOf", spec := "fnExactDeterminantOf", recurses := true, apart := false }
def FnExactDeterminantOfSaid : Prop := fnExactDeterminantOfRow.holds Try.pinned (OpenSpec.ofChange fnExactDeterminantOfSpec)

/-- ITS FALSE NEIGHBOUR: 'it returns false'. Refute it at one input. -/
def fnExactDeterminantOfWrong : ChangeSpec := { name := "fnExactDeterminantOf", fn := fun _ => fun
  | [d] => { results := [.lit (.bool false)], args := [d] }
  | _ => none }
def FnExactDeterminantOfWrongFalsely : Prop := fnExactDeterminantOfRow.holds Try.pinned (OpenSpec.ofChange fnExactDeterminantOfWrong)

/-- 'laws.FnExactFirstPairOfRows': WHATEVER THE INPUT: true; the input reads as it did. -/
def fnExactFirstPairOfRowsSpec : ChangeSpec := { name := "fnExactFirstPairOfRows", fn := fun _ => fun
  | [d] => { results := [.lit (.bool true)], args := [d] }
  | _ => none }
def fnExactFirstPairOfRowsRow : OpenClaim := { program := "ytbppbkoppbnodab", sum := "8a77022da66ff0b6a5da924ef5e9aa311f4d279b7e00cf0a78119f5858f75335", func := "loop.example/g01177/laws.FnExactFirstPairOfRows", spec := "fnExactFirstPairOfRows", apart := false }
def FnExactFirstPairOfRowsSaid : Prop := fnExactFirstPairOfRowsRow.holds Try.pinned (OpenSpec.ofChange fnExactFirstPairOfRowsSpec)

/-- ITS FALSE NEIGHBOUR: 'it returns false'. Refute it at one input. -/
def fnExactFirstPairOfRowsWrong : ChangeSpec := { name := "fnExactFirstPairOfRows", fn := fun _ => fun
  | [d] => { results := [.lit (.bool false)], args := [d] }
  | _ => none }
def FnExactFirstPairOfRowsWrongFalsely : Prop := fnExactFirstPairOfRowsRow.holds Try.pinned (OpenSpec.ofChange fnExactFirstPairOfRowsWrong)

/- THE SECOND FORM. 'bulk': how many values and letters a reading holds, each counted each time it is reached (what is shared counts as often as it is met; a slice's spare places count too). A statement '..UptoSaid' is the law's where the arguments, and the package variables that the reading takes, are together of bulk at most 1048576: NARROWER than '..Said'. Prove '..Said' where nothing that the law and all that it calls make is longer than what came in: it says more and counts as full. Else prove '..UptoSaid'. A law counts once. -/
mutual
def uptoBulk {H : Type} : DataW H → Nat
  | .lit (.string bytes) => bytes.length + 1
  | .lit _ => 1
  | .nil => 1
  | .ptr d => uptoBulk d + 1
  | .slice elems spare => uptoBulkAll elems + uptoBulkAll spare + 1
  | .agg parts => uptoBulkAll parts + 1
  | .iface _ d => uptoBulk d + 1
  | .map entries => uptoBulkEntries entries + 1
  | .held _ => 1
def uptoBulkAll {H : Type} : List (DataW H) → Nat
  | [] => 0
  | d :: r => uptoBulk d + uptoBulkAll r
def uptoBulkEntries {H : Type} : List (Lit × DataW H) → Nat
  | [] => 0
  | x :: r => uptoBulkEntry x + uptoBulkEntries r
def uptoBulkEntry {H : Type} : Lit × DataW H → Nat
  | (.string bytes, d) => bytes.length + uptoBulk d + 1
  | (_, d) => uptoBulk d + 1
 end
def uptoSmall : (H : Type) → List (DataW H) → Bool := fun _ ds => decide (uptoBulkAll ds ≤ 1048576)
def OpenSpec.upto (s : _root_.Go.ChangeSpec) : _root_.Go.OpenSpec := { _root_.Go.OpenSpec.ofChange s with cond := some uptoSmall }

/-- 'laws.FnExactIsMatrix', WHERE WHAT IT READS IS OF BULK AT MOST 1048576: true; the input reads as it did. -/
def fnExactIsMatrixUptoRow : OpenClaim := { program := "ytbppbkoppbnodab", sum := "8a77022da66ff0b6a5da924ef5e9aa311f4d279b7e00cf0a78119f5858f75335", func := "loop.example/g01177/laws.FnExactIsMatrix", spec := "fnExactIsMatrix", apart := false, narrowed := true }
def FnExactIsMatrixUptoSaid : Prop := fnExactIsMatrixUptoRow.holds Try.pinned (OpenSpec.upto fnExactIsMatrixSpec)

/-- 'laws.FnExactInnerOf', WHERE WHAT IT READS IS OF BULK AT MOST 1048576: true; the input reads as it did. -/
def fnExactInnerOfUptoRow : OpenClaim := { program := "ytbppbkoppbnodab", sum := "8a77022da66ff0b6a5da924ef5e9aa311f4d279b7e00cf0a78119f5858f75335", func := "loop.example/g01177/laws.FnExactInnerOf", spec := "fnExactInnerOf", apart := false, narrowed := true }
def FnExactInnerOfUptoSaid : Prop := fnExactInnerOfUptoRow.holds Try.pinned (OpenSpec.upto fnExactInnerOfSpec)

/-- 'laws.FnExactIsHadamard', WHERE WHAT IT READS IS OF BULK AT MOST 1048576: true; the input reads as it did. -/
def fnExactIsHadamardUptoRow : OpenClaim := { program := "ytbppbkoppbnodab", sum := "8a77022da66ff0b6a5da924ef5e9aa311f4d279b7e00cf0a78119f5858f75335", func := "loop.example/g01177/laws.FnExactIsHadamard", spec := "fnExactIsHadamard", apart := false, narrowed := true }
def FnExactIsHadamardUptoSaid : Prop := fnExactIsHadamardUptoRow.holds Try.pinned (OpenSpec.upto fnExactIsHadamardSpec)

/-- 'laws.FnExactExcessOf', WHERE WHAT IT READS IS OF BULK AT MOST 1048576: true; the input reads as it did. -/
def fnExactExcessOfUptoRow : OpenClaim := { program := "ytbppbkoppbnodab", sum := "8a77022da66ff0b6a5da924ef5e9aa311f4d279b7e00cf0a78119f5858f75335", func := "loop.example/g01177/laws.FnExactExcessOf", spec := "fnExactExcessOf", apart := false, narrowed := true }
def FnExactExcessOfUptoSaid : Prop := fnExactExcessOfUptoRow.holds Try.pinned (OpenSpec.upto fnExactExcessOfSpec)

/-- 'laws.FnExactGreatestExcess', WHERE WHAT IT READS IS OF BULK AT MOST 1048576: true; the input reads as it did. -/
def fnExactGreatestExcessUptoRow : OpenClaim := { program := "ytbppbkoppbnodab", sum := "8a77022da66ff0b6a5da924ef5e9aa311f4d279b7e00cf0a78119f5858f75335", func := "loop.example/g01177/laws.FnExactGreatestExcess", spec := "fnExactGreatestExcess", apart := false, narrowed := true }
def FnExactGreatestExcessUptoSaid : Prop := fnExactGreatestExcessUptoRow.holds Try.pinned (OpenSpec.upto fnExactGreatestExcessSpec)

/-- 'laws.FnExactCountHadamard', WHERE WHAT IT READS IS OF BULK AT MOST 1048576: true; the input reads as it did. -/
def fnExactCountHadamardUptoRow : OpenClaim := { program := "ytbppbkoppbnodab", sum := "8a77022da66ff0b6a5da924ef5e9aa311f4d279b7e00cf0a78119f5858f75335", func := "loop.example/g01177/laws.FnExactCountHadamard", spec := "fnExactCountHadamard", recurses := true, apart := false, narrowed := true }
def FnExactCountHadamardUptoSaid : Prop := fnExactCountHadamardUptoRow.holds Try.pinned (OpenSpec.upto fnExactCountHadamardSpec)

/-- 'laws.FnExactDeterminantOf', WHERE WHAT IT READS IS OF BULK AT MOST 1048576: true; the input reads as it did. -/
def fnExactDeterminantOfUptoRow : OpenClaim := { program := "ytbppbkoppbnodab", sum := "8a77022da66ff0b6a5da924ef5e9aa311f4d279b7e00cf0a78119f5858f75335", func := "loop.example/g01177/laws.FnExactDeterminantOf", spec := "fnExactDeterminantOf", recurses := true, apart := false, narrowed := true }
def FnExactDeterminantOfUptoSaid : Prop := fnExactDeterminantOfUptoRow.holds Try.pinned (OpenSpec.upto fnExactDeterminantOfSpec)

/-- 'laws.FnExactFirstPairOfRows', WHERE WHAT IT READS IS OF BULK AT MOST 1048576: true; the input reads as it did. -/
def fnExactFirstPairOfRowsUptoRow : OpenClaim := { program := "ytbppbkoppbnodab", sum := "8a77022da66ff0b6a5da924ef5e9aa311f4d279b7e00cf0a78119f5858f75335", func := "loop.example/g01177/laws.FnExactFirstPairOfRows", spec := "fnExactFirstPairOfRows", apart := false, narrowed := true }
def FnExactFirstPairOfRowsUptoSaid : Prop := fnExactFirstPairOfRowsUptoRow.holds Try.pinned (OpenSpec.upto fnExactFirstPairOfRowsSpec)

end Rows
end Go.Proofs.Ytbppbkoppbnodab
