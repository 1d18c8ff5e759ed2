/-
  No cell of these rows narrows 'for every input' (looked for: loops, veiled, ifaces, maps, wideKeys, modest, calm, conditions, laid).
  DERIVED. THE GIVEN ROWS OF THIS SEAT. 13 by the template 'for every input the law returns true; each argument reads behind the call as it read before'; 0 by the template 'total and deterministic' (their statements: YtodgalflngfnpaaTotals.lean).
  GIVEN WITH THE SEED: the statements are not yours to turn. If you find one false, say at which input.
  Laid BY PROGRAM, IN A SANDBOX (cutbox-rows.mjs): the forced cells as the released guide's own fill.sh prints them over the translation e2c252f2b6c5cd27… (all of the seat's roots in one cut). By AI agents, Wed Nov 11 2026. No macro, syntax, notation, axiom, sorry.
-/
import Derived.Test.YtodgalflngfnpaaChecked
import GoSem.Claim
import GoSem.ClaimJoined
import GoSem.ClaimMapViews
import Derived.JoinedTies
import Derived.KernelRfl
namespace Go.Proofs.Ytodgalflngfnpaa
/- THE CELL 'sum', in the pinned program and in every row, IS THE sha256 OF THE DUMP (.gsa) THAT YtodgalflngfnpaaProg.lean LOADS. Nothing in Lean hashes anything: it is a label: what it is worth is what the hold of that sum in a sandbox is worth. -/
noncomputable def Try.pinned : Pinned := { name := "ytodgalflngfnpaa", sum := "e2c252f2b6c5cd274577961ac5f6ddb67af8a9d6816ea1333e665aa0eba14122", checked := Try.checked }
namespace Rows
def none {H : Type} : Left H := { results := [], args := [] }

/-- 'laws.FnExactIsGolay': WHATEVER THE INPUT: true; the input reads as it did. -/
def fnExactIsGolaySpec : ChangeSpec := { name := "fnExactIsGolay", fn := fun _ => fun
  | [d1, d2] => { results := [.lit (.bool true)], args := [d1, d2] }
  | _ => none }
def fnExactIsGolayRow : OpenClaim := { program := "ytodgalflngfnpaa", sum := "e2c252f2b6c5cd274577961ac5f6ddb67af8a9d6816ea1333e665aa0eba14122", func := "loop.example/g01177/laws.FnExactIsGolay", spec := "fnExactIsGolay", apart := false }
def FnExactIsGolaySaid : Prop := fnExactIsGolayRow.holds Try.pinned (OpenSpec.ofChange fnExactIsGolaySpec)

/-- ITS FALSE NEIGHBOUR: 'it returns false'. Refute it at one input. -/
def fnExactIsGolayWrong : ChangeSpec := { name := "fnExactIsGolay", fn := fun _ => fun
  | [d1, d2] => { results := [.lit (.bool false)], args := [d1, d2] }
  | _ => none }
def FnExactIsGolayWrongFalsely : Prop := fnExactIsGolayRow.holds Try.pinned (OpenSpec.ofChange fnExactIsGolayWrong)

/-- 'laws.FnExactPairSums': WHATEVER THE INPUT: true; the input reads as it did. -/
def fnExactPairSumsSpec : ChangeSpec := { name := "fnExactPairSums", fn := fun _ => fun
  | [d1, d2] => { results := [.lit (.bool true)], args := [d1, d2] }
  | _ => none }
def fnExactPairSumsRow : OpenClaim := { program := "ytodgalflngfnpaa", sum := "e2c252f2b6c5cd274577961ac5f6ddb67af8a9d6816ea1333e665aa0eba14122", func := "loop.example/g01177/laws.FnExactPairSums", spec := "fnExactPairSums", apart := false }
def FnExactPairSumsSaid : Prop := fnExactPairSumsRow.holds Try.pinned (OpenSpec.ofChange fnExactPairSumsSpec)

/-- ITS FALSE NEIGHBOUR: 'it returns false'. Refute it at one input. -/
def fnExactPairSumsWrong : ChangeSpec := { name := "fnExactPairSums", fn := fun _ => fun
  | [d1, d2] => { results := [.lit (.bool false)], args := [d1, d2] }
  | _ => none }
def FnExactPairSumsWrongFalsely : Prop := fnExactPairSumsRow.holds Try.pinned (OpenSpec.ofChange fnExactPairSumsWrong)

/-- 'laws.FnExactCountGolay': WHATEVER THE INPUT: true; the input reads as it did. -/
def fnExactCountGolaySpec : ChangeSpec := { name := "fnExactCountGolay", fn := fun _ => fun
  | [d] => { results := [.lit (.bool true)], args := [d] }
  | _ => none }
def fnExactCountGolayRow : OpenClaim := { program := "ytodgalflngfnpaa", sum := "e2c252f2b6c5cd274577961ac5f6ddb67af8a9d6816ea1333e665aa0eba14122", func := "loop.example/g01177/laws.FnExactCountGolay", spec := "fnExactCountGolay", apart := false }
def FnExactCountGolaySaid : Prop := fnExactCountGolayRow.holds Try.pinned (OpenSpec.ofChange fnExactCountGolaySpec)

/-- ITS FALSE NEIGHBOUR: 'it returns false'. Refute it at one input. -/
def fnExactCountGolayWrong : ChangeSpec := { name := "fnExactCountGolay", fn := fun _ => fun
  | [d] => { results := [.lit (.bool false)], args := [d] }
  | _ => none }
def FnExactCountGolayWrongFalsely : Prop := fnExactCountGolayRow.holds Try.pinned (OpenSpec.ofChange fnExactCountGolayWrong)

/-- 'laws.FnExactFirstGolay': WHATEVER THE INPUT: true; the input reads as it did. -/
def fnExactFirstGolaySpec : ChangeSpec := { name := "fnExactFirstGolay", fn := fun _ => fun
  | [d] => { results := [.lit (.bool true)], args := [d] }
  | _ => none }
def fnExactFirstGolayRow : OpenClaim := { program := "ytodgalflngfnpaa", sum := "e2c252f2b6c5cd274577961ac5f6ddb67af8a9d6816ea1333e665aa0eba14122", func := "loop.example/g01177/laws.FnExactFirstGolay", spec := "fnExactFirstGolay", apart := false }
def FnExactFirstGolaySaid : Prop := fnExactFirstGolayRow.holds Try.pinned (OpenSpec.ofChange fnExactFirstGolaySpec)

/-- ITS FALSE NEIGHBOUR: 'it returns false'. Refute it at one input. -/
def fnExactFirstGolayWrong : ChangeSpec := { name := "fnExactFirstGolay", fn := fun _ => fun
  | [d] => { results := [.lit (.bool false)], args := [d] }
  | _ => none }
def FnExactFirstGolayWrongFalsely : Prop := fnExactFirstGolayRow.holds Try.pinned (OpenSpec.ofChange fnExactFirstGolayWrong)

/-- 'laws.FnExactJoinPair': WHATEVER THE INPUT: true; the input reads as it did. -/
def fnExactJoinPairSpec : ChangeSpec := { name := "fnExactJoinPair", fn := fun _ => fun
  | [d1, d2, d3] => { results := [.lit (.bool true)], args := [d1, d2, d3] }
  | _ => none }
def fnExactJoinPairRow : OpenClaim := { program := "ytodgalflngfnpaa", sum := "e2c252f2b6c5cd274577961ac5f6ddb67af8a9d6816ea1333e665aa0eba14122", func := "loop.example/g01177/laws.FnExactJoinPair", spec := "fnExactJoinPair", unfollowed := true, recurses := true, apart := false }
def FnExactJoinPairSaid : Prop := fnExactJoinPairRow.holds Try.pinned (OpenSpec.ofChange fnExactJoinPairSpec)

/-- ITS FALSE NEIGHBOUR: 'it returns false'. Refute it at one input. -/
def fnExactJoinPairWrong : ChangeSpec := { name := "fnExactJoinPair", fn := fun _ => fun
  | [d1, d2, d3] => { results := [.lit (.bool false)], args := [d1, d2, d3] }
  | _ => none }
def FnExactJoinPairWrongFalsely : Prop := fnExactJoinPairRow.holds Try.pinned (OpenSpec.ofChange fnExactJoinPairWrong)

/-- 'laws.FnExactInterleavePair': WHATEVER THE INPUT: true; the input reads as it did. -/
def fnExactInterleavePairSpec : ChangeSpec := { name := "fnExactInterleavePair", fn := fun _ => fun
  | [d1, d2] => { results := [.lit (.bool true)], args := [d1, d2] }
  | _ => none }
def fnExactInterleavePairRow : OpenClaim := { program := "ytodgalflngfnpaa", sum := "e2c252f2b6c5cd274577961ac5f6ddb67af8a9d6816ea1333e665aa0eba14122", func := "loop.example/g01177/laws.FnExactInterleavePair", spec := "fnExactInterleavePair", unfollowed := true, recurses := true, apart := false }
def FnExactInterleavePairSaid : Prop := fnExactInterleavePairRow.holds Try.pinned (OpenSpec.ofChange fnExactInterleavePairSpec)

/-- ITS FALSE NEIGHBOUR: 'it returns false'. Refute it at one input. -/
def fnExactInterleavePairWrong : ChangeSpec := { name := "fnExactInterleavePair", fn := fun _ => fun
  | [d1, d2] => { results := [.lit (.bool false)], args := [d1, d2] }
  | _ => none }
def FnExactInterleavePairWrongFalsely : Prop := fnExactInterleavePairRow.holds Try.pinned (OpenSpec.ofChange fnExactInterleavePairWrong)

/-- 'laws.FnExactMateOf': WHATEVER THE INPUT: true; the input reads as it did. -/
def fnExactMateOfSpec : ChangeSpec := { name := "fnExactMateOf", fn := fun _ => fun
  | [d1, d2] => { results := [.lit (.bool true)], args := [d1, d2] }
  | _ => none }
def fnExactMateOfRow : OpenClaim := { program := "ytodgalflngfnpaa", sum := "e2c252f2b6c5cd274577961ac5f6ddb67af8a9d6816ea1333e665aa0eba14122", func := "loop.example/g01177/laws.FnExactMateOf", spec := "fnExactMateOf", unfollowed := true, recurses := true, apart := false }
def FnExactMateOfSaid : Prop := fnExactMateOfRow.holds Try.pinned (OpenSpec.ofChange fnExactMateOfSpec)

/-- ITS FALSE NEIGHBOUR: 'it returns false'. Refute it at one input. -/
def fnExactMateOfWrong : ChangeSpec := { name := "fnExactMateOf", fn := fun _ => fun
  | [d1, d2] => { results := [.lit (.bool false)], args := [d1, d2] }
  | _ => none }
def FnExactMateOfWrongFalsely : Prop := fnExactMateOfRow.holds Try.pinned (OpenSpec.ofChange fnExactMateOfWrong)

/-- 'laws.FnExactAreMates': WHATEVER THE INPUT: true; the input reads as it did. -/
def fnExactAreMatesSpec : ChangeSpec := { name := "fnExactAreMates", fn := fun _ => fun
  | [d1, d2, d3, d4] => { results := [.lit (.bool true)], args := [d1, d2, d3, d4] }
  | _ => none }
def fnExactAreMatesRow : OpenClaim := { program := "ytodgalflngfnpaa", sum := "e2c252f2b6c5cd274577961ac5f6ddb67af8a9d6816ea1333e665aa0eba14122", func := "loop.example/g01177/laws.FnExactAreMates", spec := "fnExactAreMates", apart := false }
def FnExactAreMatesSaid : Prop := fnExactAreMatesRow.holds Try.pinned (OpenSpec.ofChange fnExactAreMatesSpec)

/-- ITS FALSE NEIGHBOUR: 'it returns false'. Refute it at one input. -/
def fnExactAreMatesWrong : ChangeSpec := { name := "fnExactAreMates", fn := fun _ => fun
  | [d1, d2, d3, d4] => { results := [.lit (.bool false)], args := [d1, d2, d3, d4] }
  | _ => none }
def FnExactAreMatesWrongFalsely : Prop := fnExactAreMatesRow.holds Try.pinned (OpenSpec.ofChange fnExactAreMatesWrong)

/-- 'laws.FnExactJoinMates': WHATEVER THE INPUT: true; the input reads as it did. -/
def fnExactJoinMatesSpec : ChangeSpec := { name := "fnExactJoinMates", fn := fun _ => fun
  | [d1, d2, d3, d4] => { results := [.lit (.bool true)], args := [d1, d2, d3, d4] }
  | _ => none }
def fnExactJoinMatesRow : OpenClaim := { program := "ytodgalflngfnpaa", sum := "e2c252f2b6c5cd274577961ac5f6ddb67af8a9d6816ea1333e665aa0eba14122", func := "loop.example/g01177/laws.FnExactJoinMates", spec := "fnExactJoinMates", unfollowed := true, recurses := true, apart := false }
def FnExactJoinMatesSaid : Prop := fnExactJoinMatesRow.holds Try.pinned (OpenSpec.ofChange fnExactJoinMatesSpec)

/-- ITS FALSE NEIGHBOUR: 'it returns false'. Refute it at one input. -/
def fnExactJoinMatesWrong : ChangeSpec := { name := "fnExactJoinMates", fn := fun _ => fun
  | [d1, d2, d3, d4] => { results := [.lit (.bool false)], args := [d1, d2, d3, d4] }
  | _ => none }
def FnExactJoinMatesWrongFalsely : Prop := fnExactJoinMatesRow.holds Try.pinned (OpenSpec.ofChange fnExactJoinMatesWrong)

/-- 'laws.FnExactStandardPair': WHATEVER THE INPUT: true; the input reads as it did. -/
def fnExactStandardPairSpec : ChangeSpec := { name := "fnExactStandardPair", fn := fun _ => fun
  | [d1, d2, d3] => { results := [.lit (.bool true)], args := [d1, d2, d3] }
  | _ => none }
def fnExactStandardPairRow : OpenClaim := { program := "ytodgalflngfnpaa", sum := "e2c252f2b6c5cd274577961ac5f6ddb67af8a9d6816ea1333e665aa0eba14122", func := "loop.example/g01177/laws.FnExactStandardPair", spec := "fnExactStandardPair", unfollowed := true, recurses := true, apart := false }
def FnExactStandardPairSaid : Prop := fnExactStandardPairRow.holds Try.pinned (OpenSpec.ofChange fnExactStandardPairSpec)

/-- ITS FALSE NEIGHBOUR: 'it returns false'. Refute it at one input. -/
def fnExactStandardPairWrong : ChangeSpec := { name := "fnExactStandardPair", fn := fun _ => fun
  | [d1, d2, d3] => { results := [.lit (.bool false)], args := [d1, d2, d3] }
  | _ => none }
def FnExactStandardPairWrongFalsely : Prop := fnExactStandardPairRow.holds Try.pinned (OpenSpec.ofChange fnExactStandardPairWrong)

/-- 'laws.FnExactCountStandard': WHATEVER THE INPUT: true; the input reads as it did. -/
def fnExactCountStandardSpec : ChangeSpec := { name := "fnExactCountStandard", fn := fun _ => fun
  | [d] => { results := [.lit (.bool true)], args := [d] }
  | _ => none }
def fnExactCountStandardRow : OpenClaim := { program := "ytodgalflngfnpaa", sum := "e2c252f2b6c5cd274577961ac5f6ddb67af8a9d6816ea1333e665aa0eba14122", func := "loop.example/g01177/laws.FnExactCountStandard", spec := "fnExactCountStandard", apart := false }
def FnExactCountStandardSaid : Prop := fnExactCountStandardRow.holds Try.pinned (OpenSpec.ofChange fnExactCountStandardSpec)

/-- ITS FALSE NEIGHBOUR: 'it returns false'. Refute it at one input. -/
def fnExactCountStandardWrong : ChangeSpec := { name := "fnExactCountStandard", fn := fun _ => fun
  | [d] => { results := [.lit (.bool false)], args := [d] }
  | _ => none }
def FnExactCountStandardWrongFalsely : Prop := fnExactCountStandardRow.holds Try.pinned (OpenSpec.ofChange fnExactCountStandardWrong)

/-- 'laws.FnExactSquaresOf': WHATEVER THE INPUT: true; the input reads as it did. -/
def fnExactSquaresOfSpec : ChangeSpec := { name := "fnExactSquaresOf", fn := fun _ => fun
  | [d1, d2] => { results := [.lit (.bool true)], args := [d1, d2] }
  | _ => none }
def fnExactSquaresOfRow : OpenClaim := { program := "ytodgalflngfnpaa", sum := "e2c252f2b6c5cd274577961ac5f6ddb67af8a9d6816ea1333e665aa0eba14122", func := "loop.example/g01177/laws.FnExactSquaresOf", spec := "fnExactSquaresOf", apart := false }
def FnExactSquaresOfSaid : Prop := fnExactSquaresOfRow.holds Try.pinned (OpenSpec.ofChange fnExactSquaresOfSpec)

/-- ITS FALSE NEIGHBOUR: 'it returns false'. Refute it at one input. -/
def fnExactSquaresOfWrong : ChangeSpec := { name := "fnExactSquaresOf", fn := fun _ => fun
  | [d1, d2] => { results := [.lit (.bool false)], args := [d1, d2] }
  | _ => none }
def FnExactSquaresOfWrongFalsely : Prop := fnExactSquaresOfRow.holds Try.pinned (OpenSpec.ofChange fnExactSquaresOfWrong)

/-- 'laws.FnExactMovedPair': WHATEVER THE INPUT: true; the input reads as it did. -/
def fnExactMovedPairSpec : ChangeSpec := { name := "fnExactMovedPair", fn := fun _ => fun
  | [d1, d2, d3] => { results := [.lit (.bool true)], args := [d1, d2, d3] }
  | _ => none }
def fnExactMovedPairRow : OpenClaim := { program := "ytodgalflngfnpaa", sum := "e2c252f2b6c5cd274577961ac5f6ddb67af8a9d6816ea1333e665aa0eba14122", func := "loop.example/g01177/laws.FnExactMovedPair", spec := "fnExactMovedPair", unfollowed := true, recurses := true, apart := false }
def FnExactMovedPairSaid : Prop := fnExactMovedPairRow.holds Try.pinned (OpenSpec.ofChange fnExactMovedPairSpec)

/-- ITS FALSE NEIGHBOUR: 'it returns false'. Refute it at one input. -/
def fnExactMovedPairWrong : ChangeSpec := { name := "fnExactMovedPair", fn := fun _ => fun
  | [d1, d2, d3] => { results := [.lit (.bool false)], args := [d1, d2, d3] }
  | _ => none }
def FnExactMovedPairWrongFalsely : Prop := fnExactMovedPairRow.holds Try.pinned (OpenSpec.ofChange fnExactMovedPairWrong)

/- THE SECOND FORM. 'bulk': how many values and letters a reading holds, each counted each time it is reached (what is shared counts as often as it is met; a slice's spare places count too). A statement '..UptoSaid' is the law's where the arguments, and the package variables that the reading takes, are together of bulk at most 1048576: NARROWER than '..Said'. Prove '..Said' where nothing that the law and all that it calls make is longer than what came in: it says more and counts as full. Else prove '..UptoSaid'. A law counts once. -/
mutual
def uptoBulk {H : Type} : DataW H → Nat
  | .lit (.string bytes) => bytes.length + 1
  | .lit _ => 1
  | .nil => 1
  | .ptr d => uptoBulk d + 1
  | .slice elems spare => uptoBulkAll elems + uptoBulkAll spare + 1
  | .agg parts => uptoBulkAll parts + 1
  | .iface _ d => uptoBulk d + 1
  | .map entries => uptoBulkEntries entries + 1
  | .held _ => 1
def uptoBulkAll {H : Type} : List (DataW H) → Nat
  | [] => 0
  | d :: r => uptoBulk d + uptoBulkAll r
def uptoBulkEntries {H : Type} : List (Lit × DataW H) → Nat
  | [] => 0
  | x :: r => uptoBulkEntry x + uptoBulkEntries r
def uptoBulkEntry {H : Type} : Lit × DataW H → Nat
  | (.string bytes, d) => bytes.length + uptoBulk d + 1
  | (_, d) => uptoBulk d + 1
 end
def uptoSmall : (H : Type) → List (DataW H) → Bool := fun _ ds => decide (uptoBulkAll ds ≤ 1048576)
def OpenSpec.upto (s : _root_.Go.ChangeSpec) : _root_.Go.OpenSpec := { _root_.Go.OpenSpec.ofChange s with cond := some uptoSmall }

/-- 'laws.FnExactIsGolay', WHERE WHAT IT READS IS OF BULK AT MOST 1048576: true; the input reads as it did. -/
def fnExactIsGolayUptoRow : OpenClaim := { program := "ytodgalflngfnpaa", sum := "e2c252f2b6c5cd274577961ac5f6ddb67af8a9d6816ea1333e665aa0eba14122", func := "loop.example/g01177/laws.FnExactIsGolay", spec := "fnExactIsGolay", apart := false, narrowed := true }
def FnExactIsGolayUptoSaid : Prop := fnExactIsGolayUptoRow.holds Try.pinned (OpenSpec.upto fnExactIsGolaySpec)

/-- 'laws.FnExactPairSums', WHERE WHAT IT READS IS OF BULK AT MOST 1048576: true; the input reads as it did. -/
def fnExactPairSumsUptoRow : OpenClaim := { program := "ytodgalflngfnpaa", sum := "e2c252f2b6c5cd274577961ac5f6ddb67af8a9d6816ea1333e665aa0eba14122", func := "loop.example/g01177/laws.FnExactPairSums", spec := "fnExactPairSums", apart := false, narrowed := true }
def FnExactPairSumsUptoSaid : Prop := fnExactPairSumsUptoRow.holds Try.pinned (OpenSpec.upto fnExactPairSumsSpec)

/-- 'laws.FnExactCountGolay', WHERE WHAT IT READS IS OF BULK AT MOST 1048576: true; the input reads as it did. -/
def fnExactCountGolayUptoRow : OpenClaim := { program := "ytodgalflngfnpaa", sum := "e2c252f2b6c5cd274577961ac5f6ddb67af8a9d6816ea1333e665aa0eba14122", func := "loop.example/g01177/laws.FnExactCountGolay", spec := "fnExactCountGolay", apart := false, narrowed := true }
def FnExactCountGolayUptoSaid : Prop := fnExactCountGolayUptoRow.holds Try.pinned (OpenSpec.upto fnExactCountGolaySpec)

/-- 'laws.FnExactFirstGolay', WHERE WHAT IT READS IS OF BULK AT MOST 1048576: true; the input reads as it did. -/
def fnExactFirstGolayUptoRow : OpenClaim := { program := "ytodgalflngfnpaa", sum := "e2c252f2b6c5cd274577961ac5f6ddb67af8a9d6816ea1333e665aa0eba14122", func := "loop.example/g01177/laws.FnExactFirstGolay", spec := "fnExactFirstGolay", apart := false, narrowed := true }
def FnExactFirstGolayUptoSaid : Prop := fnExactFirstGolayUptoRow.holds Try.pinned (OpenSpec.upto fnExactFirstGolaySpec)

/-- 'laws.FnExactJoinPair', WHERE WHAT IT READS IS OF BULK AT MOST 1048576: true; the input reads as it did. -/
def fnExactJoinPairUptoRow : OpenClaim := { program := "ytodgalflngfnpaa", sum := "e2c252f2b6c5cd274577961ac5f6ddb67af8a9d6816ea1333e665aa0eba14122", func := "loop.example/g01177/laws.FnExactJoinPair", spec := "fnExactJoinPair", unfollowed := true, recurses := true, apart := false, narrowed := true }
def FnExactJoinPairUptoSaid : Prop := fnExactJoinPairUptoRow.holds Try.pinned (OpenSpec.upto fnExactJoinPairSpec)

/-- 'laws.FnExactInterleavePair', WHERE WHAT IT READS IS OF BULK AT MOST 1048576: true; the input reads as it did. -/
def fnExactInterleavePairUptoRow : OpenClaim := { program := "ytodgalflngfnpaa", sum := "e2c252f2b6c5cd274577961ac5f6ddb67af8a9d6816ea1333e665aa0eba14122", func := "loop.example/g01177/laws.FnExactInterleavePair", spec := "fnExactInterleavePair", unfollowed := true, recurses := true, apart := false, narrowed := true }
def FnExactInterleavePairUptoSaid : Prop := fnExactInterleavePairUptoRow.holds Try.pinned (OpenSpec.upto fnExactInterleavePairSpec)

/-- 'laws.FnExactMateOf', WHERE WHAT IT READS IS OF BULK AT MOST 1048576: true; the input reads as it did. -/
def fnExactMateOfUptoRow : OpenClaim := { program := "ytodgalflngfnpaa", sum := "e2c252f2b6c5cd274577961ac5f6ddb67af8a9d6816ea1333e665aa0eba14122", func := "loop.example/g01177/laws.FnExactMateOf", spec := "fnExactMateOf", unfollowed := true, recurses := true, apart := false, narrowed := true }
def FnExactMateOfUptoSaid : Prop := fnExactMateOfUptoRow.holds Try.pinned (OpenSpec.upto fnExactMateOfSpec)

/-- 'laws.FnExactAreMates', WHERE WHAT IT READS IS OF BULK AT MOST 1048576: true; the input reads as it did. -/
def fnExactAreMatesUptoRow : OpenClaim := { program := "ytodgalflngfnpaa", sum := "e2c252f2b6c5cd274577961ac5f6ddb67af8a9d6816ea1333e665aa0eba14122", func := "loop.example/g01177/laws.FnExactAreMates", spec := "fnExactAreMates", apart := false, narrowed := true }
def FnExactAreMatesUptoSaid : Prop := fnExactAreMatesUptoRow.holds Try.pinned (OpenSpec.upto fnExactAreMatesSpec)

/-- 'laws.FnExactJoinMates', WHERE WHAT IT READS IS OF BULK AT MOST 1048576: true; the input reads as it did. -/
def fnExactJoinMatesUptoRow : OpenClaim := { program := "ytodgalflngfnpaa", sum := "e2c252f2b6c5cd274577961ac5f6ddb67af8a9d6816ea1333e665aa0eba14122", func := "loop.example/g01177/laws.FnExactJoinMates", spec := "fnExactJoinMates", unfollowed := true, recurses := true, apart := false, narrowed := true }
def FnExactJoinMatesUptoSaid : Prop := fnExactJoinMatesUptoRow.holds Try.pinned (OpenSpec.upto fnExactJoinMatesSpec)

/-- 'laws.FnExactStandardPair', WHERE WHAT IT READS IS OF BULK AT MOST 1048576: true; the input reads as it did. -/
def fnExactStandardPairUptoRow : OpenClaim := { program := "ytodgalflngfnpaa", sum := "e2c252f2b6c5cd274577961ac5f6ddb67af8a9d6816ea1333e665aa0eba14122", func := "loop.example/g01177/laws.FnExactStandardPair", spec := "fnExactStandardPair", unfollowed := true, recurses := true, apart := false, narrowed := true }
def FnExactStandardPairUptoSaid : Prop := fnExactStandardPairUptoRow.holds Try.pinned (OpenSpec.upto fnExactStandardPairSpec)

/-- 'laws.FnExactCountStandard', WHERE WHAT IT READS IS OF BULK AT MOST 1048576: true; the input reads as it did. -/
def fnExactCountStandardUptoRow : OpenClaim := { program := "ytodgalflngfnpaa", sum := "e2c252f2b6c5cd274577961ac5f6ddb67af8a9d6816ea1333e665aa0eba14122", func := "loop.example/g01177/laws.FnExactCountStandard", spec := "fnExactCountStandard", apart := false, narrowed := true }
def FnExactCountStandardUptoSaid : Prop := fnExactCountStandardUptoRow.holds Try.pinned (OpenSpec.upto fnExactCountStandardSpec)

/-- 'laws.FnExactSquaresOf', WHERE WHAT IT READS IS OF BULK AT MOST 1048576: true; the input reads as it did. -/
def fnExactSquaresOfUptoRow : OpenClaim := { program := "ytodgalflngfnpaa", sum := "e2c252f2b6c5cd274577961ac5f6ddb67af8a9d6816ea1333e665aa0eba14122", func := "loop.example/g01177/laws.FnExactSquaresOf", spec := "fnExactSquaresOf", apart := false, narrowed := true }
def FnExactSquaresOfUptoSaid : Prop := fnExactSquaresOfUptoRow.holds Try.pinned (OpenSpec.upto fnExactSquaresOfSpec)

/-- 'laws.FnExactMovedPair', WHERE WHAT IT READS IS OF BULK AT MOST 1048576: true; the input reads as it did. -/
def fnExactMovedPairUptoRow : OpenClaim := { program := "ytodgalflngfnpaa", sum := "e2c252f2b6c5cd274577961ac5f6ddb67af8a9d6816ea1333e665aa0eba14122", func := "loop.example/g01177/laws.FnExactMovedPair", spec := "fnExactMovedPair", unfollowed := true, recurses := true, apart := false, narrowed := true }
def FnExactMovedPairUptoSaid : Prop := fnExactMovedPairUptoRow.holds Try.pinned (OpenSpec.upto fnExactMovedPairSpec)

end Rows
end Go.Proofs.Ytodgalflngfnpaa
