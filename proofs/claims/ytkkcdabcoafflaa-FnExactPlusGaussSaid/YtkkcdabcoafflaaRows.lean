/-
  No cell of these rows narrows 'for every input' (looked for: loops, veiled, ifaces, maps, wideKeys, modest, calm, conditions, laid).
  DERIVED. THE GIVEN ROWS OF THIS SEAT. 12 by the template 'for every input the law returns true; each argument reads behind the call as it read before'; 0 by the template 'total and deterministic' (their statements: YtkkcdabcoafflaaTotals.lean).
  GIVEN WITH THE SEED: the statements are not yours to turn. If you find one false, say at which input.
  Laid BY PROGRAM, IN A SANDBOX (cutbox-rows.mjs): the forced cells as the released guide's own fill.sh prints them over the translation b3086dbcc9cd9c7c… (all of the seat's roots in one cut). By AI agents, Wed Nov 11 2026. No macro, syntax, notation, axiom, sorry.
-/
import Derived.Test.YtkkcdabcoafflaaChecked
import GoSem.Claim
import GoSem.ClaimJoined
import GoSem.ClaimMapViews
import Derived.JoinedTies
import Derived.KernelRfl
namespace Go.Proofs.Ytkkcdabcoafflaa
/- THE CELL 'sum', in the pinned program and in every row, IS THE sha256 OF THE DUMP (.gsa) THAT YtkkcdabcoafflaaProg.lean LOADS. Nothing in Lean hashes anything: it is a label: what it is worth is what the hold of that sum in a sandbox is worth. -/
noncomputable def Try.pinned : Pinned := { name := "ytkkcdabcoafflaa", sum := "b3086dbcc9cd9c7c89a8677d07026b9ed9861cdf321ab7ad0eb8adaa118c6a94", checked := Try.checked }
namespace Rows
def none {H : Type} : Left H := { results := [], args := [] }

/-- 'laws.FnExactIsGauss': WHATEVER THE INPUT: true; the input reads as it did. -/
def fnExactIsGaussSpec : ChangeSpec := { name := "fnExactIsGauss", fn := fun _ => fun
  | [d] => { results := [.lit (.bool true)], args := [d] }
  | _ => none }
def fnExactIsGaussRow : OpenClaim := { program := "ytkkcdabcoafflaa", sum := "b3086dbcc9cd9c7c89a8677d07026b9ed9861cdf321ab7ad0eb8adaa118c6a94", func := "loop.example/g01177/laws.FnExactIsGauss", spec := "fnExactIsGauss", apart := false }
def FnExactIsGaussSaid : Prop := fnExactIsGaussRow.holds Try.pinned (OpenSpec.ofChange fnExactIsGaussSpec)

/-- ITS FALSE NEIGHBOUR: 'it returns false'. Refute it at one input. -/
def fnExactIsGaussWrong : ChangeSpec := { name := "fnExactIsGauss", fn := fun _ => fun
  | [d] => { results := [.lit (.bool false)], args := [d] }
  | _ => none }
def FnExactIsGaussWrongFalsely : Prop := fnExactIsGaussRow.holds Try.pinned (OpenSpec.ofChange fnExactIsGaussWrong)

/-- 'laws.FnExactPlusGauss': WHATEVER THE INPUT: true; the input reads as it did. -/
def fnExactPlusGaussSpec : ChangeSpec := { name := "fnExactPlusGauss", fn := fun _ => fun
  | [d1, d2] => { results := [.lit (.bool true)], args := [d1, d2] }
  | _ => none }
def fnExactPlusGaussRow : OpenClaim := { program := "ytkkcdabcoafflaa", sum := "b3086dbcc9cd9c7c89a8677d07026b9ed9861cdf321ab7ad0eb8adaa118c6a94", func := "loop.example/g01177/laws.FnExactPlusGauss", spec := "fnExactPlusGauss", apart := false }
def FnExactPlusGaussSaid : Prop := fnExactPlusGaussRow.holds Try.pinned (OpenSpec.ofChange fnExactPlusGaussSpec)

/-- ITS FALSE NEIGHBOUR: 'it returns false'. Refute it at one input. -/
def fnExactPlusGaussWrong : ChangeSpec := { name := "fnExactPlusGauss", fn := fun _ => fun
  | [d1, d2] => { results := [.lit (.bool false)], args := [d1, d2] }
  | _ => none }
def FnExactPlusGaussWrongFalsely : Prop := fnExactPlusGaussRow.holds Try.pinned (OpenSpec.ofChange fnExactPlusGaussWrong)

/-- 'laws.FnExactTimesGauss': WHATEVER THE INPUT: true; the input reads as it did. -/
def fnExactTimesGaussSpec : ChangeSpec := { name := "fnExactTimesGauss", fn := fun _ => fun
  | [d1, d2] => { results := [.lit (.bool true)], args := [d1, d2] }
  | _ => none }
def fnExactTimesGaussRow : OpenClaim := { program := "ytkkcdabcoafflaa", sum := "b3086dbcc9cd9c7c89a8677d07026b9ed9861cdf321ab7ad0eb8adaa118c6a94", func := "loop.example/g01177/laws.FnExactTimesGauss", spec := "fnExactTimesGauss", apart := false }
def FnExactTimesGaussSaid : Prop := fnExactTimesGaussRow.holds Try.pinned (OpenSpec.ofChange fnExactTimesGaussSpec)

/-- ITS FALSE NEIGHBOUR: 'it returns false'. Refute it at one input. -/
def fnExactTimesGaussWrong : ChangeSpec := { name := "fnExactTimesGauss", fn := fun _ => fun
  | [d1, d2] => { results := [.lit (.bool false)], args := [d1, d2] }
  | _ => none }
def FnExactTimesGaussWrongFalsely : Prop := fnExactTimesGaussRow.holds Try.pinned (OpenSpec.ofChange fnExactTimesGaussWrong)

/-- 'laws.FnExactConjugateGauss': WHATEVER THE INPUT: true; the input reads as it did. -/
def fnExactConjugateGaussSpec : ChangeSpec := { name := "fnExactConjugateGauss", fn := fun _ => fun
  | [d] => { results := [.lit (.bool true)], args := [d] }
  | _ => none }
def fnExactConjugateGaussRow : OpenClaim := { program := "ytkkcdabcoafflaa", sum := "b3086dbcc9cd9c7c89a8677d07026b9ed9861cdf321ab7ad0eb8adaa118c6a94", func := "loop.example/g01177/laws.FnExactConjugateGauss", spec := "fnExactConjugateGauss", apart := false }
def FnExactConjugateGaussSaid : Prop := fnExactConjugateGaussRow.holds Try.pinned (OpenSpec.ofChange fnExactConjugateGaussSpec)

/-- ITS FALSE NEIGHBOUR: 'it returns false'. Refute it at one input. -/
def fnExactConjugateGaussWrong : ChangeSpec := { name := "fnExactConjugateGauss", fn := fun _ => fun
  | [d] => { results := [.lit (.bool false)], args := [d] }
  | _ => none }
def FnExactConjugateGaussWrongFalsely : Prop := fnExactConjugateGaussRow.holds Try.pinned (OpenSpec.ofChange fnExactConjugateGaussWrong)

/-- 'laws.FnExactNormOf': WHATEVER THE INPUT: true; the input reads as it did. -/
def fnExactNormOfSpec : ChangeSpec := { name := "fnExactNormOf", fn := fun _ => fun
  | [d] => { results := [.lit (.bool true)], args := [d] }
  | _ => none }
def fnExactNormOfRow : OpenClaim := { program := "ytkkcdabcoafflaa", sum := "b3086dbcc9cd9c7c89a8677d07026b9ed9861cdf321ab7ad0eb8adaa118c6a94", func := "loop.example/g01177/laws.FnExactNormOf", spec := "fnExactNormOf", apart := false }
def FnExactNormOfSaid : Prop := fnExactNormOfRow.holds Try.pinned (OpenSpec.ofChange fnExactNormOfSpec)

/-- ITS FALSE NEIGHBOUR: 'it returns false'. Refute it at one input. -/
def fnExactNormOfWrong : ChangeSpec := { name := "fnExactNormOf", fn := fun _ => fun
  | [d] => { results := [.lit (.bool false)], args := [d] }
  | _ => none }
def FnExactNormOfWrongFalsely : Prop := fnExactNormOfRow.holds Try.pinned (OpenSpec.ofChange fnExactNormOfWrong)

/-- 'laws.FnExactPhaseValue': WHATEVER THE INPUT: true; the input reads as it did. -/
def fnExactPhaseValueSpec : ChangeSpec := { name := "fnExactPhaseValue", fn := fun _ => fun
  | [d] => { results := [.lit (.bool true)], args := [d] }
  | _ => none }
def fnExactPhaseValueRow : OpenClaim := { program := "ytkkcdabcoafflaa", sum := "b3086dbcc9cd9c7c89a8677d07026b9ed9861cdf321ab7ad0eb8adaa118c6a94", func := "loop.example/g01177/laws.FnExactPhaseValue", spec := "fnExactPhaseValue", apart := false }
def FnExactPhaseValueSaid : Prop := fnExactPhaseValueRow.holds Try.pinned (OpenSpec.ofChange fnExactPhaseValueSpec)

/-- ITS FALSE NEIGHBOUR: 'it returns false'. Refute it at one input. -/
def fnExactPhaseValueWrong : ChangeSpec := { name := "fnExactPhaseValue", fn := fun _ => fun
  | [d] => { results := [.lit (.bool false)], args := [d] }
  | _ => none }
def FnExactPhaseValueWrongFalsely : Prop := fnExactPhaseValueRow.holds Try.pinned (OpenSpec.ofChange fnExactPhaseValueWrong)

/-- 'laws.FnExactIsSequence': WHATEVER THE INPUT: true; the input reads as it did. -/
def fnExactIsSequenceSpec : ChangeSpec := { name := "fnExactIsSequence", fn := fun _ => fun
  | [d] => { results := [.lit (.bool true)], args := [d] }
  | _ => none }
def fnExactIsSequenceRow : OpenClaim := { program := "ytkkcdabcoafflaa", sum := "b3086dbcc9cd9c7c89a8677d07026b9ed9861cdf321ab7ad0eb8adaa118c6a94", func := "loop.example/g01177/laws.FnExactIsSequence", spec := "fnExactIsSequence", apart := false }
def FnExactIsSequenceSaid : Prop := fnExactIsSequenceRow.holds Try.pinned (OpenSpec.ofChange fnExactIsSequenceSpec)

/-- ITS FALSE NEIGHBOUR: 'it returns false'. Refute it at one input. -/
def fnExactIsSequenceWrong : ChangeSpec := { name := "fnExactIsSequence", fn := fun _ => fun
  | [d] => { results := [.lit (.bool false)], args := [d] }
  | _ => none }
def FnExactIsSequenceWrongFalsely : Prop := fnExactIsSequenceRow.holds Try.pinned (OpenSpec.ofChange fnExactIsSequenceWrong)

/-- 'laws.FnExactTurnBy': WHATEVER THE INPUT: true; the input reads as it did. -/
def fnExactTurnBySpec : ChangeSpec := { name := "fnExactTurnBy", fn := fun _ => fun
  | [d1, d2] => { results := [.lit (.bool true)], args := [d1, d2] }
  | _ => none }
def fnExactTurnByRow : OpenClaim := { program := "ytkkcdabcoafflaa", sum := "b3086dbcc9cd9c7c89a8677d07026b9ed9861cdf321ab7ad0eb8adaa118c6a94", func := "loop.example/g01177/laws.FnExactTurnBy", spec := "fnExactTurnBy", unfollowed := true, recurses := true, apart := false }
def FnExactTurnBySaid : Prop := fnExactTurnByRow.holds Try.pinned (OpenSpec.ofChange fnExactTurnBySpec)

/-- ITS FALSE NEIGHBOUR: 'it returns false'. Refute it at one input. -/
def fnExactTurnByWrong : ChangeSpec := { name := "fnExactTurnBy", fn := fun _ => fun
  | [d1, d2] => { results := [.lit (.bool false)], args := [d1, d2] }
  | _ => none }
def FnExactTurnByWrongFalsely : Prop := fnExactTurnByRow.holds Try.pinned (OpenSpec.ofChange fnExactTurnByWrong)

/-- 'laws.FnExactConjugateOf': WHATEVER THE INPUT: true; the input reads as it did. -/
def fnExactConjugateOfSpec : ChangeSpec := { name := "fnExactConjugateOf", fn := fun _ => fun
  | [d] => { results := [.lit (.bool true)], args := [d] }
  | _ => none }
def fnExactConjugateOfRow : OpenClaim := { program := "ytkkcdabcoafflaa", sum := "b3086dbcc9cd9c7c89a8677d07026b9ed9861cdf321ab7ad0eb8adaa118c6a94", func := "loop.example/g01177/laws.FnExactConjugateOf", spec := "fnExactConjugateOf", unfollowed := true, recurses := true, apart := false }
def FnExactConjugateOfSaid : Prop := fnExactConjugateOfRow.holds Try.pinned (OpenSpec.ofChange fnExactConjugateOfSpec)

/-- ITS FALSE NEIGHBOUR: 'it returns false'. Refute it at one input. -/
def fnExactConjugateOfWrong : ChangeSpec := { name := "fnExactConjugateOf", fn := fun _ => fun
  | [d] => { results := [.lit (.bool false)], args := [d] }
  | _ => none }
def FnExactConjugateOfWrongFalsely : Prop := fnExactConjugateOfRow.holds Try.pinned (OpenSpec.ofChange fnExactConjugateOfWrong)

/-- 'laws.FnExactBackwardsOf': WHATEVER THE INPUT: true; the input reads as it did. -/
def fnExactBackwardsOfSpec : ChangeSpec := { name := "fnExactBackwardsOf", fn := fun _ => fun
  | [d] => { results := [.lit (.bool true)], args := [d] }
  | _ => none }
def fnExactBackwardsOfRow : OpenClaim := { program := "ytkkcdabcoafflaa", sum := "b3086dbcc9cd9c7c89a8677d07026b9ed9861cdf321ab7ad0eb8adaa118c6a94", func := "loop.example/g01177/laws.FnExactBackwardsOf", spec := "fnExactBackwardsOf", unfollowed := true, recurses := true, apart := false }
def FnExactBackwardsOfSaid : Prop := fnExactBackwardsOfRow.holds Try.pinned (OpenSpec.ofChange fnExactBackwardsOfSpec)

/-- ITS FALSE NEIGHBOUR: 'it returns false'. Refute it at one input. -/
def fnExactBackwardsOfWrong : ChangeSpec := { name := "fnExactBackwardsOf", fn := fun _ => fun
  | [d] => { results := [.lit (.bool false)], args := [d] }
  | _ => none }
def FnExactBackwardsOfWrongFalsely : Prop := fnExactBackwardsOfRow.holds Try.pinned (OpenSpec.ofChange fnExactBackwardsOfWrong)

/-- 'laws.FnExactShiftBy': WHATEVER THE INPUT: true; the input reads as it did. -/
def fnExactShiftBySpec : ChangeSpec := { name := "fnExactShiftBy", fn := fun _ => fun
  | [d1, d2] => { results := [.lit (.bool true)], args := [d1, d2] }
  | _ => none }
def fnExactShiftByRow : OpenClaim := { program := "ytkkcdabcoafflaa", sum := "b3086dbcc9cd9c7c89a8677d07026b9ed9861cdf321ab7ad0eb8adaa118c6a94", func := "loop.example/g01177/laws.FnExactShiftBy", spec := "fnExactShiftBy", unfollowed := true, recurses := true, apart := false }
def FnExactShiftBySaid : Prop := fnExactShiftByRow.holds Try.pinned (OpenSpec.ofChange fnExactShiftBySpec)

/-- ITS FALSE NEIGHBOUR: 'it returns false'. Refute it at one input. -/
def fnExactShiftByWrong : ChangeSpec := { name := "fnExactShiftBy", fn := fun _ => fun
  | [d1, d2] => { results := [.lit (.bool false)], args := [d1, d2] }
  | _ => none }
def FnExactShiftByWrongFalsely : Prop := fnExactShiftByRow.holds Try.pinned (OpenSpec.ofChange fnExactShiftByWrong)

/-- 'laws.FnExactClimbBy': WHATEVER THE INPUT: true; the input reads as it did. -/
def fnExactClimbBySpec : ChangeSpec := { name := "fnExactClimbBy", fn := fun _ => fun
  | [d1, d2] => { results := [.lit (.bool true)], args := [d1, d2] }
  | _ => none }
def fnExactClimbByRow : OpenClaim := { program := "ytkkcdabcoafflaa", sum := "b3086dbcc9cd9c7c89a8677d07026b9ed9861cdf321ab7ad0eb8adaa118c6a94", func := "loop.example/g01177/laws.FnExactClimbBy", spec := "fnExactClimbBy", unfollowed := true, recurses := true, apart := false }
def FnExactClimbBySaid : Prop := fnExactClimbByRow.holds Try.pinned (OpenSpec.ofChange fnExactClimbBySpec)

/-- ITS FALSE NEIGHBOUR: 'it returns false'. Refute it at one input. -/
def fnExactClimbByWrong : ChangeSpec := { name := "fnExactClimbBy", fn := fun _ => fun
  | [d1, d2] => { results := [.lit (.bool false)], args := [d1, d2] }
  | _ => none }
def FnExactClimbByWrongFalsely : Prop := fnExactClimbByRow.holds Try.pinned (OpenSpec.ofChange fnExactClimbByWrong)

/- THE SECOND FORM. 'bulk': how many values and letters a reading holds, each counted each time it is reached (what is shared counts as often as it is met; a slice's spare places count too). A statement '..UptoSaid' is the law's where the arguments, and the package variables that the reading takes, are together of bulk at most 1048576: NARROWER than '..Said'. Prove '..Said' where nothing that the law and all that it calls make is longer than what came in: it says more and counts as full. Else prove '..UptoSaid'. A law counts once. -/
mutual
def uptoBulk {H : Type} : DataW H → Nat
  | .lit (.string bytes) => bytes.length + 1
  | .lit _ => 1
  | .nil => 1
  | .ptr d => uptoBulk d + 1
  | .slice elems spare => uptoBulkAll elems + uptoBulkAll spare + 1
  | .agg parts => uptoBulkAll parts + 1
  | .iface _ d => uptoBulk d + 1
  | .map entries => uptoBulkEntries entries + 1
  | .held _ => 1
def uptoBulkAll {H : Type} : List (DataW H) → Nat
  | [] => 0
  | d :: r => uptoBulk d + uptoBulkAll r
def uptoBulkEntries {H : Type} : List (Lit × DataW H) → Nat
  | [] => 0
  | x :: r => uptoBulkEntry x + uptoBulkEntries r
def uptoBulkEntry {H : Type} : Lit × DataW H → Nat
  | (.string bytes, d) => bytes.length + uptoBulk d + 1
  | (_, d) => uptoBulk d + 1
 end
def uptoSmall : (H : Type) → List (DataW H) → Bool := fun _ ds => decide (uptoBulkAll ds ≤ 1048576)
def OpenSpec.upto (s : _root_.Go.ChangeSpec) : _root_.Go.OpenSpec := { _root_.Go.OpenSpec.ofChange s with cond := some uptoSmall }

/-- 'laws.FnExactIsGauss', WHERE WHAT IT READS IS OF BULK AT MOST 1048576: true; the input reads as it did. -/
def fnExactIsGaussUptoRow : OpenClaim := { program := "ytkkcdabcoafflaa", sum := "b3086dbcc9cd9c7c89a8677d07026b9ed9861cdf321ab7ad0eb8adaa118c6a94", func := "loop.example/g01177/laws.FnExactIsGauss", spec := "fnExactIsGauss", apart := false, narrowed := true }
def FnExactIsGaussUptoSaid : Prop := fnExactIsGaussUptoRow.holds Try.pinned (OpenSpec.upto fnExactIsGaussSpec)

/-- 'laws.FnExactPlusGauss', WHERE WHAT IT READS IS OF BULK AT MOST 1048576: true; the input reads as it did. -/
def fnExactPlusGaussUptoRow : OpenClaim := { program := "ytkkcdabcoafflaa", sum := "b3086dbcc9cd9c7c89a8677d07026b9ed9861cdf321ab7ad0eb8adaa118c6a94", func := "loop.example/g01177/laws.FnExactPlusGauss", spec := "fnExactPlusGauss", apart := false, narrowed := true }
def FnExactPlusGaussUptoSaid : Prop := fnExactPlusGaussUptoRow.holds Try.pinned (OpenSpec.upto fnExactPlusGaussSpec)

/-- 'laws.FnExactTimesGauss', WHERE WHAT IT READS IS OF BULK AT MOST 1048576: true; the input reads as it did. -/
def fnExactTimesGaussUptoRow : OpenClaim := { program := "ytkkcdabcoafflaa", sum := "b3086dbcc9cd9c7c89a8677d07026b9ed9861cdf321ab7ad0eb8adaa118c6a94", func := "loop.example/g01177/laws.FnExactTimesGauss", spec := "fnExactTimesGauss", apart := false, narrowed := true }
def FnExactTimesGaussUptoSaid : Prop := fnExactTimesGaussUptoRow.holds Try.pinned (OpenSpec.upto fnExactTimesGaussSpec)

/-- 'laws.FnExactConjugateGauss', WHERE WHAT IT READS IS OF BULK AT MOST 1048576: true; the input reads as it did. -/
def fnExactConjugateGaussUptoRow : OpenClaim := { program := "ytkkcdabcoafflaa", sum := "b3086dbcc9cd9c7c89a8677d07026b9ed9861cdf321ab7ad0eb8adaa118c6a94", func := "loop.example/g01177/laws.FnExactConjugateGauss", spec := "fnExactConjugateGauss", apart := false, narrowed := true }
def FnExactConjugateGaussUptoSaid : Prop := fnExactConjugateGaussUptoRow.holds Try.pinned (OpenSpec.upto fnExactConjugateGaussSpec)

/-- 'laws.FnExactNormOf', WHERE WHAT IT READS IS OF BULK AT MOST 1048576: true; the input reads as it did. -/
def fnExactNormOfUptoRow : OpenClaim := { program := "ytkkcdabcoafflaa", sum := "b3086dbcc9cd9c7c89a8677d07026b9ed9861cdf321ab7ad0eb8adaa118c6a94", func := "loop.example/g01177/laws.FnExactNormOf", spec := "fnExactNormOf", apart := false, narrowed := true }
def FnExactNormOfUptoSaid : Prop := fnExactNormOfUptoRow.holds Try.pinned (OpenSpec.upto fnExactNormOfSpec)

/-- 'laws.FnExactPhaseValue', WHERE WHAT IT READS IS OF BULK AT MOST 1048576: true; the input reads as it did. -/
def fnExactPhaseValueUptoRow : OpenClaim := { program := "ytkkcdabcoafflaa", sum := "b3086dbcc9cd9c7c89a8677d07026b9ed9861cdf321ab7ad0eb8adaa118c6a94", func := "loop.example/g01177/laws.FnExactPhaseValue", spec := "fnExactPhaseValue", apart := false, narrowed := true }
def FnExactPhaseValueUptoSaid : Prop := fnExactPhaseValueUptoRow.holds Try.pinned (OpenSpec.upto fnExactPhaseValueSpec)

/-- 'laws.FnExactIsSequence', WHERE WHAT IT READS IS OF BULK AT MOST 1048576: true; the input reads as it did. -/
def fnExactIsSequenceUptoRow : OpenClaim := { program := "ytkkcdabcoafflaa", sum := "b3086dbcc9cd9c7c89a8677d07026b9ed9861cdf321ab7ad0eb8adaa118c6a94", func := "loop.example/g01177/laws.FnExactIsSequence", spec := "fnExactIsSequence", apart := false, narrowed := true }
def FnExactIsSequenceUptoSaid : Prop := fnExactIsSequenceUptoRow.holds Try.pinned (OpenSpec.upto fnExactIsSequenceSpec)

/-- 'laws.FnExactTurnBy', WHERE WHAT IT READS IS OF BULK AT MOST 1048576: true; the input reads as it did. -/
def fnExactTurnByUptoRow : OpenClaim := { program := "ytkkcdabcoafflaa", sum := "b3086dbcc9cd9c7c89a8677d07026b9ed9861cdf321ab7ad0eb8adaa118c6a94", func := "loop.example/g01177/laws.FnExactTurnBy", spec := "fnExactTurnBy", unfollowed := true, recurses := true, apart := false, narrowed := true }
def FnExactTurnByUptoSaid : Prop := fnExactTurnByUptoRow.holds Try.pinned (OpenSpec.upto fnExactTurnBySpec)

/-- 'laws.FnExactConjugateOf', WHERE WHAT IT READS IS OF BULK AT MOST 1048576: true; the input reads as it did. -/
def fnExactConjugateOfUptoRow : OpenClaim := { program := "ytkkcdabcoafflaa", sum := "b3086dbcc9cd9c7c89a8677d07026b9ed9861cdf321ab7ad0eb8adaa118c6a94", func := "loop.example/g01177/laws.FnExactConjugateOf", spec := "fnExactConjugateOf", unfollowed := true, recurses := true, apart := false, narrowed := true }
def FnExactConjugateOfUptoSaid : Prop := fnExactConjugateOfUptoRow.holds Try.pinned (OpenSpec.upto fnExactConjugateOfSpec)

/-- 'laws.FnExactBackwardsOf', WHERE WHAT IT READS IS OF BULK AT MOST 1048576: true; the input reads as it did. -/
def fnExactBackwardsOfUptoRow : OpenClaim := { program := "ytkkcdabcoafflaa", sum := "b3086dbcc9cd9c7c89a8677d07026b9ed9861cdf321ab7ad0eb8adaa118c6a94", func := "loop.example/g01177/laws.FnExactBackwardsOf", spec := "fnExactBackwardsOf", unfollowed := true, recurses := true, apart := false, narrowed := true }
def FnExactBackwardsOfUptoSaid : Prop := fnExactBackwardsOfUptoRow.holds Try.pinned (OpenSpec.upto fnExactBackwardsOfSpec)

/-- 'laws.FnExactShiftBy', WHERE WHAT IT READS IS OF BULK AT MOST 1048576: true; the input reads as it did. -/
def fnExactShiftByUptoRow : OpenClaim := { program := "ytkkcdabcoafflaa", sum := "b3086dbcc9cd9c7c89a8677d07026b9ed9861cdf321ab7ad0eb8adaa118c6a94", func := "loop.example/g01177/laws.FnExactShiftBy", spec := "fnExactShiftBy", unfollowed := true, recurses := true, apart := false, narrowed := true }
def FnExactShiftByUptoSaid : Prop := fnExactShiftByUptoRow.holds Try.pinned (OpenSpec.upto fnExactShiftBySpec)

/-- 'laws.FnExactClimbBy', WHERE WHAT IT READS IS OF BULK AT MOST 1048576: true; the input reads as it did. -/
def fnExactClimbByUptoRow : OpenClaim := { program := "ytkkcdabcoafflaa", sum := "b3086dbcc9cd9c7c89a8677d07026b9ed9861cdf321ab7ad0eb8adaa118c6a94", func := "loop.example/g01177/laws.FnExactClimbBy", spec := "fnExactClimbBy", unfollowed := true, recurses := true, apart := false, narrowed := true }
def FnExactClimbByUptoSaid : Prop := fnExactClimbByUptoRow.holds Try.pinned (OpenSpec.upto fnExactClimbBySpec)

end Rows
end Go.Proofs.Ytkkcdabcoafflaa
