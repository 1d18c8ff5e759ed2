/-
  No cell of these rows narrows 'for every input' (looked for: loops, veiled, ifaces, maps, wideKeys, modest, calm, conditions, laid).
  DERIVED. THE GIVEN ROWS OF THIS SEAT. 8 by the template 'for every input the law returns true; each argument reads behind the call as it read before'; 0 by the template 'total and deterministic' (their statements: YtoehehaeanepmaaTotals.lean).
  GIVEN WITH THE SEED: the statements are not yours to turn. If you find one false, say at which input.
  Laid BY PROGRAM, IN A SANDBOX (cutbox-rows.mjs): the forced cells as the released guide's own fill.sh prints them over the translation b9fc7395f3ec7191… (all of the seat's roots in one cut). By AI agents, Wed Nov 11 2026. No macro, syntax, notation, axiom, sorry.
-/
import Derived.Test.YtoehehaeanepmaaChecked
import GoSem.Claim
import GoSem.ClaimJoined
import GoSem.ClaimMapViews
import Derived.JoinedTies
import Derived.KernelRfl
namespace Go.Proofs.Ytoehehaeanepmaa
/- THE CELL 'sum', in the pinned program and in every row, IS THE sha256 OF THE DUMP (.gsa) THAT YtoehehaeanepmaaProg.lean LOADS. Nothing in Lean hashes anything: it is a label: what it is worth is what the hold of that sum in a sandbox is worth. -/
noncomputable def Try.pinned : Pinned := { name := "ytoehehaeanepmaa", sum := "b9fc7395f3ec7191059bd480312f2f963df01e902be6199da5e00f18f7113ebc", checked := Try.checked }
namespace Rows
def none {H : Type} : Left H := { results := [], args := [] }

/-- 'laws.FnExactModulateBits': WHATEVER THE INPUT: true; the input reads as it did. -/
def fnExactModulateBitsSpec : ChangeSpec := { name := "fnExactModulateBits", fn := fun _ => fun
  | [d] => { results := [.lit (.bool true)], args := [d] }
  | _ => none }
def fnExactModulateBitsRow : OpenClaim := { program := "ytoehehaeanepmaa", sum := "b9fc7395f3ec7191059bd480312f2f963df01e902be6199da5e00f18f7113ebc", func := "loop.example/g01177/laws.FnExactModulateBits", spec := "fnExactModulateBits", apart := false }
def FnExactModulateBitsSaid : Prop := fnExactModulateBitsRow.holds Try.pinned (OpenSpec.ofChange fnExactModulateBitsSpec)

/-- ITS FALSE NEIGHBOUR: 'it returns false'. Refute it at one input. -/
def fnExactModulateBitsWrong : ChangeSpec := { name := "fnExactModulateBits", fn := fun _ => fun
  | [d] => { results := [.lit (.bool false)], args := [d] }
  | _ => none }
def FnExactModulateBitsWrongFalsely : Prop := fnExactModulateBitsRow.holds Try.pinned (OpenSpec.ofChange fnExactModulateBitsWrong)

/-- 'laws.FnExactDemodulatePhases': WHATEVER THE INPUT: true; the input reads as it did. -/
def fnExactDemodulatePhasesSpec : ChangeSpec := { name := "fnExactDemodulatePhases", fn := fun _ => fun
  | [d] => { results := [.lit (.bool true)], args := [d] }
  | _ => none }
def fnExactDemodulatePhasesRow : OpenClaim := { program := "ytoehehaeanepmaa", sum := "b9fc7395f3ec7191059bd480312f2f963df01e902be6199da5e00f18f7113ebc", func := "loop.example/g01177/laws.FnExactDemodulatePhases", spec := "fnExactDemodulatePhases", apart := false }
def FnExactDemodulatePhasesSaid : Prop := fnExactDemodulatePhasesRow.holds Try.pinned (OpenSpec.ofChange fnExactDemodulatePhasesSpec)

/-- ITS FALSE NEIGHBOUR: 'it returns false'. Refute it at one input. -/
def fnExactDemodulatePhasesWrong : ChangeSpec := { name := "fnExactDemodulatePhases", fn := fun _ => fun
  | [d] => { results := [.lit (.bool false)], args := [d] }
  | _ => none }
def FnExactDemodulatePhasesWrongFalsely : Prop := fnExactDemodulatePhasesRow.holds Try.pinned (OpenSpec.ofChange fnExactDemodulatePhasesWrong)

/-- 'laws.FnExactStepsOf': WHATEVER THE INPUT: true; the input reads as it did. -/
def fnExactStepsOfSpec : ChangeSpec := { name := "fnExactStepsOf", fn := fun _ => fun
  | [d] => { results := [.lit (.bool true)], args := [d] }
  | _ => none }
def fnExactStepsOfRow : OpenClaim := { program := "ytoehehaeanepmaa", sum := "b9fc7395f3ec7191059bd480312f2f963df01e902be6199da5e00f18f7113ebc", func := "loop.example/g01177/laws.FnExactStepsOf", spec := "fnExactStepsOf", apart := false }
def FnExactStepsOfSaid : Prop := fnExactStepsOfRow.holds Try.pinned (OpenSpec.ofChange fnExactStepsOfSpec)

/-- ITS FALSE NEIGHBOUR: 'it returns false'. Refute it at one input. -/
def fnExactStepsOfWrong : ChangeSpec := { name := "fnExactStepsOf", fn := fun _ => fun
  | [d] => { results := [.lit (.bool false)], args := [d] }
  | _ => none }
def FnExactStepsOfWrongFalsely : Prop := fnExactStepsOfRow.holds Try.pinned (OpenSpec.ofChange fnExactStepsOfWrong)

/-- 'laws.FnExactFromSteps': WHATEVER THE INPUT: true; the input reads as it did. -/
def fnExactFromStepsSpec : ChangeSpec := { name := "fnExactFromSteps", fn := fun _ => fun
  | [d] => { results := [.lit (.bool true)], args := [d] }
  | _ => none }
def fnExactFromStepsRow : OpenClaim := { program := "ytoehehaeanepmaa", sum := "b9fc7395f3ec7191059bd480312f2f963df01e902be6199da5e00f18f7113ebc", func := "loop.example/g01177/laws.FnExactFromSteps", spec := "fnExactFromSteps", apart := false }
def FnExactFromStepsSaid : Prop := fnExactFromStepsRow.holds Try.pinned (OpenSpec.ofChange fnExactFromStepsSpec)

/-- ITS FALSE NEIGHBOUR: 'it returns false'. Refute it at one input. -/
def fnExactFromStepsWrong : ChangeSpec := { name := "fnExactFromSteps", fn := fun _ => fun
  | [d] => { results := [.lit (.bool false)], args := [d] }
  | _ => none }
def FnExactFromStepsWrongFalsely : Prop := fnExactFromStepsRow.holds Try.pinned (OpenSpec.ofChange fnExactFromStepsWrong)

/-- 'laws.FnExactErrorsOf': WHATEVER THE INPUT: true; the input reads as it did. -/
def fnExactErrorsOfSpec : ChangeSpec := { name := "fnExactErrorsOf", fn := fun _ => fun
  | [d1, d2] => { results := [.lit (.bool true)], args := [d1, d2] }
  | _ => none }
def fnExactErrorsOfRow : OpenClaim := { program := "ytoehehaeanepmaa", sum := "b9fc7395f3ec7191059bd480312f2f963df01e902be6199da5e00f18f7113ebc", func := "loop.example/g01177/laws.FnExactErrorsOf", spec := "fnExactErrorsOf", apart := false }
def FnExactErrorsOfSaid : Prop := fnExactErrorsOfRow.holds Try.pinned (OpenSpec.ofChange fnExactErrorsOfSpec)

/-- ITS FALSE NEIGHBOUR: 'it returns false'. Refute it at one input. -/
def fnExactErrorsOfWrong : ChangeSpec := { name := "fnExactErrorsOf", fn := fun _ => fun
  | [d1, d2] => { results := [.lit (.bool false)], args := [d1, d2] }
  | _ => none }
def FnExactErrorsOfWrongFalsely : Prop := fnExactErrorsOfRow.holds Try.pinned (OpenSpec.ofChange fnExactErrorsOfWrong)

/-- 'laws.FnExactMixPhases': WHATEVER THE INPUT: true; the input reads as it did. -/
def fnExactMixPhasesSpec : ChangeSpec := { name := "fnExactMixPhases", fn := fun _ => fun
  | [d1, d2] => { results := [.lit (.bool true)], args := [d1, d2] }
  | _ => none }
def fnExactMixPhasesRow : OpenClaim := { program := "ytoehehaeanepmaa", sum := "b9fc7395f3ec7191059bd480312f2f963df01e902be6199da5e00f18f7113ebc", func := "loop.example/g01177/laws.FnExactMixPhases", spec := "fnExactMixPhases", apart := false }
def FnExactMixPhasesSaid : Prop := fnExactMixPhasesRow.holds Try.pinned (OpenSpec.ofChange fnExactMixPhasesSpec)

/-- ITS FALSE NEIGHBOUR: 'it returns false'. Refute it at one input. -/
def fnExactMixPhasesWrong : ChangeSpec := { name := "fnExactMixPhases", fn := fun _ => fun
  | [d1, d2] => { results := [.lit (.bool false)], args := [d1, d2] }
  | _ => none }
def FnExactMixPhasesWrongFalsely : Prop := fnExactMixPhasesRow.holds Try.pinned (OpenSpec.ofChange fnExactMixPhasesWrong)

/-- 'laws.FnExactNearestPhase': WHATEVER THE INPUT: true; the input reads as it did. -/
def fnExactNearestPhaseSpec : ChangeSpec := { name := "fnExactNearestPhase", fn := fun _ => fun
  | [d] => { results := [.lit (.bool true)], args := [d] }
  | _ => none }
def fnExactNearestPhaseRow : OpenClaim := { program := "ytoehehaeanepmaa", sum := "b9fc7395f3ec7191059bd480312f2f963df01e902be6199da5e00f18f7113ebc", func := "loop.example/g01177/laws.FnExactNearestPhase", spec := "fnExactNearestPhase", apart := false }
def FnExactNearestPhaseSaid : Prop := fnExactNearestPhaseRow.holds Try.pinned (OpenSpec.ofChange fnExactNearestPhaseSpec)

/-- ITS FALSE NEIGHBOUR: 'it returns false'. Refute it at one input. -/
def fnExactNearestPhaseWrong : ChangeSpec := { name := "fnExactNearestPhase", fn := fun _ => fun
  | [d] => { results := [.lit (.bool false)], args := [d] }
  | _ => none }
def FnExactNearestPhaseWrongFalsely : Prop := fnExactNearestPhaseRow.holds Try.pinned (OpenSpec.ofChange fnExactNearestPhaseWrong)

/-- 'laws.FnExactDecideOf': WHATEVER THE INPUT: true; the input reads as it did. -/
def fnExactDecideOfSpec : ChangeSpec := { name := "fnExactDecideOf", fn := fun _ => fun
  | [d] => { results := [.lit (.bool true)], args := [d] }
  | _ => none }
def fnExactDecideOfRow : OpenClaim := { program := "ytoehehaeanepmaa", sum := "b9fc7395f3ec7191059bd480312f2f963df01e902be6199da5e00f18f7113ebc", func := "loop.example/g01177/laws.FnExactDecideOf", spec := "fnExactDecideOf", apart := false }
def FnExactDecideOfSaid : Prop := fnExactDecideOfRow.holds Try.pinned (OpenSpec.ofChange fnExactDecideOfSpec)

/-- ITS FALSE NEIGHBOUR: 'it returns false'. Refute it at one input. -/
def fnExactDecideOfWrong : ChangeSpec := { name := "fnExactDecideOf", fn := fun _ => fun
  | [d] => { results := [.lit (.bool false)], args := [d] }
  | _ => none }
def FnExactDecideOfWrongFalsely : Prop := fnExactDecideOfRow.holds Try.pinned (OpenSpec.ofChange fnExactDecideOfWrong)

/- THE SECOND FORM. 'bulk': how many values and letters a reading holds, each counted each time it is reached (what is shared counts as often as it is met; a slice's spare places count too). A statement '..UptoSaid' is the law's where the arguments, and the package variables that the reading takes, are together of bulk at most 1048576: NARROWER than '..Said'. Prove '..Said' where nothing that the law and all that it calls make is longer than what came in: it says more and counts as full. Else prove '..UptoSaid'. A law counts once. -/
mutual
def uptoBulk {H : Type} : DataW H → Nat
  | .lit (.string bytes) => bytes.length + 1
  | .lit _ => 1
  | .nil => 1
  | .ptr d => uptoBulk d + 1
  | .slice elems spare => uptoBulkAll elems + uptoBulkAll spare + 1
  | .agg parts => uptoBulkAll parts + 1
  | .iface _ d => uptoBulk d + 1
  | .map entries => uptoBulkEntries entries + 1
  | .held _ => 1
def uptoBulkAll {H : Type} : List (DataW H) → Nat
  | [] => 0
  | d :: r => uptoBulk d + uptoBulkAll r
def uptoBulkEntries {H : Type} : List (Lit × DataW H) → Nat
  | [] => 0
  | x :: r => uptoBulkEntry x + uptoBulkEntries r
def uptoBulkEntry {H : Type} : Lit × DataW H → Nat
  | (.string bytes, d) => bytes.length + uptoBulk d + 1
  | (_, d) => uptoBulk d + 1
 end
def uptoSmall : (H : Type) → List (DataW H) → Bool := fun _ ds => decide (uptoBulkAll ds ≤ 1048576)
def OpenSpec.upto (s : _root_.Go.ChangeSpec) : _root_.Go.OpenSpec := { _root_.Go.OpenSpec.ofChange s with cond := some uptoSmall }

/-- 'laws.FnExactModulateBits', WHERE WHAT IT READS IS OF BULK AT MOST 1048576: true; the input reads as it did. -/
def fnExactModulateBitsUptoRow : OpenClaim := { program := "ytoehehaeanepmaa", sum := "b9fc7395f3ec7191059bd480312f2f963df01e902be6199da5e00f18f7113ebc", func := "loop.example/g01177/laws.FnExactModulateBits", spec := "fnExactModulateBits", apart := false, narrowed := true }
def FnExactModulateBitsUptoSaid : Prop := fnExactModulateBitsUptoRow.holds Try.pinned (OpenSpec.upto fnExactModulateBitsSpec)

/-- 'laws.FnExactDemodulatePhases', WHERE WHAT IT READS IS OF BULK AT MOST 1048576: true; the input reads as it did. -/
def fnExactDemodulatePhasesUptoRow : OpenClaim := { program := "ytoehehaeanepmaa", sum := "b9fc7395f3ec7191059bd480312f2f963df01e902be6199da5e00f18f7113ebc", func := "loop.example/g01177/laws.FnExactDemodulatePhases", spec := "fnExactDemodulatePhases", apart := false, narrowed := true }
def FnExactDemodulatePhasesUptoSaid : Prop := fnExactDemodulatePhasesUptoRow.holds Try.pinned (OpenSpec.upto fnExactDemodulatePhasesSpec)

/-- 'laws.FnExactStepsOf', WHERE WHAT IT READS IS OF BULK AT MOST 1048576: true; the input reads as it did. -/
def fnExactStepsOfUptoRow : OpenClaim := { program := "ytoehehaeanepmaa", sum := "b9fc7395f3ec7191059bd480312f2f963df01e902be6199da5e00f18f7113ebc", func := "loop.example/g01177/laws.FnExactStepsOf", spec := "fnExactStepsOf", apart := false, narrowed := true }
def FnExactStepsOfUptoSaid : Prop := fnExactStepsOfUptoRow.holds Try.pinned (OpenSpec.upto fnExactStepsOfSpec)

/-- 'laws.FnExactFromSteps', WHERE WHAT IT READS IS OF BULK AT MOST 1048576: true; the input reads as it did. -/
def fnExactFromStepsUptoRow : OpenClaim := { program := "ytoehehaeanepmaa", sum := "b9fc7395f3ec7191059bd480312f2f963df01e902be6199da5e00f18f7113ebc", func := "loop.example/g01177/laws.FnExactFromSteps", spec := "fnExactFromSteps", apart := false, narrowed := true }
def FnExactFromStepsUptoSaid : Prop := fnExactFromStepsUptoRow.holds Try.pinned (OpenSpec.upto fnExactFromStepsSpec)

/-- 'laws.FnExactErrorsOf', WHERE WHAT IT READS IS OF BULK AT MOST 1048576: true; the input reads as it did. -/
def fnExactErrorsOfUptoRow : OpenClaim := { program := "ytoehehaeanepmaa", sum := "b9fc7395f3ec7191059bd480312f2f963df01e902be6199da5e00f18f7113ebc", func := "loop.example/g01177/laws.FnExactErrorsOf", spec := "fnExactErrorsOf", apart := false, narrowed := true }
def FnExactErrorsOfUptoSaid : Prop := fnExactErrorsOfUptoRow.holds Try.pinned (OpenSpec.upto fnExactErrorsOfSpec)

/-- 'laws.FnExactMixPhases', WHERE WHAT IT READS IS OF BULK AT MOST 1048576: true; the input reads as it did. -/
def fnExactMixPhasesUptoRow : OpenClaim := { program := "ytoehehaeanepmaa", sum := "b9fc7395f3ec7191059bd480312f2f963df01e902be6199da5e00f18f7113ebc", func := "loop.example/g01177/laws.FnExactMixPhases", spec := "fnExactMixPhases", apart := false, narrowed := true }
def FnExactMixPhasesUptoSaid : Prop := fnExactMixPhasesUptoRow.holds Try.pinned (OpenSpec.upto fnExactMixPhasesSpec)

/-- 'laws.FnExactNearestPhase', WHERE WHAT IT READS IS OF BULK AT MOST 1048576: true; the input reads as it did. -/
def fnExactNearestPhaseUptoRow : OpenClaim := { program := "ytoehehaeanepmaa", sum := "b9fc7395f3ec7191059bd480312f2f963df01e902be6199da5e00f18f7113ebc", func := "loop.example/g01177/laws.FnExactNearestPhase", spec := "fnExactNearestPhase", apart := false, narrowed := true }
def FnExactNearestPhaseUptoSaid : Prop := fnExactNearestPhaseUptoRow.holds Try.pinned (OpenSpec.upto fnExactNearestPhaseSpec)

/-- 'laws.FnExactDecideOf', WHERE WHAT IT READS IS OF BULK AT MOST 1048576: true; the input reads as it did. -/
def fnExactDecideOfUptoRow : OpenClaim := { program := "ytoehehaeanepmaa", sum := "b9fc7395f3ec7191059bd480312f2f963df01e902be6199da5e00f18f7113ebc", func := "loop.example/g01177/laws.FnExactDecideOf", spec := "fnExactDecideOf", apart := false, narrowed := true }
def FnExactDecideOfUptoSaid : Prop := fnExactDecideOfUptoRow.holds Try.pinned (OpenSpec.upto fnExactDecideOfSpec)

end Rows
end Go.Proofs.Ytoehehaeanepmaa
