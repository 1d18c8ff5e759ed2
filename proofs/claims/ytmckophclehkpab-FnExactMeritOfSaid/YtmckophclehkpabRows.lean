/-
  No cell of these rows narrows 'for every input' (looked for: loops, veiled, ifaces, maps, wideKeys, modest, calm, conditions, laid).
  DERIVED. THE GIVEN ROWS OF THIS SEAT. 7 by the template 'for every input the law returns true; each argument reads behind the call as it read before'; 0 by the template 'total and deterministic' (their statements: YtmckophclehkpabTotals.lean).
  GIVEN WITH THE SEED: the statements are not yours to turn. If you find one false, say at which input.
  Laid BY PROGRAM, IN A SANDBOX (cutbox-rows.mjs): the forced cells as the released guide's own fill.sh prints them over the translation 9439cdd9a33710ca… (all of the seat's roots in one cut). By AI agents, Wed Nov 11 2026. No macro, syntax, notation, axiom, sorry.
-/
import Derived.Test.YtmckophclehkpabChecked
import GoSem.Claim
import GoSem.ClaimJoined
import GoSem.ClaimMapViews
import Derived.JoinedTies
import Derived.KernelRfl
namespace Go.Proofs.Ytmckophclehkpab
/- THE CELL 'sum', in the pinned program and in every row, IS THE sha256 OF THE DUMP (.gsa) THAT YtmckophclehkpabProg.lean LOADS. Nothing in Lean hashes anything: it is a label: what it is worth is what the hold of that sum in a sandbox is worth. -/
noncomputable def Try.pinned : Pinned := { name := "ytmckophclehkpab", sum := "9439cdd9a33710cafd88f8196235092243b6bd7acc5ef318b7ae90d2af7e6d02", checked := Try.checked }
namespace Rows
def none {H : Type} : Left H := { results := [], args := [] }

/-- 'laws.FnExactSideEnergy': WHATEVER THE INPUT: true; the input reads as it did. -/
def fnExactSideEnergySpec : ChangeSpec := { name := "fnExactSideEnergy", fn := fun _ => fun
  | [d] => { results := [.lit (.bool true)], args := [d] }
  | _ => none }
def fnExactSideEnergyRow : OpenClaim := { program := "ytmckophclehkpab", sum := "9439cdd9a33710cafd88f8196235092243b6bd7acc5ef318b7ae90d2af7e6d02", func := "loop.example/g01177/laws.FnExactSideEnergy", spec := "fnExactSideEnergy", apart := false }
def FnExactSideEnergySaid : Prop := fnExactSideEnergyRow.holds Try.pinned (OpenSpec.ofChange fnExactSideEnergySpec)

/-- ITS FALSE NEIGHBOUR: 'it returns false'. Refute it at one input. -/
def fnExactSideEnergyWrong : ChangeSpec := { name := "fnExactSideEnergy", fn := fun _ => fun
  | [d] => { results := [.lit (.bool false)], args := [d] }
  | _ => none }
def FnExactSideEnergyWrongFalsely : Prop := fnExactSideEnergyRow.holds Try.pinned (OpenSpec.ofChange fnExactSideEnergyWrong)

/-- 'laws.FnExactMeritOf': WHATEVER THE INPUT: true; the input reads as it did. -/
def fnExactMeritOfSpec : ChangeSpec := { name := "fnExactMeritOf", fn := fun _ => fun
  | [d] => { results := [.lit (.bool true)], args := [d] }
  | _ => none }
def fnExactMeritOfRow : OpenClaim := { program := "ytmckophclehkpab", sum := "9439cdd9a33710cafd88f8196235092243b6bd7acc5ef318b7ae90d2af7e6d02", func := "loop.example/g01177/laws.FnExactMeritOf", spec := "fnExactMeritOf", apart := false }
def FnExactMeritOfSaid : Prop := fnExactMeritOfRow.holds Try.pinned (OpenSpec.ofChange fnExactMeritOfSpec)

/-- ITS FALSE NEIGHBOUR: 'it returns false'. Refute it at one input. -/
def fnExactMeritOfWrong : ChangeSpec := { name := "fnExactMeritOf", fn := fun _ => fun
  | [d] => { results := [.lit (.bool false)], args := [d] }
  | _ => none }
def FnExactMeritOfWrongFalsely : Prop := fnExactMeritOfRow.holds Try.pinned (OpenSpec.ofChange fnExactMeritOfWrong)

/-- 'laws.FnExactPeakSide': WHATEVER THE INPUT: true; the input reads as it did. -/
def fnExactPeakSideSpec : ChangeSpec := { name := "fnExactPeakSide", fn := fun _ => fun
  | [d] => { results := [.lit (.bool true)], args := [d] }
  | _ => none }
def fnExactPeakSideRow : OpenClaim := { program := "ytmckophclehkpab", sum := "9439cdd9a33710cafd88f8196235092243b6bd7acc5ef318b7ae90d2af7e6d02", func := "loop.example/g01177/laws.FnExactPeakSide", spec := "fnExactPeakSide", apart := false }
def FnExactPeakSideSaid : Prop := fnExactPeakSideRow.holds Try.pinned (OpenSpec.ofChange fnExactPeakSideSpec)

/-- ITS FALSE NEIGHBOUR: 'it returns false'. Refute it at one input. -/
def fnExactPeakSideWrong : ChangeSpec := { name := "fnExactPeakSide", fn := fun _ => fun
  | [d] => { results := [.lit (.bool false)], args := [d] }
  | _ => none }
def FnExactPeakSideWrongFalsely : Prop := fnExactPeakSideRow.holds Try.pinned (OpenSpec.ofChange fnExactPeakSideWrong)

/-- 'laws.FnExactIsBarker': WHATEVER THE INPUT: true; the input reads as it did. -/
def fnExactIsBarkerSpec : ChangeSpec := { name := "fnExactIsBarker", fn := fun _ => fun
  | [d] => { results := [.lit (.bool true)], args := [d] }
  | _ => none }
def fnExactIsBarkerRow : OpenClaim := { program := "ytmckophclehkpab", sum := "9439cdd9a33710cafd88f8196235092243b6bd7acc5ef318b7ae90d2af7e6d02", func := "loop.example/g01177/laws.FnExactIsBarker", spec := "fnExactIsBarker", apart := false }
def FnExactIsBarkerSaid : Prop := fnExactIsBarkerRow.holds Try.pinned (OpenSpec.ofChange fnExactIsBarkerSpec)

/-- ITS FALSE NEIGHBOUR: 'it returns false'. Refute it at one input. -/
def fnExactIsBarkerWrong : ChangeSpec := { name := "fnExactIsBarker", fn := fun _ => fun
  | [d] => { results := [.lit (.bool false)], args := [d] }
  | _ => none }
def FnExactIsBarkerWrongFalsely : Prop := fnExactIsBarkerRow.holds Try.pinned (OpenSpec.ofChange fnExactIsBarkerWrong)

/-- 'laws.FnExactCountBarker': WHATEVER THE INPUT: true; the input reads as it did. -/
def fnExactCountBarkerSpec : ChangeSpec := { name := "fnExactCountBarker", fn := fun _ => fun
  | [d] => { results := [.lit (.bool true)], args := [d] }
  | _ => none }
def fnExactCountBarkerRow : OpenClaim := { program := "ytmckophclehkpab", sum := "9439cdd9a33710cafd88f8196235092243b6bd7acc5ef318b7ae90d2af7e6d02", func := "loop.example/g01177/laws.FnExactCountBarker", spec := "fnExactCountBarker", apart := false }
def FnExactCountBarkerSaid : Prop := fnExactCountBarkerRow.holds Try.pinned (OpenSpec.ofChange fnExactCountBarkerSpec)

/-- ITS FALSE NEIGHBOUR: 'it returns false'. Refute it at one input. -/
def fnExactCountBarkerWrong : ChangeSpec := { name := "fnExactCountBarker", fn := fun _ => fun
  | [d] => { results := [.lit (.bool false)], args := [d] }
  | _ => none }
def FnExactCountBarkerWrongFalsely : Prop := fnExactCountBarkerRow.holds Try.pinned (OpenSpec.ofChange fnExactCountBarkerWrong)

/-- 'laws.FnExactFirstBarker': WHATEVER THE INPUT: true; the input reads as it did. -/
def fnExactFirstBarkerSpec : ChangeSpec := { name := "fnExactFirstBarker", fn := fun _ => fun
  | [d] => { results := [.lit (.bool true)], args := [d] }
  | _ => none }
def fnExactFirstBarkerRow : OpenClaim := { program := "ytmckophclehkpab", sum := "9439cdd9a33710cafd88f8196235092243b6bd7acc5ef318b7ae90d2af7e6d02", func := "loop.example/g01177/laws.FnExactFirstBarker", spec := "fnExactFirstBarker", apart := false }
def FnExactFirstBarkerSaid : Prop := fnExactFirstBarkerRow.holds Try.pinned (OpenSpec.ofChange fnExactFirstBarkerSpec)

/-- ITS FALSE NEIGHBOUR: 'it returns false'. Refute it at one input. -/
def fnExactFirstBarkerWrong : ChangeSpec := { name := "fnExactFirstBarker", fn := fun _ => fun
  | [d] => { results := [.lit (.bool false)], args := [d] }
  | _ => none }
def FnExactFirstBarkerWrongFalsely : Prop := fnExactFirstBarkerRow.holds Try.pinned (OpenSpec.ofChange fnExactFirstBarkerWrong)

/-- 'laws.FnExactLeastEnergy': WHATEVER THE INPUT: true; the input reads as it did. -/
def fnExactLeastEnergySpec : ChangeSpec := { name := "fnExactLeastEnergy", fn := fun _ => fun
  | [d] => { results := [.lit (.bool true)], args := [d] }
  | _ => none }
def fnExactLeastEnergyRow : OpenClaim := { program := "ytmckophclehkpab", sum := "9439cdd9a33710cafd88f8196235092243b6bd7acc5ef318b7ae90d2af7e6d02", func := "loop.example/g01177/laws.FnExactLeastEnergy", spec := "fnExactLeastEnergy", apart := false }
def FnExactLeastEnergySaid : Prop := fnExactLeastEnergyRow.holds Try.pinned (OpenSpec.ofChange fnExactLeastEnergySpec)

/-- ITS FALSE NEIGHBOUR: 'it returns false'. Refute it at one input. -/
def fnExactLeastEnergyWrong : ChangeSpec := { name := "fnExactLeastEnergy", fn := fun _ => fun
  | [d] => { results := [.lit (.bool false)], args := [d] }
  | _ => none }
def FnExactLeastEnergyWrongFalsely : Prop := fnExactLeastEnergyRow.holds Try.pinned (OpenSpec.ofChange fnExactLeastEnergyWrong)

/- THE SECOND FORM. 'bulk': how many values and letters a reading holds, each counted each time it is reached (what is shared counts as often as it is met; a slice's spare places count too). A statement '..UptoSaid' is the law's where the arguments, and the package variables that the reading takes, are together of bulk at most 1048576: NARROWER than '..Said'. Prove '..Said' where nothing that the law and all that it calls make is longer than what came in: it says more and counts as full. Else prove '..UptoSaid'. A law counts once. -/
mutual
def uptoBulk {H : Type} : DataW H → Nat
  | .lit (.string bytes) => bytes.length + 1
  | .lit _ => 1
  | .nil => 1
  | .ptr d => uptoBulk d + 1
  | .slice elems spare => uptoBulkAll elems + uptoBulkAll spare + 1
  | .agg parts => uptoBulkAll parts + 1
  | .iface _ d => uptoBulk d + 1
  | .map entries => uptoBulkEntries entries + 1
  | .held _ => 1
def uptoBulkAll {H : Type} : List (DataW H) → Nat
  | [] => 0
  | d :: r => uptoBulk d + uptoBulkAll r
def uptoBulkEntries {H : Type} : List (Lit × DataW H) → Nat
  | [] => 0
  | x :: r => uptoBulkEntry x + uptoBulkEntries r
def uptoBulkEntry {H : Type} : Lit × DataW H → Nat
  | (.string bytes, d) => bytes.length + uptoBulk d + 1
  | (_, d) => uptoBulk d + 1
 end
def uptoSmall : (H : Type) → List (DataW H) → Bool := fun _ ds => decide (uptoBulkAll ds ≤ 1048576)
def OpenSpec.upto (s : _root_.Go.ChangeSpec) : _root_.Go.OpenSpec := { _root_.Go.OpenSpec.ofChange s with cond := some uptoSmall }

/-- 'laws.FnExactSideEnergy', WHERE WHAT IT READS IS OF BULK AT MOST 1048576: true; the input reads as it did. -/
def fnExactSideEnergyUptoRow : OpenClaim := { program := "ytmckophclehkpab", sum := "9439cdd9a33710cafd88f8196235092243b6bd7acc5ef318b7ae90d2af7e6d02", func := "loop.example/g01177/laws.FnExactSideEnergy", spec := "fnExactSideEnergy", apart := false, narrowed := true }
def FnExactSideEnergyUptoSaid : Prop := fnExactSideEnergyUptoRow.holds Try.pinned (OpenSpec.upto fnExactSideEnergySpec)

/-- 'laws.FnExactMeritOf', WHERE WHAT IT READS IS OF BULK AT MOST 1048576: true; the input reads as it did. -/
def fnExactMeritOfUptoRow : OpenClaim := { program := "ytmckophclehkpab", sum := "9439cdd9a33710cafd88f8196235092243b6bd7acc5ef318b7ae90d2af7e6d02", func := "loop.example/g01177/laws.FnExactMeritOf", spec := "fnExactMeritOf", apart := false, narrowed := true }
def FnExactMeritOfUptoSaid : Prop := fnExactMeritOfUptoRow.holds Try.pinned (OpenSpec.upto fnExactMeritOfSpec)

/-- 'laws.FnExactPeakSide', WHERE WHAT IT READS IS OF BULK AT MOST 1048576: true; the input reads as it did. -/
def fnExactPeakSideUptoRow : OpenClaim := { program := "ytmckophclehkpab", sum := "9439cdd9a33710cafd88f8196235092243b6bd7acc5ef318b7ae90d2af7e6d02", func := "loop.example/g01177/laws.FnExactPeakSide", spec := "fnExactPeakSide", apart := false, narrowed := true }
def FnExactPeakSideUptoSaid : Prop := fnExactPeakSideUptoRow.holds Try.pinned (OpenSpec.upto fnExactPeakSideSpec)

/-- 'laws.FnExactIsBarker', WHERE WHAT IT READS IS OF BULK AT MOST 1048576: true; the input reads as it did. -/
def fnExactIsBarkerUptoRow : OpenClaim := { program := "ytmckophclehkpab", sum := "9439cdd9a33710cafd88f8196235092243b6bd7acc5ef318b7ae90d2af7e6d02", func := "loop.example/g01177/laws.FnExactIsBarker", spec := "fnExactIsBarker", apart := false, narrowed := true }
def FnExactIsBarkerUptoSaid : Prop := fnExactIsBarkerUptoRow.holds Try.pinned (OpenSpec.upto fnExactIsBarkerSpec)

/-- 'laws.FnExactCountBarker', WHERE WHAT IT READS IS OF BULK AT MOST 1048576: true; the input reads as it did. -/
def fnExactCountBarkerUptoRow : OpenClaim := { program := "ytmckophclehkpab", sum := "9439cdd9a33710cafd88f8196235092243b6bd7acc5ef318b7ae90d2af7e6d02", func := "loop.example/g01177/laws.FnExactCountBarker", spec := "fnExactCountBarker", apart := false, narrowed := true }
def FnExactCountBarkerUptoSaid : Prop := fnExactCountBarkerUptoRow.holds Try.pinned (OpenSpec.upto fnExactCountBarkerSpec)

/-- 'laws.FnExactFirstBarker', WHERE WHAT IT READS IS OF BULK AT MOST 1048576: true; the input reads as it did. -/
def fnExactFirstBarkerUptoRow : OpenClaim := { program := "ytmckophclehkpab", sum := "9439cdd9a33710cafd88f8196235092243b6bd7acc5ef318b7ae90d2af7e6d02", func := "loop.example/g01177/laws.FnExactFirstBarker", spec := "fnExactFirstBarker", apart := false, narrowed := true }
def FnExactFirstBarkerUptoSaid : Prop := fnExactFirstBarkerUptoRow.holds Try.pinned (OpenSpec.upto fnExactFirstBarkerSpec)

/-- 'laws.FnExactLeastEnergy', WHERE WHAT IT READS IS OF BULK AT MOST 1048576: true; the input reads as it did. -/
def fnExactLeastEnergyUptoRow : OpenClaim := { program := "ytmckophclehkpab", sum := "9439cdd9a33710cafd88f8196235092243b6bd7acc5ef318b7ae90d2af7e6d02", func := "loop.example/g01177/laws.FnExactLeastEnergy", spec := "fnExactLeastEnergy", apart := false, narrowed := true }
def FnExactLeastEnergyUptoSaid : Prop := fnExactLeastEnergyUptoRow.holds Try.pinned (OpenSpec.upto fnExactLeastEnergySpec)

end Rows
end Go.Proofs.Ytmckophclehkpab
