/-
  No cell of these rows narrows 'for every input' (looked for: loops, veiled, ifaces, maps, wideKeys, modest, calm, conditions, laid).
  DERIVED. THE GIVEN ROWS OF THIS SEAT. 6 by the template 'for every input the law returns true; each argument reads behind the call as it read before'; 0 by the template 'total and deterministic' (their statements: YtapmehgdnofgnabTotals.lean).
  GIVEN WITH THE SEED: the statements are not yours to turn. If you find one false, say at which input.
  Laid BY PROGRAM, IN A SANDBOX (cutbox-rows.mjs): the forced cells as the released guide's own fill.sh prints them over the translation 0a856a6a012b9ace… (all of the seat's roots in one cut). By AI agents, Wed Nov 11 2026. No macro, syntax, notation, axiom, sorry.
-/
import Derived.Test.YtapmehgdnofgnabChecked
import GoSem.Claim
import GoSem.ClaimJoined
import GoSem.ClaimMapViews
import Derived.JoinedTies
import Derived.KernelRfl
namespace Go.Proofs.Ytapmehgdnofgnab
/- THE CELL 'sum', in the pinned program and in every row, IS THE sha256 OF THE DUMP (.gsa) THAT YtapmehgdnofgnabProg.lean LOADS. Nothing in Lean hashes anything: it is a label: what it is worth is what the hold of that sum in a sandbox is worth. -/
noncomputable def Try.pinned : Pinned := { name := "ytapmehgdnofgnab", sum := "0a856a6a012b9ace90b168dd06993d2380d1bf717ecceb72122b96fd693e319a", checked := Try.checked }
namespace Rows
def none {H : Type} : Left H := { results := [], args := [] }

/-- 'laws.FnExactMatchOf': WHATEVER THE INPUT: true; the input reads as it did. -/
def fnExactMatchOfSpec : ChangeSpec := { name := "fnExactMatchOf", fn := fun _ => fun
  | [d1, d2] => { results := [.lit (.bool true)], args := [d1, d2] }
  | _ => none }
def fnExactMatchOfRow : OpenClaim := { program := "ytapmehgdnofgnab", sum := "0a856a6a012b9ace90b168dd06993d2380d1bf717ecceb72122b96fd693e319a", func := "loop.example/g01177/laws.FnExactMatchOf", spec := "fnExactMatchOf", unfollowed := true, recurses := true, apart := false }
def FnExactMatchOfSaid : Prop := fnExactMatchOfRow.holds Try.pinned (OpenSpec.ofChange fnExactMatchOfSpec)

/-- ITS FALSE NEIGHBOUR: 'it returns false'. Refute it at one input. -/
def fnExactMatchOfWrong : ChangeSpec := { name := "fnExactMatchOf", fn := fun _ => fun
  | [d1, d2] => { results := [.lit (.bool false)], args := [d1, d2] }
  | _ => none }
def FnExactMatchOfWrongFalsely : Prop := fnExactMatchOfRow.holds Try.pinned (OpenSpec.ofChange fnExactMatchOfWrong)

/-- 'laws.FnExactGatherOf': WHATEVER THE INPUT: true; the input reads as it did. -/
def fnExactGatherOfSpec : ChangeSpec := { name := "fnExactGatherOf", fn := fun _ => fun
  | [d1, d2] => { results := [.lit (.bool true)], args := [d1, d2] }
  | _ => none }
def fnExactGatherOfRow : OpenClaim := { program := "ytapmehgdnofgnab", sum := "0a856a6a012b9ace90b168dd06993d2380d1bf717ecceb72122b96fd693e319a", func := "loop.example/g01177/laws.FnExactGatherOf", spec := "fnExactGatherOf", unfollowed := true, recurses := true, apart := false }
def FnExactGatherOfSaid : Prop := fnExactGatherOfRow.holds Try.pinned (OpenSpec.ofChange fnExactGatherOfSpec)

/-- ITS FALSE NEIGHBOUR: 'it returns false'. Refute it at one input. -/
def fnExactGatherOfWrong : ChangeSpec := { name := "fnExactGatherOf", fn := fun _ => fun
  | [d1, d2] => { results := [.lit (.bool false)], args := [d1, d2] }
  | _ => none }
def FnExactGatherOfWrongFalsely : Prop := fnExactGatherOfRow.holds Try.pinned (OpenSpec.ofChange fnExactGatherOfWrong)

/-- 'laws.FnExactDelayedOf': WHATEVER THE INPUT: true; the input reads as it did. -/
def fnExactDelayedOfSpec : ChangeSpec := { name := "fnExactDelayedOf", fn := fun _ => fun
  | [d1, d2, d3, d4] => { results := [.lit (.bool true)], args := [d1, d2, d3, d4] }
  | _ => none }
def fnExactDelayedOfRow : OpenClaim := { program := "ytapmehgdnofgnab", sum := "0a856a6a012b9ace90b168dd06993d2380d1bf717ecceb72122b96fd693e319a", func := "loop.example/g01177/laws.FnExactDelayedOf", spec := "fnExactDelayedOf", unfollowed := true, recurses := true, apart := false }
def FnExactDelayedOfSaid : Prop := fnExactDelayedOfRow.holds Try.pinned (OpenSpec.ofChange fnExactDelayedOfSpec)

/-- ITS FALSE NEIGHBOUR: 'it returns false'. Refute it at one input. -/
def fnExactDelayedOfWrong : ChangeSpec := { name := "fnExactDelayedOf", fn := fun _ => fun
  | [d1, d2, d3, d4] => { results := [.lit (.bool false)], args := [d1, d2, d3, d4] }
  | _ => none }
def FnExactDelayedOfWrongFalsely : Prop := fnExactDelayedOfRow.holds Try.pinned (OpenSpec.ofChange fnExactDelayedOfWrong)

/-- 'laws.FnExactAddSignals': WHATEVER THE INPUT: true; the input reads as it did. -/
def fnExactAddSignalsSpec : ChangeSpec := { name := "fnExactAddSignals", fn := fun _ => fun
  | [d1, d2] => { results := [.lit (.bool true)], args := [d1, d2] }
  | _ => none }
def fnExactAddSignalsRow : OpenClaim := { program := "ytapmehgdnofgnab", sum := "0a856a6a012b9ace90b168dd06993d2380d1bf717ecceb72122b96fd693e319a", func := "loop.example/g01177/laws.FnExactAddSignals", spec := "fnExactAddSignals", unfollowed := true, recurses := true, apart := false }
def FnExactAddSignalsSaid : Prop := fnExactAddSignalsRow.holds Try.pinned (OpenSpec.ofChange fnExactAddSignalsSpec)

/-- ITS FALSE NEIGHBOUR: 'it returns false'. Refute it at one input. -/
def fnExactAddSignalsWrong : ChangeSpec := { name := "fnExactAddSignals", fn := fun _ => fun
  | [d1, d2] => { results := [.lit (.bool false)], args := [d1, d2] }
  | _ => none }
def FnExactAddSignalsWrongFalsely : Prop := fnExactAddSignalsRow.holds Try.pinned (OpenSpec.ofChange fnExactAddSignalsWrong)

/-- 'laws.FnExactFilterOf': WHATEVER THE INPUT: true; the input reads as it did. -/
def fnExactFilterOfSpec : ChangeSpec := { name := "fnExactFilterOf", fn := fun _ => fun
  | [d1, d2] => { results := [.lit (.bool true)], args := [d1, d2] }
  | _ => none }
def fnExactFilterOfRow : OpenClaim := { program := "ytapmehgdnofgnab", sum := "0a856a6a012b9ace90b168dd06993d2380d1bf717ecceb72122b96fd693e319a", func := "loop.example/g01177/laws.FnExactFilterOf", spec := "fnExactFilterOf", unfollowed := true, recurses := true, apart := false }
def FnExactFilterOfSaid : Prop := fnExactFilterOfRow.holds Try.pinned (OpenSpec.ofChange fnExactFilterOfSpec)

/-- ITS FALSE NEIGHBOUR: 'it returns false'. Refute it at one input. -/
def fnExactFilterOfWrong : ChangeSpec := { name := "fnExactFilterOf", fn := fun _ => fun
  | [d1, d2] => { results := [.lit (.bool false)], args := [d1, d2] }
  | _ => none }
def FnExactFilterOfWrongFalsely : Prop := fnExactFilterOfRow.holds Try.pinned (OpenSpec.ofChange fnExactFilterOfWrong)

/-- 'laws.FnExactFindDelay': WHATEVER THE INPUT: true; the input reads as it did. -/
def fnExactFindDelaySpec : ChangeSpec := { name := "fnExactFindDelay", fn := fun _ => fun
  | [d1, d2] => { results := [.lit (.bool true)], args := [d1, d2] }
  | _ => none }
def fnExactFindDelayRow : OpenClaim := { program := "ytapmehgdnofgnab", sum := "0a856a6a012b9ace90b168dd06993d2380d1bf717ecceb72122b96fd693e319a", func := "loop.example/g01177/laws.FnExactFindDelay", spec := "fnExactFindDelay", unfollowed := true, recurses := true, apart := false }
def FnExactFindDelaySaid : Prop := fnExactFindDelayRow.holds Try.pinned (OpenSpec.ofChange fnExactFindDelaySpec)

/-- ITS FALSE NEIGHBOUR: 'it returns false'. Refute it at one input. -/
def fnExactFindDelayWrong : ChangeSpec := { name := "fnExactFindDelay", fn := fun _ => fun
  | [d1, d2] => { results := [.lit (.bool false)], args := [d1, d2] }
  | _ => none }
def FnExactFindDelayWrongFalsely : Prop := fnExactFindDelayRow.holds Try.pinned (OpenSpec.ofChange fnExactFindDelayWrong)

/- THE SECOND FORM. 'bulk': how many values and letters a reading holds, each counted each time it is reached (what is shared counts as often as it is met; a slice's spare places count too). A statement '..UptoSaid' is the law's where the arguments, and the package variables that the reading takes, are together of bulk at most 1048576: NARROWER than '..Said'. Prove '..Said' where nothing that the law and all that it calls make is longer than what came in: it says more and counts as full. Else prove '..UptoSaid'. A law counts once. -/
mutual
def uptoBulk {H : Type} : DataW H → Nat
  | .lit (.string bytes) => bytes.length + 1
  | .lit _ => 1
  | .nil => 1
  | .ptr d => uptoBulk d + 1
  | .slice elems spare => uptoBulkAll elems + uptoBulkAll spare + 1
  | .agg parts => uptoBulkAll parts + 1
  | .iface _ d => uptoBulk d + 1
  | .map entries => uptoBulkEntries entries + 1
  | .held _ => 1
def uptoBulkAll {H : Type} : List (DataW H) → Nat
  | [] => 0
  | d :: r => uptoBulk d + uptoBulkAll r
def uptoBulkEntries {H : Type} : List (Lit × DataW H) → Nat
  | [] => 0
  | x :: r => uptoBulkEntry x + uptoBulkEntries r
def uptoBulkEntry {H : Type} : Lit × DataW H → Nat
  | (.string bytes, d) => bytes.length + uptoBulk d + 1
  | (_, d) => uptoBulk d + 1
 end
def uptoSmall : (H : Type) → List (DataW H) → Bool := fun _ ds => decide (uptoBulkAll ds ≤ 1048576)
def OpenSpec.upto (s : _root_.Go.ChangeSpec) : _root_.Go.OpenSpec := { _root_.Go.OpenSpec.ofChange s with cond := some uptoSmall }

/-- 'laws.FnExactMatchOf', WHERE WHAT IT READS IS OF BULK AT MOST 1048576: true; the input reads as it did. -/
def fnExactMatchOfUptoRow : OpenClaim := { program := "ytapmehgdnofgnab", sum := "0a856a6a012b9ace90b168dd06993d2380d1bf717ecceb72122b96fd693e319a", func := "loop.example/g01177/laws.FnExactMatchOf", spec := "fnExactMatchOf", unfollowed := true, recurses := true, apart := false, narrowed := true }
def FnExactMatchOfUptoSaid : Prop := fnExactMatchOfUptoRow.holds Try.pinned (OpenSpec.upto fnExactMatchOfSpec)

/-- 'laws.FnExactGatherOf', WHERE WHAT IT READS IS OF BULK AT MOST 1048576: true; the input reads as it did. -/
def fnExactGatherOfUptoRow : OpenClaim := { program := "ytapmehgdnofgnab", sum := "0a856a6a012b9ace90b168dd06993d2380d1bf717ecceb72122b96fd693e319a", func := "loop.example/g01177/laws.FnExactGatherOf", spec := "fnExactGatherOf", unfollowed := true, recurses := true, apart := false, narrowed := true }
def FnExactGatherOfUptoSaid : Prop := fnExactGatherOfUptoRow.holds Try.pinned (OpenSpec.upto fnExactGatherOfSpec)

/-- 'laws.FnExactDelayedOf', WHERE WHAT IT READS IS OF BULK AT MOST 1048576: true; the input reads as it did. -/
def fnExactDelayedOfUptoRow : OpenClaim := { program := "ytapmehgdnofgnab", sum := "0a856a6a012b9ace90b168dd06993d2380d1bf717ecceb72122b96fd693e319a", func := "loop.example/g01177/laws.FnExactDelayedOf", spec := "fnExactDelayedOf", unfollowed := true, recurses := true, apart := false, narrowed := true }
def FnExactDelayedOfUptoSaid : Prop := fnExactDelayedOfUptoRow.holds Try.pinned (OpenSpec.upto fnExactDelayedOfSpec)

/-- 'laws.FnExactAddSignals', WHERE WHAT IT READS IS OF BULK AT MOST 1048576: true; the input reads as it did. -/
def fnExactAddSignalsUptoRow : OpenClaim := { program := "ytapmehgdnofgnab", sum := "0a856a6a012b9ace90b168dd06993d2380d1bf717ecceb72122b96fd693e319a", func := "loop.example/g01177/laws.FnExactAddSignals", spec := "fnExactAddSignals", unfollowed := true, recurses := true, apart := false, narrowed := true }
def FnExactAddSignalsUptoSaid : Prop := fnExactAddSignalsUptoRow.holds Try.pinned (OpenSpec.upto fnExactAddSignalsSpec)

/-- 'laws.FnExactFilterOf', WHERE WHAT IT READS IS OF BULK AT MOST 1048576: true; the input reads as it did. -/
def fnExactFilterOfUptoRow : OpenClaim := { program := "ytapmehgdnofgnab", sum := "0a856a6a012b9ace90b168dd06993d2380d1bf717ecceb72122b96fd693e319a", func := "loop.example/g01177/laws.FnExactFilterOf", spec := "fnExactFilterOf", unfollowed := true, recurses := true, apart := false, narrowed := true }
def FnExactFilterOfUptoSaid : Prop := fnExactFilterOfUptoRow.holds Try.pinned (OpenSpec.upto fnExactFilterOfSpec)

/-- 'laws.FnExactFindDelay', WHERE WHAT IT READS IS OF BULK AT MOST 1048576: true; the input reads as it did. -/
def fnExactFindDelayUptoRow : OpenClaim := { program := "ytapmehgdnofgnab", sum := "0a856a6a012b9ace90b168dd06993d2380d1bf717ecceb72122b96fd693e319a", func := "loop.example/g01177/laws.FnExactFindDelay", spec := "fnExactFindDelay", unfollowed := true, recurses := true, apart := false, narrowed := true }
def FnExactFindDelayUptoSaid : Prop := fnExactFindDelayUptoRow.holds Try.pinned (OpenSpec.upto fnExactFindDelaySpec)

end Rows
end Go.Proofs.Ytapmehgdnofgnab
