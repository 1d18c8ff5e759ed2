/-
  No cell of these rows narrows 'for every input' (looked for: loops, veiled, ifaces, maps, wideKeys, modest, calm, conditions, laid).
  DERIVED. THE GIVEN ROWS OF THIS SEAT. 6 by the template 'for every input the law returns true; each argument reads behind the call as it read before'; 0 by the template 'total and deterministic' (their statements: YtgibdndckoapfabTotals.lean).
  GIVEN WITH THE SEED: the statements are not yours to turn. If you find one false, say at which input.
  Laid BY PROGRAM, IN A SANDBOX (cutbox-rows.mjs): the forced cells as the released guide's own fill.sh prints them over the translation e7c77cce6cd7926e… (all of the seat's roots in one cut). By AI agents, Wed Nov 11 2026. No macro, syntax, notation, axiom, sorry.
-/
import Derived.Test.YtgibdndckoapfabChecked
import GoSem.Claim
import GoSem.ClaimJoined
import GoSem.ClaimMapViews
import Derived.JoinedTies
import Derived.KernelRfl
namespace Go.Proofs.Ytgibdndckoapfab
/- THE CELL 'sum', in the pinned program and in every row, IS THE sha256 OF THE DUMP (.gsa) THAT YtgibdndckoapfabProg.lean LOADS. Nothing in Lean hashes anything: it is a label: what it is worth is what the hold of that sum in a sandbox is worth. -/
noncomputable def Try.pinned : Pinned := { name := "ytgibdndckoapfab", sum := "e7c77cce6cd7926e4ccf797914ec1c1e329c08d58235c5ee431a0a4e28149864", checked := Try.checked }
namespace Rows
def none {H : Type} : Left H := { results := [], args := [] }

/-- 'laws.FnExactEnergyOf': WHATEVER THE INPUT: true; the input reads as it did. -/
def fnExactEnergyOfSpec : ChangeSpec := { name := "fnExactEnergyOf", fn := fun _ => fun
  | [d] => { results := [.lit (.bool true)], args := [d] }
  | _ => none }
def fnExactEnergyOfRow : OpenClaim := { program := "ytgibdndckoapfab", sum := "e7c77cce6cd7926e4ccf797914ec1c1e329c08d58235c5ee431a0a4e28149864", func := "loop.example/g01177/laws.FnExactEnergyOf", spec := "fnExactEnergyOf", apart := false }
def FnExactEnergyOfSaid : Prop := fnExactEnergyOfRow.holds Try.pinned (OpenSpec.ofChange fnExactEnergyOfSpec)

/-- ITS FALSE NEIGHBOUR: 'it returns false'. Refute it at one input. -/
def fnExactEnergyOfWrong : ChangeSpec := { name := "fnExactEnergyOf", fn := fun _ => fun
  | [d] => { results := [.lit (.bool false)], args := [d] }
  | _ => none }
def FnExactEnergyOfWrongFalsely : Prop := fnExactEnergyOfRow.holds Try.pinned (OpenSpec.ofChange fnExactEnergyOfWrong)

/-- 'laws.FnExactConvolveOf': WHATEVER THE INPUT: true; the input reads as it did. -/
def fnExactConvolveOfSpec : ChangeSpec := { name := "fnExactConvolveOf", fn := fun _ => fun
  | [d1, d2] => { results := [.lit (.bool true)], args := [d1, d2] }
  | _ => none }
def fnExactConvolveOfRow : OpenClaim := { program := "ytgibdndckoapfab", sum := "e7c77cce6cd7926e4ccf797914ec1c1e329c08d58235c5ee431a0a4e28149864", func := "loop.example/g01177/laws.FnExactConvolveOf", spec := "fnExactConvolveOf", unfollowed := true, recurses := true, apart := false }
def FnExactConvolveOfSaid : Prop := fnExactConvolveOfRow.holds Try.pinned (OpenSpec.ofChange fnExactConvolveOfSpec)

/-- ITS FALSE NEIGHBOUR: 'it returns false'. Refute it at one input. -/
def fnExactConvolveOfWrong : ChangeSpec := { name := "fnExactConvolveOf", fn := fun _ => fun
  | [d1, d2] => { results := [.lit (.bool false)], args := [d1, d2] }
  | _ => none }
def FnExactConvolveOfWrongFalsely : Prop := fnExactConvolveOfRow.holds Try.pinned (OpenSpec.ofChange fnExactConvolveOfWrong)

/-- 'laws.FnExactCorrelateOf': WHATEVER THE INPUT: true; the input reads as it did. -/
def fnExactCorrelateOfSpec : ChangeSpec := { name := "fnExactCorrelateOf", fn := fun _ => fun
  | [d1, d2] => { results := [.lit (.bool true)], args := [d1, d2] }
  | _ => none }
def fnExactCorrelateOfRow : OpenClaim := { program := "ytgibdndckoapfab", sum := "e7c77cce6cd7926e4ccf797914ec1c1e329c08d58235c5ee431a0a4e28149864", func := "loop.example/g01177/laws.FnExactCorrelateOf", spec := "fnExactCorrelateOf", unfollowed := true, recurses := true, apart := false }
def FnExactCorrelateOfSaid : Prop := fnExactCorrelateOfRow.holds Try.pinned (OpenSpec.ofChange fnExactCorrelateOfSpec)

/-- ITS FALSE NEIGHBOUR: 'it returns false'. Refute it at one input. -/
def fnExactCorrelateOfWrong : ChangeSpec := { name := "fnExactCorrelateOf", fn := fun _ => fun
  | [d1, d2] => { results := [.lit (.bool false)], args := [d1, d2] }
  | _ => none }
def FnExactCorrelateOfWrongFalsely : Prop := fnExactCorrelateOfRow.holds Try.pinned (OpenSpec.ofChange fnExactCorrelateOfWrong)

/-- 'laws.FnExactMoveOf': WHATEVER THE INPUT: true; the input reads as it did. -/
def fnExactMoveOfSpec : ChangeSpec := { name := "fnExactMoveOf", fn := fun _ => fun
  | [d1, d2] => { results := [.lit (.bool true)], args := [d1, d2] }
  | _ => none }
def fnExactMoveOfRow : OpenClaim := { program := "ytgibdndckoapfab", sum := "e7c77cce6cd7926e4ccf797914ec1c1e329c08d58235c5ee431a0a4e28149864", func := "loop.example/g01177/laws.FnExactMoveOf", spec := "fnExactMoveOf", apart := false }
def FnExactMoveOfSaid : Prop := fnExactMoveOfRow.holds Try.pinned (OpenSpec.ofChange fnExactMoveOfSpec)

/-- ITS FALSE NEIGHBOUR: 'it returns false'. Refute it at one input. -/
def fnExactMoveOfWrong : ChangeSpec := { name := "fnExactMoveOf", fn := fun _ => fun
  | [d1, d2] => { results := [.lit (.bool false)], args := [d1, d2] }
  | _ => none }
def FnExactMoveOfWrongFalsely : Prop := fnExactMoveOfRow.holds Try.pinned (OpenSpec.ofChange fnExactMoveOfWrong)

/-- 'laws.FnExactWaveOf': WHATEVER THE INPUT: true; the input reads as it did. -/
def fnExactWaveOfSpec : ChangeSpec := { name := "fnExactWaveOf", fn := fun _ => fun
  | [d1, d2] => { results := [.lit (.bool true)], args := [d1, d2] }
  | _ => none }
def fnExactWaveOfRow : OpenClaim := { program := "ytgibdndckoapfab", sum := "e7c77cce6cd7926e4ccf797914ec1c1e329c08d58235c5ee431a0a4e28149864", func := "loop.example/g01177/laws.FnExactWaveOf", spec := "fnExactWaveOf", apart := false }
def FnExactWaveOfSaid : Prop := fnExactWaveOfRow.holds Try.pinned (OpenSpec.ofChange fnExactWaveOfSpec)

/-- ITS FALSE NEIGHBOUR: 'it returns false'. Refute it at one input. -/
def fnExactWaveOfWrong : ChangeSpec := { name := "fnExactWaveOf", fn := fun _ => fun
  | [d1, d2] => { results := [.lit (.bool false)], args := [d1, d2] }
  | _ => none }
def FnExactWaveOfWrongFalsely : Prop := fnExactWaveOfRow.holds Try.pinned (OpenSpec.ofChange fnExactWaveOfWrong)

/-- 'laws.FnExactDeterminantOf': WHATEVER THE INPUT: true; the input reads as it did. -/
def fnExactDeterminantOfSpec : ChangeSpec := { name := "fnExactDeterminantOf", fn := fun _ => fun
  | [d] => { results := [.lit (.bool true)], args := [d] }
  | _ => none }
def fnExactDeterminantOfRow : OpenClaim := { program := "ytgibdndckoapfab", sum := "e7c77cce6cd7926e4ccf797914ec1c1e329c08d58235c5ee431a0a4e28149864", func := "loop.example/g01177/laws.FnExactDeterminantOf", spec := "fnExactDeterminantOf", recurses := true, apart := false }
def FnExactDeterminantOfSaid : Prop := fnExactDeterminantOfRow.holds Try.pinned (OpenSpec.ofChange fnExactDeterminantOfSpec)

/-- ITS FALSE NEIGHBOUR: 'it returns false'. Refute it at one input. -/
def fnExactDeterminantOfWrong : ChangeSpec := { name := "fnExactDeterminantOf", fn := fun _ => fun
  | [d] => { results := [.lit (.bool false)], args := [d] }
  | _ => none }
def FnExactDeterminantOfWrongFalsely : Prop := fnExactDeterminantOfRow.holds Try.pinned (OpenSpec.ofChange fnExactDeterminantOfWrong)

/- THE SECOND FORM. 'bulk': how many values and letters a reading holds, each counted each time it is reached (what is shared counts as often as it is met; a slice's spare places count too). A statement '..UptoSaid' is the law's where the arguments, and the package variables that the reading takes, are together of bulk at most 1048576: NARROWER than '..Said'. Prove '..Said' where nothing that the law and all that it calls make is longer than what came in: it says more and counts as full. Else prove '..UptoSaid'. A law counts once. -/
mutual
def uptoBulk {H : Type} : DataW H → Nat
  | .lit (.string bytes) => bytes.length + 1
  | .lit _ => 1
  | .nil => 1
  | .ptr d => uptoBulk d + 1
  | .slice elems spare => uptoBulkAll elems + uptoBulkAll spare + 1
  | .agg parts => uptoBulkAll parts + 1
  | .iface _ d => uptoBulk d + 1
  | .map entries => uptoBulkEntries entries + 1
  | .held _ => 1
def uptoBulkAll {H : Type} : List (DataW H) → Nat
  | [] => 0
  | d :: r => uptoBulk d + uptoBulkAll r
def uptoBulkEntries {H : Type} : List (Lit × DataW H) → Nat
  | [] => 0
  | x :: r => uptoBulkEntry x + uptoBulkEntries r
def uptoBulkEntry {H : Type} : Lit × DataW H → Nat
  | (.string bytes, d) => bytes.length + uptoBulk d + 1
  | (_, d) => uptoBulk d + 1
 end
def uptoSmall : (H : Type) → List (DataW H) → Bool := fun _ ds => decide (uptoBulkAll ds ≤ 1048576)
def OpenSpec.upto (s : _root_.Go.ChangeSpec) : _root_.Go.OpenSpec := { _root_.Go.OpenSpec.ofChange s with cond := some uptoSmall }

/-- 'laws.FnExactEnergyOf', WHERE WHAT IT READS IS OF BULK AT MOST 1048576: true; the input reads as it did. -/
def fnExactEnergyOfUptoRow : OpenClaim := { program := "ytgibdndckoapfab", sum := "e7c77cce6cd7926e4ccf797914ec1c1e329c08d58235c5ee431a0a4e28149864", func := "loop.example/g01177/laws.FnExactEnergyOf", spec := "fnExactEnergyOf", apart := false, narrowed := true }
def FnExactEnergyOfUptoSaid : Prop := fnExactEnergyOfUptoRow.holds Try.pinned (OpenSpec.upto fnExactEnergyOfSpec)

/-- 'laws.FnExactConvolveOf', WHERE WHAT IT READS IS OF BULK AT MOST 1048576: true; the input reads as it did. -/
def fnExactConvolveOfUptoRow : OpenClaim := { program := "ytgibdndckoapfab", sum := "e7c77cce6cd7926e4ccf797914ec1c1e329c08d58235c5ee431a0a4e28149864", func := "loop.example/g01177/laws.FnExactConvolveOf", spec := "fnExactConvolveOf", unfollowed := true, recurses := true, apart := false, narrowed := true }
def FnExactConvolveOfUptoSaid : Prop := fnExactConvolveOfUptoRow.holds Try.pinned (OpenSpec.upto fnExactConvolveOfSpec)

/-- 'laws.FnExactCorrelateOf', WHERE WHAT IT READS IS OF BULK AT MOST 1048576: true; the input reads as it did. -/
def fnExactCorrelateOfUptoRow : OpenClaim := { program := "ytgibdndckoapfab", sum := "e7c77cce6cd7926e4ccf797914ec1c1e329c08d58235c5ee431a0a4e28149864", func := "loop.example/g01177/laws.FnExactCorrelateOf", spec := "fnExactCorrelateOf", unfollowed := true, recurses := true, apart := false, narrowed := true }
def FnExactCorrelateOfUptoSaid : Prop := fnExactCorrelateOfUptoRow.holds Try.pinned (OpenSpec.upto fnExactCorrelateOfSpec)

/-- 'laws.FnExactMoveOf', WHERE WHAT IT READS IS OF BULK AT MOST 1048576: true; the input reads as it did. -/
def fnExactMoveOfUptoRow : OpenClaim := { program := "ytgibdndckoapfab", sum := "e7c77cce6cd7926e4ccf797914ec1c1e329c08d58235c5ee431a0a4e28149864", func := "loop.example/g01177/laws.FnExactMoveOf", spec := "fnExactMoveOf", apart := false, narrowed := true }
def FnExactMoveOfUptoSaid : Prop := fnExactMoveOfUptoRow.holds Try.pinned (OpenSpec.upto fnExactMoveOfSpec)

/-- 'laws.FnExactWaveOf', WHERE WHAT IT READS IS OF BULK AT MOST 1048576: true; the input reads as it did. -/
def fnExactWaveOfUptoRow : OpenClaim := { program := "ytgibdndckoapfab", sum := "e7c77cce6cd7926e4ccf797914ec1c1e329c08d58235c5ee431a0a4e28149864", func := "loop.example/g01177/laws.FnExactWaveOf", spec := "fnExactWaveOf", apart := false, narrowed := true }
def FnExactWaveOfUptoSaid : Prop := fnExactWaveOfUptoRow.holds Try.pinned (OpenSpec.upto fnExactWaveOfSpec)

/-- 'laws.FnExactDeterminantOf', WHERE WHAT IT READS IS OF BULK AT MOST 1048576: true; the input reads as it did. -/
def fnExactDeterminantOfUptoRow : OpenClaim := { program := "ytgibdndckoapfab", sum := "e7c77cce6cd7926e4ccf797914ec1c1e329c08d58235c5ee431a0a4e28149864", func := "loop.example/g01177/laws.FnExactDeterminantOf", spec := "fnExactDeterminantOf", recurses := true, apart := false, narrowed := true }
def FnExactDeterminantOfUptoSaid : Prop := fnExactDeterminantOfUptoRow.holds Try.pinned (OpenSpec.upto fnExactDeterminantOfSpec)

end Rows
end Go.Proofs.Ytgibdndckoapfab
