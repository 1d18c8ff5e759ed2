/-
  No cell of these rows narrows 'for every input' (looked for: loops, veiled, ifaces, maps, wideKeys, modest, calm, conditions, laid).
  DERIVED. THE GIVEN ROWS OF THIS SEAT. 7 by the template 'for every input the law returns true; each argument reads behind the call as it read before'; 0 by the template 'total and deterministic' (their statements: YtcagiecgbjnefaaTotals.lean).
  GIVEN WITH THE SEED: the statements are not yours to turn. If you find one false, say at which input.
  Laid BY PROGRAM, IN A SANDBOX (cutbox-rows.mjs): the forced cells as the released guide's own fill.sh prints them over the translation 32da2b700a3e63b6… (all of the seat's roots in one cut). By AI agents, Wed Nov 11 2026. No macro, syntax, notation, axiom, sorry.
-/
import Derived.Test.YtcagiecgbjnefaaChecked
import GoSem.Claim
import GoSem.ClaimJoined
import GoSem.ClaimMapViews
import Derived.JoinedTies
import Derived.KernelRfl
namespace Go.Proofs.Ytcagiecgbjnefaa
/- THE CELL 'sum', in the pinned program and in every row, IS THE sha256 OF THE DUMP (.gsa) THAT YtcagiecgbjnefaaProg.lean LOADS. Nothing in Lean hashes anything: it is a label: what it is worth is what the hold of that sum in a sandbox is worth. -/
noncomputable def Try.pinned : Pinned := { name := "ytcagiecgbjnefaa", sum := "32da2b700a3e63b6dbe88d92329f0de0caab7761232bd818e6a6faf4f84d0a6c", checked := Try.checked }
namespace Rows
def none {H : Type} : Left H := { results := [], args := [] }

/-- 'laws.FnExactIsMove': WHATEVER THE INPUT: true; the input reads as it did. -/
def fnExactIsMoveSpec : ChangeSpec := { name := "fnExactIsMove", fn := fun _ => fun
  | [d] => { results := [.lit (.bool true)], args := [d] }
  | _ => none }
def fnExactIsMoveRow : OpenClaim := { program := "ytcagiecgbjnefaa", sum := "32da2b700a3e63b6dbe88d92329f0de0caab7761232bd818e6a6faf4f84d0a6c", func := "loop.example/g01177/laws.FnExactIsMove", spec := "fnExactIsMove", apart := false }
def FnExactIsMoveSaid : Prop := fnExactIsMoveRow.holds Try.pinned (OpenSpec.ofChange fnExactIsMoveSpec)

/-- ITS FALSE NEIGHBOUR: 'it returns false'. Refute it at one input. -/
def fnExactIsMoveWrong : ChangeSpec := { name := "fnExactIsMove", fn := fun _ => fun
  | [d] => { results := [.lit (.bool false)], args := [d] }
  | _ => none }
def FnExactIsMoveWrongFalsely : Prop := fnExactIsMoveRow.holds Try.pinned (OpenSpec.ofChange fnExactIsMoveWrong)

/-- 'laws.FnExactApplyMove': WHATEVER THE INPUT: true; the input reads as it did. -/
def fnExactApplyMoveSpec : ChangeSpec := { name := "fnExactApplyMove", fn := fun _ => fun
  | [d1, d2] => { results := [.lit (.bool true)], args := [d1, d2] }
  | _ => none }
def fnExactApplyMoveRow : OpenClaim := { program := "ytcagiecgbjnefaa", sum := "32da2b700a3e63b6dbe88d92329f0de0caab7761232bd818e6a6faf4f84d0a6c", func := "loop.example/g01177/laws.FnExactApplyMove", spec := "fnExactApplyMove", unfollowed := true, recurses := true, apart := false }
def FnExactApplyMoveSaid : Prop := fnExactApplyMoveRow.holds Try.pinned (OpenSpec.ofChange fnExactApplyMoveSpec)

/-- ITS FALSE NEIGHBOUR: 'it returns false'. Refute it at one input. -/
def fnExactApplyMoveWrong : ChangeSpec := { name := "fnExactApplyMove", fn := fun _ => fun
  | [d1, d2] => { results := [.lit (.bool false)], args := [d1, d2] }
  | _ => none }
def FnExactApplyMoveWrongFalsely : Prop := fnExactApplyMoveRow.holds Try.pinned (OpenSpec.ofChange fnExactApplyMoveWrong)

/-- 'laws.FnExactMoveBack': WHATEVER THE INPUT: true; the input reads as it did. -/
def fnExactMoveBackSpec : ChangeSpec := { name := "fnExactMoveBack", fn := fun _ => fun
  | [d1, d2] => { results := [.lit (.bool true)], args := [d1, d2] }
  | _ => none }
def fnExactMoveBackRow : OpenClaim := { program := "ytcagiecgbjnefaa", sum := "32da2b700a3e63b6dbe88d92329f0de0caab7761232bd818e6a6faf4f84d0a6c", func := "loop.example/g01177/laws.FnExactMoveBack", spec := "fnExactMoveBack", unfollowed := true, recurses := true, apart := false }
def FnExactMoveBackSaid : Prop := fnExactMoveBackRow.holds Try.pinned (OpenSpec.ofChange fnExactMoveBackSpec)

/-- ITS FALSE NEIGHBOUR: 'it returns false'. Refute it at one input. -/
def fnExactMoveBackWrong : ChangeSpec := { name := "fnExactMoveBack", fn := fun _ => fun
  | [d1, d2] => { results := [.lit (.bool false)], args := [d1, d2] }
  | _ => none }
def FnExactMoveBackWrongFalsely : Prop := fnExactMoveBackRow.holds Try.pinned (OpenSpec.ofChange fnExactMoveBackWrong)

/-- 'laws.FnExactMoveBetween': WHATEVER THE INPUT: true; the input reads as it did. -/
def fnExactMoveBetweenSpec : ChangeSpec := { name := "fnExactMoveBetween", fn := fun _ => fun
  | [d1, d2] => { results := [.lit (.bool true)], args := [d1, d2] }
  | _ => none }
def fnExactMoveBetweenRow : OpenClaim := { program := "ytcagiecgbjnefaa", sum := "32da2b700a3e63b6dbe88d92329f0de0caab7761232bd818e6a6faf4f84d0a6c", func := "loop.example/g01177/laws.FnExactMoveBetween", spec := "fnExactMoveBetween", apart := false }
def FnExactMoveBetweenSaid : Prop := fnExactMoveBetweenRow.holds Try.pinned (OpenSpec.ofChange fnExactMoveBetweenSpec)

/-- ITS FALSE NEIGHBOUR: 'it returns false'. Refute it at one input. -/
def fnExactMoveBetweenWrong : ChangeSpec := { name := "fnExactMoveBetween", fn := fun _ => fun
  | [d1, d2] => { results := [.lit (.bool false)], args := [d1, d2] }
  | _ => none }
def FnExactMoveBetweenWrongFalsely : Prop := fnExactMoveBetweenRow.holds Try.pinned (OpenSpec.ofChange fnExactMoveBetweenWrong)

/-- 'laws.FnExactKeepersOf': WHATEVER THE INPUT: true; the input reads as it did. -/
def fnExactKeepersOfSpec : ChangeSpec := { name := "fnExactKeepersOf", fn := fun _ => fun
  | [d] => { results := [.lit (.bool true)], args := [d] }
  | _ => none }
def fnExactKeepersOfRow : OpenClaim := { program := "ytcagiecgbjnefaa", sum := "32da2b700a3e63b6dbe88d92329f0de0caab7761232bd818e6a6faf4f84d0a6c", func := "loop.example/g01177/laws.FnExactKeepersOf", spec := "fnExactKeepersOf", apart := false }
def FnExactKeepersOfSaid : Prop := fnExactKeepersOfRow.holds Try.pinned (OpenSpec.ofChange fnExactKeepersOfSpec)

/-- ITS FALSE NEIGHBOUR: 'it returns false'. Refute it at one input. -/
def fnExactKeepersOfWrong : ChangeSpec := { name := "fnExactKeepersOf", fn := fun _ => fun
  | [d] => { results := [.lit (.bool false)], args := [d] }
  | _ => none }
def FnExactKeepersOfWrongFalsely : Prop := fnExactKeepersOfRow.holds Try.pinned (OpenSpec.ofChange fnExactKeepersOfWrong)

/-- 'laws.FnExactCountFixed': WHATEVER THE INPUT: true; the input reads as it did. -/
def fnExactCountFixedSpec : ChangeSpec := { name := "fnExactCountFixed", fn := fun _ => fun
  | [d1, d2] => { results := [.lit (.bool true)], args := [d1, d2] }
  | _ => none }
def fnExactCountFixedRow : OpenClaim := { program := "ytcagiecgbjnefaa", sum := "32da2b700a3e63b6dbe88d92329f0de0caab7761232bd818e6a6faf4f84d0a6c", func := "loop.example/g01177/laws.FnExactCountFixed", spec := "fnExactCountFixed", apart := false }
def FnExactCountFixedSaid : Prop := fnExactCountFixedRow.holds Try.pinned (OpenSpec.ofChange fnExactCountFixedSpec)

/-- ITS FALSE NEIGHBOUR: 'it returns false'. Refute it at one input. -/
def fnExactCountFixedWrong : ChangeSpec := { name := "fnExactCountFixed", fn := fun _ => fun
  | [d1, d2] => { results := [.lit (.bool false)], args := [d1, d2] }
  | _ => none }
def FnExactCountFixedWrongFalsely : Prop := fnExactCountFixedRow.holds Try.pinned (OpenSpec.ofChange fnExactCountFixedWrong)

/-- 'laws.FnExactSizesOf': WHATEVER THE INPUT: true; the input reads as it did. -/
def fnExactSizesOfSpec : ChangeSpec := { name := "fnExactSizesOf", fn := fun _ => fun
  | [d] => { results := [.lit (.bool true)], args := [d] }
  | _ => none }
def fnExactSizesOfRow : OpenClaim := { program := "ytcagiecgbjnefaa", sum := "32da2b700a3e63b6dbe88d92329f0de0caab7761232bd818e6a6faf4f84d0a6c", func := "loop.example/g01177/laws.FnExactSizesOf", spec := "fnExactSizesOf", apart := false }
def FnExactSizesOfSaid : Prop := fnExactSizesOfRow.holds Try.pinned (OpenSpec.ofChange fnExactSizesOfSpec)

/-- ITS FALSE NEIGHBOUR: 'it returns false'. Refute it at one input. -/
def fnExactSizesOfWrong : ChangeSpec := { name := "fnExactSizesOf", fn := fun _ => fun
  | [d] => { results := [.lit (.bool false)], args := [d] }
  | _ => none }
def FnExactSizesOfWrongFalsely : Prop := fnExactSizesOfRow.holds Try.pinned (OpenSpec.ofChange fnExactSizesOfWrong)

/- THE SECOND FORM. 'bulk': how many values and letters a reading holds, each counted each time it is reached (what is shared counts as often as it is met; a slice's spare places count too). A statement '..UptoSaid' is the law's where the arguments, and the package variables that the reading takes, are together of bulk at most 1048576: NARROWER than '..Said'. Prove '..Said' where nothing that the law and all that it calls make is longer than what came in: it says more and counts as full. Else prove '..UptoSaid'. A law counts once. -/
mutual
def uptoBulk {H : Type} : DataW H → Nat
  | .lit (.string bytes) => bytes.length + 1
  | .lit _ => 1
  | .nil => 1
  | .ptr d => uptoBulk d + 1
  | .slice elems spare => uptoBulkAll elems + uptoBulkAll spare + 1
  | .agg parts => uptoBulkAll parts + 1
  | .iface _ d => uptoBulk d + 1
  | .map entries => uptoBulkEntries entries + 1
  | .held _ => 1
def uptoBulkAll {H : Type} : List (DataW H) → Nat
  | [] => 0
  | d :: r => uptoBulk d + uptoBulkAll r
def uptoBulkEntries {H : Type} : List (Lit × DataW H) → Nat
  | [] => 0
  | x :: r => uptoBulkEntry x + uptoBulkEntries r
def uptoBulkEntry {H : Type} : Lit × DataW H → Nat
  | (.string bytes, d) => bytes.length + uptoBulk d + 1
  | (_, d) => uptoBulk d + 1
 end
def uptoSmall : (H : Type) → List (DataW H) → Bool := fun _ ds => decide (uptoBulkAll ds ≤ 1048576)
def OpenSpec.upto (s : _root_.Go.ChangeSpec) : _root_.Go.OpenSpec := { _root_.Go.OpenSpec.ofChange s with cond := some uptoSmall }

/-- 'laws.FnExactIsMove', WHERE WHAT IT READS IS OF BULK AT MOST 1048576: true; the input reads as it did. -/
def fnExactIsMoveUptoRow : OpenClaim := { program := "ytcagiecgbjnefaa", sum := "32da2b700a3e63b6dbe88d92329f0de0caab7761232bd818e6a6faf4f84d0a6c", func := "loop.example/g01177/laws.FnExactIsMove", spec := "fnExactIsMove", apart := false, narrowed := true }
def FnExactIsMoveUptoSaid : Prop := fnExactIsMoveUptoRow.holds Try.pinned (OpenSpec.upto fnExactIsMoveSpec)

/-- 'laws.FnExactApplyMove', WHERE WHAT IT READS IS OF BULK AT MOST 1048576: true; the input reads as it did. -/
def fnExactApplyMoveUptoRow : OpenClaim := { program := "ytcagiecgbjnefaa", sum := "32da2b700a3e63b6dbe88d92329f0de0caab7761232bd818e6a6faf4f84d0a6c", func := "loop.example/g01177/laws.FnExactApplyMove", spec := "fnExactApplyMove", unfollowed := true, recurses := true, apart := false, narrowed := true }
def FnExactApplyMoveUptoSaid : Prop := fnExactApplyMoveUptoRow.holds Try.pinned (OpenSpec.upto fnExactApplyMoveSpec)

/-- 'laws.FnExactMoveBack', WHERE WHAT IT READS IS OF BULK AT MOST 1048576: true; the input reads as it did. -/
def fnExactMoveBackUptoRow : OpenClaim := { program := "ytcagiecgbjnefaa", sum := "32da2b700a3e63b6dbe88d92329f0de0caab7761232bd818e6a6faf4f84d0a6c", func := "loop.example/g01177/laws.FnExactMoveBack", spec := "fnExactMoveBack", unfollowed := true, recurses := true, apart := false, narrowed := true }
def FnExactMoveBackUptoSaid : Prop := fnExactMoveBackUptoRow.holds Try.pinned (OpenSpec.upto fnExactMoveBackSpec)

/-- 'laws.FnExactMoveBetween', WHERE WHAT IT READS IS OF BULK AT MOST 1048576: true; the input reads as it did. -/
def fnExactMoveBetweenUptoRow : OpenClaim := { program := "ytcagiecgbjnefaa", sum := "32da2b700a3e63b6dbe88d92329f0de0caab7761232bd818e6a6faf4f84d0a6c", func := "loop.example/g01177/laws.FnExactMoveBetween", spec := "fnExactMoveBetween", apart := false, narrowed := true }
def FnExactMoveBetweenUptoSaid : Prop := fnExactMoveBetweenUptoRow.holds Try.pinned (OpenSpec.upto fnExactMoveBetweenSpec)

/-- 'laws.FnExactKeepersOf', WHERE WHAT IT READS IS OF BULK AT MOST 1048576: true; the input reads as it did. -/
def fnExactKeepersOfUptoRow : OpenClaim := { program := "ytcagiecgbjnefaa", sum := "32da2b700a3e63b6dbe88d92329f0de0caab7761232bd818e6a6faf4f84d0a6c", func := "loop.example/g01177/laws.FnExactKeepersOf", spec := "fnExactKeepersOf", apart := false, narrowed := true }
def FnExactKeepersOfUptoSaid : Prop := fnExactKeepersOfUptoRow.holds Try.pinned (OpenSpec.upto fnExactKeepersOfSpec)

/-- 'laws.FnExactCountFixed', WHERE WHAT IT READS IS OF BULK AT MOST 1048576: true; the input reads as it did. -/
def fnExactCountFixedUptoRow : OpenClaim := { program := "ytcagiecgbjnefaa", sum := "32da2b700a3e63b6dbe88d92329f0de0caab7761232bd818e6a6faf4f84d0a6c", func := "loop.example/g01177/laws.FnExactCountFixed", spec := "fnExactCountFixed", apart := false, narrowed := true }
def FnExactCountFixedUptoSaid : Prop := fnExactCountFixedUptoRow.holds Try.pinned (OpenSpec.upto fnExactCountFixedSpec)

/-- 'laws.FnExactSizesOf', WHERE WHAT IT READS IS OF BULK AT MOST 1048576: true; the input reads as it did. -/
def fnExactSizesOfUptoRow : OpenClaim := { program := "ytcagiecgbjnefaa", sum := "32da2b700a3e63b6dbe88d92329f0de0caab7761232bd818e6a6faf4f84d0a6c", func := "loop.example/g01177/laws.FnExactSizesOf", spec := "fnExactSizesOf", apart := false, narrowed := true }
def FnExactSizesOfUptoSaid : Prop := fnExactSizesOfUptoRow.holds Try.pinned (OpenSpec.upto fnExactSizesOfSpec)

end Rows
end Go.Proofs.Ytcagiecgbjnefaa
