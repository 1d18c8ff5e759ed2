/-
  No cell of these rows narrows 'for every input' (looked for: loops, veiled, ifaces, maps, wideKeys, modest, calm, conditions, laid).
  DERIVED. THE GIVEN ROWS OF THIS SEAT. 7 by the template 'for every input the law returns true; each argument reads behind the call as it read before'; 0 by the template 'total and deterministic' (their statements: YtjoepdflbbcliaaTotals.lean).
  GIVEN WITH THE SEED: the statements are not yours to turn. If you find one false, say at which input.
  Laid BY PROGRAM, IN A SANDBOX (cutbox-rows.mjs): the forced cells as the released guide's own fill.sh prints them over the translation 86ad9a1d5c637d94… (all of the seat's roots in one cut). By AI agents, Wed Nov 11 2026. No macro, syntax, notation, axiom, sorry.
-/
import Derived.Test.YtjoepdflbbcliaaChecked
import GoSem.Claim
import GoSem.ClaimJoined
import GoSem.ClaimMapViews
import Derived.JoinedTies
import Derived.KernelRfl
namespace Go.Proofs.Ytjoepdflbbcliaa
/- THE CELL 'sum', in the pinned program and in every row, IS THE sha256 OF THE DUMP (.gsa) THAT YtjoepdflbbcliaaProg.lean LOADS. Nothing in Lean hashes anything: it is a label: what it is worth is what the hold of that sum in a sandbox is worth. -/
noncomputable def Try.pinned : Pinned := { name := "ytjoepdflbbcliaa", sum := "86ad9a1d5c637d94b033a831dad69ab7c1b7556d34adb3d3aa3edac5f6f7a105", checked := Try.checked }
namespace Rows
def none {H : Type} : Left H := { results := [], args := [] }

/-- 'laws.FnExactIsPerfect': WHATEVER THE INPUT: true; the input reads as it did. -/
def fnExactIsPerfectSpec : ChangeSpec := { name := "fnExactIsPerfect", fn := fun _ => fun
  | [d] => { results := [.lit (.bool true)], args := [d] }
  | _ => none }
def fnExactIsPerfectRow : OpenClaim := { program := "ytjoepdflbbcliaa", sum := "86ad9a1d5c637d94b033a831dad69ab7c1b7556d34adb3d3aa3edac5f6f7a105", func := "loop.example/g01177/laws.FnExactIsPerfect", spec := "fnExactIsPerfect", apart := false }
def FnExactIsPerfectSaid : Prop := fnExactIsPerfectRow.holds Try.pinned (OpenSpec.ofChange fnExactIsPerfectSpec)

/-- ITS FALSE NEIGHBOUR: 'it returns false'. Refute it at one input. -/
def fnExactIsPerfectWrong : ChangeSpec := { name := "fnExactIsPerfect", fn := fun _ => fun
  | [d] => { results := [.lit (.bool false)], args := [d] }
  | _ => none }
def FnExactIsPerfectWrongFalsely : Prop := fnExactIsPerfectRow.holds Try.pinned (OpenSpec.ofChange fnExactIsPerfectWrong)

/-- 'laws.FnExactCountPerfect': WHATEVER THE INPUT: true; the input reads as it did. -/
def fnExactCountPerfectSpec : ChangeSpec := { name := "fnExactCountPerfect", fn := fun _ => fun
  | [d] => { results := [.lit (.bool true)], args := [d] }
  | _ => none }
def fnExactCountPerfectRow : OpenClaim := { program := "ytjoepdflbbcliaa", sum := "86ad9a1d5c637d94b033a831dad69ab7c1b7556d34adb3d3aa3edac5f6f7a105", func := "loop.example/g01177/laws.FnExactCountPerfect", spec := "fnExactCountPerfect", unfollowed := true, recurses := true, apart := false }
def FnExactCountPerfectSaid : Prop := fnExactCountPerfectRow.holds Try.pinned (OpenSpec.ofChange fnExactCountPerfectSpec)

/-- ITS FALSE NEIGHBOUR: 'it returns false'. Refute it at one input. -/
def fnExactCountPerfectWrong : ChangeSpec := { name := "fnExactCountPerfect", fn := fun _ => fun
  | [d] => { results := [.lit (.bool false)], args := [d] }
  | _ => none }
def FnExactCountPerfectWrongFalsely : Prop := fnExactCountPerfectRow.holds Try.pinned (OpenSpec.ofChange fnExactCountPerfectWrong)

/-- 'laws.FnExactAllPerfect': WHATEVER THE INPUT: true; the input reads as it did. -/
def fnExactAllPerfectSpec : ChangeSpec := { name := "fnExactAllPerfect", fn := fun _ => fun
  | [d] => { results := [.lit (.bool true)], args := [d] }
  | _ => none }
def fnExactAllPerfectRow : OpenClaim := { program := "ytjoepdflbbcliaa", sum := "86ad9a1d5c637d94b033a831dad69ab7c1b7556d34adb3d3aa3edac5f6f7a105", func := "loop.example/g01177/laws.FnExactAllPerfect", spec := "fnExactAllPerfect", unfollowed := true, recurses := true, apart := false }
def FnExactAllPerfectSaid : Prop := fnExactAllPerfectRow.holds Try.pinned (OpenSpec.ofChange fnExactAllPerfectSpec)

/-- ITS FALSE NEIGHBOUR: 'it returns false'. Refute it at one input. -/
def fnExactAllPerfectWrong : ChangeSpec := { name := "fnExactAllPerfect", fn := fun _ => fun
  | [d] => { results := [.lit (.bool false)], args := [d] }
  | _ => none }
def FnExactAllPerfectWrongFalsely : Prop := fnExactAllPerfectRow.holds Try.pinned (OpenSpec.ofChange fnExactAllPerfectWrong)

/-- 'laws.FnExactFirstPerfect': WHATEVER THE INPUT: true; the input reads as it did. -/
def fnExactFirstPerfectSpec : ChangeSpec := { name := "fnExactFirstPerfect", fn := fun _ => fun
  | [d] => { results := [.lit (.bool true)], args := [d] }
  | _ => none }
def fnExactFirstPerfectRow : OpenClaim := { program := "ytjoepdflbbcliaa", sum := "86ad9a1d5c637d94b033a831dad69ab7c1b7556d34adb3d3aa3edac5f6f7a105", func := "loop.example/g01177/laws.FnExactFirstPerfect", spec := "fnExactFirstPerfect", unfollowed := true, recurses := true, apart := false }
def FnExactFirstPerfectSaid : Prop := fnExactFirstPerfectRow.holds Try.pinned (OpenSpec.ofChange fnExactFirstPerfectSpec)

/-- ITS FALSE NEIGHBOUR: 'it returns false'. Refute it at one input. -/
def fnExactFirstPerfectWrong : ChangeSpec := { name := "fnExactFirstPerfect", fn := fun _ => fun
  | [d] => { results := [.lit (.bool false)], args := [d] }
  | _ => none }
def FnExactFirstPerfectWrongFalsely : Prop := fnExactFirstPerfectRow.holds Try.pinned (OpenSpec.ofChange fnExactFirstPerfectWrong)

/-- 'laws.FnExactFrankOf': WHATEVER THE INPUT: true; the input reads as it did. -/
def fnExactFrankOfSpec : ChangeSpec := { name := "fnExactFrankOf", fn := fun _ => fun
  | [d1, d2] => { results := [.lit (.bool true)], args := [d1, d2] }
  | _ => none }
def fnExactFrankOfRow : OpenClaim := { program := "ytjoepdflbbcliaa", sum := "86ad9a1d5c637d94b033a831dad69ab7c1b7556d34adb3d3aa3edac5f6f7a105", func := "loop.example/g01177/laws.FnExactFrankOf", spec := "fnExactFrankOf", apart := false }
def FnExactFrankOfSaid : Prop := fnExactFrankOfRow.holds Try.pinned (OpenSpec.ofChange fnExactFrankOfSpec)

/-- ITS FALSE NEIGHBOUR: 'it returns false'. Refute it at one input. -/
def fnExactFrankOfWrong : ChangeSpec := { name := "fnExactFrankOf", fn := fun _ => fun
  | [d1, d2] => { results := [.lit (.bool false)], args := [d1, d2] }
  | _ => none }
def FnExactFrankOfWrongFalsely : Prop := fnExactFrankOfRow.holds Try.pinned (OpenSpec.ofChange fnExactFrankOfWrong)

/-- 'laws.FnExactFoldOf': WHATEVER THE INPUT: true; the input reads as it did. -/
def fnExactFoldOfSpec : ChangeSpec := { name := "fnExactFoldOf", fn := fun _ => fun
  | [d1, d2] => { results := [.lit (.bool true)], args := [d1, d2] }
  | _ => none }
def fnExactFoldOfRow : OpenClaim := { program := "ytjoepdflbbcliaa", sum := "86ad9a1d5c637d94b033a831dad69ab7c1b7556d34adb3d3aa3edac5f6f7a105", func := "loop.example/g01177/laws.FnExactFoldOf", spec := "fnExactFoldOf", apart := false }
def FnExactFoldOfSaid : Prop := fnExactFoldOfRow.holds Try.pinned (OpenSpec.ofChange fnExactFoldOfSpec)

/-- ITS FALSE NEIGHBOUR: 'it returns false'. Refute it at one input. -/
def fnExactFoldOfWrong : ChangeSpec := { name := "fnExactFoldOf", fn := fun _ => fun
  | [d1, d2] => { results := [.lit (.bool false)], args := [d1, d2] }
  | _ => none }
def FnExactFoldOfWrongFalsely : Prop := fnExactFoldOfRow.holds Try.pinned (OpenSpec.ofChange fnExactFoldOfWrong)

/-- 'laws.FnExactUnfoldOf': WHATEVER THE INPUT: true; the input reads as it did. -/
def fnExactUnfoldOfSpec : ChangeSpec := { name := "fnExactUnfoldOf", fn := fun _ => fun
  | [d] => { results := [.lit (.bool true)], args := [d] }
  | _ => none }
def fnExactUnfoldOfRow : OpenClaim := { program := "ytjoepdflbbcliaa", sum := "86ad9a1d5c637d94b033a831dad69ab7c1b7556d34adb3d3aa3edac5f6f7a105", func := "loop.example/g01177/laws.FnExactUnfoldOf", spec := "fnExactUnfoldOf", apart := false }
def FnExactUnfoldOfSaid : Prop := fnExactUnfoldOfRow.holds Try.pinned (OpenSpec.ofChange fnExactUnfoldOfSpec)

/-- ITS FALSE NEIGHBOUR: 'it returns false'. Refute it at one input. -/
def fnExactUnfoldOfWrong : ChangeSpec := { name := "fnExactUnfoldOf", fn := fun _ => fun
  | [d] => { results := [.lit (.bool false)], args := [d] }
  | _ => none }
def FnExactUnfoldOfWrongFalsely : Prop := fnExactUnfoldOfRow.holds Try.pinned (OpenSpec.ofChange fnExactUnfoldOfWrong)

/- THE SECOND FORM. 'bulk': how many values and letters a reading holds, each counted each time it is reached (what is shared counts as often as it is met; a slice's spare places count too). A statement '..UptoSaid' is the law's where the arguments, and the package variables that the reading takes, are together of bulk at most 1048576: NARROWER than '..Said'. Prove '..Said' where nothing that the law and all that it calls make is longer than what came in: it says more and counts as full. Else prove '..UptoSaid'. A law counts once. -/
mutual
def uptoBulk {H : Type} : DataW H → Nat
  | .lit (.string bytes) => bytes.length + 1
  | .lit _ => 1
  | .nil => 1
  | .ptr d => uptoBulk d + 1
  | .slice elems spare => uptoBulkAll elems + uptoBulkAll spare + 1
  | .agg parts => uptoBulkAll parts + 1
  | .iface _ d => uptoBulk d + 1
  | .map entries => uptoBulkEntries entries + 1
  | .held _ => 1
def uptoBulkAll {H : Type} : List (DataW H) → Nat
  | [] => 0
  | d :: r => uptoBulk d + uptoBulkAll r
def uptoBulkEntries {H : Type} : List (Lit × DataW H) → Nat
  | [] => 0
  | x :: r => uptoBulkEntry x + uptoBulkEntries r
def uptoBulkEntry {H : Type} : Lit × DataW H → Nat
  | (.string bytes, d) => bytes.length + uptoBulk d + 1
  | (_, d) => uptoBulk d + 1
 end
def uptoSmall : (H : Type) → List (DataW H) → Bool := fun _ ds => decide (uptoBulkAll ds ≤ 1048576)
def OpenSpec.upto (s : _root_.Go.ChangeSpec) : _root_.Go.OpenSpec := { _root_.Go.OpenSpec.ofChange s with cond := some uptoSmall }

/-- 'laws.FnExactIsPerfect', WHERE WHAT IT READS IS OF BULK AT MOST 1048576: true; the input reads as it did. -/
def fnExactIsPerfectUptoRow : OpenClaim := { program := "ytjoepdflbbcliaa", sum := "86ad9a1d5c637d94b033a831dad69ab7c1b7556d34adb3d3aa3edac5f6f7a105", func := "loop.example/g01177/laws.FnExactIsPerfect", spec := "fnExactIsPerfect", apart := false, narrowed := true }
def FnExactIsPerfectUptoSaid : Prop := fnExactIsPerfectUptoRow.holds Try.pinned (OpenSpec.upto fnExactIsPerfectSpec)

/-- 'laws.FnExactCountPerfect', WHERE WHAT IT READS IS OF BULK AT MOST 1048576: true; the input reads as it did. -/
def fnExactCountPerfectUptoRow : OpenClaim := { program := "ytjoepdflbbcliaa", sum := "86ad9a1d5c637d94b033a831dad69ab7c1b7556d34adb3d3aa3edac5f6f7a105", func := "loop.example/g01177/laws.FnExactCountPerfect", spec := "fnExactCountPerfect", unfollowed := true, recurses := true, apart := false, narrowed := true }
def FnExactCountPerfectUptoSaid : Prop := fnExactCountPerfectUptoRow.holds Try.pinned (OpenSpec.upto fnExactCountPerfectSpec)

/-- 'laws.FnExactAllPerfect', WHERE WHAT IT READS IS OF BULK AT MOST 1048576: true; the input reads as it did. -/
def fnExactAllPerfectUptoRow : OpenClaim := { program := "ytjoepdflbbcliaa", sum := "86ad9a1d5c637d94b033a831dad69ab7c1b7556d34adb3d3aa3edac5f6f7a105", func := "loop.example/g01177/laws.FnExactAllPerfect", spec := "fnExactAllPerfect", unfollowed := true, recurses := true, apart := false, narrowed := true }
def FnExactAllPerfectUptoSaid : Prop := fnExactAllPerfectUptoRow.holds Try.pinned (OpenSpec.upto fnExactAllPerfectSpec)

/-- 'laws.FnExactFirstPerfect', WHERE WHAT IT READS IS OF BULK AT MOST 1048576: true; the input reads as it did. -/
def fnExactFirstPerfectUptoRow : OpenClaim := { program := "ytjoepdflbbcliaa", sum := "86ad9a1d5c637d94b033a831dad69ab7c1b7556d34adb3d3aa3edac5f6f7a105", func := "loop.example/g01177/laws.FnExactFirstPerfect", spec := "fnExactFirstPerfect", unfollowed := true, recurses := true, apart := false, narrowed := true }
def FnExactFirstPerfectUptoSaid : Prop := fnExactFirstPerfectUptoRow.holds Try.pinned (OpenSpec.upto fnExactFirstPerfectSpec)

/-- 'laws.FnExactFrankOf', WHERE WHAT IT READS IS OF BULK AT MOST 1048576: true; the input reads as it did. -/
def fnExactFrankOfUptoRow : OpenClaim := { program := "ytjoepdflbbcliaa", sum := "86ad9a1d5c637d94b033a831dad69ab7c1b7556d34adb3d3aa3edac5f6f7a105", func := "loop.example/g01177/laws.FnExactFrankOf", spec := "fnExactFrankOf", apart := false, narrowed := true }
def FnExactFrankOfUptoSaid : Prop := fnExactFrankOfUptoRow.holds Try.pinned (OpenSpec.upto fnExactFrankOfSpec)

/-- 'laws.FnExactFoldOf', WHERE WHAT IT READS IS OF BULK AT MOST 1048576: true; the input reads as it did. -/
def fnExactFoldOfUptoRow : OpenClaim := { program := "ytjoepdflbbcliaa", sum := "86ad9a1d5c637d94b033a831dad69ab7c1b7556d34adb3d3aa3edac5f6f7a105", func := "loop.example/g01177/laws.FnExactFoldOf", spec := "fnExactFoldOf", apart := false, narrowed := true }
def FnExactFoldOfUptoSaid : Prop := fnExactFoldOfUptoRow.holds Try.pinned (OpenSpec.upto fnExactFoldOfSpec)

/-- 'laws.FnExactUnfoldOf', WHERE WHAT IT READS IS OF BULK AT MOST 1048576: true; the input reads as it did. -/
def fnExactUnfoldOfUptoRow : OpenClaim := { program := "ytjoepdflbbcliaa", sum := "86ad9a1d5c637d94b033a831dad69ab7c1b7556d34adb3d3aa3edac5f6f7a105", func := "loop.example/g01177/laws.FnExactUnfoldOf", spec := "fnExactUnfoldOf", apart := false, narrowed := true }
def FnExactUnfoldOfUptoSaid : Prop := fnExactUnfoldOfUptoRow.holds Try.pinned (OpenSpec.upto fnExactUnfoldOfSpec)

end Rows
end Go.Proofs.Ytjoepdflbbcliaa
