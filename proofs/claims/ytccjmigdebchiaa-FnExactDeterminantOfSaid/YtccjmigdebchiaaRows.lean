/-
  No cell of these rows narrows 'for every input' (looked for: loops, veiled, ifaces, maps, wideKeys, modest, calm, conditions, laid).
  DERIVED. THE GIVEN ROWS OF THIS SEAT. 3 by the template 'for every input the law returns true; each argument reads behind the call as it read before'; 0 by the template 'total and deterministic' (their statements: YtccjmigdebchiaaTotals.lean).
  GIVEN WITH THE SEED: the statements are not yours to turn. If you find one false, say at which input.
  Laid BY PROGRAM, IN A SANDBOX (cutbox-rows.mjs): the forced cells as the released guide's own fill.sh prints them over the translation 3cfc66a7a46803b1… (all of the seat's roots in one cut). By AI agents, Wed Nov 11 2026. No macro, syntax, notation, axiom, sorry.
-/
import Derived.Test.YtccjmigdebchiaaChecked
import GoSem.Claim
import GoSem.ClaimJoined
import GoSem.ClaimMapViews
import Derived.JoinedTies
import Derived.KernelRfl
namespace Go.Proofs.Ytccjmigdebchiaa
/- THE CELL 'sum', in the pinned program and in every row, IS THE sha256 OF THE DUMP (.gsa) THAT YtccjmigdebchiaaProg.lean LOADS. Nothing in Lean hashes anything: it is a label: what it is worth is what the hold of that sum in a sandbox is worth. -/
noncomputable def Try.pinned : Pinned := { name := "ytccjmigdebchiaa", sum := "3cfc66a7a46803b1b85350d5d2384867899552c4e51557a964a5cba611dfad50", checked := Try.checked }
namespace Rows
def none {H : Type} : Left H := { results := [], args := [] }

/-- 'laws.FnExactDeterminantOf': WHATEVER THE INPUT: true; the input reads as it did. -/
def fnExactDeterminantOfSpec : ChangeSpec := { name := "fnExactDeterminantOf", fn := fun _ => fun
  | [d] => { results := [.lit (.bool true)], args := [d] }
  | _ => none }
def fnExactDeterminantOfRow : OpenClaim := { program := "ytccjmigdebchiaa", sum := "3cfc66a7a46803b1b85350d5d2384867899552c4e51557a964a5cba611dfad50", func := "loop.example/g01177/laws.FnExactDeterminantOf", spec := "fnExactDeterminantOf", recurses := true, apart := false }
def FnExactDeterminantOfSaid : Prop := fnExactDeterminantOfRow.holds Try.pinned (OpenSpec.ofChange fnExactDeterminantOfSpec)

/-- ITS FALSE NEIGHBOUR: 'it returns false'. Refute it at one input. -/
def fnExactDeterminantOfWrong : ChangeSpec := { name := "fnExactDeterminantOf", fn := fun _ => fun
  | [d] => { results := [.lit (.bool false)], args := [d] }
  | _ => none }
def FnExactDeterminantOfWrongFalsely : Prop := fnExactDeterminantOfRow.holds Try.pinned (OpenSpec.ofChange fnExactDeterminantOfWrong)

/-- 'laws.FnExactTransformBack': WHATEVER THE INPUT: true; the input reads as it did. -/
def fnExactTransformBackSpec : ChangeSpec := { name := "fnExactTransformBack", fn := fun _ => fun
  | [d] => { results := [.lit (.bool true)], args := [d] }
  | _ => none }
def fnExactTransformBackRow : OpenClaim := { program := "ytccjmigdebchiaa", sum := "3cfc66a7a46803b1b85350d5d2384867899552c4e51557a964a5cba611dfad50", func := "loop.example/g01177/laws.FnExactTransformBack", spec := "fnExactTransformBack", apart := false }
def FnExactTransformBackSaid : Prop := fnExactTransformBackRow.holds Try.pinned (OpenSpec.ofChange fnExactTransformBackSpec)

/-- ITS FALSE NEIGHBOUR: 'it returns false'. Refute it at one input. -/
def fnExactTransformBackWrong : ChangeSpec := { name := "fnExactTransformBack", fn := fun _ => fun
  | [d] => { results := [.lit (.bool false)], args := [d] }
  | _ => none }
def FnExactTransformBackWrongFalsely : Prop := fnExactTransformBackRow.holds Try.pinned (OpenSpec.ofChange fnExactTransformBackWrong)

/-- 'laws.FnExactWalshBack': WHATEVER THE INPUT: true; the input reads as it did. -/
def fnExactWalshBackSpec : ChangeSpec := { name := "fnExactWalshBack", fn := fun _ => fun
  | [d] => { results := [.lit (.bool true)], args := [d] }
  | _ => none }
def fnExactWalshBackRow : OpenClaim := { program := "ytccjmigdebchiaa", sum := "3cfc66a7a46803b1b85350d5d2384867899552c4e51557a964a5cba611dfad50", func := "loop.example/g01177/laws.FnExactWalshBack", spec := "fnExactWalshBack", apart := false }
def FnExactWalshBackSaid : Prop := fnExactWalshBackRow.holds Try.pinned (OpenSpec.ofChange fnExactWalshBackSpec)

/-- ITS FALSE NEIGHBOUR: 'it returns false'. Refute it at one input. -/
def fnExactWalshBackWrong : ChangeSpec := { name := "fnExactWalshBack", fn := fun _ => fun
  | [d] => { results := [.lit (.bool false)], args := [d] }
  | _ => none }
def FnExactWalshBackWrongFalsely : Prop := fnExactWalshBackRow.holds Try.pinned (OpenSpec.ofChange fnExactWalshBackWrong)

/- THE SECOND FORM. 'bulk': how many values and letters a reading holds, each counted each time it is reached (what is shared counts as often as it is met; a slice's spare places count too). A statement '..UptoSaid' is the law's where the arguments, and the package variables that the reading takes, are together of bulk at most 1048576: NARROWER than '..Said'. Prove '..Said' where nothing that the law and all that it calls make is longer than what came in: it says more and counts as full. Else prove '..UptoSaid'. A law counts once. -/
mutual
def uptoBulk {H : Type} : DataW H → Nat
  | .lit (.string bytes) => bytes.length + 1
  | .lit _ => 1
  | .nil => 1
  | .ptr d => uptoBulk d + 1
  | .slice elems spare => uptoBulkAll elems + uptoBulkAll spare + 1
  | .agg parts => uptoBulkAll parts + 1
  | .iface _ d => uptoBulk d + 1
  | .map entries => uptoBulkEntries entries + 1
  | .held _ => 1
def uptoBulkAll {H : Type} : List (DataW H) → Nat
  | [] => 0
  | d :: r => uptoBulk d + uptoBulkAll r
def uptoBulkEntries {H : Type} : List (Lit × DataW H) → Nat
  | [] => 0
  | x :: r => uptoBulkEntry x + uptoBulkEntries r
def uptoBulkEntry {H : Type} : Lit × DataW H → Nat
  | (.string bytes, d) => bytes.length + uptoBulk d + 1
  | (_, d) => uptoBulk d + 1
 end
def uptoSmall : (H : Type) → List (DataW H) → Bool := fun _ ds => decide (uptoBulkAll ds ≤ 1048576)
def OpenSpec.upto (s : _root_.Go.ChangeSpec) : _root_.Go.OpenSpec := { _root_.Go.OpenSpec.ofChange s with cond := some uptoSmall }

/-- 'laws.FnExactDeterminantOf', WHERE WHAT IT READS IS OF BULK AT MOST 1048576: true; the input reads as it did. -/
def fnExactDeterminantOfUptoRow : OpenClaim := { program := "ytccjmigdebchiaa", sum := "3cfc66a7a46803b1b85350d5d2384867899552c4e51557a964a5cba611dfad50", func := "loop.example/g01177/laws.FnExactDeterminantOf", spec := "fnExactDeterminantOf", recurses := true, apart := false, narrowed := true }
def FnExactDeterminantOfUptoSaid : Prop := fnExactDeterminantOfUptoRow.holds Try.pinned (OpenSpec.upto fnExactDeterminantOfSpec)

/-- 'laws.FnExactTransformBack', WHERE WHAT IT READS IS OF BULK AT MOST 1048576: true; the input reads as it did. -/
def fnExactTransformBackUptoRow : OpenClaim := { program := "ytccjmigdebchiaa", sum := "3cfc66a7a46803b1b85350d5d2384867899552c4e51557a964a5cba611dfad50", func := "loop.example/g01177/laws.FnExactTransformBack", spec := "fnExactTransformBack", apart := false, narrowed := true }
def FnExactTransformBackUptoSaid : Prop := fnExactTransformBackUptoRow.holds Try.pinned (OpenSpec.upto fnExactTransformBackSpec)

/-- 'laws.FnExactWalshBack', WHERE WHAT IT READS IS OF BULK AT MOST 1048576: true; the input reads as it did. -/
def fnExactWalshBackUptoRow : OpenClaim := { program := "ytccjmigdebchiaa", sum := "3cfc66a7a46803b1b85350d5d2384867899552c4e51557a964a5cba611dfad50", func := "loop.example/g01177/laws.FnExactWalshBack", spec := "fnExactWalshBack", apart := false, narrowed := true }
def FnExactWalshBackUptoSaid : Prop := fnExactWalshBackUptoRow.holds Try.pinned (OpenSpec.upto fnExactWalshBackSpec)

end Rows
end Go.Proofs.Ytccjmigdebchiaa
