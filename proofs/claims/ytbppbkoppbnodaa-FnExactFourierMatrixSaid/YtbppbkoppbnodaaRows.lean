/-
  No cell of these rows narrows 'for every input' (looked for: loops, veiled, ifaces, maps, wideKeys, modest, calm, conditions, laid).
  DERIVED. THE GIVEN ROWS OF THIS SEAT. 8 by the template 'for every input the law returns true; each argument reads behind the call as it read before'; 0 by the template 'total and deterministic' (their statements: YtbppbkoppbnodaaTotals.lean).
  GIVEN WITH THE SEED: the statements are not yours to turn. If you find one false, say at which input.
  Laid BY PROGRAM, IN A SANDBOX (cutbox-rows.mjs): the forced cells as the released guide's own fill.sh prints them over the translation 5852594f0aa40cf6… (all of the seat's roots in one cut). By AI agents, Wed Nov 11 2026. No macro, syntax, notation, axiom, sorry.
-/
import Derived.Test.YtbppbkoppbnodaaChecked
import GoSem.Claim
import GoSem.ClaimJoined
import GoSem.ClaimMapViews
import Derived.JoinedTies
import Derived.KernelRfl
namespace Go.Proofs.Ytbppbkoppbnodaa
/- THE CELL 'sum', in the pinned program and in every row, IS THE sha256 OF THE DUMP (.gsa) THAT YtbppbkoppbnodaaProg.lean LOADS. Nothing in Lean hashes anything: it is a label: what it is worth is what the hold of that sum in a sandbox is worth. -/
noncomputable def Try.pinned : Pinned := { name := "ytbppbkoppbnodaa", sum := "5852594f0aa40cf6c862023c0b0e6b8bdeb738dec9da7e0622cc530e306aec4a", checked := Try.checked }
namespace Rows
def none {H : Type} : Left H := { results := [], args := [] }

/-- 'laws.FnExactFourierMatrix': WHATEVER THE INPUT: true; the input reads as it did. -/
def fnExactFourierMatrixSpec : ChangeSpec := { name := "fnExactFourierMatrix", fn := fun _ => fun
  | [d] => { results := [.lit (.bool true)], args := [d] }
  | _ => none }
def fnExactFourierMatrixRow : OpenClaim := { program := "ytbppbkoppbnodaa", sum := "5852594f0aa40cf6c862023c0b0e6b8bdeb738dec9da7e0622cc530e306aec4a", func := "loop.example/g01177/laws.FnExactFourierMatrix", spec := "fnExactFourierMatrix", apart := false }
def FnExactFourierMatrixSaid : Prop := fnExactFourierMatrixRow.holds Try.pinned (OpenSpec.ofChange fnExactFourierMatrixSpec)

/-- ITS FALSE NEIGHBOUR: 'it returns false'. Refute it at one input. -/
def fnExactFourierMatrixWrong : ChangeSpec := { name := "fnExactFourierMatrix", fn := fun _ => fun
  | [d] => { results := [.lit (.bool false)], args := [d] }
  | _ => none }
def FnExactFourierMatrixWrongFalsely : Prop := fnExactFourierMatrixRow.holds Try.pinned (OpenSpec.ofChange fnExactFourierMatrixWrong)

/-- 'laws.FnExactKroneckerOf': WHATEVER THE INPUT: true; the input reads as it did. -/
def fnExactKroneckerOfSpec : ChangeSpec := { name := "fnExactKroneckerOf", fn := fun _ => fun
  | [d1, d2] => { results := [.lit (.bool true)], args := [d1, d2] }
  | _ => none }
def fnExactKroneckerOfRow : OpenClaim := { program := "ytbppbkoppbnodaa", sum := "5852594f0aa40cf6c862023c0b0e6b8bdeb738dec9da7e0622cc530e306aec4a", func := "loop.example/g01177/laws.FnExactKroneckerOf", spec := "fnExactKroneckerOf", apart := false }
def FnExactKroneckerOfSaid : Prop := fnExactKroneckerOfRow.holds Try.pinned (OpenSpec.ofChange fnExactKroneckerOfSpec)

/-- ITS FALSE NEIGHBOUR: 'it returns false'. Refute it at one input. -/
def fnExactKroneckerOfWrong : ChangeSpec := { name := "fnExactKroneckerOf", fn := fun _ => fun
  | [d1, d2] => { results := [.lit (.bool false)], args := [d1, d2] }
  | _ => none }
def FnExactKroneckerOfWrongFalsely : Prop := fnExactKroneckerOfRow.holds Try.pinned (OpenSpec.ofChange fnExactKroneckerOfWrong)

/-- 'laws.FnExactTurnedOver': WHATEVER THE INPUT: true; the input reads as it did. -/
def fnExactTurnedOverSpec : ChangeSpec := { name := "fnExactTurnedOver", fn := fun _ => fun
  | [d] => { results := [.lit (.bool true)], args := [d] }
  | _ => none }
def fnExactTurnedOverRow : OpenClaim := { program := "ytbppbkoppbnodaa", sum := "5852594f0aa40cf6c862023c0b0e6b8bdeb738dec9da7e0622cc530e306aec4a", func := "loop.example/g01177/laws.FnExactTurnedOver", spec := "fnExactTurnedOver", apart := false }
def FnExactTurnedOverSaid : Prop := fnExactTurnedOverRow.holds Try.pinned (OpenSpec.ofChange fnExactTurnedOverSpec)

/-- ITS FALSE NEIGHBOUR: 'it returns false'. Refute it at one input. -/
def fnExactTurnedOverWrong : ChangeSpec := { name := "fnExactTurnedOver", fn := fun _ => fun
  | [d] => { results := [.lit (.bool false)], args := [d] }
  | _ => none }
def FnExactTurnedOverWrongFalsely : Prop := fnExactTurnedOverRow.holds Try.pinned (OpenSpec.ofChange fnExactTurnedOverWrong)

/-- 'laws.FnExactConjugateMatrix': WHATEVER THE INPUT: true; the input reads as it did. -/
def fnExactConjugateMatrixSpec : ChangeSpec := { name := "fnExactConjugateMatrix", fn := fun _ => fun
  | [d] => { results := [.lit (.bool true)], args := [d] }
  | _ => none }
def fnExactConjugateMatrixRow : OpenClaim := { program := "ytbppbkoppbnodaa", sum := "5852594f0aa40cf6c862023c0b0e6b8bdeb738dec9da7e0622cc530e306aec4a", func := "loop.example/g01177/laws.FnExactConjugateMatrix", spec := "fnExactConjugateMatrix", apart := false }
def FnExactConjugateMatrixSaid : Prop := fnExactConjugateMatrixRow.holds Try.pinned (OpenSpec.ofChange fnExactConjugateMatrixSpec)

/-- ITS FALSE NEIGHBOUR: 'it returns false'. Refute it at one input. -/
def fnExactConjugateMatrixWrong : ChangeSpec := { name := "fnExactConjugateMatrix", fn := fun _ => fun
  | [d] => { results := [.lit (.bool false)], args := [d] }
  | _ => none }
def FnExactConjugateMatrixWrongFalsely : Prop := fnExactConjugateMatrixRow.holds Try.pinned (OpenSpec.ofChange fnExactConjugateMatrixWrong)

/-- 'laws.FnExactTurnRow': WHATEVER THE INPUT: true; the input reads as it did. -/
def fnExactTurnRowSpec : ChangeSpec := { name := "fnExactTurnRow", fn := fun _ => fun
  | [d1, d2, d3] => { results := [.lit (.bool true)], args := [d1, d2, d3] }
  | _ => none }
def fnExactTurnRowRow : OpenClaim := { program := "ytbppbkoppbnodaa", sum := "5852594f0aa40cf6c862023c0b0e6b8bdeb738dec9da7e0622cc530e306aec4a", func := "loop.example/g01177/laws.FnExactTurnRow", spec := "fnExactTurnRow", apart := false }
def FnExactTurnRowSaid : Prop := fnExactTurnRowRow.holds Try.pinned (OpenSpec.ofChange fnExactTurnRowSpec)

/-- ITS FALSE NEIGHBOUR: 'it returns false'. Refute it at one input. -/
def fnExactTurnRowWrong : ChangeSpec := { name := "fnExactTurnRow", fn := fun _ => fun
  | [d1, d2, d3] => { results := [.lit (.bool false)], args := [d1, d2, d3] }
  | _ => none }
def FnExactTurnRowWrongFalsely : Prop := fnExactTurnRowRow.holds Try.pinned (OpenSpec.ofChange fnExactTurnRowWrong)

/-- 'laws.FnExactSwapRows': WHATEVER THE INPUT: true; the input reads as it did. -/
def fnExactSwapRowsSpec : ChangeSpec := { name := "fnExactSwapRows", fn := fun _ => fun
  | [d1, d2, d3] => { results := [.lit (.bool true)], args := [d1, d2, d3] }
  | _ => none }
def fnExactSwapRowsRow : OpenClaim := { program := "ytbppbkoppbnodaa", sum := "5852594f0aa40cf6c862023c0b0e6b8bdeb738dec9da7e0622cc530e306aec4a", func := "loop.example/g01177/laws.FnExactSwapRows", spec := "fnExactSwapRows", apart := false }
def FnExactSwapRowsSaid : Prop := fnExactSwapRowsRow.holds Try.pinned (OpenSpec.ofChange fnExactSwapRowsSpec)

/-- ITS FALSE NEIGHBOUR: 'it returns false'. Refute it at one input. -/
def fnExactSwapRowsWrong : ChangeSpec := { name := "fnExactSwapRows", fn := fun _ => fun
  | [d1, d2, d3] => { results := [.lit (.bool false)], args := [d1, d2, d3] }
  | _ => none }
def FnExactSwapRowsWrongFalsely : Prop := fnExactSwapRowsRow.holds Try.pinned (OpenSpec.ofChange fnExactSwapRowsWrong)

/-- 'laws.FnExactTurnColumn': WHATEVER THE INPUT: true; the input reads as it did. -/
def fnExactTurnColumnSpec : ChangeSpec := { name := "fnExactTurnColumn", fn := fun _ => fun
  | [d1, d2, d3] => { results := [.lit (.bool true)], args := [d1, d2, d3] }
  | _ => none }
def fnExactTurnColumnRow : OpenClaim := { program := "ytbppbkoppbnodaa", sum := "5852594f0aa40cf6c862023c0b0e6b8bdeb738dec9da7e0622cc530e306aec4a", func := "loop.example/g01177/laws.FnExactTurnColumn", spec := "fnExactTurnColumn", apart := false }
def FnExactTurnColumnSaid : Prop := fnExactTurnColumnRow.holds Try.pinned (OpenSpec.ofChange fnExactTurnColumnSpec)

/-- ITS FALSE NEIGHBOUR: 'it returns false'. Refute it at one input. -/
def fnExactTurnColumnWrong : ChangeSpec := { name := "fnExactTurnColumn", fn := fun _ => fun
  | [d1, d2, d3] => { results := [.lit (.bool false)], args := [d1, d2, d3] }
  | _ => none }
def FnExactTurnColumnWrongFalsely : Prop := fnExactTurnColumnRow.holds Try.pinned (OpenSpec.ofChange fnExactTurnColumnWrong)

/-- 'laws.FnExactNormalMatrix': WHATEVER THE INPUT: true; the input reads as it did. -/
def fnExactNormalMatrixSpec : ChangeSpec := { name := "fnExactNormalMatrix", fn := fun _ => fun
  | [d] => { results := [.lit (.bool true)], args := [d] }
  | _ => none }
def fnExactNormalMatrixRow : OpenClaim := { program := "ytbppbkoppbnodaa", sum := "5852594f0aa40cf6c862023c0b0e6b8bdeb738dec9da7e0622cc530e306aec4a", func := "loop.example/g01177/laws.FnExactNormalMatrix", spec := "fnExactNormalMatrix", apart := false }
def FnExactNormalMatrixSaid : Prop := fnExactNormalMatrixRow.holds Try.pinned (OpenSpec.ofChange fnExactNormalMatrixSpec)

/-- ITS FALSE NEIGHBOUR: 'it returns false'. Refute it at one input. -/
def fnExactNormalMatrixWrong : ChangeSpec := { name := "fnExactNormalMatrix", fn := fun _ => fun
  | [d] => { results := [.lit (.bool false)], args := [d] }
  | _ => none }
def FnExactNormalMatrixWrongFalsely : Prop := fnExactNormalMatrixRow.holds Try.pinned (OpenSpec.ofChange fnExactNormalMatrixWrong)

/- THE SECOND FORM. 'bulk': how many values and letters a reading holds, each counted each time it is reached (what is shared counts as often as it is met; a slice's spare places count too). A statement '..UptoSaid' is the law's where the arguments, and the package variables that the reading takes, are together of bulk at most 1048576: NARROWER than '..Said'. Prove '..Said' where nothing that the law and all that it calls make is longer than what came in: it says more and counts as full. Else prove '..UptoSaid'. A law counts once. -/
mutual
def uptoBulk {H : Type} : DataW H → Nat
  | .lit (.string bytes) => bytes.length + 1
  | .lit _ => 1
  | .nil => 1
  | .ptr d => uptoBulk d + 1
  | .slice elems spare => uptoBulkAll elems + uptoBulkAll spare + 1
  | .agg parts => uptoBulkAll parts + 1
  | .iface _ d => uptoBulk d + 1
  | .map entries => uptoBulkEntries entries + 1
  | .held _ => 1
def uptoBulkAll {H : Type} : List (DataW H) → Nat
  | [] => 0
  | d :: r => uptoBulk d + uptoBulkAll r
def uptoBulkEntries {H : Type} : List (Lit × DataW H) → Nat
  | [] => 0
  | x :: r => uptoBulkEntry x + uptoBulkEntries r
def uptoBulkEntry {H : Type} : Lit × DataW H → Nat
  | (.string bytes, d) => bytes.length + uptoBulk d + 1
  | (_, d) => uptoBulk d + 1
 end
def uptoSmall : (H : Type) → List (DataW H) → Bool := fun _ ds => decide (uptoBulkAll ds ≤ 1048576)
def OpenSpec.upto (s : _root_.Go.ChangeSpec) : _root_.Go.OpenSpec := { _root_.Go.OpenSpec.ofChange s with cond := some uptoSmall }

/-- 'laws.FnExactFourierMatrix', WHERE WHAT IT READS IS OF BULK AT MOST 1048576: true; the input reads as it did. -/
def fnExactFourierMatrixUptoRow : OpenClaim := { program := "ytbppbkoppbnodaa", sum := "5852594f0aa40cf6c862023c0b0e6b8bdeb738dec9da7e0622cc530e306aec4a", func := "loop.example/g01177/laws.FnExactFourierMatrix", spec := "fnExactFourierMatrix", apart := false, narrowed := true }
def FnExactFourierMatrixUptoSaid : Prop := fnExactFourierMatrixUptoRow.holds Try.pinned (OpenSpec.upto fnExactFourierMatrixSpec)

/-- 'laws.FnExactKroneckerOf', WHERE WHAT IT READS IS OF BULK AT MOST 1048576: true; the input reads as it did. -/
def fnExactKroneckerOfUptoRow : OpenClaim := { program := "ytbppbkoppbnodaa", sum := "5852594f0aa40cf6c862023c0b0e6b8bdeb738dec9da7e0622cc530e306aec4a", func := "loop.example/g01177/laws.FnExactKroneckerOf", spec := "fnExactKroneckerOf", apart := false, narrowed := true }
def FnExactKroneckerOfUptoSaid : Prop := fnExactKroneckerOfUptoRow.holds Try.pinned (OpenSpec.upto fnExactKroneckerOfSpec)

/-- 'laws.FnExactTurnedOver', WHERE WHAT IT READS IS OF BULK AT MOST 1048576: true; the input reads as it did. -/
def fnExactTurnedOverUptoRow : OpenClaim := { program := "ytbppbkoppbnodaa", sum := "5852594f0aa40cf6c862023c0b0e6b8bdeb738dec9da7e0622cc530e306aec4a", func := "loop.example/g01177/laws.FnExactTurnedOver", spec := "fnExactTurnedOver", apart := false, narrowed := true }
def FnExactTurnedOverUptoSaid : Prop := fnExactTurnedOverUptoRow.holds Try.pinned (OpenSpec.upto fnExactTurnedOverSpec)

/-- 'laws.FnExactConjugateMatrix', WHERE WHAT IT READS IS OF BULK AT MOST 1048576: true; the input reads as it did. -/
def fnExactConjugateMatrixUptoRow : OpenClaim := { program := "ytbppbkoppbnodaa", sum := "5852594f0aa40cf6c862023c0b0e6b8bdeb738dec9da7e0622cc530e306aec4a", func := "loop.example/g01177/laws.FnExactConjugateMatrix", spec := "fnExactConjugateMatrix", apart := false, narrowed := true }
def FnExactConjugateMatrixUptoSaid : Prop := fnExactConjugateMatrixUptoRow.holds Try.pinned (OpenSpec.upto fnExactConjugateMatrixSpec)

/-- 'laws.FnExactTurnRow', WHERE WHAT IT READS IS OF BULK AT MOST 1048576: true; the input reads as it did. -/
def fnExactTurnRowUptoRow : OpenClaim := { program := "ytbppbkoppbnodaa", sum := "5852594f0aa40cf6c862023c0b0e6b8bdeb738dec9da7e0622cc530e306aec4a", func := "loop.example/g01177/laws.FnExactTurnRow", spec := "fnExactTurnRow", apart := false, narrowed := true }
def FnExactTurnRowUptoSaid : Prop := fnExactTurnRowUptoRow.holds Try.pinned (OpenSpec.upto fnExactTurnRowSpec)

/-- 'laws.FnExactSwapRows', WHERE WHAT IT READS IS OF BULK AT MOST 1048576: true; the input reads as it did. -/
def fnExactSwapRowsUptoRow : OpenClaim := { program := "ytbppbkoppbnodaa", sum := "5852594f0aa40cf6c862023c0b0e6b8bdeb738dec9da7e0622cc530e306aec4a", func := "loop.example/g01177/laws.FnExactSwapRows", spec := "fnExactSwapRows", apart := false, narrowed := true }
def FnExactSwapRowsUptoSaid : Prop := fnExactSwapRowsUptoRow.holds Try.pinned (OpenSpec.upto fnExactSwapRowsSpec)

/-- 'laws.FnExactTurnColumn', WHERE WHAT IT READS IS OF BULK AT MOST 1048576: true; the input reads as it did. -/
def fnExactTurnColumnUptoRow : OpenClaim := { program := "ytbppbkoppbnodaa", sum := "5852594f0aa40cf6c862023c0b0e6b8bdeb738dec9da7e0622cc530e306aec4a", func := "loop.example/g01177/laws.FnExactTurnColumn", spec := "fnExactTurnColumn", apart := false, narrowed := true }
def FnExactTurnColumnUptoSaid : Prop := fnExactTurnColumnUptoRow.holds Try.pinned (OpenSpec.upto fnExactTurnColumnSpec)

/-- 'laws.FnExactNormalMatrix', WHERE WHAT IT READS IS OF BULK AT MOST 1048576: true; the input reads as it did. -/
def fnExactNormalMatrixUptoRow : OpenClaim := { program := "ytbppbkoppbnodaa", sum := "5852594f0aa40cf6c862023c0b0e6b8bdeb738dec9da7e0622cc530e306aec4a", func := "loop.example/g01177/laws.FnExactNormalMatrix", spec := "fnExactNormalMatrix", apart := false, narrowed := true }
def FnExactNormalMatrixUptoSaid : Prop := fnExactNormalMatrixUptoRow.holds Try.pinned (OpenSpec.upto fnExactNormalMatrixSpec)

end Rows
end Go.Proofs.Ytbppbkoppbnodaa
