/-
  No cell of these rows narrows 'for every input' (looked for: loops, veiled, ifaces, maps, wideKeys, modest, calm, conditions, laid).
  DERIVED. THE GIVEN ROWS OF THIS SEAT. 9 by the template 'for every input the law returns true; each argument reads behind the call as it read before'; 0 by the template 'total and deterministic' (their statements: YtkkcdabcoafflabTotals.lean).
  GIVEN WITH THE SEED: the statements are not yours to turn. If you find one false, say at which input.
  Laid BY PROGRAM, IN A SANDBOX (cutbox-rows.mjs): the forced cells as the released guide's own fill.sh prints them over the translation d7ff91b857c0a4ad… (all of the seat's roots in one cut). By AI agents, Wed Nov 11 2026. No macro, syntax, notation, axiom, sorry.
-/
import Derived.Test.YtkkcdabcoafflabChecked
import GoSem.Claim
import GoSem.ClaimJoined
import GoSem.ClaimMapViews
import Derived.JoinedTies
import Derived.KernelRfl
namespace Go.Proofs.Ytkkcdabcoafflab
/- THE CELL 'sum', in the pinned program and in every row, IS THE sha256 OF THE DUMP (.gsa) THAT YtkkcdabcoafflabProg.lean LOADS. Nothing in Lean hashes anything: it is a label: what it is worth is what the hold of that sum in a sandbox is worth. -/
noncomputable def Try.pinned : Pinned := { name := "ytkkcdabcoafflab", sum := "d7ff91b857c0a4ad3482547602507702d2bbd73bc98e6f4985c9638350431c7f", checked := Try.checked }
namespace Rows
def none {H : Type} : Left H := { results := [], args := [] }

/-- 'laws.FnExactAlternateOf': WHATEVER THE INPUT: true; the input reads as it did. -/
def fnExactAlternateOfSpec : ChangeSpec := { name := "fnExactAlternateOf", fn := fun _ => fun
  | [d] => { results := [.lit (.bool true)], args := [d] }
  | _ => none }
def fnExactAlternateOfRow : OpenClaim := { program := "ytkkcdabcoafflab", sum := "d7ff91b857c0a4ad3482547602507702d2bbd73bc98e6f4985c9638350431c7f", func := "loop.example/g01177/laws.FnExactAlternateOf", spec := "fnExactAlternateOf", unfollowed := true, recurses := true, apart := false }
def FnExactAlternateOfSaid : Prop := fnExactAlternateOfRow.holds Try.pinned (OpenSpec.ofChange fnExactAlternateOfSpec)

/-- ITS FALSE NEIGHBOUR: 'it returns false'. Refute it at one input. -/
def fnExactAlternateOfWrong : ChangeSpec := { name := "fnExactAlternateOf", fn := fun _ => fun
  | [d] => { results := [.lit (.bool false)], args := [d] }
  | _ => none }
def FnExactAlternateOfWrongFalsely : Prop := fnExactAlternateOfRow.holds Try.pinned (OpenSpec.ofChange fnExactAlternateOfWrong)

/-- 'laws.FnExactSumOf': WHATEVER THE INPUT: true; the input reads as it did. -/
def fnExactSumOfSpec : ChangeSpec := { name := "fnExactSumOf", fn := fun _ => fun
  | [d] => { results := [.lit (.bool true)], args := [d] }
  | _ => none }
def fnExactSumOfRow : OpenClaim := { program := "ytkkcdabcoafflab", sum := "d7ff91b857c0a4ad3482547602507702d2bbd73bc98e6f4985c9638350431c7f", func := "loop.example/g01177/laws.FnExactSumOf", spec := "fnExactSumOf", apart := false }
def FnExactSumOfSaid : Prop := fnExactSumOfRow.holds Try.pinned (OpenSpec.ofChange fnExactSumOfSpec)

/-- ITS FALSE NEIGHBOUR: 'it returns false'. Refute it at one input. -/
def fnExactSumOfWrong : ChangeSpec := { name := "fnExactSumOf", fn := fun _ => fun
  | [d] => { results := [.lit (.bool false)], args := [d] }
  | _ => none }
def FnExactSumOfWrongFalsely : Prop := fnExactSumOfRow.holds Try.pinned (OpenSpec.ofChange fnExactSumOfWrong)

/-- 'laws.FnExactJoinOf': WHATEVER THE INPUT: true; the input reads as it did. -/
def fnExactJoinOfSpec : ChangeSpec := { name := "fnExactJoinOf", fn := fun _ => fun
  | [d1, d2] => { results := [.lit (.bool true)], args := [d1, d2] }
  | _ => none }
def fnExactJoinOfRow : OpenClaim := { program := "ytkkcdabcoafflab", sum := "d7ff91b857c0a4ad3482547602507702d2bbd73bc98e6f4985c9638350431c7f", func := "loop.example/g01177/laws.FnExactJoinOf", spec := "fnExactJoinOf", unfollowed := true, recurses := true, apart := false }
def FnExactJoinOfSaid : Prop := fnExactJoinOfRow.holds Try.pinned (OpenSpec.ofChange fnExactJoinOfSpec)

/-- ITS FALSE NEIGHBOUR: 'it returns false'. Refute it at one input. -/
def fnExactJoinOfWrong : ChangeSpec := { name := "fnExactJoinOf", fn := fun _ => fun
  | [d1, d2] => { results := [.lit (.bool false)], args := [d1, d2] }
  | _ => none }
def FnExactJoinOfWrongFalsely : Prop := fnExactJoinOfRow.holds Try.pinned (OpenSpec.ofChange fnExactJoinOfWrong)

/-- 'laws.FnExactInterleaveOf': WHATEVER THE INPUT: true; the input reads as it did. -/
def fnExactInterleaveOfSpec : ChangeSpec := { name := "fnExactInterleaveOf", fn := fun _ => fun
  | [d1, d2] => { results := [.lit (.bool true)], args := [d1, d2] }
  | _ => none }
def fnExactInterleaveOfRow : OpenClaim := { program := "ytkkcdabcoafflab", sum := "d7ff91b857c0a4ad3482547602507702d2bbd73bc98e6f4985c9638350431c7f", func := "loop.example/g01177/laws.FnExactInterleaveOf", spec := "fnExactInterleaveOf", unfollowed := true, recurses := true, apart := false }
def FnExactInterleaveOfSaid : Prop := fnExactInterleaveOfRow.holds Try.pinned (OpenSpec.ofChange fnExactInterleaveOfSpec)

/-- ITS FALSE NEIGHBOUR: 'it returns false'. Refute it at one input. -/
def fnExactInterleaveOfWrong : ChangeSpec := { name := "fnExactInterleaveOf", fn := fun _ => fun
  | [d1, d2] => { results := [.lit (.bool false)], args := [d1, d2] }
  | _ => none }
def FnExactInterleaveOfWrongFalsely : Prop := fnExactInterleaveOfRow.holds Try.pinned (OpenSpec.ofChange fnExactInterleaveOfWrong)

/-- 'laws.FnExactProductOf': WHATEVER THE INPUT: true; the input reads as it did. -/
def fnExactProductOfSpec : ChangeSpec := { name := "fnExactProductOf", fn := fun _ => fun
  | [d1, d2] => { results := [.lit (.bool true)], args := [d1, d2] }
  | _ => none }
def fnExactProductOfRow : OpenClaim := { program := "ytkkcdabcoafflab", sum := "d7ff91b857c0a4ad3482547602507702d2bbd73bc98e6f4985c9638350431c7f", func := "loop.example/g01177/laws.FnExactProductOf", spec := "fnExactProductOf", unfollowed := true, recurses := true, apart := false }
def FnExactProductOfSaid : Prop := fnExactProductOfRow.holds Try.pinned (OpenSpec.ofChange fnExactProductOfSpec)

/-- ITS FALSE NEIGHBOUR: 'it returns false'. Refute it at one input. -/
def fnExactProductOfWrong : ChangeSpec := { name := "fnExactProductOf", fn := fun _ => fun
  | [d1, d2] => { results := [.lit (.bool false)], args := [d1, d2] }
  | _ => none }
def FnExactProductOfWrongFalsely : Prop := fnExactProductOfRow.holds Try.pinned (OpenSpec.ofChange fnExactProductOfWrong)

/-- 'laws.FnExactSequenceText': WHATEVER THE INPUT: true; the input reads as it did. -/
def fnExactSequenceTextSpec : ChangeSpec := { name := "fnExactSequenceText", fn := fun _ => fun
  | [d] => { results := [.lit (.bool true)], args := [d] }
  | _ => none }
def fnExactSequenceTextRow : OpenClaim := { program := "ytkkcdabcoafflab", sum := "d7ff91b857c0a4ad3482547602507702d2bbd73bc98e6f4985c9638350431c7f", func := "loop.example/g01177/laws.FnExactSequenceText", spec := "fnExactSequenceText", apart := false }
def FnExactSequenceTextSaid : Prop := fnExactSequenceTextRow.holds Try.pinned (OpenSpec.ofChange fnExactSequenceTextSpec)

/-- ITS FALSE NEIGHBOUR: 'it returns false'. Refute it at one input. -/
def fnExactSequenceTextWrong : ChangeSpec := { name := "fnExactSequenceText", fn := fun _ => fun
  | [d] => { results := [.lit (.bool false)], args := [d] }
  | _ => none }
def FnExactSequenceTextWrongFalsely : Prop := fnExactSequenceTextRow.holds Try.pinned (OpenSpec.ofChange fnExactSequenceTextWrong)

/-- 'laws.FnExactParseSequence': WHATEVER THE INPUT: true; the input reads as it did. -/
def fnExactParseSequenceSpec : ChangeSpec := { name := "fnExactParseSequence", fn := fun _ => fun
  | [d] => { results := [.lit (.bool true)], args := [d] }
  | _ => none }
def fnExactParseSequenceRow : OpenClaim := { program := "ytkkcdabcoafflab", sum := "d7ff91b857c0a4ad3482547602507702d2bbd73bc98e6f4985c9638350431c7f", func := "loop.example/g01177/laws.FnExactParseSequence", spec := "fnExactParseSequence", inPlace := ["internal/bytealg.IndexByteString"], apart := false }
def FnExactParseSequenceSaid : Prop := fnExactParseSequenceRow.holds Try.pinned (OpenSpec.ofChange fnExactParseSequenceSpec)

/-- ITS FALSE NEIGHBOUR: 'it returns false'. Refute it at one input. -/
def fnExactParseSequenceWrong : ChangeSpec := { name := "fnExactParseSequence", fn := fun _ => fun
  | [d] => { results := [.lit (.bool false)], args := [d] }
  | _ => none }
def FnExactParseSequenceWrongFalsely : Prop := fnExactParseSequenceRow.holds Try.pinned (OpenSpec.ofChange fnExactParseSequenceWrong)

/-- 'laws.FnExactSequenceWith': WHATEVER THE INPUT: true; the input reads as it did. -/
def fnExactSequenceWithSpec : ChangeSpec := { name := "fnExactSequenceWith", fn := fun _ => fun
  | [d1, d2] => { results := [.lit (.bool true)], args := [d1, d2] }
  | _ => none }
def fnExactSequenceWithRow : OpenClaim := { program := "ytkkcdabcoafflab", sum := "d7ff91b857c0a4ad3482547602507702d2bbd73bc98e6f4985c9638350431c7f", func := "loop.example/g01177/laws.FnExactSequenceWith", spec := "fnExactSequenceWith", apart := false }
def FnExactSequenceWithSaid : Prop := fnExactSequenceWithRow.holds Try.pinned (OpenSpec.ofChange fnExactSequenceWithSpec)

/-- ITS FALSE NEIGHBOUR: 'it returns false'. Refute it at one input. -/
def fnExactSequenceWithWrong : ChangeSpec := { name := "fnExactSequenceWith", fn := fun _ => fun
  | [d1, d2] => { results := [.lit (.bool false)], args := [d1, d2] }
  | _ => none }
def FnExactSequenceWithWrongFalsely : Prop := fnExactSequenceWithRow.holds Try.pinned (OpenSpec.ofChange fnExactSequenceWithWrong)

/-- 'laws.FnExactRankOf': WHATEVER THE INPUT: true; the input reads as it did. -/
def fnExactRankOfSpec : ChangeSpec := { name := "fnExactRankOf", fn := fun _ => fun
  | [d] => { results := [.lit (.bool true)], args := [d] }
  | _ => none }
def fnExactRankOfRow : OpenClaim := { program := "ytkkcdabcoafflab", sum := "d7ff91b857c0a4ad3482547602507702d2bbd73bc98e6f4985c9638350431c7f", func := "loop.example/g01177/laws.FnExactRankOf", spec := "fnExactRankOf", apart := false }
def FnExactRankOfSaid : Prop := fnExactRankOfRow.holds Try.pinned (OpenSpec.ofChange fnExactRankOfSpec)

/-- ITS FALSE NEIGHBOUR: 'it returns false'. Refute it at one input. -/
def fnExactRankOfWrong : ChangeSpec := { name := "fnExactRankOf", fn := fun _ => fun
  | [d] => { results := [.lit (.bool false)], args := [d] }
  | _ => none }
def FnExactRankOfWrongFalsely : Prop := fnExactRankOfRow.holds Try.pinned (OpenSpec.ofChange fnExactRankOfWrong)

/- THE SECOND FORM. 'bulk': how many values and letters a reading holds, each counted each time it is reached (what is shared counts as often as it is met; a slice's spare places count too). A statement '..UptoSaid' is the law's where the arguments, and the package variables that the reading takes, are together of bulk at most 1048576: NARROWER than '..Said'. Prove '..Said' where nothing that the law and all that it calls make is longer than what came in: it says more and counts as full. Else prove '..UptoSaid'. A law counts once. -/
mutual
def uptoBulk {H : Type} : DataW H → Nat
  | .lit (.string bytes) => bytes.length + 1
  | .lit _ => 1
  | .nil => 1
  | .ptr d => uptoBulk d + 1
  | .slice elems spare => uptoBulkAll elems + uptoBulkAll spare + 1
  | .agg parts => uptoBulkAll parts + 1
  | .iface _ d => uptoBulk d + 1
  | .map entries => uptoBulkEntries entries + 1
  | .held _ => 1
def uptoBulkAll {H : Type} : List (DataW H) → Nat
  | [] => 0
  | d :: r => uptoBulk d + uptoBulkAll r
def uptoBulkEntries {H : Type} : List (Lit × DataW H) → Nat
  | [] => 0
  | x :: r => uptoBulkEntry x + uptoBulkEntries r
def uptoBulkEntry {H : Type} : Lit × DataW H → Nat
  | (.string bytes, d) => bytes.length + uptoBulk d + 1
  | (_, d) => uptoBulk d + 1
 end
def uptoSmall : (H : Type) → List (DataW H) → Bool := fun _ ds => decide (uptoBulkAll ds ≤ 1048576)
def OpenSpec.upto (s : _root_.Go.ChangeSpec) : _root_.Go.OpenSpec := { _root_.Go.OpenSpec.ofChange s with cond := some uptoSmall }

/-- 'laws.FnExactAlternateOf', WHERE WHAT IT READS IS OF BULK AT MOST 1048576: true; the input reads as it did. -/
def fnExactAlternateOfUptoRow : OpenClaim := { program := "ytkkcdabcoafflab", sum := "d7ff91b857c0a4ad3482547602507702d2bbd73bc98e6f4985c9638350431c7f", func := "loop.example/g01177/laws.FnExactAlternateOf", spec := "fnExactAlternateOf", unfollowed := true, recurses := true, apart := false, narrowed := true }
def FnExactAlternateOfUptoSaid : Prop := fnExactAlternateOfUptoRow.holds Try.pinned (OpenSpec.upto fnExactAlternateOfSpec)

/-- 'laws.FnExactSumOf', WHERE WHAT IT READS IS OF BULK AT MOST 1048576: true; the input reads as it did. -/
def fnExactSumOfUptoRow : OpenClaim := { program := "ytkkcdabcoafflab", sum := "d7ff91b857c0a4ad3482547602507702d2bbd73bc98e6f4985c9638350431c7f", func := "loop.example/g01177/laws.FnExactSumOf", spec := "fnExactSumOf", apart := false, narrowed := true }
def FnExactSumOfUptoSaid : Prop := fnExactSumOfUptoRow.holds Try.pinned (OpenSpec.upto fnExactSumOfSpec)

/-- 'laws.FnExactJoinOf', WHERE WHAT IT READS IS OF BULK AT MOST 1048576: true; the input reads as it did. -/
def fnExactJoinOfUptoRow : OpenClaim := { program := "ytkkcdabcoafflab", sum := "d7ff91b857c0a4ad3482547602507702d2bbd73bc98e6f4985c9638350431c7f", func := "loop.example/g01177/laws.FnExactJoinOf", spec := "fnExactJoinOf", unfollowed := true, recurses := true, apart := false, narrowed := true }
def FnExactJoinOfUptoSaid : Prop := fnExactJoinOfUptoRow.holds Try.pinned (OpenSpec.upto fnExactJoinOfSpec)

/-- 'laws.FnExactInterleaveOf', WHERE WHAT IT READS IS OF BULK AT MOST 1048576: true; the input reads as it did. -/
def fnExactInterleaveOfUptoRow : OpenClaim := { program := "ytkkcdabcoafflab", sum := "d7ff91b857c0a4ad3482547602507702d2bbd73bc98e6f4985c9638350431c7f", func := "loop.example/g01177/laws.FnExactInterleaveOf", spec := "fnExactInterleaveOf", unfollowed := true, recurses := true, apart := false, narrowed := true }
def FnExactInterleaveOfUptoSaid : Prop := fnExactInterleaveOfUptoRow.holds Try.pinned (OpenSpec.upto fnExactInterleaveOfSpec)

/-- 'laws.FnExactProductOf', WHERE WHAT IT READS IS OF BULK AT MOST 1048576: true; the input reads as it did. -/
def fnExactProductOfUptoRow : OpenClaim := { program := "ytkkcdabcoafflab", sum := "d7ff91b857c0a4ad3482547602507702d2bbd73bc98e6f4985c9638350431c7f", func := "loop.example/g01177/laws.FnExactProductOf", spec := "fnExactProductOf", unfollowed := true, recurses := true, apart := false, narrowed := true }
def FnExactProductOfUptoSaid : Prop := fnExactProductOfUptoRow.holds Try.pinned (OpenSpec.upto fnExactProductOfSpec)

/-- 'laws.FnExactSequenceText', WHERE WHAT IT READS IS OF BULK AT MOST 1048576: true; the input reads as it did. -/
def fnExactSequenceTextUptoRow : OpenClaim := { program := "ytkkcdabcoafflab", sum := "d7ff91b857c0a4ad3482547602507702d2bbd73bc98e6f4985c9638350431c7f", func := "loop.example/g01177/laws.FnExactSequenceText", spec := "fnExactSequenceText", apart := false, narrowed := true }
def FnExactSequenceTextUptoSaid : Prop := fnExactSequenceTextUptoRow.holds Try.pinned (OpenSpec.upto fnExactSequenceTextSpec)

/-- 'laws.FnExactParseSequence', WHERE WHAT IT READS IS OF BULK AT MOST 1048576: true; the input reads as it did. -/
def fnExactParseSequenceUptoRow : OpenClaim := { program := "ytkkcdabcoafflab", sum := "d7ff91b857c0a4ad3482547602507702d2bbd73bc98e6f4985c9638350431c7f", func := "loop.example/g01177/laws.FnExactParseSequence", spec := "fnExactParseSequence", inPlace := ["internal/bytealg.IndexByteString"], apart := false, narrowed := true }
def FnExactParseSequenceUptoSaid : Prop := fnExactParseSequenceUptoRow.holds Try.pinned (OpenSpec.upto fnExactParseSequenceSpec)

/-- 'laws.FnExactSequenceWith', WHERE WHAT IT READS IS OF BULK AT MOST 1048576: true; the input reads as it did. -/
def fnExactSequenceWithUptoRow : OpenClaim := { program := "ytkkcdabcoafflab", sum := "d7ff91b857c0a4ad3482547602507702d2bbd73bc98e6f4985c9638350431c7f", func := "loop.example/g01177/laws.FnExactSequenceWith", spec := "fnExactSequenceWith", apart := false, narrowed := true }
def FnExactSequenceWithUptoSaid : Prop := fnExactSequenceWithUptoRow.holds Try.pinned (OpenSpec.upto fnExactSequenceWithSpec)

/-- 'laws.FnExactRankOf', WHERE WHAT IT READS IS OF BULK AT MOST 1048576: true; the input reads as it did. -/
def fnExactRankOfUptoRow : OpenClaim := { program := "ytkkcdabcoafflab", sum := "d7ff91b857c0a4ad3482547602507702d2bbd73bc98e6f4985c9638350431c7f", func := "loop.example/g01177/laws.FnExactRankOf", spec := "fnExactRankOf", apart := false, narrowed := true }
def FnExactRankOfUptoSaid : Prop := fnExactRankOfUptoRow.holds Try.pinned (OpenSpec.upto fnExactRankOfSpec)

end Rows
end Go.Proofs.Ytkkcdabcoafflab
