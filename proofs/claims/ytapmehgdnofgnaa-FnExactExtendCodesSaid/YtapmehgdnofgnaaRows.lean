/-
  No cell of these rows narrows 'for every input' (looked for: loops, veiled, ifaces, maps, wideKeys, modest, calm, conditions, laid).
  DERIVED. THE GIVEN ROWS OF THIS SEAT. 6 by the template 'for every input the law returns true; each argument reads behind the call as it read before'; 0 by the template 'total and deterministic' (their statements: YtapmehgdnofgnaaTotals.lean).
  GIVEN WITH THE SEED: the statements are not yours to turn. If you find one false, say at which input.
  Laid BY PROGRAM, IN A SANDBOX (cutbox-rows.mjs): the forced cells as the released guide's own fill.sh prints them over the translation 7f622e33d591baf0… (all of the seat's roots in one cut). By AI agents, Wed Nov 11 2026. No macro, syntax, notation, axiom, sorry.
-/
import Derived.Test.YtapmehgdnofgnaaChecked
import GoSem.Claim
import GoSem.ClaimJoined
import GoSem.ClaimMapViews
import Derived.JoinedTies
import Derived.KernelRfl
namespace Go.Proofs.Ytapmehgdnofgnaa
/- THE CELL 'sum', in the pinned program and in every row, IS THE sha256 OF THE DUMP (.gsa) THAT YtapmehgdnofgnaaProg.lean LOADS. Nothing in Lean hashes anything: it is a label: what it is worth is what the hold of that sum in a sandbox is worth. -/
noncomputable def Try.pinned : Pinned := { name := "ytapmehgdnofgnaa", sum := "7f622e33d591baf0ff941a5470c9374f71991503dfae8d87ccafcb64ecf46687", checked := Try.checked }
namespace Rows
def none {H : Type} : Left H := { results := [], args := [] }

/-- 'laws.FnExactAreCodes': WHATEVER THE INPUT: true; the input reads as it did. -/
def fnExactAreCodesSpec : ChangeSpec := { name := "fnExactAreCodes", fn := fun _ => fun
  | [d] => { results := [.lit (.bool true)], args := [d] }
  | _ => none }
def fnExactAreCodesRow : OpenClaim := { program := "ytapmehgdnofgnaa", sum := "7f622e33d591baf0ff941a5470c9374f71991503dfae8d87ccafcb64ecf46687", func := "loop.example/g01177/laws.FnExactAreCodes", spec := "fnExactAreCodes", unfollowed := true, recurses := true, apart := false }
def FnExactAreCodesSaid : Prop := fnExactAreCodesRow.holds Try.pinned (OpenSpec.ofChange fnExactAreCodesSpec)

/-- ITS FALSE NEIGHBOUR: 'it returns false'. Refute it at one input. -/
def fnExactAreCodesWrong : ChangeSpec := { name := "fnExactAreCodes", fn := fun _ => fun
  | [d] => { results := [.lit (.bool false)], args := [d] }
  | _ => none }
def FnExactAreCodesWrongFalsely : Prop := fnExactAreCodesRow.holds Try.pinned (OpenSpec.ofChange fnExactAreCodesWrong)

/-- 'laws.FnExactAreOrthogonal': WHATEVER THE INPUT: true; the input reads as it did. -/
def fnExactAreOrthogonalSpec : ChangeSpec := { name := "fnExactAreOrthogonal", fn := fun _ => fun
  | [d] => { results := [.lit (.bool true)], args := [d] }
  | _ => none }
def fnExactAreOrthogonalRow : OpenClaim := { program := "ytapmehgdnofgnaa", sum := "7f622e33d591baf0ff941a5470c9374f71991503dfae8d87ccafcb64ecf46687", func := "loop.example/g01177/laws.FnExactAreOrthogonal", spec := "fnExactAreOrthogonal", unfollowed := true, recurses := true, apart := false }
def FnExactAreOrthogonalSaid : Prop := fnExactAreOrthogonalRow.holds Try.pinned (OpenSpec.ofChange fnExactAreOrthogonalSpec)

/-- ITS FALSE NEIGHBOUR: 'it returns false'. Refute it at one input. -/
def fnExactAreOrthogonalWrong : ChangeSpec := { name := "fnExactAreOrthogonal", fn := fun _ => fun
  | [d] => { results := [.lit (.bool false)], args := [d] }
  | _ => none }
def FnExactAreOrthogonalWrongFalsely : Prop := fnExactAreOrthogonalRow.holds Try.pinned (OpenSpec.ofChange fnExactAreOrthogonalWrong)

/-- 'laws.FnExactDisturbanceOf': WHATEVER THE INPUT: true; the input reads as it did. -/
def fnExactDisturbanceOfSpec : ChangeSpec := { name := "fnExactDisturbanceOf", fn := fun _ => fun
  | [d] => { results := [.lit (.bool true)], args := [d] }
  | _ => none }
def fnExactDisturbanceOfRow : OpenClaim := { program := "ytapmehgdnofgnaa", sum := "7f622e33d591baf0ff941a5470c9374f71991503dfae8d87ccafcb64ecf46687", func := "loop.example/g01177/laws.FnExactDisturbanceOf", spec := "fnExactDisturbanceOf", unfollowed := true, recurses := true, apart := false }
def FnExactDisturbanceOfSaid : Prop := fnExactDisturbanceOfRow.holds Try.pinned (OpenSpec.ofChange fnExactDisturbanceOfSpec)

/-- ITS FALSE NEIGHBOUR: 'it returns false'. Refute it at one input. -/
def fnExactDisturbanceOfWrong : ChangeSpec := { name := "fnExactDisturbanceOf", fn := fun _ => fun
  | [d] => { results := [.lit (.bool false)], args := [d] }
  | _ => none }
def FnExactDisturbanceOfWrongFalsely : Prop := fnExactDisturbanceOfRow.holds Try.pinned (OpenSpec.ofChange fnExactDisturbanceOfWrong)

/-- 'laws.FnExactGreatestSet': WHATEVER THE INPUT: true; the input reads as it did. -/
def fnExactGreatestSetSpec : ChangeSpec := { name := "fnExactGreatestSet", fn := fun _ => fun
  | [d] => { results := [.lit (.bool true)], args := [d] }
  | _ => none }
def fnExactGreatestSetRow : OpenClaim := { program := "ytapmehgdnofgnaa", sum := "7f622e33d591baf0ff941a5470c9374f71991503dfae8d87ccafcb64ecf46687", func := "loop.example/g01177/laws.FnExactGreatestSet", spec := "fnExactGreatestSet", unfollowed := true, recurses := true, apart := false }
def FnExactGreatestSetSaid : Prop := fnExactGreatestSetRow.holds Try.pinned (OpenSpec.ofChange fnExactGreatestSetSpec)

/-- ITS FALSE NEIGHBOUR: 'it returns false'. Refute it at one input. -/
def fnExactGreatestSetWrong : ChangeSpec := { name := "fnExactGreatestSet", fn := fun _ => fun
  | [d] => { results := [.lit (.bool false)], args := [d] }
  | _ => none }
def FnExactGreatestSetWrongFalsely : Prop := fnExactGreatestSetRow.holds Try.pinned (OpenSpec.ofChange fnExactGreatestSetWrong)

/-- 'laws.FnExactExtendCodes': WHATEVER THE INPUT: true; the input reads as it did. -/
def fnExactExtendCodesSpec : ChangeSpec := { name := "fnExactExtendCodes", fn := fun _ => fun
  | [d] => { results := [.lit (.bool true)], args := [d] }
  | _ => none }
def fnExactExtendCodesRow : OpenClaim := { program := "ytapmehgdnofgnaa", sum := "7f622e33d591baf0ff941a5470c9374f71991503dfae8d87ccafcb64ecf46687", func := "loop.example/g01177/laws.FnExactExtendCodes", spec := "fnExactExtendCodes", unfollowed := true, recurses := true, apart := false }
def FnExactExtendCodesSaid : Prop := fnExactExtendCodesRow.holds Try.pinned (OpenSpec.ofChange fnExactExtendCodesSpec)

/-- ITS FALSE NEIGHBOUR: 'it returns false'. Refute it at one input. -/
def fnExactExtendCodesWrong : ChangeSpec := { name := "fnExactExtendCodes", fn := fun _ => fun
  | [d] => { results := [.lit (.bool false)], args := [d] }
  | _ => none }
def FnExactExtendCodesWrongFalsely : Prop := fnExactExtendCodesRow.holds Try.pinned (OpenSpec.ofChange fnExactExtendCodesWrong)

/-- 'laws.FnExactPeakOf': WHATEVER THE INPUT: true; the input reads as it did. -/
def fnExactPeakOfSpec : ChangeSpec := { name := "fnExactPeakOf", fn := fun _ => fun
  | [d] => { results := [.lit (.bool true)], args := [d] }
  | _ => none }
def fnExactPeakOfRow : OpenClaim := { program := "ytapmehgdnofgnaa", sum := "7f622e33d591baf0ff941a5470c9374f71991503dfae8d87ccafcb64ecf46687", func := "loop.example/g01177/laws.FnExactPeakOf", spec := "fnExactPeakOf", unfollowed := true, recurses := true, apart := false }
def FnExactPeakOfSaid : Prop := fnExactPeakOfRow.holds Try.pinned (OpenSpec.ofChange fnExactPeakOfSpec)

/-- ITS FALSE NEIGHBOUR: 'it returns false'. Refute it at one input. -/
def fnExactPeakOfWrong : ChangeSpec := { name := "fnExactPeakOf", fn := fun _ => fun
  | [d] => { results := [.lit (.bool false)], args := [d] }
  | _ => none }
def FnExactPeakOfWrongFalsely : Prop := fnExactPeakOfRow.holds Try.pinned (OpenSpec.ofChange fnExactPeakOfWrong)

/- THE SECOND FORM. 'bulk': how many values and letters a reading holds, each counted each time it is reached (what is shared counts as often as it is met; a slice's spare places count too). A statement '..UptoSaid' is the law's where the arguments, and the package variables that the reading takes, are together of bulk at most 1048576: NARROWER than '..Said'. Prove '..Said' where nothing that the law and all that it calls make is longer than what came in: it says more and counts as full. Else prove '..UptoSaid'. A law counts once. -/
mutual
def uptoBulk {H : Type} : DataW H → Nat
  | .lit (.string bytes) => bytes.length + 1
  | .lit _ => 1
  | .nil => 1
  | .ptr d => uptoBulk d + 1
  | .slice elems spare => uptoBulkAll elems + uptoBulkAll spare + 1
  | .agg parts => uptoBulkAll parts + 1
  | .iface _ d => uptoBulk d + 1
  | .map entries => uptoBulkEntries entries + 1
  | .held _ => 1
def uptoBulkAll {H : Type} : List (DataW H) → Nat
  | [] => 0
  | d :: r => uptoBulk d + uptoBulkAll r
def uptoBulkEntries {H : Type} : List (Lit × DataW H) → Nat
  | [] => 0
  | x :: r => uptoBulkEntry x + uptoBulkEntries r
def uptoBulkEntry {H : Type} : Lit × DataW H → Nat
  | (.string bytes, d) => bytes.length + uptoBulk d + 1
  | (_, d) => uptoBulk d + 1
 end
def uptoSmall : (H : Type) → List (DataW H) → Bool := fun _ ds => decide (uptoBulkAll ds ≤ 1048576)
def OpenSpec.upto (s : _root_.Go.ChangeSpec) : _root_.Go.OpenSpec := { _root_.Go.OpenSpec.ofChange s with cond := some uptoSmall }

/-- 'laws.FnExactAreCodes', WHERE WHAT IT READS IS OF BULK AT MOST 1048576: true; the input reads as it did. -/
def fnExactAreCodesUptoRow : OpenClaim := { program := "ytapmehgdnofgnaa", sum := "7f622e33d591baf0ff941a5470c9374f71991503dfae8d87ccafcb64ecf46687", func := "loop.example/g01177/laws.FnExactAreCodes", spec := "fnExactAreCodes", unfollowed := true, recurses := true, apart := false, narrowed := true }
def FnExactAreCodesUptoSaid : Prop := fnExactAreCodesUptoRow.holds Try.pinned (OpenSpec.upto fnExactAreCodesSpec)

/-- 'laws.FnExactAreOrthogonal', WHERE WHAT IT READS IS OF BULK AT MOST 1048576: true; the input reads as it did. -/
def fnExactAreOrthogonalUptoRow : OpenClaim := { program := "ytapmehgdnofgnaa", sum := "7f622e33d591baf0ff941a5470c9374f71991503dfae8d87ccafcb64ecf46687", func := "loop.example/g01177/laws.FnExactAreOrthogonal", spec := "fnExactAreOrthogonal", unfollowed := true, recurses := true, apart := false, narrowed := true }
def FnExactAreOrthogonalUptoSaid : Prop := fnExactAreOrthogonalUptoRow.holds Try.pinned (OpenSpec.upto fnExactAreOrthogonalSpec)

/-- 'laws.FnExactDisturbanceOf', WHERE WHAT IT READS IS OF BULK AT MOST 1048576: true; the input reads as it did. -/
def fnExactDisturbanceOfUptoRow : OpenClaim := { program := "ytapmehgdnofgnaa", sum := "7f622e33d591baf0ff941a5470c9374f71991503dfae8d87ccafcb64ecf46687", func := "loop.example/g01177/laws.FnExactDisturbanceOf", spec := "fnExactDisturbanceOf", unfollowed := true, recurses := true, apart := false, narrowed := true }
def FnExactDisturbanceOfUptoSaid : Prop := fnExactDisturbanceOfUptoRow.holds Try.pinned (OpenSpec.upto fnExactDisturbanceOfSpec)

/-- 'laws.FnExactGreatestSet', WHERE WHAT IT READS IS OF BULK AT MOST 1048576: true; the input reads as it did. -/
def fnExactGreatestSetUptoRow : OpenClaim := { program := "ytapmehgdnofgnaa", sum := "7f622e33d591baf0ff941a5470c9374f71991503dfae8d87ccafcb64ecf46687", func := "loop.example/g01177/laws.FnExactGreatestSet", spec := "fnExactGreatestSet", unfollowed := true, recurses := true, apart := false, narrowed := true }
def FnExactGreatestSetUptoSaid : Prop := fnExactGreatestSetUptoRow.holds Try.pinned (OpenSpec.upto fnExactGreatestSetSpec)

/-- 'laws.FnExactExtendCodes', WHERE WHAT IT READS IS OF BULK AT MOST 1048576: true; the input reads as it did. -/
def fnExactExtendCodesUptoRow : OpenClaim := { program := "ytapmehgdnofgnaa", sum := "7f622e33d591baf0ff941a5470c9374f71991503dfae8d87ccafcb64ecf46687", func := "loop.example/g01177/laws.FnExactExtendCodes", spec := "fnExactExtendCodes", unfollowed := true, recurses := true, apart := false, narrowed := true }
def FnExactExtendCodesUptoSaid : Prop := fnExactExtendCodesUptoRow.holds Try.pinned (OpenSpec.upto fnExactExtendCodesSpec)

/-- 'laws.FnExactPeakOf', WHERE WHAT IT READS IS OF BULK AT MOST 1048576: true; the input reads as it did. -/
def fnExactPeakOfUptoRow : OpenClaim := { program := "ytapmehgdnofgnaa", sum := "7f622e33d591baf0ff941a5470c9374f71991503dfae8d87ccafcb64ecf46687", func := "loop.example/g01177/laws.FnExactPeakOf", spec := "fnExactPeakOf", unfollowed := true, recurses := true, apart := false, narrowed := true }
def FnExactPeakOfUptoSaid : Prop := fnExactPeakOfUptoRow.holds Try.pinned (OpenSpec.upto fnExactPeakOfSpec)

end Rows
end Go.Proofs.Ytapmehgdnofgnaa
