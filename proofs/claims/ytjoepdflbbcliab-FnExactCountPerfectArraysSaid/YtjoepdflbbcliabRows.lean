/-
  No cell of these rows narrows 'for every input' (looked for: loops, veiled, ifaces, maps, wideKeys, modest, calm, conditions, laid).
  DERIVED. THE GIVEN ROWS OF THIS SEAT. 7 by the template 'for every input the law returns true; each argument reads behind the call as it read before'; 0 by the template 'total and deterministic' (their statements: YtjoepdflbbcliabTotals.lean).
  GIVEN WITH THE SEED: the statements are not yours to turn. If you find one false, say at which input.
  Laid BY PROGRAM, IN A SANDBOX (cutbox-rows.mjs): the forced cells as the released guide's own fill.sh prints them over the translation 2cc4c000b3a191a3… (all of the seat's roots in one cut). By AI agents, Wed Nov 11 2026. No macro, syntax, notation, axiom, sorry.
-/
import Derived.Test.YtjoepdflbbcliabChecked
import GoSem.Claim
import GoSem.ClaimJoined
import GoSem.ClaimMapViews
import Derived.JoinedTies
import Derived.KernelRfl
namespace Go.Proofs.Ytjoepdflbbcliab
/- THE CELL 'sum', in the pinned program and in every row, IS THE sha256 OF THE DUMP (.gsa) THAT YtjoepdflbbcliabProg.lean LOADS. Nothing in Lean hashes anything: it is a label: what it is worth is what the hold of that sum in a sandbox is worth. -/
noncomputable def Try.pinned : Pinned := { name := "ytjoepdflbbcliab", sum := "2cc4c000b3a191a301d5cfd2b43c1c7b9202f415a19578ee5b8245941522f03d", checked := Try.checked }
namespace Rows
def none {H : Type} : Left H := { results := [], args := [] }

/-- 'laws.FnExactIsArray': WHATEVER THE INPUT: true; the input reads as it did. -/
def fnExactIsArraySpec : ChangeSpec := { name := "fnExactIsArray", fn := fun _ => fun
  | [d] => { results := [.lit (.bool true)], args := [d] }
  | _ => none }
def fnExactIsArrayRow : OpenClaim := { program := "ytjoepdflbbcliab", sum := "2cc4c000b3a191a301d5cfd2b43c1c7b9202f415a19578ee5b8245941522f03d", func := "loop.example/g01177/laws.FnExactIsArray", spec := "fnExactIsArray", apart := false }
def FnExactIsArraySaid : Prop := fnExactIsArrayRow.holds Try.pinned (OpenSpec.ofChange fnExactIsArraySpec)

/-- ITS FALSE NEIGHBOUR: 'it returns false'. Refute it at one input. -/
def fnExactIsArrayWrong : ChangeSpec := { name := "fnExactIsArray", fn := fun _ => fun
  | [d] => { results := [.lit (.bool false)], args := [d] }
  | _ => none }
def FnExactIsArrayWrongFalsely : Prop := fnExactIsArrayRow.holds Try.pinned (OpenSpec.ofChange fnExactIsArrayWrong)

/-- 'laws.FnExactArrayAt': WHATEVER THE INPUT: true; the input reads as it did. -/
def fnExactArrayAtSpec : ChangeSpec := { name := "fnExactArrayAt", fn := fun _ => fun
  | [d1, d2, d3] => { results := [.lit (.bool true)], args := [d1, d2, d3] }
  | _ => none }
def fnExactArrayAtRow : OpenClaim := { program := "ytjoepdflbbcliab", sum := "2cc4c000b3a191a301d5cfd2b43c1c7b9202f415a19578ee5b8245941522f03d", func := "loop.example/g01177/laws.FnExactArrayAt", spec := "fnExactArrayAt", apart := false }
def FnExactArrayAtSaid : Prop := fnExactArrayAtRow.holds Try.pinned (OpenSpec.ofChange fnExactArrayAtSpec)

/-- ITS FALSE NEIGHBOUR: 'it returns false'. Refute it at one input. -/
def fnExactArrayAtWrong : ChangeSpec := { name := "fnExactArrayAt", fn := fun _ => fun
  | [d1, d2, d3] => { results := [.lit (.bool false)], args := [d1, d2, d3] }
  | _ => none }
def FnExactArrayAtWrongFalsely : Prop := fnExactArrayAtRow.holds Try.pinned (OpenSpec.ofChange fnExactArrayAtWrong)

/-- 'laws.FnExactIsPerfectArray': WHATEVER THE INPUT: true; the input reads as it did. -/
def fnExactIsPerfectArraySpec : ChangeSpec := { name := "fnExactIsPerfectArray", fn := fun _ => fun
  | [d] => { results := [.lit (.bool true)], args := [d] }
  | _ => none }
def fnExactIsPerfectArrayRow : OpenClaim := { program := "ytjoepdflbbcliab", sum := "2cc4c000b3a191a301d5cfd2b43c1c7b9202f415a19578ee5b8245941522f03d", func := "loop.example/g01177/laws.FnExactIsPerfectArray", spec := "fnExactIsPerfectArray", apart := false }
def FnExactIsPerfectArraySaid : Prop := fnExactIsPerfectArrayRow.holds Try.pinned (OpenSpec.ofChange fnExactIsPerfectArraySpec)

/-- ITS FALSE NEIGHBOUR: 'it returns false'. Refute it at one input. -/
def fnExactIsPerfectArrayWrong : ChangeSpec := { name := "fnExactIsPerfectArray", fn := fun _ => fun
  | [d] => { results := [.lit (.bool false)], args := [d] }
  | _ => none }
def FnExactIsPerfectArrayWrongFalsely : Prop := fnExactIsPerfectArrayRow.holds Try.pinned (OpenSpec.ofChange fnExactIsPerfectArrayWrong)

/-- 'laws.FnExactOuterArray': WHATEVER THE INPUT: true; the input reads as it did. -/
def fnExactOuterArraySpec : ChangeSpec := { name := "fnExactOuterArray", fn := fun _ => fun
  | [d1, d2] => { results := [.lit (.bool true)], args := [d1, d2] }
  | _ => none }
def fnExactOuterArrayRow : OpenClaim := { program := "ytjoepdflbbcliab", sum := "2cc4c000b3a191a301d5cfd2b43c1c7b9202f415a19578ee5b8245941522f03d", func := "loop.example/g01177/laws.FnExactOuterArray", spec := "fnExactOuterArray", unfollowed := true, recurses := true, apart := false }
def FnExactOuterArraySaid : Prop := fnExactOuterArrayRow.holds Try.pinned (OpenSpec.ofChange fnExactOuterArraySpec)

/-- ITS FALSE NEIGHBOUR: 'it returns false'. Refute it at one input. -/
def fnExactOuterArrayWrong : ChangeSpec := { name := "fnExactOuterArray", fn := fun _ => fun
  | [d1, d2] => { results := [.lit (.bool false)], args := [d1, d2] }
  | _ => none }
def FnExactOuterArrayWrongFalsely : Prop := fnExactOuterArrayRow.holds Try.pinned (OpenSpec.ofChange fnExactOuterArrayWrong)

/-- 'laws.FnExactCountPerfectArrays': WHATEVER THE INPUT: true; the input reads as it did. -/
def fnExactCountPerfectArraysSpec : ChangeSpec := { name := "fnExactCountPerfectArrays", fn := fun _ => fun
  | [d1, d2] => { results := [.lit (.bool true)], args := [d1, d2] }
  | _ => none }
def fnExactCountPerfectArraysRow : OpenClaim := { program := "ytjoepdflbbcliab", sum := "2cc4c000b3a191a301d5cfd2b43c1c7b9202f415a19578ee5b8245941522f03d", func := "loop.example/g01177/laws.FnExactCountPerfectArrays", spec := "fnExactCountPerfectArrays", unfollowed := true, recurses := true, apart := false }
def FnExactCountPerfectArraysSaid : Prop := fnExactCountPerfectArraysRow.holds Try.pinned (OpenSpec.ofChange fnExactCountPerfectArraysSpec)

/-- ITS FALSE NEIGHBOUR: 'it returns false'. Refute it at one input. -/
def fnExactCountPerfectArraysWrong : ChangeSpec := { name := "fnExactCountPerfectArrays", fn := fun _ => fun
  | [d1, d2] => { results := [.lit (.bool false)], args := [d1, d2] }
  | _ => none }
def FnExactCountPerfectArraysWrongFalsely : Prop := fnExactCountPerfectArraysRow.holds Try.pinned (OpenSpec.ofChange fnExactCountPerfectArraysWrong)

/-- 'laws.FnExactShiftArray': WHATEVER THE INPUT: true; the input reads as it did. -/
def fnExactShiftArraySpec : ChangeSpec := { name := "fnExactShiftArray", fn := fun _ => fun
  | [d1, d2, d3] => { results := [.lit (.bool true)], args := [d1, d2, d3] }
  | _ => none }
def fnExactShiftArrayRow : OpenClaim := { program := "ytjoepdflbbcliab", sum := "2cc4c000b3a191a301d5cfd2b43c1c7b9202f415a19578ee5b8245941522f03d", func := "loop.example/g01177/laws.FnExactShiftArray", spec := "fnExactShiftArray", unfollowed := true, recurses := true, apart := false }
def FnExactShiftArraySaid : Prop := fnExactShiftArrayRow.holds Try.pinned (OpenSpec.ofChange fnExactShiftArraySpec)

/-- ITS FALSE NEIGHBOUR: 'it returns false'. Refute it at one input. -/
def fnExactShiftArrayWrong : ChangeSpec := { name := "fnExactShiftArray", fn := fun _ => fun
  | [d1, d2, d3] => { results := [.lit (.bool false)], args := [d1, d2, d3] }
  | _ => none }
def FnExactShiftArrayWrongFalsely : Prop := fnExactShiftArrayRow.holds Try.pinned (OpenSpec.ofChange fnExactShiftArrayWrong)

/-- 'laws.FnExactShiftMatrix': WHATEVER THE INPUT: true; the input reads as it did. -/
def fnExactShiftMatrixSpec : ChangeSpec := { name := "fnExactShiftMatrix", fn := fun _ => fun
  | [d] => { results := [.lit (.bool true)], args := [d] }
  | _ => none }
def fnExactShiftMatrixRow : OpenClaim := { program := "ytjoepdflbbcliab", sum := "2cc4c000b3a191a301d5cfd2b43c1c7b9202f415a19578ee5b8245941522f03d", func := "loop.example/g01177/laws.FnExactShiftMatrix", spec := "fnExactShiftMatrix", unfollowed := true, recurses := true, apart := false }
def FnExactShiftMatrixSaid : Prop := fnExactShiftMatrixRow.holds Try.pinned (OpenSpec.ofChange fnExactShiftMatrixSpec)

/-- ITS FALSE NEIGHBOUR: 'it returns false'. Refute it at one input. -/
def fnExactShiftMatrixWrong : ChangeSpec := { name := "fnExactShiftMatrix", fn := fun _ => fun
  | [d] => { results := [.lit (.bool false)], args := [d] }
  | _ => none }
def FnExactShiftMatrixWrongFalsely : Prop := fnExactShiftMatrixRow.holds Try.pinned (OpenSpec.ofChange fnExactShiftMatrixWrong)

/- THE SECOND FORM. 'bulk': how many values and letters a reading holds, each counted each time it is reached (what is shared counts as often as it is met; a slice's spare places count too). A statement '..UptoSaid' is the law's where the arguments, and the package variables that the reading takes, are together of bulk at most 1048576: NARROWER than '..Said'. Prove '..Said' where nothing that the law and all that it calls make is longer than what came in: it says more and counts as full. Else prove '..UptoSaid'. A law counts once. -/
mutual
def uptoBulk {H : Type} : DataW H → Nat
  | .lit (.string bytes) => bytes.length + 1
  | .lit _ => 1
  | .nil => 1
  | .ptr d => uptoBulk d + 1
  | .slice elems spare => uptoBulkAll elems + uptoBulkAll spare + 1
  | .agg parts => uptoBulkAll parts + 1
  | .iface _ d => uptoBulk d + 1
  | .map entries => uptoBulkEntries entries + 1
  | .held _ => 1
def uptoBulkAll {H : Type} : List (DataW H) → Nat
  | [] => 0
  | d :: r => uptoBulk d + uptoBulkAll r
def uptoBulkEntries {H : Type} : List (Lit × DataW H) → Nat
  | [] => 0
  | x :: r => uptoBulkEntry x + uptoBulkEntries r
def uptoBulkEntry {H : Type} : Lit × DataW H → Nat
  | (.string bytes, d) => bytes.length + uptoBulk d + 1
  | (_, d) => uptoBulk d + 1
 end
def uptoSmall : (H : Type) → List (DataW H) → Bool := fun _ ds => decide (uptoBulkAll ds ≤ 1048576)
def OpenSpec.upto (s : _root_.Go.ChangeSpec) : _root_.Go.OpenSpec := { _root_.Go.OpenSpec.ofChange s with cond := some uptoSmall }

/-- 'laws.FnExactIsArray', WHERE WHAT IT READS IS OF BULK AT MOST 1048576: true; the input reads as it did. -/
def fnExactIsArrayUptoRow : OpenClaim := { program := "ytjoepdflbbcliab", sum := "2cc4c000b3a191a301d5cfd2b43c1c7b9202f415a19578ee5b8245941522f03d", func := "loop.example/g01177/laws.FnExactIsArray", spec := "fnExactIsArray", apart := false, narrowed := true }
def FnExactIsArrayUptoSaid : Prop := fnExactIsArrayUptoRow.holds Try.pinned (OpenSpec.upto fnExactIsArraySpec)

/-- 'laws.FnExactArrayAt', WHERE WHAT IT READS IS OF BULK AT MOST 1048576: true; the input reads as it did. -/
def fnExactArrayAtUptoRow : OpenClaim := { program := "ytjoepdflbbcliab", sum := "2cc4c000b3a191a301d5cfd2b43c1c7b9202f415a19578ee5b8245941522f03d", func := "loop.example/g01177/laws.FnExactArrayAt", spec := "fnExactArrayAt", apart := false, narrowed := true }
def FnExactArrayAtUptoSaid : Prop := fnExactArrayAtUptoRow.holds Try.pinned (OpenSpec.upto fnExactArrayAtSpec)

/-- 'laws.FnExactIsPerfectArray', WHERE WHAT IT READS IS OF BULK AT MOST 1048576: true; the input reads as it did. -/
def fnExactIsPerfectArrayUptoRow : OpenClaim := { program := "ytjoepdflbbcliab", sum := "2cc4c000b3a191a301d5cfd2b43c1c7b9202f415a19578ee5b8245941522f03d", func := "loop.example/g01177/laws.FnExactIsPerfectArray", spec := "fnExactIsPerfectArray", apart := false, narrowed := true }
def FnExactIsPerfectArrayUptoSaid : Prop := fnExactIsPerfectArrayUptoRow.holds Try.pinned (OpenSpec.upto fnExactIsPerfectArraySpec)

/-- 'laws.FnExactOuterArray', WHERE WHAT IT READS IS OF BULK AT MOST 1048576: true; the input reads as it did. -/
def fnExactOuterArrayUptoRow : OpenClaim := { program := "ytjoepdflbbcliab", sum := "2cc4c000b3a191a301d5cfd2b43c1c7b9202f415a19578ee5b8245941522f03d", func := "loop.example/g01177/laws.FnExactOuterArray", spec := "fnExactOuterArray", unfollowed := true, recurses := true, apart := false, narrowed := true }
def FnExactOuterArrayUptoSaid : Prop := fnExactOuterArrayUptoRow.holds Try.pinned (OpenSpec.upto fnExactOuterArraySpec)

/-- 'laws.FnExactCountPerfectArrays', WHERE WHAT IT READS IS OF BULK AT MOST 1048576: true; the input reads as it did. -/
def fnExactCountPerfectArraysUptoRow : OpenClaim := { program := "ytjoepdflbbcliab", sum := "2cc4c000b3a191a301d5cfd2b43c1c7b9202f415a19578ee5b8245941522f03d", func := "loop.example/g01177/laws.FnExactCountPerfectArrays", spec := "fnExactCountPerfectArrays", unfollowed := true, recurses := true, apart := false, narrowed := true }
def FnExactCountPerfectArraysUptoSaid : Prop := fnExactCountPerfectArraysUptoRow.holds Try.pinned (OpenSpec.upto fnExactCountPerfectArraysSpec)

/-- 'laws.FnExactShiftArray', WHERE WHAT IT READS IS OF BULK AT MOST 1048576: true; the input reads as it did. -/
def fnExactShiftArrayUptoRow : OpenClaim := { program := "ytjoepdflbbcliab", sum := "2cc4c000b3a191a301d5cfd2b43c1c7b9202f415a19578ee5b8245941522f03d", func := "loop.example/g01177/laws.FnExactShiftArray", spec := "fnExactShiftArray", unfollowed := true, recurses := true, apart := false, narrowed := true }
def FnExactShiftArrayUptoSaid : Prop := fnExactShiftArrayUptoRow.holds Try.pinned (OpenSpec.upto fnExactShiftArraySpec)

/-- 'laws.FnExactShiftMatrix', WHERE WHAT IT READS IS OF BULK AT MOST 1048576: true; the input reads as it did. -/
def fnExactShiftMatrixUptoRow : OpenClaim := { program := "ytjoepdflbbcliab", sum := "2cc4c000b3a191a301d5cfd2b43c1c7b9202f415a19578ee5b8245941522f03d", func := "loop.example/g01177/laws.FnExactShiftMatrix", spec := "fnExactShiftMatrix", unfollowed := true, recurses := true, apart := false, narrowed := true }
def FnExactShiftMatrixUptoSaid : Prop := fnExactShiftMatrixUptoRow.holds Try.pinned (OpenSpec.upto fnExactShiftMatrixSpec)

end Rows
end Go.Proofs.Ytjoepdflbbcliab
