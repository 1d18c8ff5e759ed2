/-
  No cell of these rows narrows 'for every input' (looked for: loops, veiled, ifaces, maps, wideKeys, modest, calm, conditions, laid).
  DERIVED. THE GIVEN ROWS OF THIS SEAT. 7 by the template 'for every input the law returns true; each argument reads behind the call as it read before'; 0 by the template 'total and deterministic' (their statements: YtmckophclehkpaaTotals.lean).
  GIVEN WITH THE SEED: the statements are not yours to turn. If you find one false, say at which input.
  Laid BY PROGRAM, IN A SANDBOX (cutbox-rows.mjs): the forced cells as the released guide's own fill.sh prints them over the translation 97b4b9c55aa303a4… (all of the seat's roots in one cut). By AI agents, Wed Nov 11 2026. No macro, syntax, notation, axiom, sorry.
-/
import Derived.Test.YtmckophclehkpaaChecked
import GoSem.Claim
import GoSem.ClaimJoined
import GoSem.ClaimMapViews
import Derived.JoinedTies
import Derived.KernelRfl
namespace Go.Proofs.Ytmckophclehkpaa
/- THE CELL 'sum', in the pinned program and in every row, IS THE sha256 OF THE DUMP (.gsa) THAT YtmckophclehkpaaProg.lean LOADS. Nothing in Lean hashes anything: it is a label: what it is worth is what the hold of that sum in a sandbox is worth. -/
noncomputable def Try.pinned : Pinned := { name := "ytmckophclehkpaa", sum := "97b4b9c55aa303a49927d93f12ab56b3a58eba10d5bbb1d6c943f0b5a7c61c9e", checked := Try.checked }
namespace Rows
def none {H : Type} : Left H := { results := [], args := [] }

/-- 'laws.FnExactAperiodicAt': WHATEVER THE INPUT: true; the input reads as it did. -/
def fnExactAperiodicAtSpec : ChangeSpec := { name := "fnExactAperiodicAt", fn := fun _ => fun
  | [d1, d2, d3] => { results := [.lit (.bool true)], args := [d1, d2, d3] }
  | _ => none }
def fnExactAperiodicAtRow : OpenClaim := { program := "ytmckophclehkpaa", sum := "97b4b9c55aa303a49927d93f12ab56b3a58eba10d5bbb1d6c943f0b5a7c61c9e", func := "loop.example/g01177/laws.FnExactAperiodicAt", spec := "fnExactAperiodicAt", apart := false }
def FnExactAperiodicAtSaid : Prop := fnExactAperiodicAtRow.holds Try.pinned (OpenSpec.ofChange fnExactAperiodicAtSpec)

/-- ITS FALSE NEIGHBOUR: 'it returns false'. Refute it at one input. -/
def fnExactAperiodicAtWrong : ChangeSpec := { name := "fnExactAperiodicAt", fn := fun _ => fun
  | [d1, d2, d3] => { results := [.lit (.bool false)], args := [d1, d2, d3] }
  | _ => none }
def FnExactAperiodicAtWrongFalsely : Prop := fnExactAperiodicAtRow.holds Try.pinned (OpenSpec.ofChange fnExactAperiodicAtWrong)

/-- 'laws.FnExactPeriodicAt': WHATEVER THE INPUT: true; the input reads as it did. -/
def fnExactPeriodicAtSpec : ChangeSpec := { name := "fnExactPeriodicAt", fn := fun _ => fun
  | [d1, d2, d3] => { results := [.lit (.bool true)], args := [d1, d2, d3] }
  | _ => none }
def fnExactPeriodicAtRow : OpenClaim := { program := "ytmckophclehkpaa", sum := "97b4b9c55aa303a49927d93f12ab56b3a58eba10d5bbb1d6c943f0b5a7c61c9e", func := "loop.example/g01177/laws.FnExactPeriodicAt", spec := "fnExactPeriodicAt", apart := false }
def FnExactPeriodicAtSaid : Prop := fnExactPeriodicAtRow.holds Try.pinned (OpenSpec.ofChange fnExactPeriodicAtSpec)

/-- ITS FALSE NEIGHBOUR: 'it returns false'. Refute it at one input. -/
def fnExactPeriodicAtWrong : ChangeSpec := { name := "fnExactPeriodicAt", fn := fun _ => fun
  | [d1, d2, d3] => { results := [.lit (.bool false)], args := [d1, d2, d3] }
  | _ => none }
def FnExactPeriodicAtWrongFalsely : Prop := fnExactPeriodicAtRow.holds Try.pinned (OpenSpec.ofChange fnExactPeriodicAtWrong)

/-- 'laws.FnExactOwnCorrelations': WHATEVER THE INPUT: true; the input reads as it did. -/
def fnExactOwnCorrelationsSpec : ChangeSpec := { name := "fnExactOwnCorrelations", fn := fun _ => fun
  | [d] => { results := [.lit (.bool true)], args := [d] }
  | _ => none }
def fnExactOwnCorrelationsRow : OpenClaim := { program := "ytmckophclehkpaa", sum := "97b4b9c55aa303a49927d93f12ab56b3a58eba10d5bbb1d6c943f0b5a7c61c9e", func := "loop.example/g01177/laws.FnExactOwnCorrelations", spec := "fnExactOwnCorrelations", unfollowed := true, recurses := true, apart := false }
def FnExactOwnCorrelationsSaid : Prop := fnExactOwnCorrelationsRow.holds Try.pinned (OpenSpec.ofChange fnExactOwnCorrelationsSpec)

/-- ITS FALSE NEIGHBOUR: 'it returns false'. Refute it at one input. -/
def fnExactOwnCorrelationsWrong : ChangeSpec := { name := "fnExactOwnCorrelations", fn := fun _ => fun
  | [d] => { results := [.lit (.bool false)], args := [d] }
  | _ => none }
def FnExactOwnCorrelationsWrongFalsely : Prop := fnExactOwnCorrelationsRow.holds Try.pinned (OpenSpec.ofChange fnExactOwnCorrelationsWrong)

/-- 'laws.FnExactPeriodicCorrelations': WHATEVER THE INPUT: true; the input reads as it did. -/
def fnExactPeriodicCorrelationsSpec : ChangeSpec := { name := "fnExactPeriodicCorrelations", fn := fun _ => fun
  | [d] => { results := [.lit (.bool true)], args := [d] }
  | _ => none }
def fnExactPeriodicCorrelationsRow : OpenClaim := { program := "ytmckophclehkpaa", sum := "97b4b9c55aa303a49927d93f12ab56b3a58eba10d5bbb1d6c943f0b5a7c61c9e", func := "loop.example/g01177/laws.FnExactPeriodicCorrelations", spec := "fnExactPeriodicCorrelations", unfollowed := true, recurses := true, apart := false }
def FnExactPeriodicCorrelationsSaid : Prop := fnExactPeriodicCorrelationsRow.holds Try.pinned (OpenSpec.ofChange fnExactPeriodicCorrelationsSpec)

/-- ITS FALSE NEIGHBOUR: 'it returns false'. Refute it at one input. -/
def fnExactPeriodicCorrelationsWrong : ChangeSpec := { name := "fnExactPeriodicCorrelations", fn := fun _ => fun
  | [d] => { results := [.lit (.bool false)], args := [d] }
  | _ => none }
def FnExactPeriodicCorrelationsWrongFalsely : Prop := fnExactPeriodicCorrelationsRow.holds Try.pinned (OpenSpec.ofChange fnExactPeriodicCorrelationsWrong)

/-- 'laws.FnExactCrossCorrelations': WHATEVER THE INPUT: true; the input reads as it did. -/
def fnExactCrossCorrelationsSpec : ChangeSpec := { name := "fnExactCrossCorrelations", fn := fun _ => fun
  | [d1, d2] => { results := [.lit (.bool true)], args := [d1, d2] }
  | _ => none }
def fnExactCrossCorrelationsRow : OpenClaim := { program := "ytmckophclehkpaa", sum := "97b4b9c55aa303a49927d93f12ab56b3a58eba10d5bbb1d6c943f0b5a7c61c9e", func := "loop.example/g01177/laws.FnExactCrossCorrelations", spec := "fnExactCrossCorrelations", unfollowed := true, recurses := true, apart := false }
def FnExactCrossCorrelationsSaid : Prop := fnExactCrossCorrelationsRow.holds Try.pinned (OpenSpec.ofChange fnExactCrossCorrelationsSpec)

/-- ITS FALSE NEIGHBOUR: 'it returns false'. Refute it at one input. -/
def fnExactCrossCorrelationsWrong : ChangeSpec := { name := "fnExactCrossCorrelations", fn := fun _ => fun
  | [d1, d2] => { results := [.lit (.bool false)], args := [d1, d2] }
  | _ => none }
def FnExactCrossCorrelationsWrongFalsely : Prop := fnExactCrossCorrelationsRow.holds Try.pinned (OpenSpec.ofChange fnExactCrossCorrelationsWrong)

/-- 'laws.FnExactValueAtRoot': WHATEVER THE INPUT: true; the input reads as it did. -/
def fnExactValueAtRootSpec : ChangeSpec := { name := "fnExactValueAtRoot", fn := fun _ => fun
  | [d1, d2] => { results := [.lit (.bool true)], args := [d1, d2] }
  | _ => none }
def fnExactValueAtRootRow : OpenClaim := { program := "ytmckophclehkpaa", sum := "97b4b9c55aa303a49927d93f12ab56b3a58eba10d5bbb1d6c943f0b5a7c61c9e", func := "loop.example/g01177/laws.FnExactValueAtRoot", spec := "fnExactValueAtRoot", apart := false }
def FnExactValueAtRootSaid : Prop := fnExactValueAtRootRow.holds Try.pinned (OpenSpec.ofChange fnExactValueAtRootSpec)

/-- ITS FALSE NEIGHBOUR: 'it returns false'. Refute it at one input. -/
def fnExactValueAtRootWrong : ChangeSpec := { name := "fnExactValueAtRoot", fn := fun _ => fun
  | [d1, d2] => { results := [.lit (.bool false)], args := [d1, d2] }
  | _ => none }
def FnExactValueAtRootWrongFalsely : Prop := fnExactValueAtRootRow.holds Try.pinned (OpenSpec.ofChange fnExactValueAtRootWrong)

/-- 'laws.FnExactPowerAtRoots': WHATEVER THE INPUT: true; the input reads as it did. -/
def fnExactPowerAtRootsSpec : ChangeSpec := { name := "fnExactPowerAtRoots", fn := fun _ => fun
  | [d] => { results := [.lit (.bool true)], args := [d] }
  | _ => none }
def fnExactPowerAtRootsRow : OpenClaim := { program := "ytmckophclehkpaa", sum := "97b4b9c55aa303a49927d93f12ab56b3a58eba10d5bbb1d6c943f0b5a7c61c9e", func := "loop.example/g01177/laws.FnExactPowerAtRoots", spec := "fnExactPowerAtRoots", apart := false }
def FnExactPowerAtRootsSaid : Prop := fnExactPowerAtRootsRow.holds Try.pinned (OpenSpec.ofChange fnExactPowerAtRootsSpec)

/-- ITS FALSE NEIGHBOUR: 'it returns false'. Refute it at one input. -/
def fnExactPowerAtRootsWrong : ChangeSpec := { name := "fnExactPowerAtRoots", fn := fun _ => fun
  | [d] => { results := [.lit (.bool false)], args := [d] }
  | _ => none }
def FnExactPowerAtRootsWrongFalsely : Prop := fnExactPowerAtRootsRow.holds Try.pinned (OpenSpec.ofChange fnExactPowerAtRootsWrong)

/- THE SECOND FORM. 'bulk': how many values and letters a reading holds, each counted each time it is reached (what is shared counts as often as it is met; a slice's spare places count too). A statement '..UptoSaid' is the law's where the arguments, and the package variables that the reading takes, are together of bulk at most 1048576: NARROWER than '..Said'. Prove '..Said' where nothing that the law and all that it calls make is longer than what came in: it says more and counts as full. Else prove '..UptoSaid'. A law counts once. -/
mutual
def uptoBulk {H : Type} : DataW H → Nat
  | .lit (.string bytes) => bytes.length + 1
  | .lit _ => 1
  | .nil => 1
  | .ptr d => uptoBulk d + 1
  | .slice elems spare => uptoBulkAll elems + uptoBulkAll spare + 1
  | .agg parts => uptoBulkAll parts + 1
  | .iface _ d => uptoBulk d + 1
  | .map entries => uptoBulkEntries entries + 1
  | .held _ => 1
def uptoBulkAll {H : Type} : List (DataW H) → Nat
  | [] => 0
  | d :: r => uptoBulk d + uptoBulkAll r
def uptoBulkEntries {H : Type} : List (Lit × DataW H) → Nat
  | [] => 0
  | x :: r => uptoBulkEntry x + uptoBulkEntries r
def uptoBulkEntry {H : Type} : Lit × DataW H → Nat
  | (.string bytes, d) => bytes.length + uptoBulk d + 1
  | (_, d) => uptoBulk d + 1
 end
def uptoSmall : (H : Type) → List (DataW H) → Bool := fun _ ds => decide (uptoBulkAll ds ≤ 1048576)
def OpenSpec.upto (s : _root_.Go.ChangeSpec) : _root_.Go.OpenSpec := { _root_.Go.OpenSpec.ofChange s with cond := some uptoSmall }

/-- 'laws.FnExactAperiodicAt', WHERE WHAT IT READS IS OF BULK AT MOST 1048576: true; the input reads as it did. -/
def fnExactAperiodicAtUptoRow : OpenClaim := { program := "ytmckophclehkpaa", sum := "97b4b9c55aa303a49927d93f12ab56b3a58eba10d5bbb1d6c943f0b5a7c61c9e", func := "loop.example/g01177/laws.FnExactAperiodicAt", spec := "fnExactAperiodicAt", apart := false, narrowed := true }
def FnExactAperiodicAtUptoSaid : Prop := fnExactAperiodicAtUptoRow.holds Try.pinned (OpenSpec.upto fnExactAperiodicAtSpec)

/-- 'laws.FnExactPeriodicAt', WHERE WHAT IT READS IS OF BULK AT MOST 1048576: true; the input reads as it did. -/
def fnExactPeriodicAtUptoRow : OpenClaim := { program := "ytmckophclehkpaa", sum := "97b4b9c55aa303a49927d93f12ab56b3a58eba10d5bbb1d6c943f0b5a7c61c9e", func := "loop.example/g01177/laws.FnExactPeriodicAt", spec := "fnExactPeriodicAt", apart := false, narrowed := true }
def FnExactPeriodicAtUptoSaid : Prop := fnExactPeriodicAtUptoRow.holds Try.pinned (OpenSpec.upto fnExactPeriodicAtSpec)

/-- 'laws.FnExactOwnCorrelations', WHERE WHAT IT READS IS OF BULK AT MOST 1048576: true; the input reads as it did. -/
def fnExactOwnCorrelationsUptoRow : OpenClaim := { program := "ytmckophclehkpaa", sum := "97b4b9c55aa303a49927d93f12ab56b3a58eba10d5bbb1d6c943f0b5a7c61c9e", func := "loop.example/g01177/laws.FnExactOwnCorrelations", spec := "fnExactOwnCorrelations", unfollowed := true, recurses := true, apart := false, narrowed := true }
def FnExactOwnCorrelationsUptoSaid : Prop := fnExactOwnCorrelationsUptoRow.holds Try.pinned (OpenSpec.upto fnExactOwnCorrelationsSpec)

/-- 'laws.FnExactPeriodicCorrelations', WHERE WHAT IT READS IS OF BULK AT MOST 1048576: true; the input reads as it did. -/
def fnExactPeriodicCorrelationsUptoRow : OpenClaim := { program := "ytmckophclehkpaa", sum := "97b4b9c55aa303a49927d93f12ab56b3a58eba10d5bbb1d6c943f0b5a7c61c9e", func := "loop.example/g01177/laws.FnExactPeriodicCorrelations", spec := "fnExactPeriodicCorrelations", unfollowed := true, recurses := true, apart := false, narrowed := true }
def FnExactPeriodicCorrelationsUptoSaid : Prop := fnExactPeriodicCorrelationsUptoRow.holds Try.pinned (OpenSpec.upto fnExactPeriodicCorrelationsSpec)

/-- 'laws.FnExactCrossCorrelations', WHERE WHAT IT READS IS OF BULK AT MOST 1048576: true; the input reads as it did. -/
def fnExactCrossCorrelationsUptoRow : OpenClaim := { program := "ytmckophclehkpaa", sum := "97b4b9c55aa303a49927d93f12ab56b3a58eba10d5bbb1d6c943f0b5a7c61c9e", func := "loop.example/g01177/laws.FnExactCrossCorrelations", spec := "fnExactCrossCorrelations", unfollowed := true, recurses := true, apart := false, narrowed := true }
def FnExactCrossCorrelationsUptoSaid : Prop := fnExactCrossCorrelationsUptoRow.holds Try.pinned (OpenSpec.upto fnExactCrossCorrelationsSpec)

/-- 'laws.FnExactValueAtRoot', WHERE WHAT IT READS IS OF BULK AT MOST 1048576: true; the input reads as it did. -/
def fnExactValueAtRootUptoRow : OpenClaim := { program := "ytmckophclehkpaa", sum := "97b4b9c55aa303a49927d93f12ab56b3a58eba10d5bbb1d6c943f0b5a7c61c9e", func := "loop.example/g01177/laws.FnExactValueAtRoot", spec := "fnExactValueAtRoot", apart := false, narrowed := true }
def FnExactValueAtRootUptoSaid : Prop := fnExactValueAtRootUptoRow.holds Try.pinned (OpenSpec.upto fnExactValueAtRootSpec)

/-- 'laws.FnExactPowerAtRoots', WHERE WHAT IT READS IS OF BULK AT MOST 1048576: true; the input reads as it did. -/
def fnExactPowerAtRootsUptoRow : OpenClaim := { program := "ytmckophclehkpaa", sum := "97b4b9c55aa303a49927d93f12ab56b3a58eba10d5bbb1d6c943f0b5a7c61c9e", func := "loop.example/g01177/laws.FnExactPowerAtRoots", spec := "fnExactPowerAtRoots", apart := false, narrowed := true }
def FnExactPowerAtRootsUptoSaid : Prop := fnExactPowerAtRootsUptoRow.holds Try.pinned (OpenSpec.upto fnExactPowerAtRootsSpec)

end Rows
end Go.Proofs.Ytmckophclehkpaa
