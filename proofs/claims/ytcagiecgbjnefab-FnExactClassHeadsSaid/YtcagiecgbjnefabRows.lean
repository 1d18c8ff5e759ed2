/-
  No cell of these rows narrows 'for every input' (looked for: loops, veiled, ifaces, maps, wideKeys, modest, calm, conditions, laid).
  DERIVED. THE GIVEN ROWS OF THIS SEAT. 7 by the template 'for every input the law returns true; each argument reads behind the call as it read before'; 0 by the template 'total and deterministic' (their statements: YtcagiecgbjnefabTotals.lean).
  GIVEN WITH THE SEED: the statements are not yours to turn. If you find one false, say at which input.
  Laid BY PROGRAM, IN A SANDBOX (cutbox-rows.mjs): the forced cells as the released guide's own fill.sh prints them over the translation d7d7883ffcced89c… (all of the seat's roots in one cut). By AI agents, Wed Nov 11 2026. No macro, syntax, notation, axiom, sorry.
-/
import Derived.Test.YtcagiecgbjnefabChecked
import GoSem.Claim
import GoSem.ClaimJoined
import GoSem.ClaimMapViews
import Derived.JoinedTies
import Derived.KernelRfl
namespace Go.Proofs.Ytcagiecgbjnefab
/- THE CELL 'sum', in the pinned program and in every row, IS THE sha256 OF THE DUMP (.gsa) THAT YtcagiecgbjnefabProg.lean LOADS. Nothing in Lean hashes anything: it is a label: what it is worth is what the hold of that sum in a sandbox is worth. -/
noncomputable def Try.pinned : Pinned := { name := "ytcagiecgbjnefab", sum := "d7d7883ffcced89c4b2727a91d4d2c62ac8a2894f8c1d05d567060bedc34615e", checked := Try.checked }
namespace Rows
def none {H : Type} : Left H := { results := [], args := [] }

/-- 'laws.FnExactOrbitOf': WHATEVER THE INPUT: true; the input reads as it did. -/
def fnExactOrbitOfSpec : ChangeSpec := { name := "fnExactOrbitOf", fn := fun _ => fun
  | [d] => { results := [.lit (.bool true)], args := [d] }
  | _ => none }
def fnExactOrbitOfRow : OpenClaim := { program := "ytcagiecgbjnefab", sum := "d7d7883ffcced89c4b2727a91d4d2c62ac8a2894f8c1d05d567060bedc34615e", func := "loop.example/g01177/laws.FnExactOrbitOf", spec := "fnExactOrbitOf", unfollowed := true, recurses := true, plainKeys := false, apart := false }
def FnExactOrbitOfSaid : Prop := fnExactOrbitOfRow.holds Try.pinned (OpenSpec.ofChange fnExactOrbitOfSpec)

/-- ITS FALSE NEIGHBOUR: 'it returns false'. Refute it at one input. -/
def fnExactOrbitOfWrong : ChangeSpec := { name := "fnExactOrbitOf", fn := fun _ => fun
  | [d] => { results := [.lit (.bool false)], args := [d] }
  | _ => none }
def FnExactOrbitOfWrongFalsely : Prop := fnExactOrbitOfRow.holds Try.pinned (OpenSpec.ofChange fnExactOrbitOfWrong)

/-- 'laws.FnExactLeastOf': WHATEVER THE INPUT: true; the input reads as it did. -/
def fnExactLeastOfSpec : ChangeSpec := { name := "fnExactLeastOf", fn := fun _ => fun
  | [d] => { results := [.lit (.bool true)], args := [d] }
  | _ => none }
def fnExactLeastOfRow : OpenClaim := { program := "ytcagiecgbjnefab", sum := "d7d7883ffcced89c4b2727a91d4d2c62ac8a2894f8c1d05d567060bedc34615e", func := "loop.example/g01177/laws.FnExactLeastOf", spec := "fnExactLeastOf", unfollowed := true, recurses := true, plainKeys := false, apart := false }
def FnExactLeastOfSaid : Prop := fnExactLeastOfRow.holds Try.pinned (OpenSpec.ofChange fnExactLeastOfSpec)

/-- ITS FALSE NEIGHBOUR: 'it returns false'. Refute it at one input. -/
def fnExactLeastOfWrong : ChangeSpec := { name := "fnExactLeastOf", fn := fun _ => fun
  | [d] => { results := [.lit (.bool false)], args := [d] }
  | _ => none }
def FnExactLeastOfWrongFalsely : Prop := fnExactLeastOfRow.holds Try.pinned (OpenSpec.ofChange fnExactLeastOfWrong)

/-- 'laws.FnExactAreEquivalent': WHATEVER THE INPUT: true; the input reads as it did. -/
def fnExactAreEquivalentSpec : ChangeSpec := { name := "fnExactAreEquivalent", fn := fun _ => fun
  | [d1, d2] => { results := [.lit (.bool true)], args := [d1, d2] }
  | _ => none }
def fnExactAreEquivalentRow : OpenClaim := { program := "ytcagiecgbjnefab", sum := "d7d7883ffcced89c4b2727a91d4d2c62ac8a2894f8c1d05d567060bedc34615e", func := "loop.example/g01177/laws.FnExactAreEquivalent", spec := "fnExactAreEquivalent", unfollowed := true, recurses := true, plainKeys := false, apart := false }
def FnExactAreEquivalentSaid : Prop := fnExactAreEquivalentRow.holds Try.pinned (OpenSpec.ofChange fnExactAreEquivalentSpec)

/-- ITS FALSE NEIGHBOUR: 'it returns false'. Refute it at one input. -/
def fnExactAreEquivalentWrong : ChangeSpec := { name := "fnExactAreEquivalent", fn := fun _ => fun
  | [d1, d2] => { results := [.lit (.bool false)], args := [d1, d2] }
  | _ => none }
def FnExactAreEquivalentWrongFalsely : Prop := fnExactAreEquivalentRow.holds Try.pinned (OpenSpec.ofChange fnExactAreEquivalentWrong)

/-- 'laws.FnExactCountClasses': WHATEVER THE INPUT: true; the input reads as it did. -/
def fnExactCountClassesSpec : ChangeSpec := { name := "fnExactCountClasses", fn := fun _ => fun
  | [d] => { results := [.lit (.bool true)], args := [d] }
  | _ => none }
def fnExactCountClassesRow : OpenClaim := { program := "ytcagiecgbjnefab", sum := "d7d7883ffcced89c4b2727a91d4d2c62ac8a2894f8c1d05d567060bedc34615e", func := "loop.example/g01177/laws.FnExactCountClasses", spec := "fnExactCountClasses", unfollowed := true, recurses := true, plainKeys := false, apart := false }
def FnExactCountClassesSaid : Prop := fnExactCountClassesRow.holds Try.pinned (OpenSpec.ofChange fnExactCountClassesSpec)

/-- ITS FALSE NEIGHBOUR: 'it returns false'. Refute it at one input. -/
def fnExactCountClassesWrong : ChangeSpec := { name := "fnExactCountClasses", fn := fun _ => fun
  | [d] => { results := [.lit (.bool false)], args := [d] }
  | _ => none }
def FnExactCountClassesWrongFalsely : Prop := fnExactCountClassesRow.holds Try.pinned (OpenSpec.ofChange fnExactCountClassesWrong)

/-- 'laws.FnExactClassHeads': WHATEVER THE INPUT: true; the input reads as it did. -/
def fnExactClassHeadsSpec : ChangeSpec := { name := "fnExactClassHeads", fn := fun _ => fun
  | [d] => { results := [.lit (.bool true)], args := [d] }
  | _ => none }
def fnExactClassHeadsRow : OpenClaim := { program := "ytcagiecgbjnefab", sum := "d7d7883ffcced89c4b2727a91d4d2c62ac8a2894f8c1d05d567060bedc34615e", func := "loop.example/g01177/laws.FnExactClassHeads", spec := "fnExactClassHeads", unfollowed := true, recurses := true, plainKeys := false, apart := false }
def FnExactClassHeadsSaid : Prop := fnExactClassHeadsRow.holds Try.pinned (OpenSpec.ofChange fnExactClassHeadsSpec)

/-- ITS FALSE NEIGHBOUR: 'it returns false'. Refute it at one input. -/
def fnExactClassHeadsWrong : ChangeSpec := { name := "fnExactClassHeads", fn := fun _ => fun
  | [d] => { results := [.lit (.bool false)], args := [d] }
  | _ => none }
def FnExactClassHeadsWrongFalsely : Prop := fnExactClassHeadsRow.holds Try.pinned (OpenSpec.ofChange fnExactClassHeadsWrong)

/-- 'laws.FnExactClassEnergies': WHATEVER THE INPUT: true; the input reads as it did. -/
def fnExactClassEnergiesSpec : ChangeSpec := { name := "fnExactClassEnergies", fn := fun _ => fun
  | [d] => { results := [.lit (.bool true)], args := [d] }
  | _ => none }
def fnExactClassEnergiesRow : OpenClaim := { program := "ytcagiecgbjnefab", sum := "d7d7883ffcced89c4b2727a91d4d2c62ac8a2894f8c1d05d567060bedc34615e", func := "loop.example/g01177/laws.FnExactClassEnergies", spec := "fnExactClassEnergies", unfollowed := true, recurses := true, plainKeys := false, apart := false }
def FnExactClassEnergiesSaid : Prop := fnExactClassEnergiesRow.holds Try.pinned (OpenSpec.ofChange fnExactClassEnergiesSpec)

/-- ITS FALSE NEIGHBOUR: 'it returns false'. Refute it at one input. -/
def fnExactClassEnergiesWrong : ChangeSpec := { name := "fnExactClassEnergies", fn := fun _ => fun
  | [d] => { results := [.lit (.bool false)], args := [d] }
  | _ => none }
def FnExactClassEnergiesWrongFalsely : Prop := fnExactClassEnergiesRow.holds Try.pinned (OpenSpec.ofChange fnExactClassEnergiesWrong)

/-- 'laws.FnExactGreatestSet': WHATEVER THE INPUT: true; the input reads as it did. -/
def fnExactGreatestSetSpec : ChangeSpec := { name := "fnExactGreatestSet", fn := fun _ => fun
  | [d] => { results := [.lit (.bool true)], args := [d] }
  | _ => none }
def fnExactGreatestSetRow : OpenClaim := { program := "ytcagiecgbjnefab", sum := "d7d7883ffcced89c4b2727a91d4d2c62ac8a2894f8c1d05d567060bedc34615e", func := "loop.example/g01177/laws.FnExactGreatestSet", spec := "fnExactGreatestSet", unfollowed := true, recurses := true, plainKeys := false, apart := false }
def FnExactGreatestSetSaid : Prop := fnExactGreatestSetRow.holds Try.pinned (OpenSpec.ofChange fnExactGreatestSetSpec)

/-- ITS FALSE NEIGHBOUR: 'it returns false'. Refute it at one input. -/
def fnExactGreatestSetWrong : ChangeSpec := { name := "fnExactGreatestSet", fn := fun _ => fun
  | [d] => { results := [.lit (.bool false)], args := [d] }
  | _ => none }
def FnExactGreatestSetWrongFalsely : Prop := fnExactGreatestSetRow.holds Try.pinned (OpenSpec.ofChange fnExactGreatestSetWrong)

/- THE SECOND FORM. 'bulk': how many values and letters a reading holds, each counted each time it is reached (what is shared counts as often as it is met; a slice's spare places count too). A statement '..UptoSaid' is the law's where the arguments, and the package variables that the reading takes, are together of bulk at most 1048576: NARROWER than '..Said'. Prove '..Said' where nothing that the law and all that it calls make is longer than what came in: it says more and counts as full. Else prove '..UptoSaid'. A law counts once. -/
mutual
def uptoBulk {H : Type} : DataW H → Nat
  | .lit (.string bytes) => bytes.length + 1
  | .lit _ => 1
  | .nil => 1
  | .ptr d => uptoBulk d + 1
  | .slice elems spare => uptoBulkAll elems + uptoBulkAll spare + 1
  | .agg parts => uptoBulkAll parts + 1
  | .iface _ d => uptoBulk d + 1
  | .map entries => uptoBulkEntries entries + 1
  | .held _ => 1
def uptoBulkAll {H : Type} : List (DataW H) → Nat
  | [] => 0
  | d :: r => uptoBulk d + uptoBulkAll r
def uptoBulkEntries {H : Type} : List (Lit × DataW H) → Nat
  | [] => 0
  | x :: r => uptoBulkEntry x + uptoBulkEntries r
def uptoBulkEntry {H : Type} : Lit × DataW H → Nat
  | (.string bytes, d) => bytes.length + uptoBulk d + 1
  | (_, d) => uptoBulk d + 1
 end
def uptoSmall : (H : Type) → List (DataW H) → Bool := fun _ ds => decide (uptoBulkAll ds ≤ 1048576)
def OpenSpec.upto (s : _root_.Go.ChangeSpec) : _root_.Go.OpenSpec := { _root_.Go.OpenSpec.ofChange s with cond := some uptoSmall }

/-- 'laws.FnExactOrbitOf', WHERE WHAT IT READS IS OF BULK AT MOST 1048576: true; the input reads as it did. -/
def fnExactOrbitOfUptoRow : OpenClaim := { program := "ytcagiecgbjnefab", sum := "d7d7883ffcced89c4b2727a91d4d2c62ac8a2894f8c1d05d567060bedc34615e", func := "loop.example/g01177/laws.FnExactOrbitOf", spec := "fnExactOrbitOf", unfollowed := true, recurses := true, plainKeys := false, apart := false, narrowed := true }
def FnExactOrbitOfUptoSaid : Prop := fnExactOrbitOfUptoRow.holds Try.pinned (OpenSpec.upto fnExactOrbitOfSpec)

/-- 'laws.FnExactLeastOf', WHERE WHAT IT READS IS OF BULK AT MOST 1048576: true; the input reads as it did. -/
def fnExactLeastOfUptoRow : OpenClaim := { program := "ytcagiecgbjnefab", sum := "d7d7883ffcced89c4b2727a91d4d2c62ac8a2894f8c1d05d567060bedc34615e", func := "loop.example/g01177/laws.FnExactLeastOf", spec := "fnExactLeastOf", unfollowed := true, recurses := true, plainKeys := false, apart := false, narrowed := true }
def FnExactLeastOfUptoSaid : Prop := fnExactLeastOfUptoRow.holds Try.pinned (OpenSpec.upto fnExactLeastOfSpec)

/-- 'laws.FnExactAreEquivalent', WHERE WHAT IT READS IS OF BULK AT MOST 1048576: true; the input reads as it did. -/
def fnExactAreEquivalentUptoRow : OpenClaim := { program := "ytcagiecgbjnefab", sum := "d7d7883ffcced89c4b2727a91d4d2c62ac8a2894f8c1d05d567060bedc34615e", func := "loop.example/g01177/laws.FnExactAreEquivalent", spec := "fnExactAreEquivalent", unfollowed := true, recurses := true, plainKeys := false, apart := false, narrowed := true }
def FnExactAreEquivalentUptoSaid : Prop := fnExactAreEquivalentUptoRow.holds Try.pinned (OpenSpec.upto fnExactAreEquivalentSpec)

/-- 'laws.FnExactCountClasses', WHERE WHAT IT READS IS OF BULK AT MOST 1048576: true; the input reads as it did. -/
def fnExactCountClassesUptoRow : OpenClaim := { program := "ytcagiecgbjnefab", sum := "d7d7883ffcced89c4b2727a91d4d2c62ac8a2894f8c1d05d567060bedc34615e", func := "loop.example/g01177/laws.FnExactCountClasses", spec := "fnExactCountClasses", unfollowed := true, recurses := true, plainKeys := false, apart := false, narrowed := true }
def FnExactCountClassesUptoSaid : Prop := fnExactCountClassesUptoRow.holds Try.pinned (OpenSpec.upto fnExactCountClassesSpec)

/-- 'laws.FnExactClassHeads', WHERE WHAT IT READS IS OF BULK AT MOST 1048576: true; the input reads as it did. -/
def fnExactClassHeadsUptoRow : OpenClaim := { program := "ytcagiecgbjnefab", sum := "d7d7883ffcced89c4b2727a91d4d2c62ac8a2894f8c1d05d567060bedc34615e", func := "loop.example/g01177/laws.FnExactClassHeads", spec := "fnExactClassHeads", unfollowed := true, recurses := true, plainKeys := false, apart := false, narrowed := true }
def FnExactClassHeadsUptoSaid : Prop := fnExactClassHeadsUptoRow.holds Try.pinned (OpenSpec.upto fnExactClassHeadsSpec)

/-- 'laws.FnExactClassEnergies', WHERE WHAT IT READS IS OF BULK AT MOST 1048576: true; the input reads as it did. -/
def fnExactClassEnergiesUptoRow : OpenClaim := { program := "ytcagiecgbjnefab", sum := "d7d7883ffcced89c4b2727a91d4d2c62ac8a2894f8c1d05d567060bedc34615e", func := "loop.example/g01177/laws.FnExactClassEnergies", spec := "fnExactClassEnergies", unfollowed := true, recurses := true, plainKeys := false, apart := false, narrowed := true }
def FnExactClassEnergiesUptoSaid : Prop := fnExactClassEnergiesUptoRow.holds Try.pinned (OpenSpec.upto fnExactClassEnergiesSpec)

/-- 'laws.FnExactGreatestSet', WHERE WHAT IT READS IS OF BULK AT MOST 1048576: true; the input reads as it did. -/
def fnExactGreatestSetUptoRow : OpenClaim := { program := "ytcagiecgbjnefab", sum := "d7d7883ffcced89c4b2727a91d4d2c62ac8a2894f8c1d05d567060bedc34615e", func := "loop.example/g01177/laws.FnExactGreatestSet", spec := "fnExactGreatestSet", unfollowed := true, recurses := true, plainKeys := false, apart := false, narrowed := true }
def FnExactGreatestSetUptoSaid : Prop := fnExactGreatestSetUptoRow.holds Try.pinned (OpenSpec.upto fnExactGreatestSetSpec)

end Rows
end Go.Proofs.Ytcagiecgbjnefab
