/-
  No cell of these rows narrows 'for every input' (looked for: loops, veiled, ifaces, maps, wideKeys, modest, calm, conditions, laid).
  DERIVED. THE GIVEN ROWS OF THIS SEAT. 7 by the template 'for every input the law returns true; each argument reads behind the call as it read before'; 0 by the template 'total and deterministic' (their statements: YtoehehaeanepmabTotals.lean).
  GIVEN WITH THE SEED: the statements are not yours to turn. If you find one false, say at which input.
  Laid BY PROGRAM, IN A SANDBOX (cutbox-rows.mjs): the forced cells as the released guide's own fill.sh prints them over the translation 93d2dd593a18e622… (all of the seat's roots in one cut). By AI agents, Wed Nov 11 2026. No macro, syntax, notation, axiom, sorry.
-/
import Derived.Test.YtoehehaeanepmabChecked
import GoSem.Claim
import GoSem.ClaimJoined
import GoSem.ClaimMapViews
import Derived.JoinedTies
import Derived.KernelRfl
namespace Go.Proofs.Ytoehehaeanepmab
/- THE CELL 'sum', in the pinned program and in every row, IS THE sha256 OF THE DUMP (.gsa) THAT YtoehehaeanepmabProg.lean LOADS. Nothing in Lean hashes anything: it is a label: what it is worth is what the hold of that sum in a sandbox is worth. -/
noncomputable def Try.pinned : Pinned := { name := "ytoehehaeanepmab", sum := "93d2dd593a18e6228165411ec70ee97ed06351176d81169ac5ef799aa1d017bf", checked := Try.checked }
namespace Rows
def none {H : Type} : Left H := { results := [], args := [] }

/-- 'laws.FnExactPointsOf': WHATEVER THE INPUT: true; the input reads as it did. -/
def fnExactPointsOfSpec : ChangeSpec := { name := "fnExactPointsOf", fn := fun _ => fun
  | [d1, d2] => { results := [.lit (.bool true)], args := [d1, d2] }
  | _ => none }
def fnExactPointsOfRow : OpenClaim := { program := "ytoehehaeanepmab", sum := "93d2dd593a18e6228165411ec70ee97ed06351176d81169ac5ef799aa1d017bf", func := "loop.example/g01177/laws.FnExactPointsOf", spec := "fnExactPointsOf", apart := false }
def FnExactPointsOfSaid : Prop := fnExactPointsOfRow.holds Try.pinned (OpenSpec.ofChange fnExactPointsOfSpec)

/-- ITS FALSE NEIGHBOUR: 'it returns false'. Refute it at one input. -/
def fnExactPointsOfWrong : ChangeSpec := { name := "fnExactPointsOf", fn := fun _ => fun
  | [d1, d2] => { results := [.lit (.bool false)], args := [d1, d2] }
  | _ => none }
def FnExactPointsOfWrongFalsely : Prop := fnExactPointsOfRow.holds Try.pinned (OpenSpec.ofChange fnExactPointsOfWrong)

/-- 'laws.FnExactTurnPoints': WHATEVER THE INPUT: true; the input reads as it did. -/
def fnExactTurnPointsSpec : ChangeSpec := { name := "fnExactTurnPoints", fn := fun _ => fun
  | [d1, d2] => { results := [.lit (.bool true)], args := [d1, d2] }
  | _ => none }
def fnExactTurnPointsRow : OpenClaim := { program := "ytoehehaeanepmab", sum := "93d2dd593a18e6228165411ec70ee97ed06351176d81169ac5ef799aa1d017bf", func := "loop.example/g01177/laws.FnExactTurnPoints", spec := "fnExactTurnPoints", apart := false }
def FnExactTurnPointsSaid : Prop := fnExactTurnPointsRow.holds Try.pinned (OpenSpec.ofChange fnExactTurnPointsSpec)

/-- ITS FALSE NEIGHBOUR: 'it returns false'. Refute it at one input. -/
def fnExactTurnPointsWrong : ChangeSpec := { name := "fnExactTurnPoints", fn := fun _ => fun
  | [d1, d2] => { results := [.lit (.bool false)], args := [d1, d2] }
  | _ => none }
def FnExactTurnPointsWrongFalsely : Prop := fnExactTurnPointsRow.holds Try.pinned (OpenSpec.ofChange fnExactTurnPointsWrong)

/-- 'laws.FnExactBestTurn': WHATEVER THE INPUT: true; the input reads as it did. -/
def fnExactBestTurnSpec : ChangeSpec := { name := "fnExactBestTurn", fn := fun _ => fun
  | [d1, d2] => { results := [.lit (.bool true)], args := [d1, d2] }
  | _ => none }
def fnExactBestTurnRow : OpenClaim := { program := "ytoehehaeanepmab", sum := "93d2dd593a18e6228165411ec70ee97ed06351176d81169ac5ef799aa1d017bf", func := "loop.example/g01177/laws.FnExactBestTurn", spec := "fnExactBestTurn", apart := false }
def FnExactBestTurnSaid : Prop := fnExactBestTurnRow.holds Try.pinned (OpenSpec.ofChange fnExactBestTurnSpec)

/-- ITS FALSE NEIGHBOUR: 'it returns false'. Refute it at one input. -/
def fnExactBestTurnWrong : ChangeSpec := { name := "fnExactBestTurn", fn := fun _ => fun
  | [d1, d2] => { results := [.lit (.bool false)], args := [d1, d2] }
  | _ => none }
def FnExactBestTurnWrongFalsely : Prop := fnExactBestTurnRow.holds Try.pinned (OpenSpec.ofChange fnExactBestTurnWrong)

/-- 'laws.FnExactSendFrame': WHATEVER THE INPUT: true; the input reads as it did. -/
def fnExactSendFrameSpec : ChangeSpec := { name := "fnExactSendFrame", fn := fun _ => fun
  | [d1, d2, d3] => { results := [.lit (.bool true)], args := [d1, d2, d3] }
  | _ => none }
def fnExactSendFrameRow : OpenClaim := { program := "ytoehehaeanepmab", sum := "93d2dd593a18e6228165411ec70ee97ed06351176d81169ac5ef799aa1d017bf", func := "loop.example/g01177/laws.FnExactSendFrame", spec := "fnExactSendFrame", apart := false }
def FnExactSendFrameSaid : Prop := fnExactSendFrameRow.holds Try.pinned (OpenSpec.ofChange fnExactSendFrameSpec)

/-- ITS FALSE NEIGHBOUR: 'it returns false'. Refute it at one input. -/
def fnExactSendFrameWrong : ChangeSpec := { name := "fnExactSendFrame", fn := fun _ => fun
  | [d1, d2, d3] => { results := [.lit (.bool false)], args := [d1, d2, d3] }
  | _ => none }
def FnExactSendFrameWrongFalsely : Prop := fnExactSendFrameRow.holds Try.pinned (OpenSpec.ofChange fnExactSendFrameWrong)

/-- 'laws.FnExactFindFrame': WHATEVER THE INPUT: true; the input reads as it did. -/
def fnExactFindFrameSpec : ChangeSpec := { name := "fnExactFindFrame", fn := fun _ => fun
  | [d1, d2] => { results := [.lit (.bool true)], args := [d1, d2] }
  | _ => none }
def fnExactFindFrameRow : OpenClaim := { program := "ytoehehaeanepmab", sum := "93d2dd593a18e6228165411ec70ee97ed06351176d81169ac5ef799aa1d017bf", func := "loop.example/g01177/laws.FnExactFindFrame", spec := "fnExactFindFrame", unfollowed := true, recurses := true, leaving := true, apart := false }
def FnExactFindFrameSaid : Prop := fnExactFindFrameRow.holds Try.pinned (OpenSpec.ofChange fnExactFindFrameSpec)

/-- ITS FALSE NEIGHBOUR: 'it returns false'. Refute it at one input. -/
def fnExactFindFrameWrong : ChangeSpec := { name := "fnExactFindFrame", fn := fun _ => fun
  | [d1, d2] => { results := [.lit (.bool false)], args := [d1, d2] }
  | _ => none }
def FnExactFindFrameWrongFalsely : Prop := fnExactFindFrameRow.holds Try.pinned (OpenSpec.ofChange fnExactFindFrameWrong)

/-- 'laws.FnExactAllFrames': WHATEVER THE INPUT: true; the input reads as it did. -/
def fnExactAllFramesSpec : ChangeSpec := { name := "fnExactAllFrames", fn := fun _ => fun
  | [d1, d2] => { results := [.lit (.bool true)], args := [d1, d2] }
  | _ => none }
def fnExactAllFramesRow : OpenClaim := { program := "ytoehehaeanepmab", sum := "93d2dd593a18e6228165411ec70ee97ed06351176d81169ac5ef799aa1d017bf", func := "loop.example/g01177/laws.FnExactAllFrames", spec := "fnExactAllFrames", unfollowed := true, recurses := true, leaving := true, apart := false }
def FnExactAllFramesSaid : Prop := fnExactAllFramesRow.holds Try.pinned (OpenSpec.ofChange fnExactAllFramesSpec)

/-- ITS FALSE NEIGHBOUR: 'it returns false'. Refute it at one input. -/
def fnExactAllFramesWrong : ChangeSpec := { name := "fnExactAllFrames", fn := fun _ => fun
  | [d1, d2] => { results := [.lit (.bool false)], args := [d1, d2] }
  | _ => none }
def FnExactAllFramesWrongFalsely : Prop := fnExactAllFramesRow.holds Try.pinned (OpenSpec.ofChange fnExactAllFramesWrong)

/-- 'laws.FnExactReceiveFrame': WHATEVER THE INPUT: true; the input reads as it did. -/
def fnExactReceiveFrameSpec : ChangeSpec := { name := "fnExactReceiveFrame", fn := fun _ => fun
  | [d1, d2, d3] => { results := [.lit (.bool true)], args := [d1, d2, d3] }
  | _ => none }
def fnExactReceiveFrameRow : OpenClaim := { program := "ytoehehaeanepmab", sum := "93d2dd593a18e6228165411ec70ee97ed06351176d81169ac5ef799aa1d017bf", func := "loop.example/g01177/laws.FnExactReceiveFrame", spec := "fnExactReceiveFrame", unfollowed := true, recurses := true, leaving := true, apart := false }
def FnExactReceiveFrameSaid : Prop := fnExactReceiveFrameRow.holds Try.pinned (OpenSpec.ofChange fnExactReceiveFrameSpec)

/-- ITS FALSE NEIGHBOUR: 'it returns false'. Refute it at one input. -/
def fnExactReceiveFrameWrong : ChangeSpec := { name := "fnExactReceiveFrame", fn := fun _ => fun
  | [d1, d2, d3] => { results := [.lit (.bool false)], args := [d1, d2, d3] }
  | _ => none }
def FnExactReceiveFrameWrongFalsely : Prop := fnExactReceiveFrameRow.holds Try.pinned (OpenSpec.ofChange fnExactReceiveFrameWrong)

/- THE SECOND FORM. 'bulk': how many values and letters a reading holds, each counted each time it is reached (what is shared counts as often as it is met; a slice's spare places count too). A statement '..UptoSaid' is the law's where the arguments, and the package variables that the reading takes, are together of bulk at most 1048576: NARROWER than '..Said'. Prove '..Said' where nothing that the law and all that it calls make is longer than what came in: it says more and counts as full. Else prove '..UptoSaid'. A law counts once. -/
mutual
def uptoBulk {H : Type} : DataW H → Nat
  | .lit (.string bytes) => bytes.length + 1
  | .lit _ => 1
  | .nil => 1
  | .ptr d => uptoBulk d + 1
  | .slice elems spare => uptoBulkAll elems + uptoBulkAll spare + 1
  | .agg parts => uptoBulkAll parts + 1
  | .iface _ d => uptoBulk d + 1
  | .map entries => uptoBulkEntries entries + 1
  | .held _ => 1
def uptoBulkAll {H : Type} : List (DataW H) → Nat
  | [] => 0
  | d :: r => uptoBulk d + uptoBulkAll r
def uptoBulkEntries {H : Type} : List (Lit × DataW H) → Nat
  | [] => 0
  | x :: r => uptoBulkEntry x + uptoBulkEntries r
def uptoBulkEntry {H : Type} : Lit × DataW H → Nat
  | (.string bytes, d) => bytes.length + uptoBulk d + 1
  | (_, d) => uptoBulk d + 1
 end
def uptoSmall : (H : Type) → List (DataW H) → Bool := fun _ ds => decide (uptoBulkAll ds ≤ 1048576)
def OpenSpec.upto (s : _root_.Go.ChangeSpec) : _root_.Go.OpenSpec := { _root_.Go.OpenSpec.ofChange s with cond := some uptoSmall }

/-- 'laws.FnExactPointsOf', WHERE WHAT IT READS IS OF BULK AT MOST 1048576: true; the input reads as it did. -/
def fnExactPointsOfUptoRow : OpenClaim := { program := "ytoehehaeanepmab", sum := "93d2dd593a18e6228165411ec70ee97ed06351176d81169ac5ef799aa1d017bf", func := "loop.example/g01177/laws.FnExactPointsOf", spec := "fnExactPointsOf", apart := false, narrowed := true }
def FnExactPointsOfUptoSaid : Prop := fnExactPointsOfUptoRow.holds Try.pinned (OpenSpec.upto fnExactPointsOfSpec)

/-- 'laws.FnExactTurnPoints', WHERE WHAT IT READS IS OF BULK AT MOST 1048576: true; the input reads as it did. -/
def fnExactTurnPointsUptoRow : OpenClaim := { program := "ytoehehaeanepmab", sum := "93d2dd593a18e6228165411ec70ee97ed06351176d81169ac5ef799aa1d017bf", func := "loop.example/g01177/laws.FnExactTurnPoints", spec := "fnExactTurnPoints", apart := false, narrowed := true }
def FnExactTurnPointsUptoSaid : Prop := fnExactTurnPointsUptoRow.holds Try.pinned (OpenSpec.upto fnExactTurnPointsSpec)

/-- 'laws.FnExactBestTurn', WHERE WHAT IT READS IS OF BULK AT MOST 1048576: true; the input reads as it did. -/
def fnExactBestTurnUptoRow : OpenClaim := { program := "ytoehehaeanepmab", sum := "93d2dd593a18e6228165411ec70ee97ed06351176d81169ac5ef799aa1d017bf", func := "loop.example/g01177/laws.FnExactBestTurn", spec := "fnExactBestTurn", apart := false, narrowed := true }
def FnExactBestTurnUptoSaid : Prop := fnExactBestTurnUptoRow.holds Try.pinned (OpenSpec.upto fnExactBestTurnSpec)

/-- 'laws.FnExactSendFrame', WHERE WHAT IT READS IS OF BULK AT MOST 1048576: true; the input reads as it did. -/
def fnExactSendFrameUptoRow : OpenClaim := { program := "ytoehehaeanepmab", sum := "93d2dd593a18e6228165411ec70ee97ed06351176d81169ac5ef799aa1d017bf", func := "loop.example/g01177/laws.FnExactSendFrame", spec := "fnExactSendFrame", apart := false, narrowed := true }
def FnExactSendFrameUptoSaid : Prop := fnExactSendFrameUptoRow.holds Try.pinned (OpenSpec.upto fnExactSendFrameSpec)

/-- 'laws.FnExactFindFrame', WHERE WHAT IT READS IS OF BULK AT MOST 1048576: true; the input reads as it did. -/
def fnExactFindFrameUptoRow : OpenClaim := { program := "ytoehehaeanepmab", sum := "93d2dd593a18e6228165411ec70ee97ed06351176d81169ac5ef799aa1d017bf", func := "loop.example/g01177/laws.FnExactFindFrame", spec := "fnExactFindFrame", unfollowed := true, recurses := true, leaving := true, apart := false, narrowed := true }
def FnExactFindFrameUptoSaid : Prop := fnExactFindFrameUptoRow.holds Try.pinned (OpenSpec.upto fnExactFindFrameSpec)

/-- 'laws.FnExactAllFrames', WHERE WHAT IT READS IS OF BULK AT MOST 1048576: true; the input reads as it did. -/
def fnExactAllFramesUptoRow : OpenClaim := { program := "ytoehehaeanepmab", sum := "93d2dd593a18e6228165411ec70ee97ed06351176d81169ac5ef799aa1d017bf", func := "loop.example/g01177/laws.FnExactAllFrames", spec := "fnExactAllFrames", unfollowed := true, recurses := true, leaving := true, apart := false, narrowed := true }
def FnExactAllFramesUptoSaid : Prop := fnExactAllFramesUptoRow.holds Try.pinned (OpenSpec.upto fnExactAllFramesSpec)

/-- 'laws.FnExactReceiveFrame', WHERE WHAT IT READS IS OF BULK AT MOST 1048576: true; the input reads as it did. -/
def fnExactReceiveFrameUptoRow : OpenClaim := { program := "ytoehehaeanepmab", sum := "93d2dd593a18e6228165411ec70ee97ed06351176d81169ac5ef799aa1d017bf", func := "loop.example/g01177/laws.FnExactReceiveFrame", spec := "fnExactReceiveFrame", unfollowed := true, recurses := true, leaving := true, apart := false, narrowed := true }
def FnExactReceiveFrameUptoSaid : Prop := fnExactReceiveFrameUptoRow.holds Try.pinned (OpenSpec.upto fnExactReceiveFrameSpec)

end Rows
end Go.Proofs.Ytoehehaeanepmab
