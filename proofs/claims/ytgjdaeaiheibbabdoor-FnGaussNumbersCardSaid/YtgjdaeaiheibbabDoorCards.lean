/-
  DERIVED. GIVEN WITH THE SEED: THE CARDS: each row of YtgjdaeaiheibbabDoorRows.lean that lists a variable, with what it lists TIED to the program's text (the seventh form; the later family's looks); each row that meets fmt, with fmt's text TOLD by the authors' own Lean function (tested against real Go, not proved from fmt's source: count such statements apart). THE CARD IS WHAT COUNTS. Prove the row's statement (the work); the ties are given (YtgjdaeaiheibbabDoorTie.lean); close each card by the builder's one call (the guide's Derived/Test/ToyasCard.lean, 'card_holds'). Laid BY PROGRAM, IN A SANDBOX (cutbox-door.mjs). By AI agents, Wed Nov 11 2026. No macro, syntax, notation, axiom, sorry.
-/
import Derived.Test.YtgjdaeaiheibbabDoorRows
import GoSem.ClaimSeven
namespace Go.Proofs.YtgjdaeaiheibbabDoor
namespace Rows

/-- THE TIED CARD OF 'laws.FnGaussNumbers'. -/
def fnGaussNumbersCard : Claim7 := { stood := { row := fnGaussNumbersRow, standIns := [], harness := (true, "0f13e9e331d011df8c1da3232a6b08e0ea0da12b1947c2dc97024257b53313c5"), looks := false }, kinds := [], alts := [], laidByText := true, laidKinds := [.data, .data, .data], laidTests := true, laidLooks := .later }
def FnGaussNumbersCardSaid : Prop := Claim7.holds Tryd.pinned (.plain (OpenSpec.ofChange fnGaussNumbersSpec)) fnGaussNumbersCard

/-- THE SECOND FORM's CARD OF 'laws.FnGaussNumbers'. -/
def fnGaussNumbersUptoCard : Claim7 := { stood := { row := fnGaussNumbersUptoRow, standIns := [], harness := (true, "0f13e9e331d011df8c1da3232a6b08e0ea0da12b1947c2dc97024257b53313c5"), looks := false }, kinds := [], alts := [], laidByText := true, laidKinds := [.data, .data, .data], laidTests := true, laidLooks := .later }
def FnGaussNumbersUptoCardSaid : Prop := Claim7.holds Tryd.pinned (.plain (OpenSpec.upto fnGaussNumbersSpec)) fnGaussNumbersUptoCard
end Rows
end Go.Proofs.YtgjdaeaiheibbabDoor
