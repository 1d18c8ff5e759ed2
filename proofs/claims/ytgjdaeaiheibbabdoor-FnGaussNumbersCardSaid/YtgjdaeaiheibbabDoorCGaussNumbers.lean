/- FnGaussNumbers returns true, whatever the letters: the tied card; its condition: the three listed tables start as the program's text lays them (the card ties them). -/
import Derived.Test.YtgjdaeaiheibbabDoorPGaussNumbers
namespace Go.Proofs.YtgjdaeaiheibbabDoor
set_option maxRecDepth 100000
open Go

theorem gaussNumbers_card_holds : Rows.FnGaussNumbersCardSaid :=
  Claim7.holds_tied_plain_at .later [] [.data, .data, .data] true Rows.fnGaussNumbersCard.stood.harness false
    gaussNumbers_holds (fun _ h => by cases h) (by kernel_rfl) (fun _ h => by cases h) fnGaussNumbers_row_tie rfl ⟨rfl, rfl⟩ (by kernel_rfl) rfl
    (fun f fn hf hfn => by
      obtain rfl : f = 3 := Option.some.inj ((show Tryd.prog.funcNamed "loop.example/g01177/laws.FnGaussNumbers" = some 3 by kernel_rfl).symm.trans hf) |>.symm
      obtain rfl : fn = Tryd.f3 := (Option.some.inj (Tryd.func3.symm.trans hfn)).symm
      exact ⟨by kernel_rfl, fun j t ht => by
        rw [Tryd.params3] at ht
        have hm : t ∈ [22] := by simpa using Array.mem_of_getElem? ht
        have hall : ([22].all fun u => !Tryd.prog.wantsStandIn u) = true := by kernel_rfl
        exact (show Tryd.prog.wantsStandIn t = false by simpa using List.all_eq_true.1 hall t hm)⟩)
    (by kernel_rfl)
#print axioms gaussNumbers_card_holds
end Go.Proofs.YtgjdaeaiheibbabDoor
