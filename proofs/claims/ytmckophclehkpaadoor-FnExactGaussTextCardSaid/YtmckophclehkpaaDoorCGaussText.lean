/- FnExactGaussText returns true, whatever the argument: the tied card; its condition: the three listed tables start as the program's text lays them (the card ties them). -/
import Derived.Test.YtmckophclehkpaaDoorPGaussText
namespace Go.Proofs.YtmckophclehkpaaDoor
open Go

theorem gaussText_card_holds : Rows.FnExactGaussTextCardSaid :=
  Claim7.holds_tied_plain_at .later [] [.data, .data, .data] true Rows.fnExactGaussTextCard.stood.harness false
    gaussText_holds (fun _ h => by cases h) (by kernel_rfl) (fun _ h => by cases h) fnExactGaussText_row_tie rfl ⟨rfl, rfl⟩ (by kernel_rfl) rfl
    (fun f fn hf hfn => by
      obtain rfl : f = 3 := Option.some.inj ((show Tryd.prog.funcNamed "loop.example/g01177/laws.FnExactGaussText" = some 3 by kernel_rfl).symm.trans hf) |>.symm
      obtain rfl : fn = Tryd.f3 := (Option.some.inj (Tryd.func3.symm.trans hfn)).symm
      exact ⟨by kernel_rfl, fun j t ht => by
        rw [Tryd.params3] at ht
        have hm : t ∈ [23] := by simpa using Array.mem_of_getElem? ht
        have hall : ([23].all fun u => !Tryd.prog.wantsStandIn u) = true := by kernel_rfl
        exact (show Tryd.prog.wantsStandIn t = false by simpa using List.all_eq_true.1 hall t hm)⟩)
    (by kernel_rfl)
#print axioms gaussText_card_holds
end Go.Proofs.YtmckophclehkpaaDoor
