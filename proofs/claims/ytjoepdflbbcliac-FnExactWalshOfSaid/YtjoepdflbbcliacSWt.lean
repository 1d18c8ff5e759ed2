/- The model's WalshOf. -/
import Derived.Test.YtjoepdflbbcliacSWp
namespace Go.Proofs.Ytjoepdflbbcliac
set_option maxRecDepth 100000
open Go.RowKit

set_option maxRecDepth 100000 in
set_option maxHeartbeats 1000000 in
theorem swalshOf (v : Value) (l : List (Int × Int)) (w : World) (hv : IG w v l) : Calls Try.prog 15 #[v] w (MakesGB w (wfA l) (wfOk l)) := by
  have HS := Lib.hid (tfWalsh_any v l w hv)
  cases hok : waOk0 l with
  | false =>
    rw [hok] at HS
    have e1 : wfOk l = false := by unfold wfOk; rw [hok]; rfl
    have e2 : wfA l = [] := by unfold wfA; rw [e1]; rfl
    rw [e1, e2]
    clear e1 e2 hok hv
    go_enter Try.func15, Try.ntmps15
    go_wp2_with fail
    refine (HS.out).mono ?_
    rintro e w1 ⟨rfl, hb⟩
    have HB := Lib.hid hb
    clear hb
    go_wp2_with fail
    go_returns
    exact ⟨_, rfl, OwnG.nil _ _, HB.out⟩
  | true =>
    rw [hok] at HS
    have HO := Lib.hid (fun w' (hb : Below w.heap.size w w') => tfWalshOf_any v l w' (hv.below hb) hok)
    have e1 : wfOk l = goodL (waL l) := by unfold wfOk; rw [hok]; rfl
    have e2 : wfA l = if goodL (waL l) then waL l else [] := by unfold wfA; rw [e1]
    rw [e1, e2]
    obtain ⟨L, hL⟩ : ∃ L, L = waL l := ⟨_, rfl⟩
    rw [← hL] at HO ⊢
    obtain ⟨L2, hL2⟩ : ∃ L2, L2 = (if goodL L then L else []) := ⟨_, rfl⟩
    obtain ⟨q, hq⟩ : ∃ q, q = goodL L := ⟨_, rfl⟩
    rw [← hL2, ← hq]
    have HL := Lib.hid (And.intro hL2 hq)
    clear e1 e2 hok hv hL hL2 hq
    go_enter Try.func15, Try.ntmps15
    go_wp2_with fail
    refine (HS.out).mono ?_
    rintro e w1 ⟨rfl, hb⟩
    have HB1 := Lib.hid hb
    clear hb
    go_wp2_with fail
    refine (HO.out _ HB1.out).mono ?_
    rintro e w2 ⟨v2, rfl, ho, hb⟩
    have HO2 := Lib.hid (ho.mono HB1.out.size)
    have HB2 := Lib.hid (joins HB1.out hb)
    have HV := Lib.hid (tfWhole_any v2 L w2 ho.is)
    rw [← HL.out.2] at HV
    clear ho hb
    go_wp2_with fail
    refine (HV.out).mono ?_
    rintro e w3 ⟨rfl, hb⟩
    cases q with
    | true =>
      rw [if_pos rfl]
      have HE := Lib.hid (show L2 = L by rw [HL.out.1, ← HL.out.2]; rfl)
      have HO3 := Lib.hid (HO2.out.below hb)
      have HB3 := Lib.hid (joins HB2.out hb)
      clear hb
      go_wp2_with fail
      go_returns
      refine ⟨_, rfl, ?_, HB3.out⟩
      rw [HE.out]
      exact HO3.out
    | false =>
      rw [if_neg Bool.false_ne_true]
      have HE := Lib.hid (show L2 = [] by rw [HL.out.1, ← HL.out.2]; rfl)
      have HB3 := Lib.hid (joins HB2.out hb)
      clear hb
      go_wp2_with fail
      go_returns
      refine ⟨_, rfl, ?_, HB3.out⟩
      rw [HE.out]
      exact OwnG.nil _ _
end Go.Proofs.Ytjoepdflbbcliac
