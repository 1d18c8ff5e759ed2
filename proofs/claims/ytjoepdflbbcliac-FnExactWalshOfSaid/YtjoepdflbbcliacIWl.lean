/- The program's WalshOf. -/
import Derived.Test.YtjoepdflbbcliacITt
import Derived.Test.YtjoepdflbbcliacWaM
namespace Go.Proofs.Ytjoepdflbbcliac
set_option maxRecDepth 100000
open Go.RowKit

set_option maxRecDepth 100000 in
set_option maxHeartbeats 1000000 in
theorem iwalshOf (v : Value) (l : List (Int × Int)) (w : World) (hv : IG w v l) : Calls Try.prog 16 #[v] w (MakesGB w (wfA l) (wfOk l)) := by
  have HT := Lib.hid (transformOf_any 2 (lgW l.length) (waZ l.length) v l (by omega) (fun w => fits_sign _ w) (fun h => ⟨wa_pow h, by have := wa_cases h; omega, by have := wa_cases h; omega⟩) w hv (waL l) (fun _ => rfl))
  have e1 : wfOk l = ((waZ l.length && goodL l) && goodL (waL l)) := rfl
  have e2 : wfA l = if (waZ l.length && goodL l) && goodL (waL l) then waL l else [] := rfl
  rw [← e2, ← e1] at HT
  obtain ⟨L, hL⟩ : ∃ L, L = wfA l := ⟨_, rfl⟩
  obtain ⟨q, hq⟩ : ∃ q, q = wfOk l := ⟨_, rfl⟩
  rw [← hL, ← hq] at HT ⊢
  clear e1 e2 hL hq hv
  go_enter Try.func16, Try.ntmps16
  go_wp2_with fail
  refine (HT.out).mono ?_
  rintro e w1 ⟨v1, rfl, ho, hb⟩
  have HO := Lib.hid ho
  have HB := Lib.hid hb
  clear ho hb
  go_wp2_with fail
  go_returns
  exact ⟨_, rfl, HO.out, HB.out⟩
end Go.Proofs.Ytjoepdflbbcliac
