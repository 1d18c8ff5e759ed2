/- The model's TransformBack. -/
import Derived.Test.YtccjmigdebchiaaSSh
import Derived.Test.YtccjmigdebchiaaSTo
namespace Go.Proofs.Ytccjmigdebchiaa
set_option maxRecDepth 100000
open Go.RowKit

set_option maxRecDepth 100000 in
set_option maxHeartbeats 1000000 in
theorem stransformBack (v : Value) (l : List (Int × Int)) (w : World) (hv : IG w v l) : Calls Try.prog 13 #[v] w (MakesGB w (tbA l) (tbOk l)) := by
  have HS := Lib.hid (tfSignal_any v l w hv)
  cases hok : tfOk l with
  | false =>
    rw [hok] at HS
    have e1 : tbOk l = false := by unfold tbOk; rw [hok]; rfl
    have e2 : tbA l = [] := by unfold tbA; rw [e1]; rfl
    rw [e1, e2]
    clear e1 e2 hok hv
    go_enter Try.func13, Try.ntmps13
    go_wp2_with fail
    refine (HS.out).mono ?_
    rintro e w1 ⟨rfl, hb⟩
    have HB := Lib.hid hb
    clear hb
    go_wp2_with fail
    go_returns
    exact ⟨_, rfl, OwnG.nil _ _, HB.out⟩
  | true =>
    rw [hok] at HS
    have HO := Lib.hid (fun w' (hb : Below w.heap.size w w') => tfOf_any v l (-1) (Or.inr rfl) w' (hv.below hb) (tfOk_len hok).2 (fun i hi => good_at hok i hi))
    have e1 : tbOk l = shOk l.length (drL (-1) l) := by unfold tbOk; rw [hok]; rfl
    have e2 : tbA l = shA l.length (drL (-1) l) := by unfold tbA; rw [e1]; rfl
    rw [e1, e2]
    obtain ⟨hn1, hn32, hLl, hLb⟩ := show 1 ≤ l.length ∧ l.length ≤ 32 ∧ (drL (-1) l).length ≤ 32 ∧ ∀ i, i < (drL (-1) l).length → (-40000000 ≤ gre (drL (-1) l) i ∧ gre (drL (-1) l) i ≤ 40000000) ∧ (-40000000 ≤ gim (drL (-1) l) i ∧ gim (drL (-1) l) i ≤ 40000000) from by
      have h1 := tfOk_len hok
      refine ⟨h1.1, by omega, by rw [drL_len]; omega, fun i hi => ?_⟩
      rw [drL_len] at hi
      have h2 := drX_le h1.2 (fun i hi => good_at hok i hi) (-1) i l.length (Nat.le_refl _)
      unfold drL
      rw [genG_re _ _ _ _ hi, genG_im _ _ _ _ hi]
      omega
    obtain ⟨L, hL⟩ : ∃ L, L = drL (-1) l := ⟨_, rfl⟩
    rw [← hL] at HO hLl hLb ⊢
    obtain ⟨a, cap, rfl⟩ := hv.slice
    obtain ⟨n, hn⟩ : ∃ n, n = l.length := ⟨_, rfl⟩
    rw [← hn] at HO HS hn1 hn32 ⊢
    have HSH := Lib.hid (fun v' w' (h : IG w' v' L) => tfShare_any v' L n hn1 hn32 w' h hLl hLb)
    obtain ⟨R, hR⟩ : ∃ R, R = shA n L := ⟨_, rfl⟩
    obtain ⟨q, hq⟩ : ∃ R, R = shOk n L := ⟨_, rfl⟩
    rw [← hR, ← hq] at HSH ⊢
    clear e1 e2 hok hv hL hn hn1 hn32 hLl hLb hR hq
    go_enter Try.func13, Try.ntmps13
    go_wp2_with fail
    refine (HS.out).mono ?_
    rintro e w1 ⟨rfl, hb⟩
    have HB1 := Lib.hid hb
    clear hb
    go_wp2_with fail
    refine (HO.out _ HB1.out).mono ?_
    rintro e w2 ⟨v2, rfl, ho, hb⟩
    have HO2 := Lib.hid ho.is
    have HB2 := Lib.hid (joins HB1.out hb)
    clear ho hb
    go_wp2_with fail
    refine (HSH.out v2 w2 HO2.out).mono ?_
    rintro e w3 ⟨v3, rfl, ho, hb⟩
    have HO3 := Lib.hid (ho.mono HB2.out.size)
    have HB3 := Lib.hid (joins HB2.out hb)
    clear ho hb
    go_wp2_with fail
    go_returns
    exact ⟨_, rfl, HO3.out, HB3.out⟩
end Go.Proofs.Ytccjmigdebchiaa
