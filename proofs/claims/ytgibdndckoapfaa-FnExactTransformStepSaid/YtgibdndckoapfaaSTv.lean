/- The model's TransformStep, at all arguments. -/
import Derived.Test.YtgibdndckoapfaaSTs
import Derived.Test.YtgibdndckoapfaaSTu
namespace Go.Proofs.Ytgibdndckoapfaa
set_option maxRecDepth 100000
open Go.RowKit

set_option maxRecDepth 100000 in
set_option maxHeartbeats 1000000 in
theorem stransformStep (v : Value) (l : List (Int × Int)) (p : Int) (w : World) (hv : IG w v l) : Calls Try.prog 21 #[v, .int .i64 p] w (MakesGB w (tsA l p) (tsOk l p)) := by
  have hs := tfSignal_any v l w hv
  have no : tsV l p = false → tsOk l p = false ∧ tsA l p = [] := fun h => by
    have h1 : tsOk l p = false := by unfold tsOk; rw [h]; rfl
    exact ⟨h1, by unfold tsA; rw [h1]; rfl⟩
  have hdef : tsA l p = if tsOk l p then spL l (tsS p) else [] := rfl
  cases hok : tfOk l with
  | false =>
    rw [hok] at hs
    have HS := Lib.hid hs
    obtain ⟨e1, e2⟩ := no (by unfold tsV; rw [hok]; rfl)
    rw [e1, e2]
    clear e1 e2 hok hv hs no hdef
    go_enter Try.func21, Try.ntmps21
    go_wp2_with fail
    refine (HS.out).mono ?_
    rintro e w1 ⟨rfl, hb⟩
    have HB := Lib.hid hb
    clear hb
    go_wp2_with fail
    go_returns
    exact ⟨_, rfl, OwnG.nil _ _, HB.out⟩
  | true =>
    have hc := tfSz_cases (tfOk_sz hok)
    by_cases h1 : p = 0 ∧ 1 < l.length
    · obtain ⟨rfl, h1⟩ := h1
      have hv0 : tsV l 0 = true := by unfold tsV; rw [hok, decide_eq_true (Or.inl ⟨rfl, h1⟩)]; rfl
      have h := sstep_1 v l w hv hok (by omega)
      have e : tsOk l 0 = goodL (spL l 1) := by unfold tsOk; rw [hv0]; rfl
      rw [hdef, e]
      exact h
    · by_cases h2 : p = 1 ∧ 4 < l.length
      · obtain ⟨rfl, h2⟩ := h2
        have hv0 : tsV l 1 = true := by unfold tsV; rw [hok, decide_eq_true (Or.inr ⟨rfl, h2⟩)]; rfl
        have h := sstep_4 v l w hv hok (by omega)
        have e : tsOk l 1 = goodL (spL l 4) := by unfold tsOk; rw [hv0]; rfl
        rw [hdef, e]
        exact h
      · obtain ⟨e1, e2⟩ := no (by unfold tsV; rw [hok, decide_eq_false (by omega)]; rfl)
        rw [e1, e2]
        rw [hok] at hs
        have HI := Lib.hid (l1In_any p 0 1)
        obtain ⟨a, cap, rfl⟩ := hv.slice
        obtain ⟨n, hn⟩ : ∃ n, n = l.length := ⟨_, rfl⟩
        rw [← hn] at hs hc h1 h2 ⊢
        have HS := Lib.hid hs
        by_cases hn1 : n = 1
        · subst hn1
          clear e1 e2 hok hv hs no hdef hn h1 h2 hc
          go_enter Try.func21, Try.ntmps21
          go_wp2_with fail
          refine (HS.out).mono ?_
          rintro e w1 ⟨rfl, hb⟩
          have HB := Lib.hid hb
          clear hb
          go_wp2_with fail
          go_returns
          exact ⟨_, rfl, OwnG.nil _ _, HB.out⟩
        · by_cases hp : p = 0 ∨ p = 1
          · have h4 : n = 4 := by omega
            have hp1 : p = 1 := by omega
            subst h4 hp1
            rw [show inB 1 0 1 = true from rfl] at HI
            clear e1 e2 hok hv hs no hdef hn h1 h2 hc hn1 hp
            go_enter Try.func21, Try.ntmps21
            go_wp2_with fail
            refine (HS.out).mono ?_
            rintro e w1 ⟨rfl, hb⟩
            have HB := Lib.hid hb
            clear hb
            go_wp2_with fail
            refine (HI.out _).mono ?_
            rintro e w2 ⟨rfl, rfl⟩
            go_wp2_with fail
            go_returns
            exact ⟨_, rfl, OwnG.nil _ _, HB.out⟩
          · rw [show inB p 0 1 = false by simp [inB]; omega] at HI
            have hne : ((n : Int) == 1) = false := by simp; omega
            clear e1 e2 hok hv hs no hdef hn h1 h2 hc hn1 hp
            go_enter Try.func21, Try.ntmps21
            go_wp2_with fail
            refine (HS.out).mono ?_
            rintro e w1 ⟨rfl, hb⟩
            have HB := Lib.hid hb
            clear hb
            go_wp2_with fail
            refine (HI.out _).mono ?_
            rintro e w2 ⟨rfl, rfl⟩
            go_wp2_with fail
            go_returns
            exact ⟨_, rfl, OwnG.nil _ _, HB.out⟩
end Go.Proofs.Ytgibdndckoapfaa
