/- The model's WalshBack. -/
import Derived.Test.YtccjmigdebchiaaSSh
import Derived.Test.YtccjmigdebchiaaSWp
namespace Go.Proofs.Ytccjmigdebchiaa
set_option maxRecDepth 100000
open Go.RowKit

set_option maxRecDepth 100000 in
set_option maxHeartbeats 1000000 in
theorem swalshBack (v : Value) (l : List (Int × Int)) (w : World) (hv : IG w v l) : Calls Try.prog 19 #[v] w (MakesGB w (wbA l) (wbOk l)) := by
  have HS := Lib.hid (tfWalsh_any v l w hv)
  cases hok : waOk0 l with
  | false =>
    rw [hok] at HS
    have e1 : wbOk l = false := by unfold wbOk; rw [hok]; rfl
    have e2 : wbA l = [] := by unfold wbA; rw [e1]; rfl
    rw [e1, e2]
    clear e1 e2 hok hv
    go_enter Try.func19, Try.ntmps19
    go_wp2_with fail
    refine (HS.out).mono ?_
    rintro e w1 ⟨rfl, hb⟩
    have HB := Lib.hid hb
    clear hb
    go_wp2_with fail
    go_returns
    exact ⟨_, rfl, OwnG.nil _ _, HB.out⟩
  | true =>
    rw [hok] at HS
    have HO := Lib.hid (fun w' (hb : Below w.heap.size w w') => tfWalshOf_any v l w' (hv.below hb) hok)
    have e1 : wbOk l = shOk l.length (waL l) := by unfold wbOk; rw [hok]; rfl
    have e2 : wbA l = shA l.length (waL l) := by unfold wbA; rw [e1]; rfl
    rw [e1, e2]
    obtain ⟨hn1, hn32, hLl, hLb⟩ := show 1 ≤ l.length ∧ l.length ≤ 32 ∧ (waL l).length ≤ 32 ∧ ∀ i, i < (waL l).length → (-40000000 ≤ gre (waL l) i ∧ gre (waL l) i ≤ 40000000) ∧ (-40000000 ≤ gim (waL l) i ∧ gim (waL l) i ≤ 40000000) from by
      have hz := (Bool.and_eq_true_iff.1 hok).1
      have hg := (Bool.and_eq_true_iff.1 hok).2
      have h1 := wa_cases hz
      have hl : (waL l).length = l.length := genG_length _ _ _
      refine ⟨by omega, by omega, by rw [hl]; omega, fun i hi => ?_⟩
      rw [hl] at hi
      have h2 := tr_le (w := 2) (K := lgW l.length) (Z := wZ l) (Or.inl rfl) (wa_pow hz) (fun i hi => good_in (goodL_at hg i hi)) (lgW l.length) (Nat.le_refl _) i hi
      rw [← wa_pow hz] at h2
      unfold waL
      rw [genG_re _ _ _ _ hi, genG_im _ _ _ _ hi]
      omega
    obtain ⟨L, hL⟩ : ∃ L, L = waL l := ⟨_, rfl⟩
    rw [← hL] at HO hLl hLb ⊢
    obtain ⟨a, cap, rfl⟩ := hv.slice
    obtain ⟨n, hn⟩ : ∃ n, n = l.length := ⟨_, rfl⟩
    rw [← hn] at HO HS hn1 hn32 ⊢
    have HSH := Lib.hid (fun v' w' (h : IG w' v' L) => tfShare_any v' L n hn1 hn32 w' h hLl hLb)
    obtain ⟨R, hR⟩ : ∃ R, R = shA n L := ⟨_, rfl⟩
    obtain ⟨q, hq⟩ : ∃ R, R = shOk n L := ⟨_, rfl⟩
    rw [← hR, ← hq] at HSH ⊢
    clear e1 e2 hok hv hL hn hn1 hn32 hLl hLb hR hq
    go_enter Try.func19, Try.ntmps19
    go_wp2_with fail
    refine (HS.out).mono ?_
    rintro e w1 ⟨rfl, hb⟩
    have HB1 := Lib.hid hb
    clear hb
    go_wp2_with fail
    refine (HO.out _ HB1.out).mono ?_
    rintro e w2 ⟨v2, rfl, ho, hb⟩
    have HO2 := Lib.hid ho.is
    have HB2 := Lib.hid (joins HB1.out hb)
    clear ho hb
    go_wp2_with fail
    refine (HSH.out v2 w2 HO2.out).mono ?_
    rintro e w3 ⟨v3, rfl, ho, hb⟩
    have HO3 := Lib.hid (ho.mono HB2.out.size)
    have HB3 := Lib.hid (joins HB2.out hb)
    clear ho hb
    go_wp2_with fail
    go_returns
    exact ⟨_, rfl, HO3.out, HB3.out⟩
end Go.Proofs.Ytccjmigdebchiaa
