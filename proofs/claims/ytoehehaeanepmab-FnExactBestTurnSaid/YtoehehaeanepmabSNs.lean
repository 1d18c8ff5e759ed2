/- The model's NearestPhase, signals of points, decided points, DecideOf. -/
import Derived.Test.YtoehehaeanepmabSNr
import Derived.Test.YtoehehaeanepmabGau
import Derived.Test.YtoehehaeanepmabSMov
import Derived.Test.YtoehehaeanepmabMoM
namespace Go.Proofs.Ytoehehaeanepmab
set_option maxRecDepth 100000
open Go.RowKit

/-! ### signals -/
set_option maxRecDepth 100000 in
set_option maxHeartbeats 1000000 in
theorem mdSignal_any (v : Value) (l : List (Int × Int)) (w : World) (hv : IG w v l) (hlen : l.length ≤ 1048576) : Calls Try.prog 39 #[v] w (Ret w (.bool (sgOk l))) := by
  have hsg : sgOk l = (decide (l.length ≤ 48) && goodL l) := rfl
  obtain ⟨a, cap, hvs⟩ := hv.slice
  subst hvs
  have HV := Lib.hid hv
  obtain ⟨n, hn⟩ : ∃ n, n = l.length := ⟨_, rfl⟩
  rw [← hn] at HV hlen ⊢
  have HN := Lib.hid hn
  by_cases h48 : n ≤ 48
  · have hn48 : (n : Int) ≤ 48 := by omega
    have HS := Lib.hid (show sgOk l = goodL l by rw [hsg, ← hn, decide_eq_true h48]; rfl)
    clear hsg hv hn
    go_enter Try.func39, Try.ntmps39
    go_wp2_with fail
    go_loopw [10] (fun i wr => ∃ k : Nat, k ≤ n ∧ i = .int .i64 k ∧ goodL (l.take k) = true ∧ Below w.heap.size w wr) (fun i _ => n - (intOf i).toNat)
    case atStart => exact ⟨0, Nat.zero_le _, rfl, rfl, Below.refl _ _⟩
    case round =>
      obtain ⟨k, hk, rfl, hall, hbel⟩ := hrel
      have HA := Lib.hid hall
      have HB := Lib.hid hbel
      by_cases hlt : k < n
      · have hltL := HN.out ▸ hlt
        rcases HV.out.below hbel with ⟨h0', _⟩ | ⟨_, b, off, cap', hveq, _, hc⟩
        · rw [h0'] at hltL; exact absurd hltL (Nat.not_lt_zero _)
        simp only [Value.slice.injEq] at hveq
        obtain ⟨rfl, hnn, rfl⟩ := hveq
        clear hnn
        have c1 := (hc k hltL).1
        have c2 := (hc k hltL).2
        have h0 : (0 : Int) ≤ (k : Int) := by omega
        have h1 : (k : Int) < (n : Int) := by omega
        have hAt := goodL_take_succ l k hltL HA.out
        have hNo := goodL_false l k hltL
        obtain ⟨x, hx⟩ : ∃ x, x = gre l k := ⟨_, rfl⟩
        obtain ⟨y, hy⟩ : ∃ y, y = gim l k := ⟨_, rfl⟩
        rw [← hx] at c1 hAt hNo
        rw [← hy] at c2 hAt hNo
        have HG := Lib.hid (sgood x y)
        have HAT := Lib.hid hAt
        have HNO := Lib.hid hNo
        clear hx hy hAt hNo hltL hall hbel hc
        cases hg : good x y with
        | true =>
          rw [hg] at HG HAT
          go_wp2_with fail
          refine (HG.out _).mono ?_
          rintro e w2 ⟨rfl, hb⟩
          have HB2 := Lib.hid (joins (belowa HB.out _) hb)
          clear hb
          go_wp2_with fail
          go_roundw
          case rel => exact ⟨k + 1, by omega, by go_num, HAT.out trivial, HB2.out⟩
          case measure => simp [intOf]; omega
        | false =>
          rw [hg] at HG HNO
          go_wp2_with fail
          refine (HG.out _).mono ?_
          rintro e w2 ⟨rfl, hb⟩
          have HB2 := Lib.hid (joins (belowa HB.out _) hb)
          clear hb
          go_wp2_with fail
          go_returns
          exact ⟨ret_bool (by rw [HS.out, HNO.out trivial]), HB2.out⟩
      · have hh := HA.out
        rw [List.take_of_length_le (by rw [← HN.out]; omega)] at hh
        have HA2 := Lib.hid hh
        clear hh hall hbel
        go_wp2_with fail
        go_returns
        exact ⟨ret_bool (by rw [HS.out, HA2.out]), HB.out⟩
  · have hn48 : (48 : Int) < (n : Int) := by omega
    have HS := Lib.hid (show sgOk l = false by rw [hsg, ← hn, decide_eq_false h48]; rfl)
    clear hsg hv hn
    go_enter Try.func39, Try.ntmps39
    go_wp2_with fail
    go_returns
    exact ⟨ret_bool HS.out.symm, Below.refl _ _⟩

/-! ### decided points -/
set_option maxRecDepth 100000 in
set_option maxHeartbeats 2000000 in
theorem mdDecide_any (v : Value) (l : List (Int × Int)) (w : World) (hv : IG w v l) (h48 : l.length ≤ 48) (hgl : goodL l = true) : Calls Try.prog 46 #[v] w (MakesB w (dcL (gre l) (gim l) l.length) (dcN (gre l) (gim l) l.length)) := by
  obtain ⟨a, cap, hvs⟩ := hv.slice
  subst hvs
  have HV := Lib.hid hv
  have HNE := Lib.hid (fun (i : Nat) (hi : i < l.length) => mdNearest_any (gre l i) (gim l i) (good_in (goodL_at hgl i hi)).1 (good_in (goodL_at hgl i hi)).2)
  have HDS := Lib.hid (fun k => dcN_succ (gre l) (gim l) k)
  have HDN := Lib.hid (fun k hk h => @dcN_no (gre l) (gim l) k l.length hk h)
  obtain ⟨T, hT⟩ : ∃ T, T = dcT (gre l) (gim l) := ⟨_, rfl⟩
  have HT := Lib.hid hT
  have HL1 := Lib.hid (show dcN (gre l) (gim l) l.length = true → dcL (gre l) (gim l) l.length = gen l.length T from fun h => by unfold dcL; rw [h, hT]; rfl)
  have HL0 := Lib.hid (show dcN (gre l) (gim l) l.length = false → dcL (gre l) (gim l) l.length = [] from fun h => by unfold dcL; rw [h]; rfl)
  obtain ⟨L, hL⟩ : ∃ L, L = dcL (gre l) (gim l) l.length := ⟨_, rfl⟩
  obtain ⟨q, hq⟩ : ∃ q, q = dcN (gre l) (gim l) l.length := ⟨_, rfl⟩
  rw [← hL, ← hq] at HL1 HL0
  rw [← hL, ← hq]
  obtain ⟨n, hn⟩ : ∃ n, n = l.length := ⟨_, rfl⟩
  rw [← hn] at HV HNE HDN HL1 hq h48 ⊢
  have HN := Lib.hid hn
  have HQ := Lib.hid hq
  have hm48 : (n : Int) ≤ 48 := by omega
  clear hT hv hL hq hn hgl
  go_enter Try.func46, Try.ntmps46
  go_wp2_with fail
  go_loopw [9, 4] (fun i o wr => ∃ j : Nat, j ≤ n ∧ i = .int .i64 j ∧ dcN (gre l) (gim l) j = true ∧ Own wr w.heap.size o (gen j T) ∧ Below w.heap.size w wr) (fun i _ _ => n - (intOf i).toNat)
  case atStart => exact ⟨0, Nat.zero_le _, rfl, rfl, World.ownsRow_nil _ _ _ _, Below.refl _ _⟩
  case round =>
    obtain ⟨j, hj, rfl, hdc, hown, hbel⟩ := hrel
    by_cases hlt : j < n
    · have hltL := HN.out ▸ hlt
      rcases HV.out.below hbel with ⟨h0', _⟩ | ⟨_, b, off, cap', hveq, _, hc⟩
      · rw [h0'] at hltL; exact absurd hltL (Nat.not_lt_zero _)
      simp only [Value.slice.injEq] at hveq
      obtain ⟨rfl, hnn, rfl⟩ := hveq
      clear hnn
      have c1 := (hc j hltL).1
      have c2 := (hc j hltL).2
      have HNj := Lib.hid (HNE.out j hlt)
      have hds := HDS.out j
      rw [hdc, Bool.true_and] at hds
      have hdn := HDN.out j hlt
      have hgj : T j = nrV (gre l j) (gim l j) := by rw [HT.out]; rfl
      obtain ⟨x, hx⟩ : ∃ x, x = gre l j := ⟨_, rfl⟩
      obtain ⟨y, hy⟩ : ∃ y, y = gim l j := ⟨_, rfl⟩
      rw [← hx, ← hy] at HNj hds hdn hgj
      rw [← hx] at c1
      rw [← hy] at c2
      have h0 : (0 : Int) ≤ (j : Int) := by omega
      have h1 : (j : Int) < (n : Int) := by omega
      have HO := Lib.hid hown
      have HB := Lib.hid hbel
      by_cases hz : x = 0 ∧ y = 0
      · obtain ⟨rfl, rfl⟩ := hz
        have HF := Lib.hid (show q = false ∧ L = [] from by
          have h1 := hdn nrB_zero
          have h2 : q = false := by rw [HQ.out]; exact h1
          exact ⟨h2, HL0.out h2⟩)
        clear hown hbel hc hds hdn hgj hx hy hdc hltL
        go_wp2_with fail
        go_returns
        refine ⟨_, by rw [HF.out.1]; rfl, ?_, belowa HB.out _⟩
        rw [HF.out.2]
        exact World.ownsRow_nil _ _ _ _
      · have HDS1 := Lib.hid (hds.trans (nrB_of hz))
        obtain ⟨z, hzd⟩ : ∃ z, z = nrV x y := ⟨_, rfl⟩
        rw [← hzd] at HNj hgj
        have hgs := gen_succ j T
        rw [hgj] at hgs
        have HGS := Lib.hid hgs
        have HGL := Lib.hid (show (gen j T).length ≤ 1048576 by rw [gen_length]; omega)
        have d1 := cell_new0 wr (.int .i64 x) (.int .i64 y) 51
        have d2 := cell_new1 wr (.int .i64 x) (.int .i64 y) 51
        have HO1 := Lib.hid (hown.alloc (.cells #[.int .i64 x, .int .i64 y] 51))
        clear d1 d2
        rcases (show x ≠ 0 ∨ (x = 0 ∧ y ≠ 0) by omega) with hx0 | ⟨rfl, hy0⟩
        all_goals
          clear hown hbel hc hds hdn hgj hx hy hdc hltL hgs hzd hz
          go_wp2_with fail
          refine (HNj.out _).mono ?_
          rintro e w2 ⟨rfl, hb⟩
          have HB2 := Lib.hid (joins (belowa HB.out _) hb)
          have HO2 := Lib.hid (HO1.out.below hb)
          clear hb
          go_wp2_with (at_builtin; refine wpList_push rfl _ _ rfl w.heap.size _ (gen j T) rfl (HO2.out.alloc _) w2.heap.size 1 z rfl (by simp) HGL.out w.heap.size w (HB2.out.alloc HB2.out.size _) (Nat.le_refl _) (by have := HB2.out.size; simp; omega) (by have := HB2.out.size; simp; omega) ?_; intro v2 w3 ho3 hb3)
          go_roundw
          case rel => exact ⟨j + 1, by omega, by go_num, HDS1.out, by rw [HGS.out]; assumption, by assumption⟩
          case measure => simp [intOf]; omega
    · obtain rfl : j = n := by omega
      have HO := Lib.hid hown
      have HB := Lib.hid hbel
      have HF := Lib.hid (show q = true ∧ L = gen j T from by
        have h2 : q = true := by rw [HQ.out]; exact hdc
        exact ⟨h2, HL1.out h2⟩)
      clear hown hbel hdc
      go_wp2_with fail
      go_returns
      refine ⟨_, by rw [HF.out.1]; rfl, ?_, HB.out⟩
      rw [HF.out.2]
      exact HO.out

end Go.Proofs.Ytoehehaeanepmab
