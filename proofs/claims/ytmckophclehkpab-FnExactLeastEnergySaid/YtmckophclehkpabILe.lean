/- The program's leastEnergy and LeastEnergy. -/
import Derived.Test.YtmckophclehkpabISe
import Derived.Test.YtmckophclehkpabLeM
import Derived.Deep.LoopGhost
namespace Go.Proofs.Ytmckophclehkpab
open Go.RowKit

set_option maxRecDepth 100000 in
set_option maxHeartbeats 2000000 in
theorem leastEnergy_any (N : Nat) (hN1 : 1 ≤ N) (hN : N ≤ 6) (w : World) : Calls Try.prog 45 #[.int .i64 N] w (Ret w (.int .i64 (leN N 9223372036854775807 (pow4 N)))) := by
  have HW : ∀ k : Nat, k < pow4 N → ∀ w, Calls Try.prog 54 #[.int .i64 N, .int .i64 k] w (Ret w (.agg (phA (padL (lowD k N)) N))) := fun k hk w => phasesWith_any N hN k hk w
  have HB : ∀ (k j : Nat), j + 1 < N → ∀ w, Calls Try.prog 50 #[.agg (phA (padL (lowD k N)) N), .int .i64 ((j : Int) + 1)] w (Ret w (.int .i64 (sideT (lowD k N) j))) := fun k j hj w => by
    have := sideNorm_any (lowD k N) ((j : Int) + 1) (lowD_seq k N (by omega)) (by omega) (by rw [lowD_length]; omega) w
    rwa [lowD_length] at this
  have hb : ∀ k j, 0 ≤ sumN (sideT (lowD (k : Nat) N)) j ∧ sumN (sideT (lowD (k : Nat) N)) j ≤ j * 2048 := fun k j => sumN_up _ 2048 (fun i => nS_bound _ (by rw [lowD_length]; omega) _) j
  have ht : ∀ k j, 0 ≤ sideT (lowD (k : Nat) N) j ∧ sideT (lowD (k : Nat) N) j ≤ 2048 := fun k j => nS_bound _ (by rw [lowD_length]; omega) _
  have hE : ∀ k : Nat, rankE N k = sumN (sideT (lowD k N)) (N - 1) := fun k => by unfold rankE sideE; rw [lowD_length]
  have hmono : ∀ k j, j ≤ N - 1 → sumN (sideT (lowD (k : Nat) N)) j ≤ rankE N k := fun k j hj => by
    rw [hE]
    obtain ⟨d, hd⟩ : ∃ d, N - 1 = j + d := ⟨N - 1 - j, by omega⟩
    rw [hd]
    clear hd hj
    induction d with
    | zero => exact Int.le_refl _
    | succ d ih =>
      have := ht k (j + d)
      have e : sumN (sideT (lowD (k : Nat) N)) (j + (d + 1)) = sumN (sideT (lowD (k : Nat) N)) (j + d) + sideT (lowD (k : Nat) N) (j + d) := rfl
      rw [e]; omega
  have hst : ∀ k, leN N 9223372036854775807 (k + 1) = if rankE N k < leN N 9223372036854775807 k then rankE N k else leN N 9223372036854775807 k := fun k => rfl
  have hst0 : leN N 9223372036854775807 0 = 9223372036854775807 := rfl
  have hnn : ∀ k, 0 ≤ leN N 9223372036854775807 k := fun k => leN_nonneg N (by omega) _ (by omega) k
  obtain ⟨D, hD⟩ : ∃ D : Nat → Array Value, D = fun k : Nat => phA (padL (lowD k N)) N := ⟨_, rfl⟩
  obtain ⟨T, hT⟩ : ∃ T : Nat → Nat → Int, T = fun k : Nat => sideT (lowD k N) := ⟨_, rfl⟩
  have hsz : ∀ k, (D k).size = 33 := fun k => by rw [hD]; exact phA_size _ _ (padL_length (by rw [lowD_length]; omega))
  have hone : ∀ k, (D k).all (·.oneCell') = true := fun k => by rw [hD]; exact phA_one _ _
  have HW2 : ∀ k : Nat, k < pow4 N → ∀ w, Calls Try.prog 54 #[.int .i64 N, .int .i64 k] w (Ret w (.agg (D k))) := fun k hk w => by rw [hD]; exact HW k hk w
  have HB2 : ∀ (k j : Nat), j + 1 < N → ∀ w, Calls Try.prog 50 #[.agg (D k), .int .i64 ((j : Int) + 1)] w (Ret w (.int .i64 (T k j))) := fun k j hj w => by rw [hD, hT]; exact HB k j hj w
  have hb2 : ∀ k j, 0 ≤ sumN (T k) j ∧ sumN (T k) j ≤ j * 2048 := fun k j => by rw [hT]; exact hb k j
  have ht2 : ∀ k j, 0 ≤ T k j ∧ T k j ≤ 2048 := fun k j => by rw [hT]; exact ht k j
  have hE2 : ∀ k : Nat, rankE N k = sumN (T k) (N - 1) := fun k => by rw [hT]; exact hE k
  have hmono2 : ∀ k j, j ≤ N - 1 → sumN (T k) j ≤ rankE N k := fun k j hj => by rw [hT]; exact hmono k j hj
  have hp := pow4_le N hN
  have hsh := shl_eq N hN
  obtain ⟨L, hL⟩ : ∃ L : Nat → Int, L = leN N 9223372036854775807 := ⟨_, rfl⟩
  obtain ⟨E, hEd⟩ : ∃ L : Nat → Int, L = rankE N := ⟨_, rfl⟩
  obtain ⟨K, hK⟩ : ∃ K, K = pow4 N := ⟨_, rfl⟩
  rw [← hK] at HW2 hp hsh ⊢
  rw [← hL] at hst hst0 hnn ⊢
  rw [← hEd] at hst hE2 hmono2
  obtain ⟨hp1, hp2⟩ := hp
  have HW' := Lib.hid HW2
  have HB' := Lib.hid HB2
  have HST := Lib.hid hst
  have HST0 := Lib.hid hst0
  have HNN := Lib.hid hnn
  have HSB := Lib.hid hb2
  have HT := Lib.hid ht2
  have HE := Lib.hid hE2
  have HM := Lib.hid hmono2
  have HSZ := Lib.hid hsz
  have HONE := Lib.hid hone
  clear HW HW2 HB HB2 hst hst0 hb ht hE hmono hb2 ht2 hE2 hmono2 hnn hsz hone hD hT hL hEd hK
  go_enter Try.func45, Try.ntmps45
  go_wp2_with fail
  go_step3
  go_wp2_with fail
  go_step3
  go_wp2_with fail
  rw [hsh]
  go_loopg [11, 3] K (fun g i l wr => ∃ k : Nat, k + g = K ∧ i = .int .i64 k ∧ l = .int .i64 (L k) ∧ Below w.heap.size w wr)
  case atStart => exact ⟨0, Nat.zero_add _, rfl, by rw [HST0.out], Below.refl _ _⟩
  case round =>
    obtain ⟨k, hkg, rfl, rfl, hbel⟩ := hrel
    have HBEL := Lib.hid hbel
    clear hbel
    cases gk with
    | zero =>
      have he : k = K := by omega
      subst he
      go_wp2_with fail
      (try rw [Exit.noGoto_ret])
      go_returns
      exact ⟨rfl, HBEL.out⟩
    | succ g =>
      have hlt : k < K := by omega
      have hkg2 : k + 1 + g = K := by omega
      have h0 : (0 : Int) ≤ (k : Int) := by omega
      have h1 : (k : Int) < (K : Int) := by omega
      have HWk := Lib.hid (HW'.out k hlt)
      have HBk := Lib.hid (HB'.out k)
      have hs := HST.out k
      have hnn := HNN.out k
      have HSk := Lib.hid (HSZ.out k)
      have HOk := Lib.hid (HONE.out k)
      have HTk := Lib.hid (HT.out k)
      have HSBk := Lib.hid (HSB.out k)
      have HMk := Lib.hid (HM.out k)
      have hEk := HE.out k
      obtain ⟨C, hC⟩ : ∃ C, C = D k := ⟨_, rfl⟩
      obtain ⟨Tk, hTk⟩ : ∃ T0, T0 = T k := ⟨_, rfl⟩
      obtain ⟨l0, hl0⟩ : ∃ L0, L0 = L k := ⟨_, rfl⟩
      obtain ⟨e0, he0⟩ : ∃ L0, L0 = E k := ⟨_, rfl⟩
      obtain ⟨l1, hl1⟩ : ∃ L0, L0 = L (k + 1) := ⟨_, rfl⟩
      rw [← hC] at HWk HBk HSk HOk
      rw [← hTk] at HBk HTk HSBk HMk hEk
      rw [← he0] at hs hEk HMk
      rw [← hl0, ← hl1] at hs
      rw [← hl0] at hnn ⊢
      have HS := Lib.hid hs
      have HEk := Lib.hid hEk
      have HL1 := Lib.hid hl1
      have hI1 : (Try.prog.info? 43).map (·.size) = some C.size := by rw [HSk.out]; exact infoPh
      have HI1 := Lib.hid hI1
      clear hs hEk hC hTk hl0 he0 hl1 hI1
      go_wp2_with fail
      refine (HWk.out _).mono ?_
      rintro e w2 ⟨rfl, hb2⟩
      have HBEL2 := Lib.hid (joins HBEL.out hb2)
      clear hb2
      go_wp2_with (first
        | (refine wpList_alloc_big rfl 43 rfl (phA z32 0) zeroPh ?_)
        | (refine wpList_store_big rfl 43 (.tmp 5) (.tmp 16) rfl w2.heap.size C rfl rfl 43 _ (heap_alloc_new w2 _) 33 infoPh HSk.out (phA_size _ _ z32_length) HOk.out w2.heap.size w2 (belowa (Below.refl _ _) _) (Nat.le_refl _) ?_; intro w3 hg3 ho3 hz3 hb3; have HG3 := Lib.hid hg3; have HBEL3 := Lib.hid (joins HBEL2.out hb3); clear hg3 ho3 hz3 hb3))
      go_loopg [7, 6] (N - 1) (fun g u s wr => ∃ j : Nat, j + g = N - 1 ∧ u = .int .i64 ((j : Int) + 1) ∧ s = .int .i64 (sumN Tk j) ∧ (sumN Tk j < l0 ∨ j = 0) ∧ wr.heap[w2.heap.size]? = some (.cells C 43 (0, 0)) ∧ Below w.heap.size w wr)
      case atStart => exact ⟨0, Nat.zero_add _, rfl, rfl, Or.inr rfl, HG3.out, HBEL3.out⟩
      case round =>
        obtain ⟨j, hjg, rfl, rfl, hcond, hg4, hbel4⟩ := hrel
        have HG4 := Lib.hid hg4
        have HBEL4 := Lib.hid hbel4
        have HCO := Lib.hid hcond
        clear hg4 hbel4 hcond
        cases gk with
        | zero =>
          have he : j = N - 1 := by omega
          subst he
          have h2 : (N : Int) ≤ ((N - 1 : Nat) : Int) + 1 := by omega
          have hres : sumN Tk (N - 1) = l1 := by
            have hs := HS.out
            have hE := HEk.out
            rw [← hE]
            have hc := HCO.out
            rw [← hE] at hc
            rw [hs]
            rcases hc with hc | hc
            · rw [if_pos hc]
            · have : e0 = 0 := by rw [hE, hc]; rfl
              split <;> omega
          rw [hres]
          clear hres
          go_wp2_with fail
          go_roundg g
          case measure => omega
          case rel => exact ⟨k + 1, hkg2, by go_num, by rw [HL1.out], HBEL4.out⟩
        | succ g2 =>
          have hj : j + 1 < N := by omega
          have h2 : (j : Int) + 1 < (N : Int) := by omega
          have h3 : (0 : Int) ≤ (j : Int) := by omega
          have HBj := Lib.hid (HBk.out j hj)
          obtain ⟨hX1, hX2⟩ := HSBk.out j
          obtain ⟨hY1, hY2⟩ := HTk.out j
          have hX3 : sumN Tk j ≤ 65536 := by omega
          have hs : sumN Tk (j + 1) = sumN Tk j + Tk j := rfl
          have hm := HMk.out (j + 1) (by omega)
          obtain ⟨X, hX⟩ : ∃ X, X = sumN Tk j := ⟨_, rfl⟩
          obtain ⟨Y, hY⟩ : ∃ Y, Y = Tk j := ⟨_, rfl⟩
          rw [← hY] at HBj hY1 hY2
          rw [hs, ← hX, ← hY] at hm
          rw [← hX, ← hY] at hs
          rw [← hX] at hX1 hX3 ⊢
          have HSS := Lib.hid hs
          clear hs hX hY hX2
          by_cases hge : l0 ≤ X + Y
          · have hres : l0 = l1 := by rw [HS.out, if_neg (by omega)]
            have HRES := Lib.hid hres
            clear hres hm
            go_wp2_with (refine wpList_load_row rfl 43 (.tmp 5) rfl w2.heap.size rfl 43 C (0, 0) _ HG4.out Try.underlying43 rfl HI1.out ?_)
            refine (HBj.out _).mono ?_
            rintro e w5 ⟨rfl, hb5⟩
            have HBEL5 := Lib.hid (joins HBEL4.out hb5)
            clear hb5
            go_wp2_with fail
            go_roundg g
            case measure => omega
            case rel => exact ⟨k + 1, hkg2, by go_num, by rw [← HL1.out, HRES.out], HBEL5.out⟩
          · have hlt2 : X + Y < l0 := by omega
            clear hge hm
            go_wp2_with (refine wpList_load_row rfl 43 (.tmp 5) rfl w2.heap.size rfl 43 C (0, 0) _ HG4.out Try.underlying43 rfl HI1.out ?_)
            refine (HBj.out _).mono ?_
            rintro e w5 ⟨rfl, hb5⟩
            have HG5 := Lib.hid ((hb5.block w2.heap.size (Array.getElem?_eq_some_iff.1 HG4.out).1).trans HG4.out)
            have HBEL5 := Lib.hid (joins HBEL4.out hb5)
            clear hb5
            go_wp2_with fail
            go_roundg g2
            case measure => omega
            case rel => exact ⟨j + 1, by omega, by go_num, by rw [HSS.out], Or.inl (by rw [HSS.out]; exact hlt2), HG5.out, HBEL5.out⟩

set_option maxHeartbeats 1000000 in
theorem ileast (n : Int) (w : World) : Calls Try.prog 28 #[.int .i64 n] w (Ret w (.tuple #[.int .i64 (leC n), .bool (smallN n)])) := by
  have HC := isSearched_any n
  by_cases hs : smallN n = true
  · have hn : 1 ≤ n ∧ n ≤ 6 := by simpa [smallN] using hs
    obtain ⟨N, rfl⟩ := Int.eq_ofNat_of_zero_le (show 0 ≤ n by omega)
    have hb : leC N = leN N 9223372036854775807 (pow4 N) := (leC_eq N (by omega) (by omega) _ (by have := (rankE_bound N 0 (by omega)).2; omega)).symm
    rw [hb, hs]
    rw [hs] at HC
    have HB := Lib.hid (leastEnergy_any N (by omega) (by omega))
    have HC' := Lib.hid HC
    obtain ⟨L, hL⟩ : ∃ L, L = leN N 9223372036854775807 (pow4 N) := ⟨_, rfl⟩
    rw [← hL] at HB ⊢
    clear HC hb hs hn hL
    go_enter Try.func28, Try.ntmps28
    go_wp2_with fail
    refine (HC'.out _).mono ?_
    rintro e w1 ⟨rfl, rfl⟩
    go_wp2_with fail
    refine (HB.out _).mono ?_
    rintro e w2 ⟨rfl, hb2⟩
    go_wp2_with fail
    go_returns
    exact ⟨rfl, hb2⟩
  · have hs2 : smallN n = false := by simpa using hs
    have hb : leC n = 0 := by unfold leC; rw [hs2]; rfl
    rw [hb, hs2]
    rw [hs2] at HC
    have HC' := Lib.hid HC
    clear HC hb hs hs2
    go_enter Try.func28, Try.ntmps28
    go_wp2_with fail
    refine (HC'.out _).mono ?_
    rintro e w1 ⟨rfl, rfl⟩
    go_wp2_with fail
    go_returns
    exact ⟨rfl, by go_grown⟩
end Go.Proofs.Ytmckophclehkpab
