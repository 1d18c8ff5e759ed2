/- The program's WaveOf. -/
import Derived.Test.YtgibdndckoapfabIPl
import Derived.Test.YtgibdndckoapfabSg
import Derived.Test.YtgibdndckoapfabMvM
namespace Go.Proofs.Ytgibdndckoapfab
set_option maxRecDepth 100000
open Go.RowKit

/-- The first j numbers are set, the others zero. -/
def upI (k : Nat) (G : Nat → Int) : Nat → Int := fun i => if i < k then G i else 0
theorem upI_set (n k : Nat) (G : Nat → Int) (hk : k < n) : ((gen n (upI k G)).map (Value.int .i64)).set k (.int .i64 (G k)) = (gen n (upI (k + 1) G)).map (Value.int .i64) := by
  apply List.ext_getElem?
  intro i
  by_cases hi : i < n
  · by_cases e : i = k
    · subst e
      rw [List.getElem?_set_self (by simp [gen_length]; exact hi)]
      simp [gen, upI, hi]
    · rw [List.getElem?_set_ne (fun h => e h.symm)]
      have e1 : (i < k + 1) = (i < k) := propext (by omega)
      simp [gen, upI, hi, e1]
  · rw [List.getElem?_eq_none (by simp [gen_length]; omega), List.getElem?_eq_none (by simp [gen_length]; omega)]
theorem upI_zero (n : Nat) (G : Nat → Int) : gen n (upI 0 G) = List.replicate n 0 := by
  unfold gen upI
  simp [List.map_const']
theorem upI_all (n : Nat) (G : Nat → Int) : gen n (upI n G) = gen n G := gen_ext (fun i hi => if_pos hi)
set_option maxRecDepth 100000 in
set_option maxHeartbeats 2000000 in
theorem iwaveOf (n p : Int) (w : World) : Calls Try.prog 23 #[.int .i64 n, .int .i64 p] w (MakesB w (wvA n p) (wvOk n p)) := by
  obtain ⟨i0, hi, hz0, hz1, hz2⟩ := info_parts infoInt
  have HS := Lib.hid (fits_conj n)
  unfold tfZ at HS
  by_cases hz : n = 1 ∨ n = 4 ∨ n = 16
  · rw [decide_eq_true hz] at HS
    have HI := Lib.hid (isPlace_any p n)
    have hn1 : 1 ≤ n := by omega
    have hn2 : n ≤ 16 := by omega
    by_cases hin : 0 ≤ p ∧ p < n
    · have e1 : wvOk n p = true := by unfold wvOk; rw [decide_eq_true hz, decide_eq_true hin]; rfl
      have e2 : wvA n p = gen n.toNat (fun x => (wvP p.toNat x : Int)) := by unfold wvA; rw [e1]; rfl
      rw [decide_eq_true hin] at HI
      rw [e1, e2]
      obtain ⟨m, rfl⟩ : ∃ m : Nat, p = m := ⟨p.toNat, by omega⟩
      obtain ⟨N, rfl⟩ : ∃ m : Nat, n = m := ⟨n.toNat, by omega⟩
      rw [show ((N : Int)).toNat = N from rfl, show ((m : Int)).toNat = m from rfl]
      obtain ⟨G, hG⟩ : ∃ G : Nat → Int, G = fun x => (wvP m x : Int) := ⟨_, rfl⟩
      rw [← hG]
      have HG := Lib.hid (show ∀ x, G x = (wvP m x : Int) from fun x => by rw [hG])
      have hmN : m < N := by omega
      clear hz hin e1 e2 hG
      go_enter Try.func23, Try.ntmps23
      go_wp2_with fail
      refine (HS.out _).mono ?_
      rintro e w1 ⟨rfl, rfl⟩
      go_wp2_with fail
      refine (HI.out _).mono ?_
      rintro e w2 ⟨rfl, rfl⟩
      go_wp2_with (at_make; refine wpList_make_full _ rfl _ _ 36 rfl w.heap.size 3 i0 (.int .i64 0) 1 Try.underlying36 hi hz0 hz1 _ _ _ _ N rfl rfl rfl rfl ?b2 ?b3 (Nat.le_refl _) ?_)
      case b2 => rw [hz2]; omega
      case b3 => unfold maxLen; omega
      intro w0 hown0 hgrow0
      rw [made_zeros] at hown0
      have hrow0 : w0.ownsRow w.heap.size 3 1 (.slice (some ⟨w.heap.size, 0, none⟩) N N) N ((gen N (upI 0 G)).map (Value.int .i64)) := by
        rw [upI_zero]
        simpa using hown0
      have HO0 := Lib.hid hrow0
      have HB0 := Lib.hid (show Below w.heap.size w w0 from (Below.refl _ _).grown hgrow0 (Nat.le_refl _) (fun k h => by cases h))
      clear hown0 hgrow0 hrow0
      go_wp2_with fail
      go_loopw [21] (fun i wr => ∃ k : Nat, k ≤ N ∧ i = .int .i64 k ∧ wr.ownsRow w.heap.size 3 1 (.slice (some ⟨w.heap.size, 0, none⟩) N N) N ((gen N (upI k G)).map (Value.int .i64)) ∧ Below w.heap.size w wr) (fun i _ => N - (intOf i).toNat)
      case atStart => exact ⟨0, Nat.zero_le _, rfl, HO0.out, HB0.out⟩
      case round =>
        obtain ⟨k, hk, rfl, hown, hbel⟩ := hrel
        have HB := Lib.hid hbel
        have HO := Lib.hid hown
        by_cases hlt : k < N
        · have h0 : (0 : Int) ≤ (k : Int) := by omega
          have h1 : (k : Int) < (N : Int) := by omega
          have HA := Lib.hid (wavePhase_any m k (by omega) (by omega))
          rw [← HG.out k] at HA
          have hs := (hown.stored k (.int .i64 (G k))).1
          rw [upI_set N k G hlt] at hs
          have c1 : wr.cell? ⟨w.heap.size, k, none⟩ = some (.int .i64 0) := by
            rw [hown.cellAt k (by omega)]
            simp [gen, upI, hlt]
          have f1 := hown.frozenAt k
          obtain ⟨x, hx⟩ : ∃ x, x = G k := ⟨_, rfl⟩
          rw [← hx] at HA hs
          have HSS := Lib.hid hs
          clear hx hs hown hbel
          go_wp2_with fail
          refine (HA.out _).mono ?_
          rintro e w3 ⟨rfl, rfl⟩
          go_wp2_with fail
          go_roundw
          case rel => exact ⟨k + 1, by omega, by go_num, HSS.out, belows HB.out (Nat.le_refl _) _⟩
          case measure => simp [intOf]; omega
        · obtain rfl : k = N := by omega
          clear hown hbel
          go_wp2_with fail
          go_returns
          refine ⟨_, rfl, ?_, HB.out⟩
          have := HO.out
          rw [upI_all] at this
          unfold Own
          rw [gen_length]
          exact this
    · have e1 : wvOk n p = false := by unfold wvOk; rw [decide_eq_false hin, Bool.and_false]
      have e2 : wvA n p = [] := by unfold wvA; rw [e1]; rfl
      rw [decide_eq_false hin] at HI
      rw [e1, e2]
      clear e1 e2 hz hin
      go_enter Try.func23, Try.ntmps23
      go_wp2_with fail
      refine (HS.out _).mono ?_
      rintro e w1 ⟨rfl, rfl⟩
      go_wp2_with fail
      refine (HI.out _).mono ?_
      rintro e w2 ⟨rfl, rfl⟩
      go_wp2_with fail
      go_returns
      exact ⟨_, rfl, World.ownsRow_nil _ _ _ _, Below.refl _ _⟩
  · rw [decide_eq_false hz] at HS
    have e1 : wvOk n p = false := by unfold wvOk; rw [decide_eq_false hz, Bool.false_and]
    have e2 : wvA n p = [] := by unfold wvA; rw [e1]; rfl
    rw [e1, e2]
    clear e1 e2 hz
    go_enter Try.func23, Try.ntmps23
    go_wp2_with fail
    refine (HS.out _).mono ?_
    rintro e w1 ⟨rfl, rfl⟩
    go_wp2_with fail
    go_returns
    exact ⟨_, rfl, World.ownsRow_nil _ _ _ _, Below.refl _ _⟩
end Go.Proofs.Ytgibdndckoapfab
