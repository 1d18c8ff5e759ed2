/- The program's valueAtRoot: a sum over the index. -/
import Derived.Test.YtodgalflngfnpaaCors
namespace Go.Proofs.Ytodgalflngfnpaa
set_option maxRecDepth 100000
open Go.RowKit

set_option maxRecDepth 100000 in
set_option maxHeartbeats 2000000 in
theorem valueAtRoot_any (a : List Int) (r : Int) (ha : isSeq a = true) (hr1 : 0 ≤ r) (hr2 : r ≤ 3) (w : World) :
    Calls Try.prog 82 #[.agg (phA (padL a) a.length), .int .i64 r] w (Ret w (.complex .f32 (f32of (vrS vx a r)) (f32of (vrS vy a r)))) := by
  have h32 := isSeq_len ha
  have hpa : (padL a).length = 32 := padL_length h32
  have hlenA := phA_len (padL a) (a.length : Int) hpa
  have hgetA : ∀ i : Nat, i < a.length → (phA (padL a) (a.length : Int))[i]? = some (.int .i64 (a.getD i 0)) := fun i hi => by rw [phA_get _ _ i (by omega), pad_getD a i hi]
  have hba : ∀ i : Nat, i < a.length → 0 ≤ a.getD i 0 ∧ a.getD i 0 ≤ 3 := fun i hi => allIn_getD (isSeq_all ha) i hi
  obtain ⟨ca, hca⟩ : ∃ cs, cs = phA (padL a) (a.length : Int) := ⟨_, rfl⟩
  rw [← hca]
  rw [← hca] at hlenA hgetA
  have HGA := Lib.hid hgetA
  have HBA := Lib.hid hba
  have HLA := Lib.hid hlenA
  obtain ⟨N, hN⟩ : ∃ N, N = a.length := ⟨_, rfl⟩
  rw [← hN] at h32 HLA
  have HN := Lib.hid hN
  obtain ⟨G1, hG1⟩ : ∃ G, G = vrT vx a r := ⟨_, rfl⟩
  obtain ⟨G2, hG2⟩ : ∃ G, G = vrT vy a r := ⟨_, rfl⟩
  have e1 : sumN G1 N = vrS vx a r := by rw [hG1, hN]; rfl
  have e2 : sumN G2 N = vrS vy a r := by rw [hG2, hN]; rfl
  have b1 : ∀ i, -1 ≤ G1 i ∧ G1 i ≤ 1 := fun i => by rw [hG1]; exact vrT_one vx vx_one a r i
  have b2 : ∀ i, -1 ≤ G2 i ∧ G2 i ≤ 1 := fun i => by rw [hG2]; exact vrT_one vy vy_one a r i
  rw [← e1, ← e2]
  have HG1 := Lib.hid hG1
  have HG2 := Lib.hid hG2
  have HB1 := Lib.hid b1
  have HB2 := Lib.hid b2
  clear hca hN hG1 hG2 e1 e2 b1 b2 hpa hlenA hgetA hba ha
  have c320 : (w.alloc (.cells ca 48)).cell? ⟨w.heap.size, 32, none⟩ = some (.int .i64 N) := by rw [cell_of_row _ _ _ _ _ _ (heap_alloc_new w _)]; exact HLA.out
  go_enter Try.func82, Try.ntmps82
  go_wp2_with fail
  clear c320
  go_loopw [9, 5] (fun i s wr => ∃ k : Nat, k ≤ N ∧ i = .int .i64 k ∧ s = .complex .f32 (f32of (sumN G1 k)) (f32of (sumN G2 k)) ∧ wr.heap[w.heap.size]? = some (.cells ca 48 (0, 0)) ∧ Below w.heap.size w wr) (fun i _ _ => N - (intOf i).toNat)
  case atStart => exact ⟨0, Nat.zero_le _, rfl, rfl, heap_alloc_new w _, by go_grown⟩
  case round =>
    obtain ⟨k, hk2, rfl, rfl, hb0, hbel⟩ := hrel
    have hX := sumN_bound G1 HB1.out k
    have hY := sumN_bound G2 HB2.out k
    by_cases hlt : k < N
    · have hxr := HBA.out k (by rw [← HN.out]; exact hlt)
      have hrk : 0 ≤ r * (k : Int) ∧ r * (k : Int) ≤ 96 := by
        constructor
        · exact Int.mul_nonneg hr1 (by omega)
        · have := Int.mul_le_mul hr2 (show (k : Int) ≤ 32 by omega) (by omega) (by omega); omega
      have hmod : ∀ w : World, Calls Try.prog 98 #[.int .i64 (r * (k : Int)), .int .i64 4] w (Pure w (.int .i64 ((r * (k : Int)) % 4))) := fun w => modulo_any _ _ (by omega) (by omega) (by omega) (by omega) w
      have hyr : 0 ≤ (r * (k : Int)) % 4 ∧ (r * (k : Int)) % 4 ≤ 3 := by omega
      have hg1 : G1 k = vx ((a.getD k 0 + (r * (k : Int)) % 4) % 4) := by rw [HG1.out]; unfold vrT; congr 1; omega
      have hg2 : G2 k = vy ((a.getD k 0 + (r * (k : Int)) % 4) % 4) := by rw [HG2.out]; unfold vrT; congr 1; omega
      have ck : wr.cell? ⟨w.heap.size, k, none⟩ = some (.int .i64 (a.getD k 0)) := by rw [cell_of_row wr _ _ _ _ _ hb0]; exact HGA.out k (by rw [← HN.out]; exact hlt)
      obtain ⟨x, hx⟩ : ∃ x, x = a.getD k 0 := ⟨_, rfl⟩
      obtain ⟨y, hy⟩ : ∃ y, y = (r * (k : Int)) % 4 := ⟨_, rfl⟩
      rw [← hx] at hxr ck hg1 hg2
      rw [← hy] at hyr hg1 hg2 hmod
      have hmc := mm_ok x y hxr.1 hxr.2 hyr.1 hyr.2
      obtain ⟨m1, hm1⟩ : ∃ m, m = (mm x y).1 := ⟨_, rfl⟩
      obtain ⟨m2, hm2⟩ : ∃ m, m = (mm x y).2 := ⟨_, rfl⟩
      rw [← hm1, ← hm2] at hmc
      obtain ⟨hmc1, hu1, hu2, hv1, hv2⟩ := hmc
      have hadd := fun w t => run_addu w t (sumN G1 k) (sumN G2 k) m1 m2 (by omega) (by omega) hu1 hu2
      have hn1 : sumN G1 k + valF m1 = sumN G1 (k + 1) := by rw [hv1, ← hg1]; rfl
      have hn2 : sumN G2 k + valF m2 = sumN G2 (k + 1) := by rw [hv2, ← hg2]; rfl
      rw [hn1, hn2] at hadd
      have hmul := fun w t => run_complex_mul32 (P := Try.prog) w t _ _ _ _ _ _ hmc1
      have HVX := Lib.hid (valueOf_any x hxr.1 hxr.2)
      have HVY := Lib.hid (valueOf_any y hyr.1 hyr.2)
      obtain ⟨fa, hfa⟩ : ∃ fa, fa = f32of (sumN G1 k) := ⟨_, rfl⟩
      obtain ⟨fb, hfb⟩ : ∃ fb, fb = f32of (sumN G2 k) := ⟨_, rfl⟩
      obtain ⟨ga, hga⟩ : ∃ fa, fa = f32of (sumN G1 (k + 1)) := ⟨_, rfl⟩
      obtain ⟨gb, hgb⟩ : ∃ fb, fb = f32of (sumN G2 (k + 1)) := ⟨_, rfl⟩
      obtain ⟨p1, hp1⟩ : ∃ fa, fa = f32of (vx x) := ⟨_, rfl⟩
      obtain ⟨p2, hp2⟩ : ∃ fa, fa = f32of (vy x) := ⟨_, rfl⟩
      obtain ⟨q1, hq1⟩ : ∃ fa, fa = f32of (vx y) := ⟨_, rfl⟩
      obtain ⟨q2, hq2⟩ : ∃ fa, fa = f32of (vy y) := ⟨_, rfl⟩
      rw [← hp1, ← hp2, ← hq1, ← hq2] at hmul
      rw [← hq1, ← hq2] at HVY
      rw [← hp1, ← hp2] at HVX
      rw [← hfa, ← hfb, ← hga, ← hgb] at hadd
      rw [← hfa, ← hfb]
      have HGA' := Lib.hid hga
      have HGB' := Lib.hid hgb
      have HMOD := Lib.hid hmod
      obtain ⟨hrk1, hrk2⟩ := hrk
      have h0 : (0 : Int) ≤ (k : Int) := by omega
      have h1 : (k : Int) < 32 := by omega
      have h4 : (k : Int) < (N : Int) := by omega
      have HB := Lib.hid hbel
      have HB0 := Lib.hid hb0
      clear hX hY hxr hg1 hg2 hx hy hyr hm1 hm2 hmc1 hu1 hu2 hv1 hv2 hn1 hn2 hfa hfb hga hgb hp1 hp2 hq1 hq2 hb0 hbel hmod
      go_wp2_with fail
      refine (HVX.out _).mono ?_
      rintro e w1 ⟨rfl, hb1⟩
      go_wp2_with fail
      refine (HMOD.out _).mono ?_
      rintro e w2 ⟨rfl, rfl⟩
      go_wp2_with fail
      refine (HVY.out _).mono ?_
      rintro e w3 ⟨rfl, hb3⟩
      have hbr := joins hb1 hb3
      have f0 := (hbr.block w.heap.size (Array.getElem?_eq_some_iff.1 HB0.out).1).trans HB0.out
      have f2 := joins HB.out hbr
      have F0 := Lib.hid f0
      have F2 := Lib.hid f2
      clear f0 f2 hbr hb1 hb3
      go_wp2_with fail
      go_roundw
      case rel => exact ⟨k + 1, by omega, by go_num, by rw [HGA'.out, HGB'.out], F0.out, F2.out⟩
      case measure => simp [intOf]; omega
    · have he : k = N := by omega
      subst he
      have HB := Lib.hid hbel
      obtain ⟨fa, hfa⟩ : ∃ fa, fa = f32of (sumN G1 k) := ⟨_, rfl⟩
      obtain ⟨fb, hfb⟩ : ∃ fb, fb = f32of (sumN G2 k) := ⟨_, rfl⟩
      rw [← hfa, ← hfb]
      have HFA := Lib.hid hfa
      have HFB := Lib.hid hfb
      clear hfa hfb hbel hb0
      go_wp2_with fail
      go_returns
      exact ⟨by rw [← HFA.out, ← HFB.out]; rfl, HB.out⟩
end Go.Proofs.Ytodgalflngfnpaa
