/- The program's periodic: a sum over the index, which goes round. -/
import Derived.Test.YtjoepdflbbcliaaCors
namespace Go.Proofs.Ytjoepdflbbcliaa
set_option maxRecDepth 100000
open Go.RowKit

set_option maxRecDepth 100000 in
set_option maxHeartbeats 2000000 in
theorem periodic_any (a b : List Int) (u : Int) (ha : isSeq a = true) (hb : isSeq b = true) (hab : a.length = b.length) (h1n : 1 ≤ a.length) (hu1 : -(a.length : Int) ≤ u) (hu2 : u ≤ a.length) (w : World) :
    Calls Try.prog 58 #[.agg (phA (padL a) a.length), .agg (phA (padL b) b.length), .int .i64 u] w (Ret w (.complex .f32 (f32of (peS vx a b u)) (f32of (peS vy a b u)))) := by
  have h32 := isSeq_len ha
  have hpa : (padL a).length = 32 := padL_length h32
  have hpb : (padL b).length = 32 := padL_length (by omega)
  have hlenA := phA_len (padL a) (a.length : Int) hpa
  have hgetA : ∀ i : Nat, i < a.length → (phA (padL a) (a.length : Int))[i]? = some (.int .i64 (a.getD i 0)) := fun i hi => by rw [phA_get _ _ i (by omega), pad_getD a i hi]
  have hgetB : ∀ i : Nat, i < b.length → (phA (padL b) (b.length : Int))[i]? = some (.int .i64 (b.getD i 0)) := fun i hi => by rw [phA_get _ _ i (by omega), pad_getD b i hi]
  have hba : ∀ i : Nat, i < a.length → 0 ≤ a.getD i 0 ∧ a.getD i 0 ≤ 3 := fun i hi => allIn_getD (isSeq_all ha) i hi
  have hbb : ∀ i : Nat, i < b.length → 0 ≤ b.getD i 0 ∧ b.getD i 0 ≤ 3 := fun i hi => allIn_getD (isSeq_all hb) i hi
  obtain ⟨ca, hca⟩ : ∃ cs, cs = phA (padL a) (a.length : Int) := ⟨_, rfl⟩
  obtain ⟨cb, hcb⟩ : ∃ cs, cs = phA (padL b) (b.length : Int) := ⟨_, rfl⟩
  rw [← hca, ← hcb]
  rw [← hca] at hlenA hgetA
  rw [← hcb] at hgetB
  have HGA := Lib.hid hgetA
  have HGB := Lib.hid hgetB
  have HBA := Lib.hid hba
  have HBB := Lib.hid hbb
  have HLA := Lib.hid hlenA
  obtain ⟨N, hN⟩ : ∃ N, N = a.length := ⟨_, rfl⟩
  have hNb : N = b.length := by omega
  rw [← hN] at h32 hu1 hu2 HLA h1n
  have HN := Lib.hid hN
  have HNB := Lib.hid hNb
  have hXs := peS_small vx vx_one a b u (by omega)
  have hYs := peS_small vy vy_one a b u (by omega)
  obtain ⟨G1, hG1⟩ : ∃ G, G = peT vx a b u := ⟨_, rfl⟩
  obtain ⟨G2, hG2⟩ : ∃ G, G = peT vy a b u := ⟨_, rfl⟩
  have e1 : sumN G1 N = peS vx a b u := by rw [hG1, hNb]; rfl
  have e2 : sumN G2 N = peS vy a b u := by rw [hG2, hNb]; rfl
  have b1 : ∀ i, -1 ≤ G1 i ∧ G1 i ≤ 1 := fun i => by rw [hG1]; exact peT_one vx vx_one a b u i
  have b2 : ∀ i, -1 ≤ G2 i ∧ G2 i ≤ 1 := fun i => by rw [hG2]; exact peT_one vy vy_one a b u i
  rw [← e1, ← e2]
  have HG1 := Lib.hid hG1
  have HG2 := Lib.hid hG2
  have HB1 := Lib.hid b1
  have HB2 := Lib.hid b2
  clear hca hcb hN hNb hG1 hG2 e1 e2 b1 b2 hpa hpb hlenA hgetA hgetB hba hbb ha hb hab hXs hYs
  have c320 : ((w.alloc (.cells ca 47)).alloc (.cells cb 47)).cell? ⟨w.heap.size, 32, none⟩ = some (.int .i64 N) := by rw [cell_of_row _ _ _ _ _ _ (heap_alloc2_old w _ _)]; exact HLA.out
  skip
  all_goals
    go_enter Try.func58, Try.ntmps58
    go_wp2_with fail
    clear c320
    go_loopw [11, 7] (fun i s wr => ∃ k : Nat, k ≤ N ∧ i = .int .i64 k ∧ s = .complex .f32 (f32of (sumN G1 k)) (f32of (sumN G2 k)) ∧ wr.heap[w.heap.size]? = some (.cells ca 47 (0, 0)) ∧ wr.heap[w.heap.size + 1]? = some (.cells cb 47 (0, 0)) ∧ Below w.heap.size w wr) (fun i _ _ => N - (intOf i).toNat)
    case atStart => exact ⟨0, Nat.zero_le _, rfl, rfl, heap_alloc2_old w _ _, heap_alloc2_new w _ _, by go_grown⟩
    case round =>
      obtain ⟨k, hk2, rfl, rfl, hb0, hb1, hbel⟩ := hrel
      have c32 : wr.cell? ⟨w.heap.size, 32, none⟩ = some (.int .i64 N) := by rw [cell_of_row wr _ _ _ _ _ hb0]; exact HLA.out
      have hX := sumN_bound G1 HB1.out k
      have hY := sumN_bound G2 HB2.out k
      by_cases hlt : k < N
      · have he1 := Int.emod_nonneg ((k : Int) + u) (show (N : Int) ≠ 0 by omega)
        have he2 := Int.emod_lt_of_pos ((k : Int) + u) (show 0 < (N : Int) by omega)
        obtain ⟨M, hM⟩ : ∃ M : Nat, ((k : Int) + u) % (N : Int) = M := ⟨_, (Int.toNat_of_nonneg he1).symm⟩
        have hMN : M < N := by omega
        have hmod : ∀ w : World, Calls Try.prog 48 #[.int .i64 ((k : Int) + u), .int .i64 (N : Int)] w (Pure w (.int .i64 (M : Int))) := fun w => by rw [← hM]; exact modulo_any _ _ (by omega) (by omega) (by omega) (by omega) w
        have HMOD := Lib.hid hmod
        clear he1 he2 hmod
        have hxr := HBA.out M (by rw [← HN.out]; exact hMN)
        have hyr := HBB.out k (by rw [← HNB.out]; omega)
        have hg1 : G1 k = vx ((a.getD M 0 - b.getD k 0) % 4) := by rw [HG1.out]; unfold peT; rw [← HN.out, hM, Int.toNat_natCast]
        have hg2 : G2 k = vy ((a.getD M 0 - b.getD k 0) % 4) := by rw [HG2.out]; unfold peT; rw [← HN.out, hM, Int.toNat_natCast]
        have cM : wr.cell? ⟨w.heap.size, M, none⟩ = some (.int .i64 (a.getD M 0)) := by rw [cell_of_row wr _ _ _ _ _ hb0]; exact HGA.out M (by rw [← HN.out]; exact hMN)
        have ck : wr.cell? ⟨w.heap.size + 1, k, none⟩ = some (.int .i64 (b.getD k 0)) := by rw [cell_of_row wr _ _ _ _ _ hb1]; exact HGB.out k (by rw [← HNB.out]; omega)
        obtain ⟨x, hx⟩ : ∃ x, x = a.getD M 0 := ⟨_, rfl⟩
        obtain ⟨y, hy⟩ : ∃ y, y = b.getD k 0 := ⟨_, rfl⟩
        rw [← hx] at hxr cM hg1 hg2
        rw [← hy] at hyr ck hg1 hg2
        have hmc := mc_ok x y hxr.1 hxr.2 hyr.1 hyr.2
        obtain ⟨m1, hm1⟩ : ∃ m, m = (mc x y).1 := ⟨_, rfl⟩
        obtain ⟨m2, hm2⟩ : ∃ m, m = (mc x y).2 := ⟨_, rfl⟩
        rw [← hm1, ← hm2] at hmc
        obtain ⟨hmc1, hu1, hu2, hv1, hv2⟩ := hmc
        have hadd := fun w t => run_addu w t (sumN G1 k) (sumN G2 k) m1 m2 (by omega) (by omega) hu1 hu2
        have hn1 : sumN G1 k + valF m1 = sumN G1 (k + 1) := by rw [hv1, ← hg1]; rfl
        have hn2 : sumN G2 k + valF m2 = sumN G2 (k + 1) := by rw [hv2, ← hg2]; rfl
        rw [hn1, hn2] at hadd
        have hmul := fun w t => run_complex_mul32 (P := Try.prog) w t _ _ _ _ _ _ hmc1
        have HVX := Lib.hid (valueOf_any x hxr.1 hxr.2)
        have HVY := Lib.hid (valueOf_any y hyr.1 hyr.2)
        have HCJ := Lib.hid (conjugateValue_any (f32of (vx y)) (f32of (vy y)))
        obtain ⟨fa, hfa⟩ : ∃ fa, fa = f32of (sumN G1 k) := ⟨_, rfl⟩
        obtain ⟨fb, hfb⟩ : ∃ fb, fb = f32of (sumN G2 k) := ⟨_, rfl⟩
        obtain ⟨ga, hga⟩ : ∃ fa, fa = f32of (sumN G1 (k + 1)) := ⟨_, rfl⟩
        obtain ⟨gb, hgb⟩ : ∃ fb, fb = f32of (sumN G2 (k + 1)) := ⟨_, rfl⟩
        obtain ⟨p1, hp1⟩ : ∃ fa, fa = f32of (vx x) := ⟨_, rfl⟩
        obtain ⟨p2, hp2⟩ : ∃ fa, fa = f32of (vy x) := ⟨_, rfl⟩
        obtain ⟨q1, hq1⟩ : ∃ fa, fa = f32of (vx y) := ⟨_, rfl⟩
        obtain ⟨q2, hq2⟩ : ∃ fa, fa = f32of (vy y) := ⟨_, rfl⟩
        obtain ⟨q3, hq3⟩ : ∃ fa, fa = f32neg (f32of (vy y)) := ⟨_, rfl⟩
        rw [← hq3] at hmul HCJ
        rw [← hq1, ← hq2] at HCJ HVY
        rw [← hp1, ← hp2, ← hq1] at hmul
        rw [← hp1, ← hp2] at HVX
        rw [← hfa, ← hfb, ← hga, ← hgb] at hadd
        rw [← hfa, ← hfb]
        have HGA' := Lib.hid hga
        have HGB' := Lib.hid hgb
        have HM := Lib.hid hM
        have hsum : IntKind.i64.wrap ((k : Int) + u) = (k : Int) + u := IntWalk.i64_in _ (by omega)
        have h0 : (0 : Int) ≤ (k : Int) := by omega
        have h1 : (k : Int) < 32 := by omega
        have h2 : (0 : Int) ≤ (M : Int) := by omega
        have h3 : (M : Int) < 32 := by omega
        have h4 : (k : Int) < (N : Int) := by omega
        have HB := Lib.hid hbel
        have HB0 := Lib.hid hb0
        have HB1' := Lib.hid hb1
        clear hX hY hM hxr hyr hg1 hg2 hx hy hm1 hm2 hmc1 hu1 hu2 hv1 hv2 hn1 hn2 hfa hfb hga hgb hp1 hp2 hq1 hq2 hq3 hb0 hb1 hbel
        go_wp2_with fail
        go_region_held3 (fun w' => w'.cell? ⟨w.heap.size, 32, none⟩ = some (.int .i64 N) ∧ w'.cell? ⟨w.heap.size, M, none⟩ = some (.int .i64 x) ∧ w'.cell? ⟨w.heap.size + 1, k, none⟩ = some (.int .i64 y) ∧ Below wr.heap.size wr w')
          (first | (exact ⟨keepd c32, keepd cM, keepd ck, belowN (Below.refl _ _) 1⟩) | (go_split_ands; first | exact ⟨by assumption, by assumption, by assumption, by assumption⟩ | exact ⟨keepc hb (by assumption), keepc hb (by assumption), keepc hb (by assumption), joins (by assumption) hb⟩))
          (first
            | (go_at_call 48; refine (HMOD.out _).mono ?_; rintro e w' ⟨rfl, rfl⟩)
            | (go_at_call 69; refine (HCJ.out _).mono ?_; rintro e w' ⟨rfl, rfl⟩)
            | (go_at_call 68; (with_reducible refine (HVX.out _).mono ?_); rintro e w' ⟨rfl, hb⟩)
            | (go_at_call 68; (with_reducible refine (HVY.out _).mono ?_); rintro e w' ⟨rfl, hb⟩))
        go_split_ands
        have hbr := ‹Below wr.heap.size wr _›
        have f0 := (hbr.block w.heap.size (Array.getElem?_eq_some_iff.1 HB0.out).1).trans HB0.out
        have f1 := (hbr.block (w.heap.size + 1) (Array.getElem?_eq_some_iff.1 HB1'.out).1).trans HB1'.out
        have f2 := joins HB.out hbr
        have F0 := Lib.hid f0
        have F1 := Lib.hid f1
        have F2 := Lib.hid f2
        clear f0 f1 f2 hbr
        go_wp2_with fail
        go_roundw
        case rel => exact ⟨k + 1, by omega, by go_num, by rw [HGA'.out, HGB'.out], F0.out, F1.out, F2.out⟩
        case measure => simp [intOf]; omega
      · have he : k = N := by omega
        subst he
        have HB := Lib.hid hbel
        obtain ⟨fa, hfa⟩ : ∃ fa, fa = f32of (sumN G1 k) := ⟨_, rfl⟩
        obtain ⟨fb, hfb⟩ : ∃ fb, fb = f32of (sumN G2 k) := ⟨_, rfl⟩
        rw [← hfa, ← hfb]
        have HFA := Lib.hid hfa
        have HFB := Lib.hid hfb
        clear hfa hfb hbel hb0 hb1
        go_wp2_with fail
        go_returns
        exact ⟨by rw [← HFA.out, ← HFB.out]; rfl, HB.out⟩
end Go.Proofs.Ytjoepdflbbcliaa
