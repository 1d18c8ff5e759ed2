/- The model's crRound: a sum over the index, which goes round. -/
import Derived.Test.YtjoepdflbbcliaaSCr
namespace Go.Proofs.Ytjoepdflbbcliaa
set_option maxRecDepth 100000
open Go.RowKit

set_option maxRecDepth 100000 in
set_option maxHeartbeats 2000000 in
theorem crRound_any (va vb : Value) (a b : List Int) (u : Int) (w : World) (hva : IS w va a) (hvb : IS w vb b) (ha : isSeq a = true) (hb : isSeq b = true) (hab : a.length = b.length) (h1n : 1 ≤ a.length) (hu1 : -32 ≤ u) (hu2 : u ≤ 32) :
    Calls Try.prog 57 #[va, vb, .int .i64 u] w (Ret w (.agg #[.int .i64 (peS vx a b u), .int .i64 (peS vy a b u)])) := by
  have h32 := isSeq_len ha
  have hba : ∀ i : Nat, i < a.length → 0 ≤ a.getD i 0 ∧ a.getD i 0 ≤ 3 := fun i hi => allIn_getD (isSeq_all ha) i hi
  have hbb : ∀ i : Nat, i < b.length → 0 ≤ b.getD i 0 ∧ b.getD i 0 ≤ 3 := fun i hi => allIn_getD (isSeq_all hb) i hi
  obtain ⟨pa, ca, rfl⟩ := hva.slice
  obtain ⟨pb, cb, rfl⟩ := hvb.slice
  have hca : 0 < a.length → _ := hva.cellsAt
  have hcb : 0 < b.length → _ := hvb.cellsAt
  obtain ⟨N, hN⟩ : ∃ N, N = a.length := ⟨_, rfl⟩
  have hNb : N = b.length := by omega
  obtain ⟨G1, hG1⟩ : ∃ G, G = peT vx a b u := ⟨_, rfl⟩
  obtain ⟨G2, hG2⟩ : ∃ G, G = peT vy a b u := ⟨_, rfl⟩
  have e1 : sumN G1 N = peS vx a b u := by rw [hG1, hNb]; rfl
  have e2 : sumN G2 N = peS vy a b u := by rw [hG2, hNb]; rfl
  have b1 : ∀ i, -1 ≤ G1 i ∧ G1 i ≤ 1 := fun i => by rw [hG1]; exact peT_one vx vx_one a b u i
  have b2 : ∀ i, -1 ≤ G2 i ∧ G2 i ≤ 1 := fun i => by rw [hG2]; exact peT_one vy vy_one a b u i
  rw [← e1, ← e2, ← hN, ← hNb]
  rw [← hN] at hca
  rw [← hNb] at hcb
  rw [← hN] at h32 h1n
  have HN := Lib.hid hN
  have HNB := Lib.hid hNb
  have HG1 := Lib.hid hG1
  have HG2 := Lib.hid hG2
  have HB1 := Lib.hid b1
  have HB2 := Lib.hid b2
  have HBA := Lib.hid hba
  have HBB := Lib.hid hbb
  have HCA := Lib.hid hca
  have HCB := Lib.hid hcb
  clear hN hNb hG1 hG2 e1 e2 b1 b2 hba hbb ha hb hab hva hvb hca hcb
  go_enter Try.func57, Try.ntmps57
  go_wp2_with fail
  go_loopw [16] (fun i wr => ∃ k : Nat, k ≤ N ∧ i = .int .i64 k ∧ ZS w (sumN G1 k) (sumN G2 k) wr) (fun i _ => N - (intOf i).toNat)
  case atStart => exact ⟨0, Nat.zero_le _, rfl, ZS.start w _⟩
  case round =>
    obtain ⟨k, hk, rfl, hz⟩ := hrel
    by_cases hlt : k < N
    · obtain ⟨bb, ob, hpb, hcb⟩ := HCB.out (by omega)
      obtain ⟨ba, oa, hpa, hca⟩ := HCA.out (by omega)
      subst hpa hpb
      have ck := keepc hz.below (hcb k hlt)
      have hyr := HBB.out k (by rw [← HNB.out]; exact hlt)
      have hnp : 0 < (N : Int) := by omega
      have he1 := Int.emod_nonneg ((k : Int) + u) (show (N : Int) ≠ 0 by omega)
      have he2 := Int.emod_lt_of_pos ((k : Int) + u) hnp
      obtain ⟨M, hM⟩ : ∃ M : Nat, ((k : Int) + u) % (N : Int) = (M : Int) := ⟨_, (Int.toNat_of_nonneg he1).symm⟩
      have hMN : M < N := by omega
      have ht1 : ((k : Int) + u).tmod (N : Int) < (N : Int) := Int.tmod_lt_of_pos _ hnp
      have ht2 : -(N : Int) < ((k : Int) + u).tmod (N : Int) := by
        by_cases hsg : 0 ≤ (k : Int) + u
        · rw [Int.tmod_eq_emod_of_nonneg hsg]; omega
        · exact (tmod_facts _ _ (by omega) (by omega)).2.1
      have ht3 : ((k : Int) + u).tmod (N : Int) % (N : Int) = (M : Int) := by rw [tmod_emod' _ _ hnp, hM]
      clear he1 he2
      obtain ⟨T, hT⟩ : ∃ T, ((k : Int) + u).tmod (N : Int) = T := ⟨_, rfl⟩
      rw [hT] at ht1 ht2 ht3
      have hM6 : ((T + (N : Int)) % (N : Int)) = (M : Int) := by rw [Int.add_emod_right]; exact ht3
      have hM7 : (T + (N : Int)).tmod (N : Int) = (M : Int) := by rw [Int.tmod_eq_emod_of_nonneg (by omega)]; exact hM6
      clear ht3
      have cM := keepc hz.below (hca M hMN)
      have hxr := HBA.out M (by rw [← HN.out]; exact hMN)
      have hg1 : G1 k = vx ((a.getD M 0 - b.getD k 0) % 4) := by rw [HG1.out]; unfold peT; rw [← HN.out, hM, Int.toNat_natCast]
      have hg2 : G2 k = vy ((a.getD M 0 - b.getD k 0) % 4) := by rw [HG2.out]; unfold peT; rw [← HN.out, hM, Int.toNat_natCast]
      obtain ⟨x, hx⟩ : ∃ x, x = a.getD M 0 := ⟨_, rfl⟩
      obtain ⟨y, hy⟩ : ∃ y, y = b.getD k 0 := ⟨_, rfl⟩
      rw [← hx] at hxr cM hg1 hg2
      rw [← hy] at hyr ck hg1 hg2
      have hX := sumN_bound G1 HB1.out k
      have hY := sumN_bound G2 HB2.out k
      have hv1 := vx_one ((x - y) % 4)
      have hv2 := vy_one ((x - y) % 4)
      have HVO := Lib.hid (phValueM_any (x - y) (by omega) (by omega))
      have HP := Lib.hid (phPlus_any (sumN G1 k) (sumN G2 k) (vx ((x - y) % 4)) (vy ((x - y) % 4)) (by omega) (by omega) (by omega) (by omega))
      have hn1 : sumN G1 k + vx ((x - y) % 4) = sumN G1 (k + 1) := by rw [← hg1]; rfl
      have hn2 : sumN G2 k + vy ((x - y) % 4) = sumN G2 (k + 1) := by rw [← hg2]; rfl
      rw [hn1, hn2] at HP
      obtain ⟨X, hXd⟩ : ∃ X, X = sumN G1 k := ⟨_, rfl⟩
      obtain ⟨Y, hYd⟩ : ∃ Y, Y = sumN G2 k := ⟨_, rfl⟩
      obtain ⟨X1, hX1⟩ : ∃ X, X = sumN G1 (k + 1) := ⟨_, rfl⟩
      obtain ⟨Y1, hY1⟩ : ∃ Y, Y = sumN G2 (k + 1) := ⟨_, rfl⟩
      obtain ⟨p, hp⟩ : ∃ p, p = vx ((x - y) % 4) := ⟨_, rfl⟩
      obtain ⟨q, hq⟩ : ∃ q, q = vy ((x - y) % 4) := ⟨_, rfl⟩
      rw [← hXd, ← hYd, ← hX1, ← hY1, ← hp, ← hq] at HP
      rw [← hp, ← hq] at HVO
      rw [← hXd, ← hYd] at hz
      have HX1 := Lib.hid hX1
      have HY1 := Lib.hid hY1
      have hsum : IntKind.i64.wrap ((k : Int) + u) = (k : Int) + u := IntWalk.i64_in _ (by omega)
      have hsum2 : IntKind.i64.wrap (T + (N : Int)) = T + (N : Int) := IntWalk.i64_in _ (by omega)
      have hdiff : IntKind.i64.wrap (x - y) = x - y := IntWalk.i64_in _ (by omega)
      have h0 : (0 : Int) ≤ (k : Int) := by omega
      have h1 : (k : Int) < (N : Int) := by omega
      have h2 : (0 : Int) ≤ (M : Int) := by omega
      have h3 : (M : Int) < (N : Int) := by omega
      obtain ⟨hxr1, hxr2⟩ := hxr
      obtain ⟨hyr1, hyr2⟩ := hyr
      have hz2 := hz.drew
      have ⟨z0, z1, z2, z3, z4, z5, z6, z7, z8, z9⟩ := hz
      clear hX hY hXd hYd hX1 hY1 hp hq hn1 hn2 hg1 hg2 hx hy hv1 hv2 hca hcb
      have HM := Lib.hid hM
      clear hM
      go_wp2_with fail
      go_region_with (first
        | (go_at_call 67; refine (HVO.out _).mono ?_; rintro e w' ⟨rfl, hb⟩; have hz3 := ZS.step (by assumption) hb; have ⟨_, _, _, _, _, _, _, _, _, _⟩ := hz3)
        | (go_at_call 66; refine (HP.out _).mono ?_; rintro e w' ⟨rfl, hb⟩; have hz3 := ZS.step (by assumption) hb; have ⟨_, _, _, _, _, _, _, _, _, _⟩ := hz3))
      all_goals
        have hz4 := ZS.store (by assumption) X1 Y1
        have HZ := Lib.hid hz4
        clear hz4
        go_wp2_with fail
        go_round
        case rel => exact ⟨k + 1, by omega, by go_num, by rw [← HX1.out, ← HY1.out]; exact HZ.out⟩
        case measure => simp [intOf]; omega
    · have he : k = N := by omega
      subst he
      obtain ⟨X, hX⟩ : ∃ X, X = sumN G1 k := ⟨_, rfl⟩
      obtain ⟨Y, hY⟩ : ∃ Y, Y = sumN G2 k := ⟨_, rfl⟩
      rw [← hX, ← hY] at hz
      have HX := Lib.hid hX
      have HY := Lib.hid hY
      clear hX hY
      have HZ := Lib.hid hz
      obtain ⟨z0, z1, z2, z3, z4, z5, z6, z7, z8, z9⟩ := hz
      go_wp2_with fail
      (try simp only [Exit.inBlock, Exit.then])
      obtain ⟨e0, e1, e2⟩ := HZ.out.ret
      refine bodyPost_ret (by simp [results, Try.results57, go_sem, e0, e1]; try rfl) rfl ?_
      exact ⟨by rw [HX.out, HY.out], e2⟩
end Go.Proofs.Ytjoepdflbbcliaa
