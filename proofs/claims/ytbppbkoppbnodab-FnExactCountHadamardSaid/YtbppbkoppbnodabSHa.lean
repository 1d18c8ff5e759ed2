/- The model's haInner: the inner product of two rows. -/
import Derived.Test.YtbppbkoppbnodabSCr
namespace Go.Proofs.Ytbppbkoppbnodab
set_option maxRecDepth 100000
open Go.RowKit

set_option maxRecDepth 100000 in
set_option maxHeartbeats 2000000 in
theorem haInner_any (va vb : Value) (a b : List Int) (w : World) (hva : IS w va a) (hvb : IS w vb b) (ha : isSeq a = true) (hb : isSeq b = true) (hab : a.length = b.length) :
    Calls Try.prog 40 #[va, vb] w (Ret w (.agg #[.int .i64 (apS vx a b 0), .int .i64 (apS vy a b 0)])) := by
  have h32 := isSeq_len ha
  have hba : ∀ i : Nat, i < a.length → 0 ≤ a.getD i 0 ∧ a.getD i 0 ≤ 3 := fun i hi => allIn_getD (isSeq_all ha) i hi
  have hbb : ∀ i : Nat, i < b.length → 0 ≤ b.getD i 0 ∧ b.getD i 0 ≤ 3 := fun i hi => allIn_getD (isSeq_all hb) i hi
  obtain ⟨pa, ca, rfl⟩ := hva.slice
  obtain ⟨pb, cb, rfl⟩ := hvb.slice
  have hca : 0 < a.length → _ := hva.cellsAt
  have hcb : 0 < b.length → _ := hvb.cellsAt
  obtain ⟨N, hN⟩ : ∃ N, N = a.length := ⟨_, rfl⟩
  have hNb : N = b.length := by omega
  obtain ⟨G1, hG1⟩ : ∃ G, G = apT vx a b 0 := ⟨_, rfl⟩
  obtain ⟨G2, hG2⟩ : ∃ G, G = apT vy a b 0 := ⟨_, rfl⟩
  have e1 : sumN G1 N = apS vx a b 0 := by rw [hG1, hNb]; rfl
  have e2 : sumN G2 N = apS vy a b 0 := by rw [hG2, hNb]; rfl
  have b1 : ∀ i, -1 ≤ G1 i ∧ G1 i ≤ 1 := fun i => by rw [hG1]; exact apT_one vx vx_one a b 0 i
  have b2 : ∀ i, -1 ≤ G2 i ∧ G2 i ≤ 1 := fun i => by rw [hG2]; exact apT_one vy vy_one a b 0 i
  rw [← e1, ← e2, ← hN, ← hNb]
  rw [← hN] at hca
  rw [← hNb] at hcb
  rw [← hN] at h32
  have HN := Lib.hid hN
  have HNB := Lib.hid hNb
  have HG1 := Lib.hid hG1
  have HG2 := Lib.hid hG2
  have HB1 := Lib.hid b1
  have HB2 := Lib.hid b2
  have HBA := Lib.hid hba
  have HBB := Lib.hid hbb
  have HCA := Lib.hid hca
  have HCB := Lib.hid hcb
  clear hN hNb hG1 hG2 e1 e2 b1 b2 hba hbb ha hb hab hva hvb hca hcb
  go_enter Try.func40, Try.ntmps40
  go_wp2_with fail
  go_loopw [11] (fun i wr => ∃ k : Nat, k ≤ N ∧ i = .int .i64 k ∧ ZS w (sumN G1 k) (sumN G2 k) wr) (fun i _ => N - (intOf i).toNat)
  case atStart => exact ⟨0, Nat.zero_le _, rfl, ZS.start w _⟩
  case round =>
    obtain ⟨k, hk, rfl, hz⟩ := hrel
    by_cases hlt : k < N
    · obtain ⟨bb, ob, hpb, hcb⟩ := HCB.out (by omega)
      obtain ⟨ba, oa, hpa, hca⟩ := HCA.out (by omega)
      subst hpa hpb
      have ck := keepc hz.below (hcb k hlt)
      have hyr := HBB.out k (by rw [← HNB.out]; exact hlt)
      have cM := keepc hz.below (hca k hlt)
      have hxr := HBA.out k (by rw [← HN.out]; exact hlt)
      have hg1 : G1 k = vx ((a.getD k 0 - b.getD k 0) % 4) := by rw [HG1.out]; exact apT_in vx a b 0 k k (by omega) (by rw [← HN.out]; exact hlt)
      have hg2 : G2 k = vy ((a.getD k 0 - b.getD k 0) % 4) := by rw [HG2.out]; exact apT_in vy a b 0 k k (by omega) (by rw [← HN.out]; exact hlt)
      obtain ⟨x, hx⟩ : ∃ x, x = a.getD k 0 := ⟨_, rfl⟩
      obtain ⟨y, hy⟩ : ∃ y, y = b.getD k 0 := ⟨_, rfl⟩
      rw [← hx] at hxr cM hg1 hg2
      rw [← hy] at hyr ck hg1 hg2
      have hX := sumN_bound G1 HB1.out k
      have hY := sumN_bound G2 HB2.out k
      have hv1 := vx_one ((x - y) % 4)
      have hv2 := vy_one ((x - y) % 4)
      have HVO := Lib.hid (phValueM_any (x - y) (by omega) (by omega))
      have HP := Lib.hid (phPlus_any (sumN G1 k) (sumN G2 k) (vx ((x - y) % 4)) (vy ((x - y) % 4)) (by omega) (by omega) (by omega) (by omega))
      have hn1 : sumN G1 k + vx ((x - y) % 4) = sumN G1 (k + 1) := by rw [← hg1]; rfl
      have hn2 : sumN G2 k + vy ((x - y) % 4) = sumN G2 (k + 1) := by rw [← hg2]; rfl
      rw [hn1, hn2] at HP
      obtain ⟨X, hXd⟩ : ∃ X, X = sumN G1 k := ⟨_, rfl⟩
      obtain ⟨Y, hYd⟩ : ∃ Y, Y = sumN G2 k := ⟨_, rfl⟩
      obtain ⟨X1, hX1⟩ : ∃ X, X = sumN G1 (k + 1) := ⟨_, rfl⟩
      obtain ⟨Y1, hY1⟩ : ∃ Y, Y = sumN G2 (k + 1) := ⟨_, rfl⟩
      obtain ⟨p, hp⟩ : ∃ p, p = vx ((x - y) % 4) := ⟨_, rfl⟩
      obtain ⟨q, hq⟩ : ∃ q, q = vy ((x - y) % 4) := ⟨_, rfl⟩
      rw [← hXd, ← hYd, ← hX1, ← hY1, ← hp, ← hq] at HP
      rw [← hp, ← hq] at HVO
      rw [← hXd, ← hYd] at hz
      have HX1 := Lib.hid hX1
      have HY1 := Lib.hid hY1
      have hdiff : IntKind.i64.wrap (x - y) = x - y := IntWalk.i64_in _ (by omega)
      have h0 : (0 : Int) ≤ (k : Int) := by omega
      have h1 : (k : Int) < (N : Int) := by omega
      obtain ⟨hxr1, hxr2⟩ := hxr
      obtain ⟨hyr1, hyr2⟩ := hyr
      have hz2 := hz.drew
      have ⟨z0, z1, z2, z3, z4, z5, z6, z7, z8, z9⟩ := hz
      clear hX hY hXd hYd hX1 hY1 hp hq hn1 hn2 hg1 hg2 hx hy hv1 hv2 hca hcb
      go_wp2_with fail
      go_region_with (first
        | (go_at_call 60; refine (HVO.out _).mono ?_; rintro e w' ⟨rfl, hb⟩; have hz3 := ZS.step (by assumption) hb; have ⟨_, _, _, _, _, _, _, _, _, _⟩ := hz3)
        | (go_at_call 48; refine (HP.out _).mono ?_; rintro e w' ⟨rfl, hb⟩; have hz3 := ZS.step (by assumption) hb; have ⟨_, _, _, _, _, _, _, _, _, _⟩ := hz3))
      all_goals
        have hz4 := ZS.store (by assumption) X1 Y1
        have HZ := Lib.hid hz4
        clear hz4
        go_wp2_with fail
        go_round
        case rel => exact ⟨k + 1, by omega, by go_num, by rw [← HX1.out, ← HY1.out]; exact HZ.out⟩
        case measure => simp [intOf]; omega
    · have he : k = N := by omega
      subst he
      obtain ⟨X, hX⟩ : ∃ X, X = sumN G1 k := ⟨_, rfl⟩
      obtain ⟨Y, hY⟩ : ∃ Y, Y = sumN G2 k := ⟨_, rfl⟩
      rw [← hX, ← hY] at hz
      have HX := Lib.hid hX
      have HY := Lib.hid hY
      clear hX hY
      have HZ := Lib.hid hz
      obtain ⟨z0, z1, z2, z3, z4, z5, z6, z7, z8, z9⟩ := hz
      go_wp2_with fail
      (try simp only [Exit.inBlock, Exit.then])
      obtain ⟨e0, e1, e2⟩ := HZ.out.ret
      refine bodyPost_ret (by simp [results, Try.results40, go_sem, e0, e1]; try rfl) rfl ?_
      exact ⟨by rw [HX.out, HY.out], e2⟩
end Go.Proofs.Ytbppbkoppbnodab
