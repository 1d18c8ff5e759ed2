/- The model's crAt: a sum over the index. -/
import Derived.Test.YtfjhocmnafdnfaaSPh
import Derived.Test.YtfjhocmnafdnfaaCors
namespace Go.Proofs.Ytfjhocmnafdnfaa
set_option maxRecDepth 100000
open Go.RowKit

set_option maxHeartbeats 1000000 in
theorem phValueM_any (k : Int) (h1 : -1000000 ≤ k) (h2 : k ≤ 1000000) (w : World) : Calls Try.prog 188 #[.int .i64 k] w (Ret w (.agg #[.int .i64 (vx (k % 4)), .int .i64 (vy (k % 4))])) := by
  have HM := Lib.hid (phMod_any k (by omega) (by omega))
  have hr : k % 4 = 0 ∨ k % 4 = 1 ∨ k % 4 = 2 ∨ k % 4 = 3 := by omega
  obtain ⟨r, hrd⟩ : ∃ r, r = k % 4 := ⟨_, rfl⟩
  rw [← hrd] at HM hr ⊢
  clear hrd h1 h2
  rcases hr with rfl | rfl | rfl | rfl
  all_goals
    go_enter Try.func188, Try.ntmps188
    go_wp2_with (go_at_call 184; refine (HM.out _).mono ?_; rintro e w' ⟨rfl, rfl⟩)
    go_returns
    exact ⟨rfl, by go_grown⟩

/-- A sequence as a slice. -/
theorem IS.slice {w : World} {v : Value} {l : List Int} (h : IS w v l) : ∃ a cap, v = .slice a l.length cap := by
  rcases h with ⟨rfl, a, cap, rfl⟩ | ⟨_, b, off, cap, rfl, _⟩ <;> exact ⟨_, _, rfl⟩
theorem IS.cellsAt {w : World} {a : Option Addr} {cap : Nat} {l : List Int} (h : IS w (.slice a l.length cap) l) (hn : 0 < l.length) : ∃ b off, a = some ⟨b, off, none⟩ ∧ ∀ i, i < l.length → w.cell? ⟨b, off + i, none⟩ = some (.int .i64 (l.getD i 0)) := by
  rcases h with ⟨rfl, _, _, _⟩ | ⟨_, b, off, cap', hv, _, hc⟩
  · exact absurd hn (Nat.lt_irrefl _)
  · simp only [Value.slice.injEq] at hv
    obtain ⟨rfl, _, rfl⟩ := hv
    exact ⟨b, off, rfl, hc⟩

set_option maxRecDepth 100000 in
set_option maxHeartbeats 2000000 in
theorem crAt_any (va vb : Value) (a b : List Int) (u : Int) (w : World) (hva : IS w va a) (hvb : IS w vb b) (ha : isSeq a = true) (hb : isSeq b = true) (hab : a.length = b.length) (hu1 : -32 ≤ u) (hu2 : u ≤ 32) :
    Calls Try.prog 137 #[va, vb, .int .i64 u] w (Ret w (.agg #[.int .i64 (apS vx a b u), .int .i64 (apS vy a b u)])) := by
  have h32 := isSeq_len ha
  have hba : ∀ i : Nat, i < a.length → 0 ≤ a.getD i 0 ∧ a.getD i 0 ≤ 3 := fun i hi => allIn_getD (isSeq_all ha) i hi
  have hbb : ∀ i : Nat, i < b.length → 0 ≤ b.getD i 0 ∧ b.getD i 0 ≤ 3 := fun i hi => allIn_getD (isSeq_all hb) i hi
  obtain ⟨pa, ca, rfl⟩ := hva.slice
  obtain ⟨pb, cb, rfl⟩ := hvb.slice
  have hca : 0 < a.length → _ := hva.cellsAt
  have hcb : 0 < b.length → _ := hvb.cellsAt
  obtain ⟨N, hN⟩ : ∃ N, N = a.length := ⟨_, rfl⟩
  have hNb : N = b.length := by omega
  obtain ⟨G1, hG1⟩ : ∃ G, G = apT vx a b u := ⟨_, rfl⟩
  obtain ⟨G2, hG2⟩ : ∃ G, G = apT vy a b u := ⟨_, rfl⟩
  have e1 : sumN G1 N = apS vx a b u := by rw [hG1, hNb]; rfl
  have e2 : sumN G2 N = apS vy a b u := by rw [hG2, hNb]; rfl
  have b1 : ∀ i, -1 ≤ G1 i ∧ G1 i ≤ 1 := fun i => by rw [hG1]; exact apT_one vx vx_one a b u i
  have b2 : ∀ i, -1 ≤ G2 i ∧ G2 i ≤ 1 := fun i => by rw [hG2]; exact apT_one vy vy_one a b u i
  rw [← e1, ← e2, ← hN, ← hNb]
  rw [← hN] at hca
  rw [← hNb] at hcb
  rw [← hN] at h32
  have HN := Lib.hid hN
  have HNB := Lib.hid hNb
  have HG1 := Lib.hid hG1
  have HG2 := Lib.hid hG2
  have HB1 := Lib.hid b1
  have HB2 := Lib.hid b2
  have HBA := Lib.hid hba
  have HBB := Lib.hid hbb
  have HCA := Lib.hid hca
  have HCB := Lib.hid hcb
  clear hN hNb hG1 hG2 e1 e2 b1 b2 hba hbb ha hb hab hva hvb hca hcb
  go_enter Try.func137, Try.ntmps137
  go_wp2_with fail
  go_loopw [13] (fun i wr => ∃ k : Nat, k ≤ N ∧ i = .int .i64 k ∧ ZS w (sumN G1 k) (sumN G2 k) wr) (fun i _ => N - (intOf i).toNat)
  case atStart => exact ⟨0, Nat.zero_le _, rfl, ZS.start w _⟩
  case round =>
    obtain ⟨k, hk, rfl, hz⟩ := hrel
    by_cases hlt : k < N
    · obtain ⟨bb, ob, hpb, hcb⟩ := HCB.out (by omega)
      obtain ⟨ba, oa, hpa, hca⟩ := HCA.out (by omega)
      subst hpa hpb
      have ck := keepc hz.below (hcb k hlt)
      have hyr := HBB.out k (by rw [← HNB.out]; exact hlt)
      by_cases hin : 0 ≤ (k : Int) + u ∧ (k : Int) + u < N
      · obtain ⟨M, hM⟩ : ∃ M : Nat, (k : Int) + u = M := ⟨_, (Int.toNat_of_nonneg hin.1).symm⟩
        have hMN : M < N := by omega
        have cM := keepc hz.below (hca M hMN)
        have hxr := HBA.out M (by rw [← HN.out]; exact hMN)
        have hg1 : G1 k = vx ((a.getD M 0 - b.getD k 0) % 4) := by rw [HG1.out]; exact apT_in vx a b u k M hM (by rw [← HN.out]; exact hMN)
        have hg2 : G2 k = vy ((a.getD M 0 - b.getD k 0) % 4) := by rw [HG2.out]; exact apT_in vy a b u k M hM (by rw [← HN.out]; exact hMN)
        obtain ⟨x, hx⟩ : ∃ x, x = a.getD M 0 := ⟨_, rfl⟩
        obtain ⟨y, hy⟩ : ∃ y, y = b.getD k 0 := ⟨_, rfl⟩
        rw [← hx] at hxr cM hg1 hg2
        rw [← hy] at hyr ck hg1 hg2
        have hX := sumN_bound G1 HB1.out k
        have hY := sumN_bound G2 HB2.out k
        have hv1 := vx_one ((x - y) % 4)
        have hv2 := vy_one ((x - y) % 4)
        have HVO := Lib.hid (phValueM_any (x - y) (by omega) (by omega))
        have HP := Lib.hid (phPlus_any (sumN G1 k) (sumN G2 k) (vx ((x - y) % 4)) (vy ((x - y) % 4)) (by omega) (by omega) (by omega) (by omega))
        have hn1 : sumN G1 k + vx ((x - y) % 4) = sumN G1 (k + 1) := by rw [← hg1]; rfl
        have hn2 : sumN G2 k + vy ((x - y) % 4) = sumN G2 (k + 1) := by rw [← hg2]; rfl
        rw [hn1, hn2] at HP
        obtain ⟨X, hXd⟩ : ∃ X, X = sumN G1 k := ⟨_, rfl⟩
        obtain ⟨Y, hYd⟩ : ∃ Y, Y = sumN G2 k := ⟨_, rfl⟩
        obtain ⟨X1, hX1⟩ : ∃ X, X = sumN G1 (k + 1) := ⟨_, rfl⟩
        obtain ⟨Y1, hY1⟩ : ∃ Y, Y = sumN G2 (k + 1) := ⟨_, rfl⟩
        obtain ⟨p, hp⟩ : ∃ p, p = vx ((x - y) % 4) := ⟨_, rfl⟩
        obtain ⟨q, hq⟩ : ∃ q, q = vy ((x - y) % 4) := ⟨_, rfl⟩
        rw [← hXd, ← hYd, ← hX1, ← hY1, ← hp, ← hq] at HP
        rw [← hp, ← hq] at HVO
        rw [← hXd, ← hYd] at hz
        have HX1 := Lib.hid hX1
        have HY1 := Lib.hid hY1
        have hsum : IntKind.i64.wrap ((k : Int) + u) = (M : Int) := by rw [hM]; exact IntWalk.i64_in _ (by omega)
        have hdiff : IntKind.i64.wrap (x - y) = x - y := IntWalk.i64_in _ (by omega)
        have hib : inB (M : Int) 0 ((N : Int) - 1) = true := by simp [inB]; omega
        have HIB := Lib.hid (fun w => (l1In_any (M : Int) 0 ((N : Int) - 1) w))
        rw [hib] at HIB
        have h0 : (0 : Int) ≤ (k : Int) := by omega
        have h1 : (k : Int) < (N : Int) := by omega
        have h2 : (0 : Int) ≤ (M : Int) := by omega
        have h3 : (M : Int) < (N : Int) := by omega
        obtain ⟨hxr1, hxr2⟩ := hxr
        obtain ⟨hyr1, hyr2⟩ := hyr
        obtain ⟨hk3, hk4⟩ : (k : Int) + u ≤ M ∧ (M : Int) ≤ k + u := by omega
        have hz2 := hz.drew
        have ⟨z0, z1, z2, z3, z4, z5, z6, z7, z8, z9⟩ := hz
        clear hib hX hY hXd hYd hX1 hY1 hp hq hn1 hn2 hg1 hg2 hx hy hv1 hv2 hca hcb hin
        have HM := Lib.hid hM
        clear hM
        go_wp2_with fail
        refine (HIB.out _).mono ?_
        rintro e w' ⟨rfl, rfl⟩
        go_wp2_with fail
        go_region_with (first
          | (go_at_call 188; refine (HVO.out _).mono ?_; rintro e w' ⟨rfl, hb⟩; have hz3 := ZS.step (by assumption) hb; have ⟨_, _, _, _, _, _, _, _, _, _⟩ := hz3)
          | (go_at_call 187; refine (HP.out _).mono ?_; rintro e w' ⟨rfl, hb⟩; have hz3 := ZS.step (by assumption) hb; have ⟨_, _, _, _, _, _, _, _, _, _⟩ := hz3))
        all_goals
          have hz4 := ZS.store (by assumption) X1 Y1
          have HZ := Lib.hid hz4
          clear hz4
          go_wp2_with fail
          go_round
          case rel => exact ⟨k + 1, by omega, by go_num, by rw [← HX1.out, ← HY1.out]; exact HZ.out⟩
          case measure => simp [intOf]; omega
      · have hg1 : G1 k = 0 := by rw [HG1.out]; exact apT_out vx a b u k (by rw [← HN.out]; exact hin)
        have hg2 : G2 k = 0 := by rw [HG2.out]; exact apT_out vy a b u k (by rw [← HN.out]; exact hin)
        have hn1 : sumN G1 (k + 1) = sumN G1 k := by show sumN G1 k + G1 k = _; rw [hg1]; omega
        have hn2 : sumN G2 (k + 1) = sumN G2 k := by show sumN G2 k + G2 k = _; rw [hg2]; omega
        rw [← hn1, ← hn2] at hz
        obtain ⟨y, hy⟩ : ∃ y, y = b.getD k 0 := ⟨_, rfl⟩
        rw [← hy] at ck
        have hib : inB ((k : Int) + u) 0 ((N : Int) - 1) = false := by simp [inB]; omega
        have HIB := Lib.hid (fun w => (l1In_any ((k : Int) + u) 0 ((N : Int) - 1) w))
        rw [hib] at HIB
        have h0 : (0 : Int) ≤ (k : Int) := by omega
        have h1 : (k : Int) < (N : Int) := by omega
        have HZ := Lib.hid hz
        clear hib hz hn1 hn2 hg1 hg2 hy hyr hca hcb hin
        go_wp2_with fail
        refine (HIB.out _).mono ?_
        rintro e w' ⟨rfl, rfl⟩
        go_wp2_with fail
        go_round
        case rel => exact ⟨k + 1, by omega, by go_num, HZ.out⟩
        case measure => simp [intOf]; omega
    · have he : k = N := by omega
      subst he
      obtain ⟨X, hX⟩ : ∃ X, X = sumN G1 k := ⟨_, rfl⟩
      obtain ⟨Y, hY⟩ : ∃ Y, Y = sumN G2 k := ⟨_, rfl⟩
      rw [← hX, ← hY] at hz
      have HX := Lib.hid hX
      have HY := Lib.hid hY
      clear hX hY
      have HZ := Lib.hid hz
      obtain ⟨z0, z1, z2, z3, z4, z5, z6, z7, z8, z9⟩ := hz
      go_wp2_with fail
      (try simp only [Exit.inBlock, Exit.then])
      obtain ⟨e0, e1, e2⟩ := HZ.out.ret
      refine bodyPost_ret (by simp [results, Try.results137, go_sem, e0, e1]; try rfl) rfl ?_
      exact ⟨by rw [HX.out, HY.out], e2⟩
end Go.Proofs.Ytfjhocmnafdnfaa
