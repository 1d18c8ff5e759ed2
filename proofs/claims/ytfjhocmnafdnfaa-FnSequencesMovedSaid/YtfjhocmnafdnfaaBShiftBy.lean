/- The model's phShift. -/
import Derived.Test.YtfjhocmnafdnfaaPhs
import Derived.Test.YtfjhocmnafdnfaaDShiftBy
namespace Go.Proofs.Ytfjhocmnafdnfaa
set_option maxRecDepth 100000
open Go.RowKit

set_option maxHeartbeats 2000000 in
theorem phShift_any (v : Value) (l : List Int) (k : Int) (w : World) (hv : IS w v l) (hs : isSeq l = true) (hk1 : -1000 ≤ k) (hk2 : k ≤ 1000) : Calls Try.prog 114 #[v, .int .i64 k] w (Makes w (shiftG l k)) := by
  have h32 := isSeq_len hs
  have hall := isSeq_all hs
  have HALL := Lib.hid hall
  obtain ⟨a, cap, hveq⟩ : ∃ a cap, v = .slice a l.length cap := by rcases hv with ⟨rfl, a, cap, rfl⟩ | ⟨_, b, off, cap, rfl, _⟩ <;> exact ⟨_, _, rfl⟩
  subst hveq
  have HV := Lib.hid hv
  obtain ⟨N, hN⟩ : ∃ N, N = l.length := ⟨_, rfl⟩
  obtain ⟨G, hG⟩ : ∃ G : Nat → Int, G = fun (i : Nat) => l.getD (((i : Int) + k) % (l.length : Int)).toNat 0 := ⟨_, rfl⟩
  have hgoal : shiftG l k = gen N G := by rw [hN, hG]; rfl
  rw [hgoal]
  rw [← hN] at HV h32 ⊢
  have HN := Lib.hid hN
  have HG := Lib.hid hG
  clear hgoal hN hG hs hall hv
  go_enter Try.func114, Try.ntmps114
  go_wp2_with fail
  go_loopw [12, 5] (fun i o wr => ∃ j : Nat, j ≤ N ∧ i = .int .i64 j ∧ Own wr w.heap.size o (gen j G) ∧ Below w.heap.size w wr) (fun i _ _ => N - (intOf i).toNat)
  case atStart => exact ⟨0, Nat.zero_le _, rfl, World.ownsRow_nil _ _ _ _, Below.refl _ _⟩
  case round =>
    obtain ⟨j, hj, rfl, hown, hbel⟩ := hrel
    by_cases hlt : j < N
    · have h0 : (0 : Int) ≤ (j : Int) := by omega
      have h1 : (j : Int) < (N : Int) := by omega
      have hn32 : (N : Int) ≤ 32 := by omega
      have hnp : 0 < (N : Int) := by omega
      have he1 := Int.emod_nonneg ((j : Int) + k) (show (N : Int) ≠ 0 by omega)
      have he2 := Int.emod_lt_of_pos ((j : Int) + k) hnp
      obtain ⟨M, hM⟩ : ∃ M : Nat, ((j : Int) + k) % (N : Int) = (M : Int) := ⟨_, (Int.toNat_of_nonneg he1).symm⟩
      have hM2 : M < N := by omega
      have ht1 : ((j : Int) + k).tmod (N : Int) < (N : Int) := Int.tmod_lt_of_pos _ hnp
      have ht2 : -(N : Int) < ((j : Int) + k).tmod (N : Int) := by
        by_cases hsg : 0 ≤ (j : Int) + k
        · rw [Int.tmod_eq_emod_of_nonneg hsg]; omega
        · exact (tmod_facts _ _ (by omega) (by omega)).2.1
      have ht3 : ((j : Int) + k).tmod (N : Int) % (N : Int) = (M : Int) := by rw [tmod_emod' _ _ hnp, hM]
      have HM := Lib.hid hM
      obtain ⟨T, hT⟩ : ∃ T, ((j : Int) + k).tmod (N : Int) = T := ⟨_, rfl⟩
      rw [hT] at ht1 ht2 ht3
      clear he1 he2
      have hltl : M < l.length := by rw [← HN.out]; exact hM2
      have hx := allIn_getD HALL.out M hltl
      have hv2 := HV.out.below hbel
      rcases hv2 with ⟨h0, _⟩ | ⟨_, b, off, cap', hveq, _, hc⟩
      · rw [h0] at hltl; exact absurd hltl (Nat.not_lt_zero _)
      · simp only [Value.slice.injEq] at hveq
        obtain ⟨rfl, hnn, rfl⟩ := hveq
        clear hnn
        have c1 := hc M hltl
        clear hc
        have hgj : G j = l.getD M 0 := by rw [HG.out]; show l.getD (((j : Int) + k) % (l.length : Int)).toNat 0 = _; rw [← HN.out, HM.out, Int.toNat_natCast]
        obtain ⟨x, hxd⟩ : ∃ x, x = l.getD M 0 := ⟨_, rfl⟩
        rw [← hxd] at c1 hx hgj
        have hgl : (gen j G).length ≤ 1048576 := by rw [gen_length]; omega
        have hgs := gen_succ j G
        rw [hgj] at hgs
        have HGS := Lib.hid hgs
        have HGL := Lib.hid hgl
        have HO := Lib.hid hown
        have HB := Lib.hid hbel
        obtain ⟨hx1, hx2⟩ := hx
        have hM4 : (0 : Int) ≤ (M : Int) := by omega
        have hM5 : (M : Int) < (N : Int) := by omega
        have hM6 : ((T + (N : Int)) % (N : Int)) = (M : Int) := by rw [Int.add_emod_right]; exact ht3
        clear hxd hgj hgl hgs hown hbel
        go_wp2_with (first
          | (at_builtin; refine wpList_push rfl _ _ rfl w.heap.size _ (gen j G) rfl (HO.out.alloc _) wr.heap.size 1 (x) rfl (by simp) HGL.out w.heap.size w (HB.out.alloc HB.out.size _) (Nat.le_refl _) (by have := HB.out.size; simp; omega) (by have := HB.out.size; simp; omega) ?_; intro v2 w2 ho2 hb2))
        go_roundw
        case rel => exact ⟨j + 1, by omega, by go_num, by rw [HGS.out]; assumption, by assumption⟩
        case measure => simp [intOf]; omega
    · have he : j = N := by omega
      subst he
      have HO := Lib.hid hown
      have HB := Lib.hid hbel
      clear hown hbel
      go_wp2_with fail
      go_returns
      exact ⟨_, rfl, HO.out, HB.out⟩

end Go.Proofs.Ytfjhocmnafdnfaa
