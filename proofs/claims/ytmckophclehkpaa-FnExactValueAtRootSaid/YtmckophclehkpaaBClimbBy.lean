/- The model's phClimb. -/
import Derived.Test.YtmckophclehkpaaPush
import Derived.Test.YtmckophclehkpaaDClimbBy
namespace Go.Proofs.Ytmckophclehkpaa
open Go.RowKit

set_option maxHeartbeats 2000000 in
theorem phClimb_any (v : Value) (l : List Int) (k : Int) (w : World) (hv : IS w v l) (hs : isSeq l = true) (hk1 : 0 ≤ k) (hk2 : k ≤ 3) : Calls Try.prog 58 #[v, .int .i64 k] w (Makes w (climbG l k)) := by
  have h32 := isSeq_len hs
  have hall := isSeq_all hs
  have HALL := Lib.hid hall
  obtain ⟨a, cap, hveq⟩ : ∃ a cap, v = .slice a l.length cap := by rcases hv with ⟨rfl, a, cap, rfl⟩ | ⟨_, b, off, cap, rfl, _⟩ <;> exact ⟨_, _, rfl⟩
  subst hveq
  have HV := Lib.hid hv
  obtain ⟨N, hN⟩ : ∃ N, N = l.length := ⟨_, rfl⟩
  obtain ⟨G, hG⟩ : ∃ G : Nat → Int, G = fun (i : Nat) => (l.getD i 0 + k * i) % 4 := ⟨_, rfl⟩
  have hgoal : climbG l k = gen N G := by rw [hN, hG]; rfl
  rw [hgoal]
  rw [← hN] at HV h32 ⊢
  have HN := Lib.hid hN
  have HG := Lib.hid hG
  clear hgoal hN hG hs hall hv
  go_enter Try.func58, Try.ntmps58
  go_wp2_with fail
  go_loopw [10, 5] (fun i o wr => ∃ j : Nat, j ≤ N ∧ i = .int .i64 j ∧ Own wr w.heap.size o (gen j G) ∧ Below w.heap.size w wr) (fun i _ _ => N - (intOf i).toNat)
  case atStart => exact ⟨0, Nat.zero_le _, rfl, World.ownsRow_nil _ _ _ _, Below.refl _ _⟩
  case round =>
    obtain ⟨j, hj, rfl, hown, hbel⟩ := hrel
    by_cases hlt : j < N
    · have h0 : (0 : Int) ≤ (j : Int) := by omega
      have h1 : (j : Int) < (N : Int) := by omega
      have hn32 : (N : Int) ≤ 32 := by omega
      have hM2 := hlt
      have hltl : j < l.length := by rw [← HN.out]; exact hM2
      have hx := allIn_getD HALL.out j hltl
      have hv2 := HV.out.below hbel
      rcases hv2 with ⟨h0, _⟩ | ⟨_, b, off, cap', hveq, _, hc⟩
      · rw [h0] at hltl; exact absurd hltl (Nat.not_lt_zero _)
      · simp only [Value.slice.injEq] at hveq
        obtain ⟨rfl, hnn, rfl⟩ := hveq
        clear hnn
        have c1 := hc j hltl
        clear hc
        have hgj : G j = (l.getD j 0 + k * j) % 4 := by rw [HG.out]
        obtain ⟨x, hxd⟩ : ∃ x, x = l.getD j 0 := ⟨_, rfl⟩
        rw [← hxd] at c1 hx hgj
        have hgl : (gen j G).length ≤ 1048576 := by rw [gen_length]; omega
        have hgs := gen_succ j G
        rw [hgj] at hgs
        have HGS := Lib.hid hgs
        have HGL := Lib.hid hgl
        have HO := Lib.hid hown
        have HB := Lib.hid hbel
        obtain ⟨hx1, hx2⟩ := hx
        have hkj1 : 0 ≤ k * (j : Int) := Int.mul_nonneg hk1 h0
        have hkj2 : k * (j : Int) ≤ 96 := by
          have := Int.mul_le_mul hk2 (show (j : Int) ≤ 32 by omega) h0 (by omega)
          omega
        clear hxd hgj hgl hgs hown hbel
        go_wp2_with (first
          | (go_at_call 59; refine (phMod_any _ (by omega) (by omega) _).mono ?_; rintro e w' ⟨rfl, rfl⟩)
          | (at_builtin; refine wpList_push rfl _ _ rfl w.heap.size _ (gen j G) rfl (HO.out.alloc _) wr.heap.size 1 ((x + k * j) % 4) rfl (by simp) HGL.out w.heap.size w (HB.out.alloc HB.out.size _) (Nat.le_refl _) (by have := HB.out.size; simp; omega) (by have := HB.out.size; simp; omega) ?_; intro v2 w2 ho2 hb2))
        go_roundw
        case rel => exact ⟨j + 1, by omega, by go_num, by rw [HGS.out]; assumption, by assumption⟩
        case measure => simp [intOf]; omega
    · have he : j = N := by omega
      subst he
      have HO := Lib.hid hown
      have HB := Lib.hid hbel
      clear hown hbel
      go_wp2_with fail
      go_returns
      exact ⟨_, rfl, HO.out, HB.out⟩

end Go.Proofs.Ytmckophclehkpaa
