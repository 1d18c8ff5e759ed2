/- The model's JoinOf. The model's ProductOf. The model's InterleaveOf. The model's phTurn. The model's phClimb. The model's phConjugate. The model's phBack. -/
import Derived.Test.YtcagiecgbjnefabPhs
import Derived.Test.YtcagiecgbjnefabMov
import Derived.Test.YtcagiecgbjnefabKit
namespace Go.Proofs.Ytcagiecgbjnefab
set_option maxRecDepth 100000
section
open Go.RowKit

set_option maxHeartbeats 1000000 in
theorem l1Own_any (v : Value) (l : List Int) (w : World) (hv : IS w v l) (hlen : l.length ≤ 1048576) : Calls Try.prog 63 #[v] w (Makes w l) := by
  obtain ⟨a, cap, hveq⟩ := hv.shape
  subst hveq
  have HV := Lib.hid hv
  clear hv
  go_enter Try.func63, Try.ntmps63
  go_wp2_with (at_builtin; refine wpList_pushAll rfl _ _ rfl w.heap.size _ [] rfl (World.ownsRow_lit w #[] 0 (Nat.le_refl _) (Nat.zero_le _) rfl) _ l rfl (HV.out.below (by go_grown)) (by simp) hlen w.heap.size w (by go_grown) (Nat.le_refl _) (by simp) (by simp) ?_; intro v2 w2 ho2 hb2)
  go_returns
  exact ⟨_, rfl, by simpa using ‹Own _ _ _ _›, ‹_›⟩

theorem isSeq_append (l m : List Int) (hl : isSeq l = true) (hm : isSeq m = true) : isSeq (l ++ m) = joinC l m := by
  have h1 := isSeq_all hl
  have h2 := isSeq_all hm
  unfold allIn at h1 h2
  simp only [isSeq, joinC, allIn, List.all_append, h1, h2, List.length_append, Bool.and_self, Bool.and_true]

end
section
open Go.RowKit

end
section
open Go.RowKit

theorem isSeq_weave (l m : List Int) (hs : isSeq l = true) (ht : isSeq m = true) (hlm : l.length = m.length) : isSeq (weaveG l m) = weaveC l m := by
  have hall : allIn (weaveG l m) 0 3 = true := by
    unfold allIn weaveG gen
    rw [List.all_eq_true]
    intro z hz
    simp only [List.mem_map, List.mem_range] at hz
    obtain ⟨i, hi, rfl⟩ := hz
    have a1 := allIn_getD (isSeq_all hs) (i / 2) (by omega)
    have a2 := allIn_getD (isSeq_all ht) (i / 2) (by omega)
    by_cases hp : i % 2 = 0
    · simp only [if_pos hp, inB, decide_eq_true a1.1, decide_eq_true a1.2, Bool.and_self]
    · simp only [if_neg hp, inB, decide_eq_true a2.1, decide_eq_true a2.2, Bool.and_self]
  unfold isSeq weaveC
  rw [hall, Bool.and_true, Bool.eq_iff_iff]
  simp [weaveG, gen_length]
  omega

end
section
open Go.RowKit

set_option maxHeartbeats 2000000 in
theorem phTurn_any (v : Value) (l : List Int) (k : Int) (w : World) (hv : IS w v l) (hs : isSeq l = true) (hk1 : -1000 ≤ k) (hk2 : k ≤ 1000) : Calls Try.prog 83 #[v, .int .i64 k] w (Makes w (turnG l k)) := by
  have h32 := isSeq_len hs
  have hall := isSeq_all hs
  have HALL := Lib.hid hall
  obtain ⟨a, cap, hveq⟩ : ∃ a cap, v = .slice a l.length cap := by rcases hv with ⟨rfl, a, cap, rfl⟩ | ⟨_, b, off, cap, rfl, _⟩ <;> exact ⟨_, _, rfl⟩
  subst hveq
  have HV := Lib.hid hv
  obtain ⟨N, hN⟩ : ∃ N, N = l.length := ⟨_, rfl⟩
  obtain ⟨G, hG⟩ : ∃ G : Nat → Int, G = fun (i : Nat) => (l.getD i 0 + k) % 4 := ⟨_, rfl⟩
  have hgoal : turnG l k = gen N G := by rw [hN, hG]; rfl
  rw [hgoal]
  rw [← hN] at HV h32 ⊢
  have HN := Lib.hid hN
  have HG := Lib.hid hG
  clear hgoal hN hG hs hall hv
  go_enter Try.func83, Try.ntmps83
  go_wp2_with fail
  go_loopw [10, 5] (fun i o wr => ∃ j : Nat, j ≤ N ∧ i = .int .i64 j ∧ Own wr w.heap.size o (gen j G) ∧ Below w.heap.size w wr) (fun i _ _ => N - (intOf i).toNat)
  case atStart => exact ⟨0, Nat.zero_le _, rfl, World.ownsRow_nil _ _ _ _, Below.refl _ _⟩
  case round =>
    obtain ⟨j, hj, rfl, hown, hbel⟩ := hrel
    by_cases hlt : j < N
    · have h0 : (0 : Int) ≤ (j : Int) := by omega
      have h1 : (j : Int) < (N : Int) := by omega
      have hn32 : (N : Int) ≤ 32 := by omega
      have hM2 := hlt
      have hltl : j < l.length := by rw [← HN.out]; exact hM2
      have hx := allIn_getD HALL.out j hltl
      have hv2 := HV.out.below hbel
      rcases hv2 with ⟨h0, _⟩ | ⟨_, b, off, cap', hveq, _, hc⟩
      · rw [h0] at hltl; exact absurd hltl (Nat.not_lt_zero _)
      · simp only [Value.slice.injEq] at hveq
        obtain ⟨rfl, hnn, rfl⟩ := hveq
        clear hnn
        have c1 := hc j hltl
        clear hc
        have hgj : G j = (l.getD j 0 + k) % 4 := by rw [HG.out]
        obtain ⟨x, hxd⟩ : ∃ x, x = l.getD j 0 := ⟨_, rfl⟩
        rw [← hxd] at c1 hx hgj
        have hgl : (gen j G).length ≤ 1048576 := by rw [gen_length]; omega
        have hgs := gen_succ j G
        rw [hgj] at hgs
        have HGS := Lib.hid hgs
        have HGL := Lib.hid hgl
        have HO := Lib.hid hown
        have HB := Lib.hid hbel
        obtain ⟨hx1, hx2⟩ := hx
        clear hxd hgj hgl hgs hown hbel
        go_wp2_with (first
          | (go_at_call 102; refine (phMod_any _ (by omega) (by omega) _).mono ?_; rintro e w' ⟨rfl, rfl⟩)
          | (at_builtin; refine wpList_push rfl _ _ rfl w.heap.size _ (gen j G) rfl (HO.out.alloc _) wr.heap.size 1 ((x + k) % 4) rfl (by simp) HGL.out w.heap.size w (HB.out.alloc HB.out.size _) (Nat.le_refl _) (by have := HB.out.size; simp; omega) (by have := HB.out.size; simp; omega) ?_; intro v2 w2 ho2 hb2))
        go_roundw
        case rel => exact ⟨j + 1, by omega, by go_num, by rw [HGS.out]; assumption, by assumption⟩
        case measure => simp [intOf]; omega
    · have he : j = N := by omega
      subst he
      have HO := Lib.hid hown
      have HB := Lib.hid hbel
      clear hown hbel
      go_wp2_with fail
      go_returns
      exact ⟨_, rfl, HO.out, HB.out⟩

end
section
open Go.RowKit

set_option maxHeartbeats 2000000 in
theorem phClimb_any (v : Value) (l : List Int) (k : Int) (w : World) (hv : IS w v l) (hs : isSeq l = true) (hk1 : 0 ≤ k) (hk2 : k ≤ 3) : Calls Try.prog 84 #[v, .int .i64 k] w (Makes w (climbG l k)) := by
  have h32 := isSeq_len hs
  have hall := isSeq_all hs
  have HALL := Lib.hid hall
  obtain ⟨a, cap, hveq⟩ : ∃ a cap, v = .slice a l.length cap := by rcases hv with ⟨rfl, a, cap, rfl⟩ | ⟨_, b, off, cap, rfl, _⟩ <;> exact ⟨_, _, rfl⟩
  subst hveq
  have HV := Lib.hid hv
  obtain ⟨N, hN⟩ : ∃ N, N = l.length := ⟨_, rfl⟩
  obtain ⟨G, hG⟩ : ∃ G : Nat → Int, G = fun (i : Nat) => (l.getD i 0 + k * i) % 4 := ⟨_, rfl⟩
  have hgoal : climbG l k = gen N G := by rw [hN, hG]; rfl
  rw [hgoal]
  rw [← hN] at HV h32 ⊢
  have HN := Lib.hid hN
  have HG := Lib.hid hG
  clear hgoal hN hG hs hall hv
  go_enter Try.func84, Try.ntmps84
  go_wp2_with fail
  go_loopw [10, 5] (fun i o wr => ∃ j : Nat, j ≤ N ∧ i = .int .i64 j ∧ Own wr w.heap.size o (gen j G) ∧ Below w.heap.size w wr) (fun i _ _ => N - (intOf i).toNat)
  case atStart => exact ⟨0, Nat.zero_le _, rfl, World.ownsRow_nil _ _ _ _, Below.refl _ _⟩
  case round =>
    obtain ⟨j, hj, rfl, hown, hbel⟩ := hrel
    by_cases hlt : j < N
    · have h0 : (0 : Int) ≤ (j : Int) := by omega
      have h1 : (j : Int) < (N : Int) := by omega
      have hn32 : (N : Int) ≤ 32 := by omega
      have hM2 := hlt
      have hltl : j < l.length := by rw [← HN.out]; exact hM2
      have hx := allIn_getD HALL.out j hltl
      have hv2 := HV.out.below hbel
      rcases hv2 with ⟨h0, _⟩ | ⟨_, b, off, cap', hveq, _, hc⟩
      · rw [h0] at hltl; exact absurd hltl (Nat.not_lt_zero _)
      · simp only [Value.slice.injEq] at hveq
        obtain ⟨rfl, hnn, rfl⟩ := hveq
        clear hnn
        have c1 := hc j hltl
        clear hc
        have hgj : G j = (l.getD j 0 + k * j) % 4 := by rw [HG.out]
        obtain ⟨x, hxd⟩ : ∃ x, x = l.getD j 0 := ⟨_, rfl⟩
        rw [← hxd] at c1 hx hgj
        have hgl : (gen j G).length ≤ 1048576 := by rw [gen_length]; omega
        have hgs := gen_succ j G
        rw [hgj] at hgs
        have HGS := Lib.hid hgs
        have HGL := Lib.hid hgl
        have HO := Lib.hid hown
        have HB := Lib.hid hbel
        obtain ⟨hx1, hx2⟩ := hx
        have hkj1 : 0 ≤ k * (j : Int) := Int.mul_nonneg hk1 h0
        have hkj2 : k * (j : Int) ≤ 96 := by
          have := Int.mul_le_mul hk2 (show (j : Int) ≤ 32 by omega) h0 (by omega)
          omega
        clear hxd hgj hgl hgs hown hbel
        go_wp2_with (first
          | (go_at_call 102; refine (phMod_any _ (by omega) (by omega) _).mono ?_; rintro e w' ⟨rfl, rfl⟩)
          | (at_builtin; refine wpList_push rfl _ _ rfl w.heap.size _ (gen j G) rfl (HO.out.alloc _) wr.heap.size 1 ((x + k * j) % 4) rfl (by simp) HGL.out w.heap.size w (HB.out.alloc HB.out.size _) (Nat.le_refl _) (by have := HB.out.size; simp; omega) (by have := HB.out.size; simp; omega) ?_; intro v2 w2 ho2 hb2))
        go_roundw
        case rel => exact ⟨j + 1, by omega, by go_num, by rw [HGS.out]; assumption, by assumption⟩
        case measure => simp [intOf]; omega
    · have he : j = N := by omega
      subst he
      have HO := Lib.hid hown
      have HB := Lib.hid hbel
      clear hown hbel
      go_wp2_with fail
      go_returns
      exact ⟨_, rfl, HO.out, HB.out⟩

end
section
open Go.RowKit

set_option maxHeartbeats 2000000 in
theorem phConjugate_any (v : Value) (l : List Int) (w : World) (hv : IS w v l) (hs : isSeq l = true) : Calls Try.prog 81 #[v] w (Makes w (barG l)) := by
  have h32 := isSeq_len hs
  have hall := isSeq_all hs
  have HALL := Lib.hid hall
  obtain ⟨a, cap, hveq⟩ : ∃ a cap, v = .slice a l.length cap := by rcases hv with ⟨rfl, a, cap, rfl⟩ | ⟨_, b, off, cap, rfl, _⟩ <;> exact ⟨_, _, rfl⟩
  subst hveq
  have HV := Lib.hid hv
  obtain ⟨N, hN⟩ : ∃ N, N = l.length := ⟨_, rfl⟩
  obtain ⟨G, hG⟩ : ∃ G : Nat → Int, G = fun (i : Nat) => (-(l.getD i 0)) % 4 := ⟨_, rfl⟩
  have hgoal : barG l = gen N G := by rw [hN, hG]; rfl
  rw [hgoal]
  rw [← hN] at HV h32 ⊢
  have HN := Lib.hid hN
  have HG := Lib.hid hG
  clear hgoal hN hG hs hall hv
  go_enter Try.func81, Try.ntmps81
  go_wp2_with fail
  go_loopw [8, 3] (fun i o wr => ∃ j : Nat, j ≤ N ∧ i = .int .i64 j ∧ Own wr w.heap.size o (gen j G) ∧ Below w.heap.size w wr) (fun i _ _ => N - (intOf i).toNat)
  case atStart => exact ⟨0, Nat.zero_le _, rfl, World.ownsRow_nil _ _ _ _, Below.refl _ _⟩
  case round =>
    obtain ⟨j, hj, rfl, hown, hbel⟩ := hrel
    by_cases hlt : j < N
    · have h0 : (0 : Int) ≤ (j : Int) := by omega
      have h1 : (j : Int) < (N : Int) := by omega
      have hn32 : (N : Int) ≤ 32 := by omega
      have hM2 := hlt
      have hltl : j < l.length := by rw [← HN.out]; exact hM2
      have hx := allIn_getD HALL.out j hltl
      have hv2 := HV.out.below hbel
      rcases hv2 with ⟨h0, _⟩ | ⟨_, b, off, cap', hveq, _, hc⟩
      · rw [h0] at hltl; exact absurd hltl (Nat.not_lt_zero _)
      · simp only [Value.slice.injEq] at hveq
        obtain ⟨rfl, hnn, rfl⟩ := hveq
        clear hnn
        have c1 := hc j hltl
        clear hc
        have hgj : G j = (-(l.getD j 0)) % 4 := by rw [HG.out]
        obtain ⟨x, hxd⟩ : ∃ x, x = l.getD j 0 := ⟨_, rfl⟩
        rw [← hxd] at c1 hx hgj
        have hgl : (gen j G).length ≤ 1048576 := by rw [gen_length]; omega
        have hgs := gen_succ j G
        rw [hgj] at hgs
        have HGS := Lib.hid hgs
        have HGL := Lib.hid hgl
        have HO := Lib.hid hown
        have HB := Lib.hid hbel
        obtain ⟨hx1, hx2⟩ := hx
        clear hxd hgj hgl hgs hown hbel
        go_wp2_with (first
          | (go_at_call 102; refine (phMod_any _ (by omega) (by omega) _).mono ?_; rintro e w' ⟨rfl, rfl⟩)
          | (at_builtin; refine wpList_push rfl _ _ rfl w.heap.size _ (gen j G) rfl (HO.out.alloc _) wr.heap.size 1 ((-x) % 4) rfl (by simp) HGL.out w.heap.size w (HB.out.alloc HB.out.size _) (Nat.le_refl _) (by have := HB.out.size; simp; omega) (by have := HB.out.size; simp; omega) ?_; intro v2 w2 ho2 hb2))
        go_roundw
        case rel => exact ⟨j + 1, by omega, by go_num, by rw [HGS.out]; assumption, by assumption⟩
        case measure => simp [intOf]; omega
    · have he : j = N := by omega
      subst he
      have HO := Lib.hid hown
      have HB := Lib.hid hbel
      clear hown hbel
      go_wp2_with fail
      go_returns
      exact ⟨_, rfl, HO.out, HB.out⟩

end
section
open Go.RowKit

set_option maxHeartbeats 2000000 in
theorem phBack_any (v : Value) (l : List Int) (w : World) (hv : IS w v l) (hs : isSeq l = true) : Calls Try.prog 82 #[v] w (Makes w (backG l)) := by
  have h32 := isSeq_len hs
  have hall := isSeq_all hs
  have HALL := Lib.hid hall
  obtain ⟨a, cap, hveq⟩ : ∃ a cap, v = .slice a l.length cap := by rcases hv with ⟨rfl, a, cap, rfl⟩ | ⟨_, b, off, cap, rfl, _⟩ <;> exact ⟨_, _, rfl⟩
  subst hveq
  have HV := Lib.hid hv
  obtain ⟨N, hN⟩ : ∃ N, N = l.length := ⟨_, rfl⟩
  obtain ⟨G, hG⟩ : ∃ G : Nat → Int, G = fun (i : Nat) => l.getD (l.length - 1 - i) 0 := ⟨_, rfl⟩
  have hgoal : backG l = gen N G := by rw [hN, hG]; rfl
  rw [hgoal]
  rw [← hN] at HV h32 ⊢
  have HN := Lib.hid hN
  have HG := Lib.hid hG
  clear hgoal hN hG hs hall hv
  go_enter Try.func82, Try.ntmps82
  go_wp2_with fail
  go_loopw [4, 3] (fun i o wr => ∃ j : Nat, j ≤ N ∧ i = .int .i64 ((N : Int) - 1 - j) ∧ Own wr w.heap.size o (gen j G) ∧ Below w.heap.size w wr) (fun i _ _ => ((intOf i) + 1).toNat)
  case atStart => exact ⟨0, Nat.zero_le _, by go_num, World.ownsRow_nil _ _ _ _, Below.refl _ _⟩
  case round =>
    obtain ⟨j, hj, rfl, hown, hbel⟩ := hrel
    by_cases hlt : j < N
    · have h0 : (0 : Int) ≤ (j : Int) := by omega
      have h1 : (j : Int) < (N : Int) := by omega
      have hn32 : (N : Int) ≤ 32 := by omega
      obtain ⟨M, hM⟩ : ∃ M : Nat, M + j + 1 = N := ⟨N - 1 - j, by omega⟩
      have hM2 : M < N := by omega
      have hMi : (N : Int) - 1 - (j : Int) = (M : Int) := by omega
      have hMn : l.length - 1 - j = M := by rw [← HN.out]; omega
      have HMN := Lib.hid hMn
      rw [hMi]
      have HM := Lib.hid hM
      clear hMi hMn hM
      have hltl : M < l.length := by rw [← HN.out]; exact hM2
      have hx := allIn_getD HALL.out M hltl
      have hv2 := HV.out.below hbel
      rcases hv2 with ⟨h0, _⟩ | ⟨_, b, off, cap', hveq, _, hc⟩
      · rw [h0] at hltl; exact absurd hltl (Nat.not_lt_zero _)
      · simp only [Value.slice.injEq] at hveq
        obtain ⟨rfl, hnn, rfl⟩ := hveq
        clear hnn
        have c1 := hc M hltl
        clear hc
        have hgj : G j = l.getD M 0 := by rw [HG.out]; show l.getD (l.length - 1 - j) 0 = _; rw [HMN.out]
        obtain ⟨x, hxd⟩ : ∃ x, x = l.getD M 0 := ⟨_, rfl⟩
        rw [← hxd] at c1 hx hgj
        have hgl : (gen j G).length ≤ 1048576 := by rw [gen_length]; omega
        have hgs := gen_succ j G
        rw [hgj] at hgs
        have HGS := Lib.hid hgs
        have HGL := Lib.hid hgl
        have HO := Lib.hid hown
        have HB := Lib.hid hbel
        obtain ⟨hx1, hx2⟩ := hx
        have hM4 : (0 : Int) ≤ (M : Int) := by omega
        have hM5 : (M : Int) < (N : Int) := by omega
        clear hxd hgj hgl hgs hown hbel
        go_wp2_with (first
          | (at_builtin; refine wpList_push rfl _ _ rfl w.heap.size _ (gen j G) rfl (HO.out.alloc _) wr.heap.size 1 (x) rfl (by simp) HGL.out w.heap.size w (HB.out.alloc HB.out.size _) (Nat.le_refl _) (by have := HB.out.size; simp; omega) (by have := HB.out.size; simp; omega) ?_; intro v2 w2 ho2 hb2))
        go_roundw
        case rel =>
          have := HM.out
          exact ⟨j + 1, by omega, by go_num, by rw [HGS.out]; assumption, by assumption⟩
        case measure => simp [intOf]
    · have he : j = N := by omega
      subst he
      have HO := Lib.hid hown
      have HB := Lib.hid hbel
      clear hown hbel
      have hneg : (j : Int) - 1 - (j : Int) = -1 := by omega
      rw [hneg]
      clear hneg
      go_wp2_with fail
      go_returns
      exact ⟨_, rfl, HO.out, HB.out⟩

end
end Go.Proofs.Ytcagiecgbjnefab
