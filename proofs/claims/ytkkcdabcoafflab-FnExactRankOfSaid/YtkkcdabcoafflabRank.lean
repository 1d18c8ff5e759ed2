/- RankOf: the model's and the program's. -/
import Derived.Test.YtkkcdabcoafflabSeq
namespace Go.Proofs.Ytkkcdabcoafflab
open Go.RowKit

def rankF (l : List Int) : Int := l.foldl (fun n k => 4 * n + k) 0
theorem rankF_take_succ (l : List Int) (k : Nat) (h : k < l.length) : rankF (l.take (k + 1)) = 4 * rankF (l.take k) + l.getD k 0 := by
  unfold rankF
  rw [List.take_succ_eq_append_getElem h, List.foldl_append]
  simp [List.getD, h]
theorem rankF_bound (l : List Int) (h : allIn l 0 3 = true) : ∀ k : Nat, k ≤ l.length → 0 ≤ rankF (l.take k) ∧ rankF (l.take k) < 4 ^ k := by
  intro k
  induction k with
  | zero => intro _; simp [rankF]
  | succ k ih =>
    intro hk
    have h1 := ih (by omega)
    have h2 := allIn_getD h k (by omega)
    rw [rankF_take_succ l k (by omega), Int.pow_succ]
    omega
theorem pow15 (k : Nat) (h : k ≤ 15) : (4 : Int) ^ k ≤ 1073741824 := by
  have h' : ∀ j : Nat, j < 16 → (4 : Int) ^ j ≤ 1073741824 := by decide
  exact h' k (by omega)
theorem rankF_small (l : List Int) (h : isSeq l = true) (h15 : l.length ≤ 15) (k : Nat) (hk : k ≤ l.length) : 0 ≤ rankF (l.take k) ∧ rankF (l.take k) ≤ 1073741824 := by
  have h1 := rankF_bound l (isSeq_all h) k hk
  have h2 := pow15 k (by omega)
  omega
def ranked (l : List Int) : Bool := isSeq l && decide (l.length ≤ 15)
def rankR (l : List Int) : Int := if ranked l then rankF l else 0

set_option maxHeartbeats 400000 in
theorem phRank_any (v : Value) (l : List Int) (w : World) (hv : IS w v l) (hs : isSeq l = true) (h15 : l.length ≤ 15) : Calls Try.prog 56 #[v] w (Ret w (.int .i64 (rankF l))) := by
  rcases hv with ⟨rfl, a, cap, rfl⟩ | ⟨hn, b, off, cap, rfl, hm, hc⟩
  · clear hs h15
    go_enter Try.func56, Try.ntmps56
    go_wp2_with fail
    go_loop [8, 3] (fun i q => i = .int .i64 0 ∧ q = .int .i64 0) (fun _ _ => 0)
    case atStart => exact ⟨rfl, rfl⟩
    case round =>
      obtain ⟨rfl, rfl⟩ := hrel
      go_wp2_with fail
      go_returns
      exact ⟨rfl, by go_grown⟩
  · have HC := Lib.hid hc
    have HS := Lib.hid hs
    clear hm hn hc hs
    go_enter Try.func56, Try.ntmps56
    go_wp2_with fail
    go_loop [8, 3] (fun i q => ∃ k : Nat, k ≤ l.length ∧ i = .int .i64 k ∧ q = .int .i64 (rankF (l.take k))) (fun i _ => l.length - (intOf i).toNat)
    case atStart => exact ⟨0, Nat.zero_le _, rfl, rfl⟩
    case round =>
      obtain ⟨k, hk, rfl, rfl⟩ := hrel
      by_cases hlt : k < l.length
      · have c1 := HC.out k hlt
        have hb := rankF_small l HS.out h15 k hk
        have hx2 := allIn_getD (isSeq_all HS.out) k hlt
        have hsucc := rankF_take_succ l k hlt
        obtain ⟨x, hx⟩ : ∃ x, x = l.getD k 0 := ⟨_, rfl⟩
        obtain ⟨q, hq⟩ : ∃ q, q = rankF (l.take k) := ⟨_, rfl⟩
        rw [← hx] at c1 hx2 hsucc
        rw [← hq] at hb hsucc ⊢
        have HQ := Lib.hid hsucc
        clear hx hq hsucc
        have h0 : (0 : Int) ≤ (k : Int) := by omega
        have h1 : (k : Int) < (l.length : Int) := by omega
        obtain ⟨b1, b2⟩ := hb
        obtain ⟨b3, b4⟩ := hx2
        go_wp2_with fail
        go_round
        case rel => exact ⟨k + 1, by omega, by go_num, by rw [HQ.out]⟩
        case measure => simp [intOf]; omega
      · go_wp2_with fail
        go_returns
        exact ⟨ret_int (by rw [List.take_of_length_le (by omega)]), by go_grown⟩

theorem IS.shape {w : World} {v : Value} {l : List Int} (hv : IS w v l) : ∃ a cap, v = .slice a l.length cap := by
  rcases hv with ⟨rfl, a, cap, rfl⟩ | ⟨_, b, off, cap, rfl, _⟩ <;> exact ⟨_, _, rfl⟩

set_option maxHeartbeats 400000 in
theorem srankOf (v : Value) (l : List Int) (w : World) (hv : IS w v l) (hl : l.length ≤ 1048576) : Calls Try.prog 33 #[v] w (Ret w (.tuple #[.int .i64 (rankR l), .bool (ranked l)])) := by
  have hvv := hv
  obtain ⟨a, cap, rfl⟩ := hv.shape
  by_cases hs : isSeq l = true
  · by_cases h15 : l.length ≤ 15
    · have e1 : ranked l = true := by simp [ranked, hs, h15]
      have e2 : rankR l = rankF l := by simp [rankR, e1]
      rw [e1, e2]
      clear e1 e2
      go_enter Try.func33, Try.ntmps33
      go_wp2_with (first
        | (go_at_call 35; refine (phIs_any _ l _ hvv hl).mono ?_; rintro e w1 ⟨rfl, hb1⟩)
        | (go_at_call 56; refine (phRank_any _ l _ (hvv.below hb1) hs h15).mono ?_; rintro e w2 ⟨rfl, hb2⟩))
      go_returns
      exact ⟨rfl, joins ‹Below w.heap.size w _› ‹_›⟩
    · have e1 : ranked l = false := by simp [ranked, h15]
      have e2 : rankR l = 0 := by simp [rankR, e1]
      rw [e1, e2]
      clear e1 e2
      go_enter Try.func33, Try.ntmps33
      go_wp2_with (go_at_call 35; refine (phIs_any _ l _ hvv hl).mono ?_; rintro e w1 ⟨rfl, hb1⟩)
      go_returns
      exact ⟨rfl, ‹_›⟩
  · have hs2 : isSeq l = false := by simpa using hs
    have e1 : ranked l = false := by simp [ranked, hs2]
    have e2 : rankR l = 0 := by simp [rankR, e1]
    rw [e1, e2]
    clear e1 e2 hs
    go_enter Try.func33, Try.ntmps33
    go_wp2_with (go_at_call 35; refine (phIs_any _ l _ hvv hl).mono ?_; rintro e w1 ⟨rfl, hb1⟩)
    go_returns
    exact ⟨rfl, ‹_›⟩

set_option maxHeartbeats 400000 in
theorem irankOf (v : Value) (l : List Int) (w : World) (hv : IS w v l) (hl : l.length ≤ 1048576) : Calls Try.prog 34 #[v] w (Ret w (.tuple #[.int .i64 (rankR l), .bool (ranked l)])) := by
  have hvv := hv
  obtain ⟨a, cap, rfl⟩ := hv.shape
  by_cases hs : isSeq l = true
  · by_cases h15 : l.length ≤ 15
    · have e1 : ranked l = true := by simp [ranked, hs, h15]
      have e2 : rankR l = rankF l := by simp [rankR, e1]
      rw [e1, e2]
      clear e1 e2
      go_enter Try.func34, Try.ntmps34
      go_wp2_with fail
      refine (isSequence_any _ l _ hvv hl).mono ?_
      rintro e w1 ⟨rfl, hb1⟩
      have HC := Lib.hid (hvv.below hb1)
      have HS := Lib.hid hs
      clear hvv hv
      go_wp2_with fail
      clear hs
      go_loop [17, 4] (fun i q => ∃ k : Nat, k ≤ l.length ∧ i = .int .i64 k ∧ q = .int .i64 (rankF (l.take k))) (fun i _ => l.length - (intOf i).toNat)
      case atStart => exact ⟨0, Nat.zero_le _, rfl, rfl⟩
      case round =>
        obtain ⟨k, hk, rfl, rfl⟩ := hrel
        by_cases hlt : k < l.length
        · rcases HC.out with ⟨h0, _⟩ | ⟨_, b, off, cap', hveq, _, hc⟩
          · rw [h0] at hlt; exact absurd hlt (Nat.not_lt_zero _)
          · simp only [Value.slice.injEq] at hveq
            obtain ⟨rfl, _, rfl⟩ := hveq
            have c1 := hc k hlt
            clear hc
            have hb := rankF_small l HS.out h15 k hk
            have hx2 := allIn_getD (isSeq_all HS.out) k hlt
            have hsucc := rankF_take_succ l k hlt
            obtain ⟨x, hx⟩ : ∃ x, x = l.getD k 0 := ⟨_, rfl⟩
            obtain ⟨q, hq⟩ : ∃ q, q = rankF (l.take k) := ⟨_, rfl⟩
            rw [← hx] at c1 hx2 hsucc
            rw [← hq] at hb hsucc ⊢
            have HQ := Lib.hid hsucc
            clear hx hq hsucc
            have h0 : (0 : Int) ≤ (k : Int) := by omega
            have h1 : (k : Int) < (l.length : Int) := by omega
            obtain ⟨b1, b2⟩ := hb
            obtain ⟨b3, b4⟩ := hx2
            go_wp2_with fail
            go_round
            case rel => exact ⟨k + 1, by omega, by go_num, by rw [HQ.out]⟩
            case measure => simp [intOf]; omega
        · have he : rankF (l.take k) = rankF l := by rw [List.take_of_length_le (by omega)]
          rw [he]
          clear he
          go_wp2_with fail
          go_returns
          exact ⟨rfl, hb1⟩
    · have e1 : ranked l = false := by simp [ranked, h15]
      have e2 : rankR l = 0 := by simp [rankR, e1]
      rw [e1, e2]
      clear e1 e2
      go_enter Try.func34, Try.ntmps34
      go_wp2_with (go_at_call 39; refine (isSequence_any _ l _ hvv hl).mono ?_; rintro e w1 ⟨rfl, hb1⟩)
      go_returns
      exact ⟨rfl, ‹_›⟩
  · have hs2 : isSeq l = false := by simpa using hs
    have e1 : ranked l = false := by simp [ranked, hs2]
    have e2 : rankR l = 0 := by simp [rankR, e1]
    rw [e1, e2]
    clear e1 e2 hs
    go_enter Try.func34, Try.ntmps34
    go_wp2_with (go_at_call 39; refine (isSequence_any _ l _ hvv hl).mono ?_; rintro e w1 ⟨rfl, hb1⟩)
    go_returns
    exact ⟨rfl, ‹_›⟩
end Go.Proofs.Ytkkcdabcoafflab
