/- RankOf: the model's and the program's. -/
import Derived.Test.YtcagiecgbjnefabKit
namespace Go.Proofs.Ytcagiecgbjnefab
set_option maxRecDepth 100000
open Go.RowKit

def rankF (l : List Int) : Int := l.foldl (fun n k => 4 * n + k) 0
theorem rankF_take_succ (l : List Int) (k : Nat) (h : k < l.length) : rankF (l.take (k + 1)) = 4 * rankF (l.take k) + l.getD k 0 := by
  unfold rankF
  rw [List.take_succ_eq_append_getElem h, List.foldl_append]
  simp [List.getD, h]
theorem rankF_bound (l : List Int) (h : allIn l 0 3 = true) : ∀ k : Nat, k ≤ l.length → 0 ≤ rankF (l.take k) ∧ rankF (l.take k) < 4 ^ k := by
  intro k
  induction k with
  | zero => intro _; simp [rankF]
  | succ k ih =>
    intro hk
    have h1 := ih (by omega)
    have h2 := allIn_getD h k (by omega)
    rw [rankF_take_succ l k (by omega), Int.pow_succ]
    omega
theorem pow15 (k : Nat) (h : k ≤ 15) : (4 : Int) ^ k ≤ 1073741824 := by
  have h' : ∀ j : Nat, j < 16 → (4 : Int) ^ j ≤ 1073741824 := by decide
  exact h' k (by omega)
theorem rankF_small (l : List Int) (h : isSeq l = true) (h15 : l.length ≤ 15) (k : Nat) (hk : k ≤ l.length) : 0 ≤ rankF (l.take k) ∧ rankF (l.take k) ≤ 1073741824 := by
  have h1 := rankF_bound l (isSeq_all h) k hk
  have h2 := pow15 k (by omega)
  omega
def ranked (l : List Int) : Bool := isSeq l && decide (l.length ≤ 15)
def rankR (l : List Int) : Int := if ranked l then rankF l else 0

set_option maxHeartbeats 400000 in
theorem phRank_any (v : Value) (l : List Int) (w : World) (hv : IS w v l) (hs : isSeq l = true) (h15 : l.length ≤ 15) : Calls Try.prog 62 #[v] w (Ret w (.int .i64 (rankF l))) := by
  rcases hv with ⟨rfl, a, cap, rfl⟩ | ⟨hn, b, off, cap, rfl, hm, hc⟩
  · clear hs h15
    go_enter Try.func62, Try.ntmps62
    go_wp2_with fail
    go_loop [8, 3] (fun i q => i = .int .i64 0 ∧ q = .int .i64 0) (fun _ _ => 0)
    case atStart => exact ⟨rfl, rfl⟩
    case round =>
      obtain ⟨rfl, rfl⟩ := hrel
      go_wp2_with fail
      go_returns
      exact ⟨rfl, by go_grown⟩
  · have HC := Lib.hid hc
    have HS := Lib.hid hs
    clear hm hn hc hs
    go_enter Try.func62, Try.ntmps62
    go_wp2_with fail
    go_loop [8, 3] (fun i q => ∃ k : Nat, k ≤ l.length ∧ i = .int .i64 k ∧ q = .int .i64 (rankF (l.take k))) (fun i _ => l.length - (intOf i).toNat)
    case atStart => exact ⟨0, Nat.zero_le _, rfl, rfl⟩
    case round =>
      obtain ⟨k, hk, rfl, rfl⟩ := hrel
      by_cases hlt : k < l.length
      · have c1 := HC.out k hlt
        have hb := rankF_small l HS.out h15 k hk
        have hx2 := allIn_getD (isSeq_all HS.out) k hlt
        have hsucc := rankF_take_succ l k hlt
        obtain ⟨x, hx⟩ : ∃ x, x = l.getD k 0 := ⟨_, rfl⟩
        obtain ⟨q, hq⟩ : ∃ q, q = rankF (l.take k) := ⟨_, rfl⟩
        rw [← hx] at c1 hx2 hsucc
        rw [← hq] at hb hsucc ⊢
        have HQ := Lib.hid hsucc
        clear hx hq hsucc
        have h0 : (0 : Int) ≤ (k : Int) := by omega
        have h1 : (k : Int) < (l.length : Int) := by omega
        obtain ⟨b1, b2⟩ := hb
        obtain ⟨b3, b4⟩ := hx2
        go_wp2_with fail
        go_round
        case rel => exact ⟨k + 1, by omega, by go_num, by rw [HQ.out]⟩
        case measure => simp [intOf]; omega
      · go_wp2_with fail
        go_returns
        exact ⟨ret_int (by rw [List.take_of_length_le (by omega)]), by go_grown⟩


end Go.Proofs.Ytcagiecgbjnefab
