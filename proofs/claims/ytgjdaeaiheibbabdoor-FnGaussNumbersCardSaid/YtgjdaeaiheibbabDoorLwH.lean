/- The helpers of the laws of several functions: how many letters came in, sums and products of Gaussian numbers, lists compared. -/
import Derived.Test.YtgjdaeaiheibbabDoorCur
import Derived.Test.YtgjdaeaiheibbabDoorPv
import Derived.Test.YtgjdaeaiheibbabDoorTN
namespace Go.Proofs.YtgjdaeaiheibbabDoor
set_option maxRecDepth 100000
open Go.RowKit

theorem prodL_le (x y : Int) (hx : -1000000 ≤ x ∧ x ≤ 1000000) (hy : -1000000 ≤ y ∧ y ≤ 1000000) : -1000000000000 ≤ x * y ∧ x * y ≤ 1000000000000 := by
  have h : x.natAbs * y.natAbs ≤ 1000000 * 1000000 := Nat.mul_le_mul (by omega) (by omega)
  rw [← Int.natAbs_mul] at h
  omega
/-- Few letters came in. -/
def few (a b : List Int) : Bool := decide (a.length + b.length ≤ 1048576)
set_option maxHeartbeats 1000000 in
theorem big_any (va vb : Value) (a b : List Int) (w : World) (ha : BS w va a) (hb : BS w vb b) : Calls Tryd.prog 4 #[va, vb] w (Ret w (.bool (!few a b))) := by
  obtain ⟨pa, ca, rfl⟩ := ha.sl
  obtain ⟨pb, cb, rfl⟩ := hb.sl
  have l1 := ha.len
  have l2 := hb.len
  unfold few
  obtain ⟨N, hN⟩ : ∃ N, N = a.length := ⟨_, rfl⟩
  obtain ⟨M, hM⟩ : ∃ N, N = b.length := ⟨_, rfl⟩
  rw [← hN, ← hM]
  rw [← hN] at l1
  rw [← hM] at l2
  clear ha hb hN hM
  by_cases h1 : N ≤ 1048576
  · have g1 : ¬ (N : Int) > 1048576 := by omega
    by_cases h2 : N + M ≤ 1048576
    · have g2 : ¬ (M : Int) > 1048576 - (N : Int) := by omega
      rw [decide_eq_true h2]
      go_enter Tryd.func4, Tryd.ntmps4
      go_wp2_with fail
      go_returns
      exact ⟨ret_bool (by simp), by go_grown⟩
    · have g2 : (M : Int) > 1048576 - (N : Int) := by omega
      rw [decide_eq_false h2]
      go_enter Tryd.func4, Tryd.ntmps4
      go_wp2_with fail
      go_returns
      exact ⟨ret_bool (by simp), by go_grown⟩
  · have g1 : (N : Int) > 1048576 := by omega
    rw [decide_eq_false (show ¬ N + M ≤ 1048576 by omega)]
    go_enter Tryd.func4, Tryd.ntmps4
    go_wp2_with fail
    go_returns
    exact ⟨rfl, by go_grown⟩
set_option maxHeartbeats 1000000 in
theorem cTimes_any (x y u v : Int) (h1 : -1000000 ≤ x ∧ x ≤ 1000000) (h2 : -1000000 ≤ y ∧ y ≤ 1000000) (h3 : -1000000 ≤ u ∧ u ≤ 1000000) (h4 : -1000000 ≤ v ∧ v ≤ 1000000) (w : World) :
    Calls Tryd.prog 23 #[.agg #[.int .i64 x, .int .i64 y], .agg #[.int .i64 u, .int .i64 v]] w (Ret w (.agg #[.int .i64 (x * u - y * v), .int .i64 (x * v + y * u)])) := by
  have p1 := prodL_le x u h1 h3
  have p2 := prodL_le y v h2 h4
  have p3 := prodL_le x v h1 h4
  have p4 := prodL_le y u h2 h3
  obtain ⟨A, hA⟩ : ∃ A, A = x * u := ⟨_, rfl⟩
  obtain ⟨C, hC⟩ : ∃ A, A = y * v := ⟨_, rfl⟩
  obtain ⟨E, hE⟩ : ∃ A, A = x * v := ⟨_, rfl⟩
  obtain ⟨F, hF⟩ : ∃ A, A = y * u := ⟨_, rfl⟩
  rw [← hA] at p1 ⊢
  rw [← hC] at p2 ⊢
  rw [← hE] at p3 ⊢
  rw [← hF] at p4 ⊢
  have wA : wrap64 (x * u) = A := by rw [← hA]; exact IntWalk.wrap64_in A ⟨by omega, by omega⟩
  have wC : wrap64 (y * v) = C := by rw [← hC]; exact IntWalk.wrap64_in C ⟨by omega, by omega⟩
  have wE : wrap64 (x * v) = E := by rw [← hE]; exact IntWalk.wrap64_in E ⟨by omega, by omega⟩
  have wF : wrap64 (y * u) = F := by rw [← hF]; exact IntWalk.wrap64_in F ⟨by omega, by omega⟩
  have wS : wrap64 (A - C) = A - C := IntWalk.wrap64_in _ ⟨by omega, by omega⟩
  have wT : wrap64 (E + F) = E + F := IntWalk.wrap64_in _ ⟨by omega, by omega⟩
  clear hA hC hE hF h1 h2 h3 h4 p1 p2 p3 p4
  go_enter Tryd.func23, Tryd.ntmps23
  go_wp2
  go_returns
  exact ⟨rfl, by go_grown⟩
set_option maxHeartbeats 1000000 in
theorem cBar_any (X Y : Int) (h2 : -1000000 ≤ Y ∧ Y ≤ 1000000) (w : World) : Calls Tryd.prog 13 #[.agg #[.int .i64 X, .int .i64 Y]] w (Ret w (.agg #[.int .i64 X, .int .i64 (-Y)])) := by
  obtain ⟨h21, h22⟩ := h2
  go_enter Tryd.func13, Tryd.ntmps13
  go_wp2
  go_returns
  exact ⟨rfl, by go_grown⟩
theorem modT (k : Int) : Int.tmod (Int.tmod k 4 + 4) 4 = k % 4 := by
  rw [Int.tmod_eq_emod, Int.tmod_eq_emod]
  split <;> split <;> omega
end Go.Proofs.YtgjdaeaiheibbabDoor
