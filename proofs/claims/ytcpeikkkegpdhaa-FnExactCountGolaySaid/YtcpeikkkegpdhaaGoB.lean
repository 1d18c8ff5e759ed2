/- All Golay pairs of small lengths: plain mathematics. -/
import Derived.Test.YtcpeikkkegpdhaaSel
import Derived.Test.YtcpeikkkegpdhaaGoM
namespace Go.Proofs.Ytcpeikkkegpdhaa

set_option maxRecDepth 100000
/-- Whether the pair number k, of the ranks k / 4^n and k modulo 4^n, is one. -/
def gkB (n : Nat) (k : Nat) : Bool := goB (lowD ((k / pow4 n : Nat) : Int) n) (lowD ((k % pow4 n : Nat) : Int) n)
def gkL (n : Nat) : List Nat := selL (gkB n) (pow4 n * pow4 n)
def smallG (n : Int) : Bool := decide (1 ≤ n ∧ n ≤ 4)
def gkC (n : Int) : Int := if smallG n then ((gkL n.toNat).length : Nat) else 0
/-- The two sequences of the first pair. -/
def gkP (n : Nat) : List Nat → List Int
  | [] => []
  | r :: _ => lowD ((r / pow4 n : Nat) : Int) n
def gkQ (n : Nat) : List Nat → List Int
  | [] => []
  | r :: _ => lowD ((r % pow4 n : Nat) : Int) n
def gk1 (n : Int) : List Int := if smallG n then gkP n.toNat (gkL n.toNat) else []
def gk2 (n : Int) : List Int := if smallG n then gkQ n.toNat (gkL n.toNat) else []
theorem gkP_len (n : Nat) (l : List Nat) : (gkP n l).length ≤ n := by
  cases l with
  | nil => simp [gkP]
  | cons r t => simp [gkP, lowD_length]
theorem gkQ_len (n : Nat) (l : List Nat) : (gkQ n l).length ≤ n := by
  cases l with
  | nil => simp [gkQ]
  | cons r t => simp [gkQ, lowD_length]
theorem gk1_len (n : Int) : (gk1 n).length ≤ 1048576 := by
  unfold gk1; split
  · rename_i h
    have := gkP_len n.toNat (gkL n.toNat)
    simp [smallG] at h
    omega
  · simp
theorem gk2_len (n : Int) : (gk2 n).length ≤ 1048576 := by
  unfold gk2; split
  · rename_i h
    have := gkQ_len n.toNat (gkL n.toNat)
    simp [smallG] at h
    omega
  · simp
theorem pow4_small (n : Nat) (h : n ≤ 4) : 1 ≤ pow4 n ∧ pow4 n ≤ 256 := by
  have : ∀ j : Nat, j < 5 → (1 ≤ pow4 j ∧ pow4 j ≤ 256) := by decide
  exact this n (by omega)
theorem pair_index (K x y : Nat) (h : y < K) : (x * K + y) / K = x ∧ (x * K + y) % K = y := by
  constructor
  · rw [Nat.mul_comm, Nat.mul_add_div (by omega), Nat.div_eq_of_lt h, Nat.add_zero]
  · rw [Nat.mul_comm, Nat.mul_add_mod, Nat.mod_eq_of_lt h]
end Go.Proofs.Ytcpeikkkegpdhaa
