/- Matches: plain mathematics. -/
import Derived.Test.YtapmehgdnofgnaaSpM
import Derived.Test.YtapmehgdnofgnaaMdP
namespace Go.Proofs.Ytapmehgdnofgnaa
set_option maxRecDepth 100000
open Go.RowKit

/-- The match of k numbers with a code, its two parts. -/
def maX (X Y : Nat → Int) (s : List Int) (k : Nat) : Int := sumN (fun i => nrX (X i) (Y i) (s.getD i 0).toNat) k
def maY (X Y : Nat → Int) (s : List Int) (k : Nat) : Int := sumN (fun i => nrY (X i) (Y i) (s.getD i 0).toNat) k
theorem sumN_le (g : Nat → Int) (B : Int) (n : Nat) (h : ∀ i, i < n → -B ≤ g i ∧ g i ≤ B) (k : Nat) (hk : k ≤ n) : -((k : Int) * B) ≤ sumN g k ∧ sumN g k ≤ (k : Int) * B := by
  induction k with
  | zero => simp [sumN]
  | succ k ih =>
    have h1 := ih (by omega)
    have h2 := h k (by omega)
    have e : ((k + 1 : Nat) : Int) * B = k * B + B := by rw [Int.natCast_add, Int.add_mul]; simp
    simp only [sumN]
    omega
theorem ma_le (X Y : Nat → Int) (s : List Int) (n : Nat) (hn : n ≤ 32) (h : ∀ i, i < n → (-1000000 ≤ X i ∧ X i ≤ 1000000) ∧ (-1000000 ≤ Y i ∧ Y i ≤ 1000000)) (k : Nat) (hk : k ≤ n) :
    (-32000000 ≤ maX X Y s k ∧ maX X Y s k ≤ 32000000) ∧ (-32000000 ≤ maY X Y s k ∧ maY X Y s k ≤ 32000000) := by
  have h1 := sumN_le (fun i => nrX (X i) (Y i) (s.getD i 0).toNat) 1000000 n (fun i hi => (nr_le (h i hi).1 (h i hi).2 _).1) k hk
  have h2 := sumN_le (fun i => nrY (X i) (Y i) (s.getD i 0).toNat) 1000000 n (fun i hi => (nr_le (h i hi).1 (h i hi).2 _).2) k hk
  unfold maX maY
  omega
theorem sq32 {x : Int} (h : -32000000 ≤ x ∧ x ≤ 32000000) : 0 ≤ x * x ∧ x * x ≤ 1024000000000000 := by
  refine ⟨?_, ?_⟩
  · rcases Int.le_total 0 x with h0 | h0
    · exact Int.mul_nonneg h0 h0
    · exact Int.mul_nonneg_of_nonpos_of_nonpos h0 h0
  · have e : x * x = (x.natAbs : Int) * x.natAbs := (Int.natAbs_mul_self' x).symm
    have h1 : x.natAbs ≤ 32000000 := by omega
    have h2 : x.natAbs * x.natAbs ≤ 32000000 * 32000000 := Nat.mul_le_mul h1 h1
    rw [e, ← Int.natCast_mul]
    omega
theorem norm32 {x y : Int} (h1 : -32000000 ≤ x ∧ x ≤ 32000000) (h2 : -32000000 ≤ y ∧ y ≤ 32000000) : 0 ≤ norm x y ∧ norm x y ≤ 2048000000000000 := by
  have h3 := sq32 h1
  have h4 := sq32 h2
  unfold norm
  omega
/-- A number times the values of a code. -/
def tvX (x y : Int) (s : List Int) (i : Nat) : Int := mulX x y (vx (s.getD i 0)) (vy (s.getD i 0))
def tvY (x y : Int) (s : List Int) (i : Nat) : Int := mulY x y (vx (s.getD i 0)) (vy (s.getD i 0))
/-- The match of the values of one code with another one: its two parts, its norm. -/
def dtX (a b : List Int) : Int := maX (tvX 1 0 a) (tvY 1 0 a) b a.length
def dtY (a b : List Int) : Int := maY (tvX 1 0 a) (tvY 1 0 a) b a.length
def dtN (a b : List Int) : Int := norm (dtX a b) (dtY a b)
theorem norm_zero {x y : Int} : norm x y = 0 ↔ x = 0 ∧ y = 0 := by
  unfold norm
  constructor
  · intro h
    have hx : 0 ≤ x * x := by rcases Int.le_total 0 x with h0 | h0; exact Int.mul_nonneg h0 h0; exact Int.mul_nonneg_of_nonpos_of_nonpos h0 h0
    have hy : 0 ≤ y * y := by rcases Int.le_total 0 y with h0 | h0; exact Int.mul_nonneg h0 h0; exact Int.mul_nonneg_of_nonpos_of_nonpos h0 h0
    have e1 : x * x = 0 := by omega
    have e2 : y * y = 0 := by omega
    exact ⟨by rcases Int.mul_eq_zero.1 e1 with h | h <;> exact h, by rcases Int.mul_eq_zero.1 e2 with h | h <;> exact h⟩
  · rintro ⟨rfl, rfl⟩; rfl
theorem tv_le {x y B : Int} (h1 : -B ≤ x ∧ x ≤ B) (h2 : -B ≤ y ∧ y ≤ B) {s : List Int} (hs : allIn s 0 3 = true) (i : Nat) (hi : i < s.length) : (-B ≤ tvX x y s i ∧ tvX x y s i ≤ B) ∧ (-B ≤ tvY x y s i ∧ tvY x y s i ≤ B) :=
  tu_le h1 h2 (allIn_getD hs i hi)
/-- In terms of the sums over differences of phases: one index. -/
theorem dt_term (a b : Int) (ha : 0 ≤ a ∧ a ≤ 3) (hb : 0 ≤ b ∧ b ≤ 3) : nrX (mulX 1 0 (vx a) (vy a)) (mulY 1 0 (vx a) (vy a)) b.toNat = vx ((a - b) % 4) ∧ nrY (mulX 1 0 (vx a) (vy a)) (mulY 1 0 (vx a) (vy a)) b.toNat = vy ((a - b) % 4) := by
  have h1 : a = 0 ∨ a = 1 ∨ a = 2 ∨ a = 3 := by omega
  have h2 : b = 0 ∨ b = 1 ∨ b = 2 ∨ b = 3 := by omega
  rcases h1 with rfl | rfl | rfl | rfl <;> rcases h2 with rfl | rfl | rfl | rfl <;> decide
theorem dt_ap {a b : List Int} (ha : isSeq a = true) (hb : isSeq b = true) (hab : a.length = b.length) : apS vx a b 0 = dtX a b ∧ apS vy a b 0 = dtY a b := by
  have key : ∀ i, i < a.length → apT vx a b 0 i = nrX (tvX 1 0 a i) (tvY 1 0 a i) (b.getD i 0).toNat ∧ apT vy a b 0 i = nrY (tvX 1 0 a i) (tvY 1 0 a i) (b.getD i 0).toNat := fun i hi => by
    have h1 := allIn_getD (isSeq_all ha) i hi
    have h2 := allIn_getD (isSeq_all hb) i (by omega)
    have h := dt_term _ _ h1 h2
    rw [apT_in vx a b 0 i i (by omega) hi, apT_in vy a b 0 i i (by omega) hi]
    exact ⟨h.1.symm, h.2.symm⟩
  have e1 : apS vx a b 0 = sumN (apT vx a b 0) b.length := rfl
  have e2 : apS vy a b 0 = sumN (apT vy a b 0) b.length := rfl
  rw [e1, e2, ← hab]
  exact ⟨sumN_ext _ _ _ (fun i hi => (key i hi).1), sumN_ext _ _ _ (fun i hi => (key i hi).2)⟩
end Go.Proofs.Ytapmehgdnofgnaa
