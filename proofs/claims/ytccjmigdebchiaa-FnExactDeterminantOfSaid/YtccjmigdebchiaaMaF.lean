/- The first two rows of a matrix that are not orthogonal: plain. -/
import Derived.Test.YtccjmigdebchiaaMaM
import Derived.Test.YtccjmigdebchiaaCors
namespace Go.Proofs.Ytccjmigdebchiaa

set_option maxRecDepth 100000
def inS (f : Int → Int) (m : List (List Int)) (i j : Nat) : Int := apS f (m.getD i []) (m.getD j []) 0
/-- The rows i and j are not orthogonal. -/
def badP (m : List (List Int)) (i j : Nat) : Bool := !(decide (inS vx m i j = 0) && decide (inS vy m i j = 0))
/-- The first of j, j + 1, .., d of them, with a property. -/
def frP (p : Nat → Bool) (j : Nat) : Nat → Option Nat
  | 0 => none
  | d + 1 => if p j then some j else frP p (j + 1) d
theorem frP_yes {p : Nat → Bool} {j n : Nat} (h : j < n) (hp : p j = true) : frP p j (n - j) = some j := by
  rw [show n - j = (n - (j + 1)) + 1 by omega]; simp [frP, hp]
theorem frP_no {p : Nat → Bool} {j n : Nat} (h : j < n) (hp : p j = false) : frP p j (n - j) = frP p (j + 1) (n - (j + 1)) := by
  rw [show n - j = (n - (j + 1)) + 1 by omega]; simp [frP, hp]
theorem frP_end {p : Nat → Bool} {j n : Nat} (h : n ≤ j) : frP p j (n - j) = none := by
  rw [show n - j = 0 by omega]; rfl
def foL (m : List (List Int)) (i : Nat) : Nat → List Int
  | 0 => []
  | d + 1 => match frP (badP m i) (i + 1) (m.length - (i + 1)) with
    | some k => [(i : Int), (k : Int)]
    | none => foL m (i + 1) d
theorem foL_succ (m : List (List Int)) (i : Nat) (h : i < m.length) : foL m i (m.length - i) = match frP (badP m i) (i + 1) (m.length - (i + 1)) with
    | some k => [(i : Int), (k : Int)]
    | none => foL m (i + 1) (m.length - (i + 1)) := by
  rw [show m.length - i = (m.length - (i + 1)) + 1 by omega]; rfl
theorem foL_end (m : List (List Int)) (i : Nat) (h : m.length ≤ i) : foL m i (m.length - i) = [] := by
  rw [show m.length - i = 0 by omega]; rfl
def fpL (m : List (List Int)) : List Int := foL m 0 m.length
theorem foL_len (m : List (List Int)) : ∀ d i, (foL m i d).length ≤ 2
  | 0, _ => by simp [foL]
  | d + 1, i => by
    simp only [foL]
    split
    · simp
    · exact foL_len m d (i + 1)
theorem fpL_len (m : List (List Int)) : (fpL m).length ≤ 2 := foL_len m _ _
def haB (m : List (List Int)) : Bool := decide ((fpL m).length = 0)
end Go.Proofs.Ytccjmigdebchiaa
