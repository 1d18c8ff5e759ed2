/- Pairs of sequences as values of sixty-six cells; the moves of sequences, told by phC. -/
import Derived.Test.YtoehehaeanepmaaPhs
import Derived.Test.YtoehehaeanepmaaPair
import Derived.Test.YtoehehaeanepmaaGoF
import Derived.Test.YtoehehaeanepmaaMov
namespace Go.Proofs.Ytoehehaeanepmaa
set_option maxRecDepth 100000
open Go.RowKit

def prC (p q : List Int) : Array Value := phC p ++ phC q
theorem prC_size (p q : List Int) : (prC p q).size = 66 := by simp [prC, phC_size]
theorem one_append {A B : Array Value} (hA : A.all (·.oneCell') = true) (hB : B.all (·.oneCell') = true) : (A ++ B).all (·.oneCell') = true := by
  rw [Array.all_append, hA, hB]; rfl
theorem prC_one (p q : List Int) : (prC p q).all (·.oneCell') = true := one_append (phC_one p) (phC_one q)
theorem prC_fst (p q : List Int) : Part (prC p q) 0 (phC p) := (Part.self _).left
theorem prC_snd (p q : List Int) : Part (prC p q) 33 (phC q) := (Part.self _).right (phC_size p) rfl
theorem prC_len (p q : List Int) : (prC p q)[32]? = some (.int .i64 (sqz p).length) := by
  have := (prC_fst p q).cell (phC_len p)
  simpa using this
theorem sqz_seq {l : List Int} (h : isSeq l = true) : sqz l = l := by unfold sqz; rw [h]; rfl
theorem phC_nil : phC [] = phA z32 0 := by rfl
theorem run_zero_of {P : Program} {t : TypeId} {it : TypeInfo} {z : Value} (hi : P.info? t = some it) (hz : it.zero = some z) (w : World) : (zeroValue t).run P w = .ok z w := by
  unfold zeroValue typeInfo
  simp [Sem.run_bind, hi, hz]
/-! The moves of one sequence -/
/-- A list that a move of two makes, and whether it makes one. -/
def PairMove (f : Nat) (m : List Int → List Int → List Int) (ok : List Int → List Int → Bool) : Prop :=
  ∀ (a b : List Int) (w : World), isSeq a = true → isSeq b = true → a.length = b.length → Calls Try.prog f #[.agg (phC a), .agg (phC b)] w (Ret w (.tuple #[.agg (phC (iff (ok a b) (m a b))), .bool (ok a b)]))
def fits (a _b : List Int) : Bool := decide (2 * a.length ≤ 32)
theorem listC (l : List Int) (hl : isSeq l = true) (w : World) : Calls Try.prog 53 #[.agg (phC l)] w (Makes w l) := by
  have h32 := isSeq_len hl
  rw [phC_seq hl]
  have := list_any (padL l) l.length (padL_length h32) h32 w
  rwa [pad_take] at this
end Go.Proofs.Ytoehehaeanepmaa
