/- The program's TransformOfSequence and IsFlat. -/
import Derived.Test.YtoehehaeanepmaaITt
import Derived.Test.YtoehehaeanepmaaQsM
import Derived.Test.YtoehehaeanepmaaSCr
namespace Go.Proofs.Ytoehehaeanepmaa
set_option maxRecDepth 100000
open Go.RowKit

theorem FK_negF {b : Nat} {x : Int} (h : FK .f32 b x) : FK .f32 (f32neg b) (-x) := by
  obtain ⟨s, m, k, h1, h2⟩ := h
  refine ⟨!s, m, k, ?_, h2.neg⟩
  have hs : FloatKind.f32.format.signWeight = 2 ^ 31 := by decide
  have e1 : f32neg b / 2 ^ 31 % 2 = 1 - b / 2 ^ 31 % 2 := by
    unfold f32neg
    rw [show (2147483648 : Nat) = 2 ^ 31 from rfl, Nat.xor_div_two_pow, Nat.div_self (by decide)]
    have h := @Nat.xor_mod_two_pow (b / 2 ^ 31) 1 1
    rw [show (2 : Nat) ^ 1 = 2 from rfl] at h
    rw [h]
    have h2 : b / 2 ^ 31 % 2 = 0 ∨ b / 2 ^ 31 % 2 = 1 := by omega
    rcases h2 with e | e <;> rw [e] <;> rfl
  have e2 : f32neg b % 2 ^ 31 = b % 2 ^ 31 := by
    unfold f32neg
    rw [show (2147483648 : Nat) = 2 ^ 31 from rfl, Nat.xor_mod_two_pow, Nat.mod_self, Nat.xor_zero]
  have key : FloatKind.f32.format.read (f32neg b) = (FloatKind.f32.format.read b).opposite := by
    have h2 : b / 2 ^ 31 % 2 = 0 ∨ b / 2 ^ 31 % 2 = 1 := by omega
    unfold Ieee.Format.read
    simp only [hs, e1, e2]
    rcases h2 with e | e
    · simp only [e]
      split
      · rfl
      · split
        · rfl
        · split <;> rfl
    · simp only [e]
      split
      · rfl
      · split
        · rfl
        · split <;> rfl
  rw [key, h1]
  rfl
def phC2 (s : List Int) : Nat → Nat × Nat := fun i => (f32of (vx (s.getD i 0)), f32of (vy (s.getD i 0)))
theorem phC2_ok {s : List Int} (h : sqTf s = true) : ∀ i, i < s.length → FK .f32 (phC2 s i).1 (gre (vlL s) i) ∧ FK .f32 (phC2 s i).2 (gim (vlL s) i) := fun i hi => by
  have hp := allIn_getD (isSeq_all (Bool.and_eq_true_iff.1 h).1) i hi
  have e1 : gre (vlL s) i = vx (s.getD i 0) := genG_re _ _ _ i hi
  have e2 : gim (vlL s) i = vy (s.getD i 0) := genG_im _ _ _ i hi
  rw [e1, e2]
  exact FK_unit _ hp.1 hp.2
end Go.Proofs.Ytoehehaeanepmaa
