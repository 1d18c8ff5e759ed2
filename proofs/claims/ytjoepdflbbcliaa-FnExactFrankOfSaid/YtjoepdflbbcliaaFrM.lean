/- Frank's sequences, plainly. -/
import Derived.Test.YtjoepdflbbcliaaOrM
import Derived.Test.YtjoepdflbbcliaaPhs
namespace Go.Proofs.Ytjoepdflbbcliaa
set_option maxRecDepth 100000
open Go.RowKit

def frOk (p : List Int) (k : Int) : Bool := decide (p.length = 4) && orOk p && decide (k = 1 ∨ k = 3)
def frT (p : List Int) (k : Int) (t : Nat) : Int := (k * ((t / 4 : Nat) : Int) * p.getD (t % 4) 0 + p.getD (t % 4) 0 * p.getD (t % 4) 0) % 4
def frF (p : List Int) (k : Int) : List Int := if frOk p k then gen 16 (frT p k) else []
theorem frF_len (p : List Int) (k : Int) : (frF p k).length ≤ 1048576 := by
  unfold frF; split
  · rw [gen_length]; omega
  · simp
/-- Which of 0..3 have been seen, as bits. -/
def seenV (l : List Int) : Int := l.foldl (fun s x => bits .or .i64 s (wrap64 (2 ^ x.toNat))) 0
theorem seenV_snoc (l : List Int) (x : Int) : seenV (l ++ [x]) = bits .or .i64 (seenV l) (wrap64 (2 ^ x.toNat)) := by unfold seenV; rw [List.foldl_append]; rfl
theorem seenV_four : ∀ a : Nat, a < 4 → ∀ b : Nat, b < 4 → ∀ c : Nat, c < 4 → ∀ d : Nat, d < 4 → decide (seenV [(a : Int), b, c, d] = 15) = orOk [(a : Int), b, c, d] := by decide +kernel
theorem seenV_or {p : List Int} (h : p.length = 4) (hp : allIn p 0 3 = true) : decide (seenV p = 15) = orOk p := by
  match p, h with
  | [a, b, c, d], _ =>
    have g : ∀ x ∈ [a, b, c, d], 0 ≤ x ∧ x ≤ 3 := fun x hx => by
      have := List.all_eq_true.1 hp x hx
      simp [inB] at this
      omega
    have ga := g a (by simp)
    have gb := g b (by simp)
    have gc := g c (by simp)
    have gd := g d (by simp)
    obtain ⟨a', rfl⟩ := Int.eq_ofNat_of_zero_le ga.1
    obtain ⟨b', rfl⟩ := Int.eq_ofNat_of_zero_le gb.1
    obtain ⟨c', rfl⟩ := Int.eq_ofNat_of_zero_le gc.1
    obtain ⟨d', rfl⟩ := Int.eq_ofNat_of_zero_le gd.1
    exact seenV_four a' (by omega) b' (by omega) c' (by omega) d' (by omega)
theorem or_four {p : List Int} (h : p.length = 4) (ho : orOk p = true) : allIn p 0 3 = true := by
  unfold allIn
  rw [List.all_eq_true]
  intro x hx
  have := (orOk_parts ho).2.2 x hx
  rw [h] at this
  simp [inB]; omega
theorem take_nextF {o : List Int} {t : Nat} (ht : t < o.length) : o.take (t + 1) = o.take t ++ [o.getD t 0] := by
  rw [List.take_succ_eq_append_getElem ht]
  simp [List.getD, ht]
theorem fr_in {p : List Int} (h : allIn p 0 3 = true) (j : Nat) (hj : j < p.length) : 0 ≤ p.getD j 0 ∧ p.getD j 0 ≤ 3 := allIn_getD h j hj
theorem fr_sq (x : Int) (h : 0 ≤ x ∧ x ≤ 3) (k : Int) (hk : k = 1 ∨ k = 3) (a : Nat) (ha : a < 4) : (0 ≤ k * x ∧ k * x ≤ 9) ∧ (0 ≤ k * x * a ∧ k * x * a ≤ 27) ∧ (0 ≤ x * x ∧ x * x ≤ 9) ∧ (0 ≤ k * a ∧ k * a ≤ 9) ∧ (0 ≤ k * a * x ∧ k * a * x ≤ 27) ∧ k * x * a = k * a * x := by
  have hx : x = 0 ∨ x = 1 ∨ x = 2 ∨ x = 3 := by omega
  rcases hx with rfl | rfl | rfl | rfl <;> rcases hk with rfl | rfl <;> (refine ⟨?_, ?_, ?_, ?_, ?_, ?_⟩ <;> omega)
theorem fr_wraps (x : Int) (h : 0 ≤ x ∧ x ≤ 3) (a : Nat) (ha : a < 4) : (IntKind.i64.wrap x = x ∧ IntKind.i64.wrap (3 * x) = 3 * x) ∧ (IntKind.i64.wrap (x * a) = x * a ∧ IntKind.i64.wrap (3 * x * a) = 3 * x * a) ∧ IntKind.i64.wrap (x * x) = x * x ∧ (IntKind.i64.wrap (x * a + x * x) = x * a + x * x ∧ IntKind.i64.wrap (3 * x * a + x * x) = 3 * x * a + x * x) := by
  have hx : x = 0 ∨ x = 1 ∨ x = 2 ∨ x = 3 := by omega
  have ha : a = 0 ∨ a = 1 ∨ a = 2 ∨ a = 3 := by omega
  rcases hx with rfl | rfl | rfl | rfl <;> rcases ha with rfl | rfl | rfl | rfl <;> decide +kernel
theorem fr_wraps2 (x : Int) (h : 0 ≤ x ∧ x ≤ 3) (a : Nat) (ha : a < 4) : (IntKind.i64.wrap (a : Int) = a ∧ IntKind.i64.wrap (3 * (a : Int)) = 3 * a) ∧ (IntKind.i64.wrap (a * x) = a * x ∧ IntKind.i64.wrap (3 * a * x) = 3 * a * x) ∧ IntKind.i64.wrap (x * x) = x * x ∧ (IntKind.i64.wrap (a * x + x * x) = a * x + x * x ∧ IntKind.i64.wrap (3 * a * x + x * x) = 3 * a * x + x * x) := by
  have hx : x = 0 ∨ x = 1 ∨ x = 2 ∨ x = 3 := by omega
  have ha : a = 0 ∨ a = 1 ∨ a = 2 ∨ a = 3 := by omega
  rcases hx with rfl | rfl | rfl | rfl <;> rcases ha with rfl | rfl | rfl | rfl <;> decide +kernel
end Go.Proofs.Ytjoepdflbbcliaa
