/- Sums of the program in complex128: rows; products, sums and conversions of whole numbers, exactly. -/
import Derived.Test.YtfjhocmnafdnfaaSg
import Derived.Test.YtfjhocmnafdnfaaCvM
import Derived.Test.YtfjhocmnafdnfaaRg
namespace Go.Proofs.Ytfjhocmnafdnfaa
set_option maxRecDepth 100000
open Go.RowKit

theorem infoD : (Try.prog.info? 157).map (fun i => (i.zero, i.size, i.bytes)) = some (some (.complex .f64 0 0), 1, 16) := by kernel_rfl
/-- The cells of n numbers. -/
def dxL (n : Nat) (C : Nat → Nat × Nat) : List Value := (List.range n).map fun i => Value.complex .f64 (C i).1 (C i).2
theorem dxL_length (n : Nat) (C : Nat → Nat × Nat) : (dxL n C).length = n := by simp [dxL]
theorem dxL_get (n : Nat) (C : Nat → Nat × Nat) (i : Nat) (h : i < n) : (dxL n C)[i]? = some (.complex .f64 (C i).1 (C i).2) := by simp [dxL, h]
theorem dxL_ext {n : Nat} {C D : Nat → Nat × Nat} (h : ∀ i, i < n → C i = D i) : dxL n C = dxL n D := by
  unfold dxL
  apply List.map_congr_left
  intro i hi
  rw [h i (List.mem_range.1 hi)]
theorem dxL_set (n : Nat) (C : Nat → Nat × Nat) (j : Nat) (b : Nat × Nat) : (dxL n C).set j (.complex .f64 b.1 b.2) = dxL n (setC C j b) := by
  apply List.ext_getElem?
  intro i
  by_cases hi : i < n
  · by_cases e : i = j
    · subst e
      rw [List.getElem?_set_self (by rw [dxL_length]; exact hi), dxL_get _ _ _ hi]
      simp [setC]
    · rw [List.getElem?_set_ne (fun h => e h.symm), dxL_get _ _ _ hi, dxL_get _ _ _ hi]
      simp [setC, e]
  · rw [List.getElem?_eq_none (by rw [List.length_set, dxL_length]; omega), List.getElem?_eq_none (by rw [dxL_length]; omega)]
theorem dx_zeros (n : Nat) : (madeCells #[Value.complex .f64 0 0] n).toList = dxL n (fun _ => (0, 0)) := by
  apply List.ext_getElem
  · simp [madeCells, dxL]
  · intro i h1 h2
    simp [madeCells, Nat.mod_one, dxL]
/-- A row of the call's own, of n numbers. -/
def RowD (w : World) (B g n : Nat) (C : Nat → Nat × Nat) : Prop := w.ownsRow B 157 1 (.slice (some ⟨g, 0, none⟩) n n) n (dxL n C)
theorem RowD.below {w w' : World} {B g n : Nat} {C : Nat → Nat × Nat} (h : RowD w B g n C) (hb : Below w.heap.size w w') : RowD w' B g n C := rowBelow h hb
theorem RowD.cell {w : World} {B g n : Nat} {C : Nat → Nat × Nat} (h : RowD w B g n C) (i : Nat) (hi : i < n) : w.cell? ⟨g, i, none⟩ = some (.complex .f64 (C i).1 (C i).2) := by
  rw [h.cellAt i (by omega), dxL_get _ _ _ hi]
theorem RowD.lt {w : World} {B g n : Nat} {C : Nat → Nat × Nat} (h : RowD w B g n C) : B ≤ g ∧ g < w.heap.size := World.ownsRow.lt h g rfl
theorem RowD.set {w : World} {B g n : Nat} {C : Nat → Nat × Nat} (h : RowD w B g n C) (j : Nat) (b : Nat × Nat) : RowD (w.setCell ⟨g, j, none⟩ (.complex .f64 b.1 b.2)) B g n (setC C j b) := by
  have := (World.ownsRow.stored h j (.complex .f64 b.1 b.2)).1
  rw [dxL_set] at this
  exact this
theorem RowD.grown {w w' : World} {B g n : Nat} {C : Nat → Nat × Nat} {g' : Nat} (h : RowD w B g n C) (hg : w.grownBy w' (some g')) (hne : g ≠ g') : RowD w' B g n C :=
  World.ownsRow.kept h hg (Or.inr (fun e => hne (by simpa [Value.ownBlock] using e)))
theorem RowD.mono {w : World} {B B' g n : Nat} {C : Nat → Nat × Nat} (h : RowD w B g n C) (hB : B' ≤ B) : RowD w B' g n C := rowMono h hB

theorem top64 : topF .f64 = 9007199254740992 := by decide
theorem top32 : topF .f32 = 16777216 := by decide
theorem FC_mul64 {a b c d : Nat} {x y u v : Int} (ha : FK .f64 a x) (hb : FK .f64 b y) (hc : FK .f64 c u) (hd : FK .f64 d v) (h1 : -1000000 ≤ x ∧ x ≤ 1000000) (h2 : -1000000 ≤ y ∧ y ≤ 1000000) (h3 : -1000000 ≤ u ∧ u ≤ 1000000) (h4 : -1000000 ≤ v ∧ v ≤ 1000000) :
    ∃ re im, cMulBits a b c d = some (re, im) ∧ FK .f64 re (mulX x y u v) ∧ FK .f64 im (mulY x y u v) := by
  have p1 := prod_le x u h1 h3
  have p2 := prod_le y v h2 h4
  have p3 := prod_le x v h1 h4
  have p4 := prod_le y u h2 h3
  obtain ⟨r1, e1, f1⟩ := FN_mul ha hc (by rw [top64]; omega)
  obtain ⟨r2, e2, f2⟩ := FN_mul hb hd (by rw [top64]; omega)
  obtain ⟨r3, e3, f3⟩ := FN_sub f1 f2 (by rw [top64]; omega)
  obtain ⟨r4, e4, f4⟩ := FN_mul ha hd (by rw [top64]; omega)
  obtain ⟨r5, e5, f5⟩ := FN_mul hb hc (by rw [top64]; omega)
  obtain ⟨r6, e6, f6⟩ := FN_add f4 f5 (by rw [top64]; omega)
  exact ⟨r3, r6, by simp only [cMulBits, e1, e2, e3, e4, e5, e6, Option.bind_some], f3, f6⟩
theorem FC_add64 {a b c d : Nat} {x y u v : Int} (ha : FK .f64 a x) (hb : FK .f64 b y) (hc : FK .f64 c u) (hd : FK .f64 d v) (h1 : -1000000000000000 ≤ x + u ∧ x + u ≤ 1000000000000000) (h2 : -1000000000000000 ≤ y + v ∧ y + v ≤ 1000000000000000) :
    ∃ re im, cSumBits .add .f64 a b c d = some (re, im) ∧ FK .f64 re (x + u) ∧ FK .f64 im (y + v) := by
  obtain ⟨r1, e1, f1⟩ := FN_add ha hc (by rw [top64]; omega)
  obtain ⟨r2, e2, f2⟩ := FN_add hb hd (by rw [top64]; omega)
  exact ⟨r1, r2, by simp only [cSumBits, e1, e2, Option.bind_some], f1, f2⟩
theorem FC_conv64 {a b : Nat} {x y : Int} (ha : FK .f32 a x) (hb : FK .f32 b y) (h1 : -1000000 ≤ x ∧ x ≤ 1000000) (h2 : -1000000 ≤ y ∧ y ≤ 1000000) :
    ∃ re im, cConvBits .f32 a b .f64 = some (re, im) ∧ FK .f64 re x ∧ FK .f64 im y := by
  obtain ⟨r1, e1, f1⟩ := FN_conv ha (show FloatKind.f32 ≠ .f64 by decide) (by rw [top64]; omega)
  obtain ⟨r2, e2, f2⟩ := FN_conv hb (show FloatKind.f32 ≠ .f64 by decide) (by rw [top64]; omega)
  exact ⟨r1, r2, by simp only [cConvBits, e1, e2, Option.bind_some], f1, f2⟩
theorem numz0 (k : Nat) : NumZ false 0 k 0 := ⟨by rw [Int.natAbs_zero, Nat.zero_mul], fun h => absurd rfl h⟩
theorem FK_zero (k : FloatKind) : FK k 0 0 := by
  cases k
  · exact ⟨false, 0, 149, by decide, numz0 _⟩
  · exact ⟨false, 0, 1074, by decide, numz0 _⟩
theorem FK_neg32 {b : Nat} {x : Int} (h : FK .f32 b x) : FK .f32 (f32neg b) (-x) := by
  obtain ⟨s, m, k, h1, h2⟩ := h
  refine ⟨!s, m, k, ?_, h2.neg⟩
  have hs : FloatKind.f32.format.signWeight = 2 ^ 31 := by decide
  have e1 : f32neg b / 2 ^ 31 % 2 = 1 - b / 2 ^ 31 % 2 := by
    unfold f32neg
    rw [show (2147483648 : Nat) = 2 ^ 31 from rfl, Nat.xor_div_two_pow, Nat.div_self (by decide)]
    have h := @Nat.xor_mod_two_pow (b / 2 ^ 31) 1 1
    rw [show (2 : Nat) ^ 1 = 2 from rfl] at h
    rw [h]
    have h2 : b / 2 ^ 31 % 2 = 0 ∨ b / 2 ^ 31 % 2 = 1 := by omega
    rcases h2 with e | e <;> rw [e] <;> rfl
  have e2 : f32neg b % 2 ^ 31 = b % 2 ^ 31 := by
    unfold f32neg
    rw [show (2147483648 : Nat) = 2 ^ 31 from rfl, Nat.xor_mod_two_pow, Nat.mod_self, Nat.xor_zero]
  have key : FloatKind.f32.format.read (f32neg b) = (FloatKind.f32.format.read b).opposite := by
    have h2 : b / 2 ^ 31 % 2 = 0 ∨ b / 2 ^ 31 % 2 = 1 := by omega
    unfold Ieee.Format.read
    simp only [hs, e1, e2]
    rcases h2 with e | e
    · simp only [e]
      split
      · rfl
      · split
        · rfl
        · split <;> rfl
    · simp only [e]
      split
      · rfl
      · split
        · rfl
        · split <;> rfl
  rw [key, h1]
  rfl
/-- A call that makes a row of sums. -/
def MakesD (w : World) (n : Nat) (X Y : Nat → Int) (e : Ending) (w' : World) : Prop :=
  ∃ g E, e = .returned (.slice (some ⟨g, 0, none⟩) n n) ∧ RowD w' w.heap.size g n E ∧ (∀ u, u < n → FK .f64 (E u).1 (X u) ∧ FK .f64 (E u).2 (Y u)) ∧ Below w.heap.size w w'
end Go.Proofs.Ytfjhocmnafdnfaa
