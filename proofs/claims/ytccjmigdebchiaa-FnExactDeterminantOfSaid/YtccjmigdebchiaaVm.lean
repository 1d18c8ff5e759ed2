/- Values of phases as complex64 with zeros of either sign: products, conjugates, sums, comparisons: by tables. -/
import Derived.Test.YtccjmigdebchiaaFlt
namespace Go.Proofs.Ytccjmigdebchiaa

set_option maxRecDepth 100000
def isV (b : Nat × Nat) (k : Int) : Prop := (unitF b.1 = true ∧ unitF b.2 = true) ∧ (valF b.1 = vx k ∧ valF b.2 = vy k) ∧ 0 ≤ k ∧ k ≤ 3
instance (b : Nat × Nat) (k : Int) : Decidable (isV b k) := by unfold isV; infer_instance
def cj (b : Nat × Nat) : Nat × Nat := (b.1, f32neg b.2)
def mulB (a b : Nat × Nat) : Nat × Nat := (cMul32 a.1 a.2 b.1 b.2).getD (0, 0)
def VL : List ((Nat × Nat) × Int) := [((1065353216, 0), 0), ((1065353216, 2147483648), 0), ((0, 1065353216), 1), ((2147483648, 1065353216), 1), ((3212836864, 0), 2), ((3212836864, 2147483648), 2), ((0, 3212836864), 3), ((2147483648, 3212836864), 3)]
theorem unit_four {b : Nat} (h : unitF b = true) : b ∈ [0, 2147483648, 1065353216, 3212836864] := by simp [unitF] at h; simp; omega
theorem isV_mem {b : Nat × Nat} {k : Int} (h : isV b k) : (b, k) ∈ VL := by
  obtain ⟨⟨h1, h2⟩, ⟨h3, h4⟩, h5, h6⟩ := h
  have t : ∀ x ∈ [0, 2147483648, 1065353216, 3212836864], ∀ y ∈ [0, 2147483648, 1065353216, 3212836864], ∀ k : Nat, k < 4 → (!(decide (valF x = vx k) && decide (valF y = vy k)) || VL.contains ((x, y), (k : Int))) = true := by decide +kernel
  have := t b.1 (unit_four h1) b.2 (unit_four h2) k.toNat (by omega)
  rw [Int.toNat_of_nonneg h5, h3, h4] at this
  simpa using this
theorem isV_of (k : Int) (h1 : 0 ≤ k) (h2 : k ≤ 3) : isV (f32of (vx k), f32of (vy k)) k :=
  ⟨⟨(unit_of _ (vx_one k).1 (vx_one k).2).1, (unit_of _ (vy_one k).1 (vy_one k).2).1⟩, ⟨(unit_of _ (vx_one k).1 (vx_one k).2).2, (unit_of _ (vy_one k).1 (vy_one k).2).2⟩, h1, h2⟩
theorem isV_cj {b : Nat × Nat} {k : Int} (h : isV b k) : isV (cj b) ((-k) % 4) := by
  have t : ∀ p ∈ VL, isV (cj p.1) ((-p.2) % 4) := by decide +kernel
  exact t _ (isV_mem h)
theorem isV_mul {a b : Nat × Nat} {k l : Int} (ha : isV a k) (hb : isV b l) : cMul32 a.1 a.2 b.1 b.2 = some ((mulB a b).1, (mulB a b).2) ∧ isV (mulB a b) ((k + l) % 4) := by
  have t : ∀ p ∈ VL, ∀ q ∈ VL, cMul32 p.1.1 p.1.2 q.1.1 q.1.2 = some ((mulB p.1 q.1).1, (mulB p.1 q.1).2) ∧ isV (mulB p.1 q.1) ((p.2 + q.2) % 4) := by decide +kernel
  exact t _ (isV_mem ha) _ (isV_mem hb)
theorem isV_mul_cj {a b : Nat × Nat} {k l : Int} (ha : isV a k) (hb : isV b l) : cMul32 a.1 a.2 b.1 (f32neg b.2) = some ((mulB a (cj b)).1, (mulB a (cj b)).2) ∧ isV (mulB a (cj b)) ((k - l) % 4) := by
  have h := isV_mul ha (isV_cj hb)
  rw [show (k + (-l) % 4) % 4 = (k - l) % 4 by omega] at h
  exact h
theorem zero_mul_cj : cMul32 0 0 0 (f32neg 0) = some (0, 0) := by decide +kernel
theorem f32_addv (n : Int) (b : Nat) (h1 : -65 ≤ n) (h2 : n ≤ 65) (hb : unitF b = true) : floatBits .add .f32 (f32of n) b = some (f32of (n + valF b)) := by
  have h : ∀ i : Nat, i < 131 → ∀ b ∈ [0, 2147483648, 1065353216, 3212836864], floatBits .add .f32 (f32of ((i : Int) - 65)) b = some (f32of ((i : Int) - 65 + valF b)) := by decide +kernel
  have := h (n + 65).toNat (by omega) b (unit_four hb)
  rwa [show (((n + 65).toNat : Nat) : Int) - 65 = n by omega] at this
theorem f32_same (x y : Int) (h1 : -16 ≤ x ∧ x ≤ 16) (h2 : -16 ≤ y ∧ y ≤ 16) : (FloatKind.f32.format.order (f32of x) (f32of y) == some .eq) = decide (x = y) := by
  have h : ∀ i : Nat, i < 33 → ∀ j : Nat, j < 33 → (FloatKind.f32.format.order (f32of ((i : Int) - 16)) (f32of ((j : Int) - 16)) == some .eq) = decide ((i : Int) - 16 = (j : Int) - 16) := by decide +kernel
  have := h (x + 16).toNat (by omega) (y + 16).toNat (by omega)
  rwa [show (((x + 16).toNat : Nat) : Int) - 16 = x by omega, show (((y + 16).toNat : Nat) : Int) - 16 = y by omega] at this
/-- Whether a value is that of the phase k: as the program compares. -/
theorem isV_is {b : Nat × Nat} {k : Int} (h : isV b k) (l : Int) (h1 : 0 ≤ l) (h2 : l ≤ 3) : ((FloatKind.f32.format.order b.1 (f32of (vx l)) == some .eq) && (FloatKind.f32.format.order b.2 (f32of (vy l)) == some .eq)) = decide (k = l) := by
  have t : ∀ p ∈ VL, ∀ l : Nat, l < 4 → ((FloatKind.f32.format.order p.1.1 (f32of (vx l)) == some .eq) && (FloatKind.f32.format.order p.1.2 (f32of (vy l)) == some .eq)) = decide (p.2 = l) := by decide +kernel
  have := t _ (isV_mem h) l.toNat (by omega)
  rwa [Int.toNat_of_nonneg h1] at this
section
variable {P : Program}
theorem run_addv (w : World) (t : TypeId) (X Y : Int) (a b : Nat) (h1 : -65 ≤ X ∧ X ≤ 65) (h2 : -65 ≤ Y ∧ Y ≤ 65) (ha : unitF a = true) (hb : unitF b = true) :
    (binOp .add t (.complex .f32 (f32of X) (f32of Y)) (.complex .f32 a b)).run P w = .ok (.complex .f32 (f32of (X + valF a)) (f32of (Y + valF b))) w :=
  run_complex_sum w .add (Or.inl rfl) t .f32 _ _ _ _ _ _ (by unfold cSumBits; rw [f32_addv X a h1.1 h1.2 ha, f32_addv Y b h2.1 h2.2 hb]; rfl)
end
end Go.Proofs.Ytccjmigdebchiaa
