/- Small whole numbers as floats: sums, products and norms of complex64, by tables. -/
import Derived.Laws.ComplexArith
import Derived.Laws.FloatArith
namespace Go.Proofs.Ytodgalflngfnpaa

set_option maxRecDepth 100000
/-- The float32 of a small whole number, as bits. -/
def f32of (n : Int) : Nat := if n = 0 then 0 else (if n < 0 then 2147483648 else 0) + (127 + n.natAbs.log2) * 8388608 + (n.natAbs * 2 ^ (23 - n.natAbs.log2) - 8388608)
def f64of (n : Int) : Nat := if n = 0 then 0 else (if n < 0 then 9223372036854775808 else 0) + (1023 + n.natAbs.log2) * 4503599627370496 + (n.natAbs * 2 ^ (52 - n.natAbs.log2) - 4503599627370496)
/-- The parts of a phase's value. -/
def vx (k : Int) : Int := if k = 0 then 1 else if k = 2 then -1 else 0
def vy (k : Int) : Int := if k = 1 then 1 else if k = 3 then -1 else 0
theorem vx_one (k : Int) : -1 ≤ vx k ∧ vx k ≤ 1 := by unfold vx; split <;> (try split) <;> omega
theorem vy_one (k : Int) : -1 ≤ vy k ∧ vy k ≤ 1 := by unfold vy; split <;> (try split) <;> omega
theorem f32_back (n : Int) (h1 : -33 ≤ n) (h2 : n ≤ 33) : floatToIntVal .f32 (f32of n) .i64 = some n := by
  have h : ∀ i : Nat, i < 67 → floatToIntVal .f32 (f32of ((i : Int) - 33)) .i64 = some ((i : Int) - 33) := by decide +kernel
  have := h (n + 33).toNat (by omega)
  rwa [show (((n + 33).toNat : Nat) : Int) - 33 = n by omega] at this

/-- A unit or a zero of either sign, and its value. -/
def unitF (b : Nat) : Bool := b == 0 || b == 2147483648 || b == 1065353216 || b == 3212836864
def valF (b : Nat) : Int := if b = 1065353216 then 1 else if b = 3212836864 then -1 else 0
theorem f32_addu (n : Int) (b : Nat) (h1 : -33 ≤ n) (h2 : n ≤ 33) (hb : unitF b = true) : floatBits .add .f32 (f32of n) b = some (f32of (n + valF b)) := by
  have h : ∀ i : Nat, i < 67 → ∀ b ∈ [0, 2147483648, 1065353216, 3212836864], floatBits .add .f32 (f32of ((i : Int) - 33)) b = some (f32of ((i : Int) - 33 + valF b)) := by decide +kernel
  have := h (n + 33).toNat (by omega) b (by simp [unitF] at hb; simp; omega)
  rwa [show (((n + 33).toNat : Nat) : Int) - 33 = n by omega] at this
theorem unit_of (d : Int) (h3 : -1 ≤ d) (h4 : d ≤ 1) : unitF (f32of d) = true ∧ valF (f32of d) = d := by
  rcases (show d = -1 ∨ d = 0 ∨ d = 1 by omega) with rfl | rfl | rfl <;> decide
theorem f32_add (n d : Int) (h1 : -33 ≤ n) (h2 : n ≤ 33) (h3 : -1 ≤ d) (h4 : d ≤ 1) : floatBits .add .f32 (f32of n) (f32of d) = some (f32of (n + d)) := by
  have := f32_addu n (f32of d) h1 h2 (unit_of d h3 h4).1
  rwa [(unit_of d h3 h4).2] at this

/-! ### products -/
def f32neg (b : Nat) : Nat := b ^^^ 2147483648
def cMul32 (a b c d : Nat) : Option (Nat × Nat) :=
  (floatToFloatBits .f32 a .f64).bind fun a' => (floatToFloatBits .f32 b .f64).bind fun b' => (floatToFloatBits .f32 c .f64).bind fun c' => (floatToFloatBits .f32 d .f64).bind fun d' =>
  (cMulBits a' b' c' d').bind fun p => (floatToFloatBits .f64 p.1 .f32).bind fun x => (floatToFloatBits .f64 p.2 .f32).bind fun y => some (x, y)
section
variable {P : Program} (w : World)
theorem run_cconv {s k : FloatKind} {b r : Nat} (hne : s ≠ k) (h : floatToFloatBits s b k = some r) : (Op.Complex.conv s b k).run P w = .ok r w := by
  simp [Op.Complex.conv, hne, run_floatToFloat w h]
theorem run_complex_mul32 (t : TypeId) (a b c d re im : Nat) (h : cMul32 a b c d = some (re, im)) :
    (binOp .mul t (.complex .f32 a b) (.complex .f32 c d)).run P w = .ok (.complex .f32 re im) w := by
  unfold cMul32 at h
  obtain ⟨a', ha, h⟩ := bind_some h
  obtain ⟨b', hb, h⟩ := bind_some h
  obtain ⟨c', hc, h⟩ := bind_some h
  obtain ⟨d', hd, h⟩ := bind_some h
  obtain ⟨⟨p, q⟩, hm, h⟩ := bind_some h
  obtain ⟨x, hx, h⟩ := bind_some h
  obtain ⟨y, hy, h⟩ := bind_some h
  cases h
  unfold cMulBits at hm
  obtain ⟨ac, h1, hm⟩ := bind_some hm
  obtain ⟨bd, h2, hm⟩ := bind_some hm
  obtain ⟨re', h3, hm⟩ := bind_some hm
  obtain ⟨ad, h4, hm⟩ := bind_some hm
  obtain ⟨bc, h5, hm⟩ := bind_some hm
  obtain ⟨im', h6, hm⟩ := bind_some hm
  cases hm
  simp [binOp, Op.complexOp, Op.Complex.product, Op.Complex.mul, Op.Complex.sub, Op.Complex.add, run_cconv w (by decide) ha, run_cconv w (by decide) hb, run_cconv w (by decide) hc, run_cconv w (by decide) hd, run_carith w h1, run_carith w h2, run_carith w h3, run_carith w h4, run_carith w h5, run_carith w h6, run_cconv w (by decide) hx, run_cconv w (by decide) hy]
end
/-- The value of one phase times that of another, and times its conjugate. -/
def mm (x y : Int) : Nat × Nat := (cMul32 (f32of (vx x)) (f32of (vy x)) (f32of (vx y)) (f32of (vy y))).getD (0, 0)
def mc (x y : Int) : Nat × Nat := (cMul32 (f32of (vx x)) (f32of (vy x)) (f32of (vx y)) (f32neg (f32of (vy y)))).getD (0, 0)
theorem mm_ok (x y : Int) (h1 : 0 ≤ x) (h2 : x ≤ 3) (h3 : 0 ≤ y) (h4 : y ≤ 3) : cMul32 (f32of (vx x)) (f32of (vy x)) (f32of (vx y)) (f32of (vy y)) = some ((mm x y).1, (mm x y).2) ∧ unitF (mm x y).1 = true ∧ unitF (mm x y).2 = true ∧ valF (mm x y).1 = vx ((x + y) % 4) ∧ valF (mm x y).2 = vy ((x + y) % 4) := by
  have h : ∀ i : Nat, i < 4 → ∀ j : Nat, j < 4 → (cMul32 (f32of (vx i)) (f32of (vy i)) (f32of (vx j)) (f32of (vy j)) = some ((mm i j).1, (mm i j).2) ∧ unitF (mm i j).1 = true ∧ unitF (mm i j).2 = true ∧ valF (mm i j).1 = vx ((i + j) % 4) ∧ valF (mm i j).2 = vy ((i + j) % 4)) := by decide +kernel
  have := h x.toNat (by omega) y.toNat (by omega)
  rwa [Int.toNat_of_nonneg h1, Int.toNat_of_nonneg h3] at this
theorem mc_ok (x y : Int) (h1 : 0 ≤ x) (h2 : x ≤ 3) (h3 : 0 ≤ y) (h4 : y ≤ 3) : cMul32 (f32of (vx x)) (f32of (vy x)) (f32of (vx y)) (f32neg (f32of (vy y))) = some ((mc x y).1, (mc x y).2) ∧ unitF (mc x y).1 = true ∧ unitF (mc x y).2 = true ∧ valF (mc x y).1 = vx ((x - y) % 4) ∧ valF (mc x y).2 = vy ((x - y) % 4) := by
  have h : ∀ i : Nat, i < 4 → ∀ j : Nat, j < 4 → (cMul32 (f32of (vx i)) (f32of (vy i)) (f32of (vx j)) (f32neg (f32of (vy j))) = some ((mc i j).1, (mc i j).2) ∧ unitF (mc i j).1 = true ∧ unitF (mc i j).2 = true ∧ valF (mc i j).1 = vx (((i : Int) - j) % 4) ∧ valF (mc i j).2 = vy (((i : Int) - j) % 4)) := by decide +kernel
  have := h x.toNat (by omega) y.toNat (by omega)
  rwa [Int.toNat_of_nonneg h1, Int.toNat_of_nonneg h3] at this
end Go.Proofs.Ytodgalflngfnpaa
