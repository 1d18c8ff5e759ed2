/- A value of a phase times a small Gaussian number in complex64; sums up to 120: by tables. -/
import Derived.Test.YtccjmigdebchiaaVm
namespace Go.Proofs.Ytccjmigdebchiaa

set_option maxRecDepth 100000
/-- The float32, the float64 of a small number, zeros of either sign. -/
def rep32 (b : Nat) (n : Int) : Prop := b = f32of n ∨ (n = 0 ∧ b = 2147483648)
def rep64 (b : Nat) (n : Int) : Prop := b = f64of n ∨ (n = 0 ∧ b = 9223372036854775808)
instance (b : Nat) (n : Int) : Decidable (rep32 b n) := by unfold rep32; infer_instance
instance (b : Nat) (n : Int) : Decidable (rep64 b n) := by unfold rep64; infer_instance
/-- The units as float64. -/
def u64 (b : Nat) : Nat := if b = 0 then 0 else if b = 2147483648 then 9223372036854775808 else if b = 1065353216 then f64of 1 else f64of (-1)
def m64 (b : Nat) (n : Int) : Nat := (floatBits .mul .f64 (u64 b) (f64of n)).getD 0
theorem unit_in : ∀ b ∈ [0, 2147483648, 1065353216, 3212836864], floatToFloatBits .f32 b .f64 = some (u64 b) := by decide +kernel
theorem num_in (n : Int) (h : -24 ≤ n ∧ n ≤ 24) : floatToFloatBits .f32 (f32of n) .f64 = some (f64of n) := by
  have t : ∀ i : Nat, i < 49 → floatToFloatBits .f32 (f32of ((i : Int) - 24)) .f64 = some (f64of ((i : Int) - 24)) := by decide +kernel
  have := t (n + 24).toNat (by omega)
  rwa [show (((n + 24).toNat : Nat) : Int) - 24 = n by omega] at this
theorem mul_in (b : Nat) (hb : unitF b = true) (n : Int) (h : -24 ≤ n ∧ n ≤ 24) : floatBits .mul .f64 (u64 b) (f64of n) = some (m64 b n) ∧ rep64 (m64 b n) (valF b * n) := by
  have t : ∀ b ∈ [0, 2147483648, 1065353216, 3212836864], ∀ i : Nat, i < 49 → (floatBits .mul .f64 (u64 b) (f64of ((i : Int) - 24)) = some (m64 b ((i : Int) - 24)) ∧ rep64 (m64 b ((i : Int) - 24)) (valF b * ((i : Int) - 24))) := by decide +kernel
  have := t b (unit_four hb) (n + 24).toNat (by omega)
  rwa [show (((n + 24).toNat : Nat) : Int) - 24 = n by omega] at this
def R64 : List (Nat × Int) := (List.range 49).map (fun (i : Nat) => (f64of ((i : Int) - 24), (i : Int) - 24)) ++ [(9223372036854775808, 0)]
def Z64 : List Nat := [0, 9223372036854775808]
theorem rep_mem {b : Nat} {n : Int} (h : rep64 b n) (hn : -24 ≤ n ∧ n ≤ 24) : (b, n) ∈ R64 := by
  unfold R64
  rw [List.mem_append]
  rcases h with rfl | ⟨rfl, rfl⟩
  · left
    rw [List.mem_map]
    exact ⟨(n + 24).toNat, List.mem_range.2 (by omega), by rw [show (((n + 24).toNat : Nat) : Int) - 24 = n by omega]⟩
  · right; simp
theorem rep_zero {b : Nat} (h : rep64 b 0) : b ∈ Z64 := by
  rcases h with rfl | ⟨_, rfl⟩ <;> decide
def op64 (o : BinOp) (x y : Nat) : Nat := (floatBits o .f64 x y).getD 0
theorem add_zero_r : ∀ p ∈ R64, ∀ z ∈ Z64, (floatBits .add .f64 p.1 z = some (op64 .add p.1 z) ∧ rep64 (op64 .add p.1 z) p.2) ∧ (floatBits .add .f64 z p.1 = some (op64 .add z p.1) ∧ rep64 (op64 .add z p.1) p.2) ∧
    (floatBits .sub .f64 p.1 z = some (op64 .sub p.1 z) ∧ rep64 (op64 .sub p.1 z) p.2) ∧ (floatBits .sub .f64 z p.1 = some (op64 .sub z p.1) ∧ rep64 (op64 .sub z p.1) (-p.2)) := by decide +kernel
def o32 (b : Nat) : Nat := (floatToFloatBits .f64 b .f32).getD 0
theorem out_ok : ∀ p ∈ R64, floatToFloatBits .f64 p.1 .f32 = some (o32 p.1) ∧ rep32 (o32 p.1) p.2 := by decide +kernel
theorem back_rep {b : Nat} {n : Int} (h : rep64 b n) (hn : -24 ≤ n ∧ n ≤ 24) : floatToFloatBits .f64 b .f32 = some (o32 b) ∧ rep32 (o32 b) n := out_ok _ (rep_mem h hn)
/-- The product of a phase's value and a small Gaussian number. -/
theorem unit_times {b : Nat × Nat} {k : Int} (hb : isV b k) (X Y : Int) (hX : -24 ≤ X ∧ X ≤ 24) (hY : -24 ≤ Y ∧ Y ≤ 24) :
    ∃ p q, cMul32 b.1 b.2 (f32of X) (f32of Y) = some (p, q) ∧ rep32 p (vx k * X - vy k * Y) ∧ rep32 q (vx k * Y + vy k * X) := by
  obtain ⟨⟨u1, u2⟩, ⟨v1, v2⟩, k1, k2⟩ := hb
  have i1 := unit_in _ (unit_four u1)
  have i2 := unit_in _ (unit_four u2)
  have n1 := num_in X hX
  have n2 := num_in Y hY
  have a1 := mul_in _ u1 X hX
  have a2 := mul_in _ u2 Y hY
  have a3 := mul_in _ u1 Y hY
  have a4 := mul_in _ u2 X hX
  rw [v1] at a1 a3
  rw [v2] at a2 a4
  have key : ∃ r s, floatBits .sub .f64 (m64 b.1 X) (m64 b.2 Y) = some r ∧ rep64 r (vx k * X - vy k * Y) ∧ floatBits .add .f64 (m64 b.1 Y) (m64 b.2 X) = some s ∧ rep64 s (vx k * Y + vy k * X) ∧ (-24 ≤ vx k * X - vy k * Y ∧ vx k * X - vy k * Y ≤ 24) ∧ (-24 ≤ vx k * Y + vy k * X ∧ vx k * Y + vy k * X ≤ 24) := by
    rcases (show k = 0 ∨ k = 1 ∨ k = 2 ∨ k = 3 by omega) with rfl | rfl | rfl | rfl
    · rw [show vx 0 = 1 from rfl, show vy 0 = 0 from rfl] at *
      rw [Int.one_mul] at a1 a3
      rw [Int.zero_mul] at a2 a4
      have t1 := add_zero_r _ (rep_mem a1.2 hX) _ (rep_zero a2.2)
      have t2 := add_zero_r _ (rep_mem a3.2 hY) _ (rep_zero a4.2)
      refine ⟨_, _, t1.2.2.1.1, ?_, t2.1.1, ?_, by omega, by omega⟩
      · have := t1.2.2.1.2; simpa using this
      · have := t2.1.2; simpa using this
    · rw [show vx 1 = 0 from rfl, show vy 1 = 1 from rfl] at *
      rw [Int.one_mul] at a2 a4
      rw [Int.zero_mul] at a1 a3
      have t1 := add_zero_r _ (rep_mem a2.2 hY) _ (rep_zero a1.2)
      have t2 := add_zero_r _ (rep_mem a4.2 hX) _ (rep_zero a3.2)
      refine ⟨_, _, t1.2.2.2.1, ?_, t2.2.1.1, ?_, by omega, by omega⟩
      · have := t1.2.2.2.2; simpa using this
      · have := t2.2.1.2; simpa using this
    · rw [show vx 2 = -1 from rfl, show vy 2 = 0 from rfl] at *
      rw [show (-1 : Int) * X = -X by omega] at a1
      rw [show (-1 : Int) * Y = -Y by omega] at a3
      rw [Int.zero_mul] at a2 a4
      have t1 := add_zero_r _ (rep_mem a1.2 (by omega)) _ (rep_zero a2.2)
      have t2 := add_zero_r _ (rep_mem a3.2 (by omega)) _ (rep_zero a4.2)
      refine ⟨_, _, t1.2.2.1.1, ?_, t2.1.1, ?_, by omega, by omega⟩
      · have := t1.2.2.1.2; simpa using this
      · have := t2.1.2; simpa using this
    · rw [show vx 3 = 0 from rfl, show vy 3 = -1 from rfl] at *
      rw [show (-1 : Int) * Y = -Y by omega] at a2
      rw [show (-1 : Int) * X = -X by omega] at a4
      rw [Int.zero_mul] at a1 a3
      have t1 := add_zero_r _ (rep_mem a2.2 (by omega)) _ (rep_zero a1.2)
      have t2 := add_zero_r _ (rep_mem a4.2 (by omega)) _ (rep_zero a3.2)
      refine ⟨_, _, t1.2.2.2.1, ?_, t2.2.1.1, ?_, by omega, by omega⟩
      · have := t1.2.2.2.2; simpa using this
      · have := t2.2.1.2; simpa using this
  obtain ⟨r, s, e1, r1, e2, r2, bx, by'⟩ := key
  have o1 := back_rep r1 bx
  have o2 := back_rep r2 by'
  refine ⟨o32 r, o32 s, ?_, o1.2, o2.2⟩
  simp only [cMul32, cMulBits, i1, i2, n1, n2, a1.1, a2.1, a3.1, a4.1, e1, e2, o1.1, o2.1, Option.bind_some]
theorem f32_addd (n d : Int) (b : Nat) (h1 : -96 ≤ n ∧ n ≤ 96) (h2 : -24 ≤ d ∧ d ≤ 24) (hb : rep32 b d) : floatBits .add .f32 (f32of n) b = some (f32of (n + d)) := by
  have t : ∀ i : Nat, i < 193 → ∀ j : Nat, j < 49 → floatBits .add .f32 (f32of ((i : Int) - 96)) (f32of ((j : Int) - 24)) = some (f32of (((i : Int) - 96) + ((j : Int) - 24))) := by decide +kernel
  have t0 : ∀ i : Nat, i < 193 → floatBits .add .f32 (f32of ((i : Int) - 96)) 2147483648 = some (f32of ((i : Int) - 96)) := by decide +kernel
  rcases hb with rfl | ⟨rfl, rfl⟩
  · have := t (n + 96).toNat (by omega) (d + 24).toNat (by omega)
    rwa [show (((n + 96).toNat : Nat) : Int) - 96 = n by omega, show (((d + 24).toNat : Nat) : Int) - 24 = d by omega] at this
  · have := t0 (n + 96).toNat (by omega)
    rw [show (((n + 96).toNat : Nat) : Int) - 96 = n by omega] at this
    rw [this, Int.add_zero]
theorem f32_backd (n : Int) (h1 : -120 ≤ n ∧ n ≤ 120) : floatToIntVal .f32 (f32of n) .i64 = some n := by
  have h : ∀ i : Nat, i < 241 → floatToIntVal .f32 (f32of ((i : Int) - 120)) .i64 = some ((i : Int) - 120) := by decide +kernel
  have := h (n + 120).toNat (by omega)
  rwa [show (((n + 120).toNat : Nat) : Int) - 120 = n by omega] at this
theorem isV_neg {b : Nat × Nat} {k : Int} (h : isV b k) : isV (f32neg b.1, f32neg b.2) ((k + 2) % 4) := by
  have t : ∀ p ∈ VL, isV (f32neg p.1.1, f32neg p.1.2) ((p.2 + 2) % 4) := by decide +kernel
  exact t _ (isV_mem h)
section
variable {P : Program}
theorem run_addd (w : World) (t : TypeId) (X Y A B : Int) (a b : Nat) (h1 : -96 ≤ X ∧ X ≤ 96) (h2 : -96 ≤ Y ∧ Y ≤ 96) (h3 : -24 ≤ A ∧ A ≤ 24) (h4 : -24 ≤ B ∧ B ≤ 24) (ha : rep32 a A) (hb : rep32 b B) :
    (binOp .add t (.complex .f32 (f32of X) (f32of Y)) (.complex .f32 a b)).run P w = .ok (.complex .f32 (f32of (X + A)) (f32of (Y + B))) w :=
  run_complex_sum w .add (Or.inl rfl) t .f32 _ _ _ _ _ _ (by unfold cSumBits; rw [f32_addd X A a h1 h3 ha, f32_addd Y B b h2 h4 hb]; rfl)
end
end Go.Proofs.Ytccjmigdebchiaa
