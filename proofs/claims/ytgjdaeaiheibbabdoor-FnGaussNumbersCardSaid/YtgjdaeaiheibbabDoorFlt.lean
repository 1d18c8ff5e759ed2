/- Small whole numbers as floats: sums, products and norms of complex64, by tables. The norm of a small Gaussian number in complex64: exact. Sums of two correlations as floats: wider tables; whether a sum is zero. -/
import Derived.Laws.ComplexArith
import Derived.Laws.FloatArith
import Derived.Laws.Cover3
namespace Go.Proofs.YtgjdaeaiheibbabDoor
set_option maxRecDepth 100000
section

/-- The float32 of a small whole number, as bits. -/
def f32of (n : Int) : Nat := if n = 0 then 0 else (if n < 0 then 2147483648 else 0) + (127 + n.natAbs.log2) * 8388608 + (n.natAbs * 2 ^ (23 - n.natAbs.log2) - 8388608)
def f64of (n : Int) : Nat := if n = 0 then 0 else (if n < 0 then 9223372036854775808 else 0) + (1023 + n.natAbs.log2) * 4503599627370496 + (n.natAbs * 2 ^ (52 - n.natAbs.log2) - 4503599627370496)
/-- The parts of a phase's value. -/
def vx (k : Int) : Int := if k = 0 then 1 else if k = 2 then -1 else 0
def vy (k : Int) : Int := if k = 1 then 1 else if k = 3 then -1 else 0
theorem vx_one (k : Int) : -1 ≤ vx k ∧ vx k ≤ 1 := by unfold vx; split <;> (try split) <;> omega
theorem vy_one (k : Int) : -1 ≤ vy k ∧ vy k ≤ 1 := by unfold vy; split <;> (try split) <;> omega
theorem f32_back (n : Int) (h1 : -33 ≤ n) (h2 : n ≤ 33) : floatToIntVal .f32 (f32of n) .i64 = some n := by
  have h : ∀ i : Nat, i < 67 → floatToIntVal .f32 (f32of ((i : Int) - 33)) .i64 = some ((i : Int) - 33) := by decide +kernel
  have := h (n + 33).toNat (by omega)
  rwa [show (((n + 33).toNat : Nat) : Int) - 33 = n by omega] at this

/-- A unit or a zero of either sign, and its value. -/
def unitF (b : Nat) : Bool := b == 0 || b == 2147483648 || b == 1065353216 || b == 3212836864
def valF (b : Nat) : Int := if b = 1065353216 then 1 else if b = 3212836864 then -1 else 0
theorem f32_addu (n : Int) (b : Nat) (h1 : -33 ≤ n) (h2 : n ≤ 33) (hb : unitF b = true) : floatBits .add .f32 (f32of n) b = some (f32of (n + valF b)) := by
  have h : ∀ i : Nat, i < 67 → ∀ b ∈ [0, 2147483648, 1065353216, 3212836864], floatBits .add .f32 (f32of ((i : Int) - 33)) b = some (f32of ((i : Int) - 33 + valF b)) := by decide +kernel
  have := h (n + 33).toNat (by omega) b (by simp [unitF] at hb; simp; omega)
  rwa [show (((n + 33).toNat : Nat) : Int) - 33 = n by omega] at this
theorem unit_of (d : Int) (h3 : -1 ≤ d) (h4 : d ≤ 1) : unitF (f32of d) = true ∧ valF (f32of d) = d := by
  rcases (show d = -1 ∨ d = 0 ∨ d = 1 by omega) with rfl | rfl | rfl <;> decide
theorem f32_add (n d : Int) (h1 : -33 ≤ n) (h2 : n ≤ 33) (h3 : -1 ≤ d) (h4 : d ≤ 1) : floatBits .add .f32 (f32of n) (f32of d) = some (f32of (n + d)) := by
  have := f32_addu n (f32of d) h1 h2 (unit_of d h3 h4).1
  rwa [(unit_of d h3 h4).2] at this

/-! ### products -/
def f32neg (b : Nat) : Nat := b ^^^ 2147483648
def cMul32 (a b c d : Nat) : Option (Nat × Nat) :=
  (floatToFloatBits .f32 a .f64).bind fun a' => (floatToFloatBits .f32 b .f64).bind fun b' => (floatToFloatBits .f32 c .f64).bind fun c' => (floatToFloatBits .f32 d .f64).bind fun d' =>
  (cMulBits a' b' c' d').bind fun p => (floatToFloatBits .f64 p.1 .f32).bind fun x => (floatToFloatBits .f64 p.2 .f32).bind fun y => some (x, y)
section
variable {P : Program} (w : World)
theorem run_cconv {s k : FloatKind} {b r : Nat} (hne : s ≠ k) (h : floatToFloatBits s b k = some r) : (Op.Complex.conv s b k).run P w = .ok r w := by
  simp [Op.Complex.conv, hne, run_floatToFloat w h]
theorem run_complex_mul32 (t : TypeId) (a b c d re im : Nat) (h : cMul32 a b c d = some (re, im)) :
    (binOp .mul t (.complex .f32 a b) (.complex .f32 c d)).run P w = .ok (.complex .f32 re im) w := by
  unfold cMul32 at h
  obtain ⟨a', ha, h⟩ := bind_some h
  obtain ⟨b', hb, h⟩ := bind_some h
  obtain ⟨c', hc, h⟩ := bind_some h
  obtain ⟨d', hd, h⟩ := bind_some h
  obtain ⟨⟨p, q⟩, hm, h⟩ := bind_some h
  obtain ⟨x, hx, h⟩ := bind_some h
  obtain ⟨y, hy, h⟩ := bind_some h
  cases h
  unfold cMulBits at hm
  obtain ⟨ac, h1, hm⟩ := bind_some hm
  obtain ⟨bd, h2, hm⟩ := bind_some hm
  obtain ⟨re', h3, hm⟩ := bind_some hm
  obtain ⟨ad, h4, hm⟩ := bind_some hm
  obtain ⟨bc, h5, hm⟩ := bind_some hm
  obtain ⟨im', h6, hm⟩ := bind_some hm
  cases hm
  simp [binOp, Op.complexOp, Op.Complex.product, Op.Complex.mul, Op.Complex.sub, Op.Complex.add, run_cconv w (by decide) ha, run_cconv w (by decide) hb, run_cconv w (by decide) hc, run_cconv w (by decide) hd, run_carith w h1, run_carith w h2, run_carith w h3, run_carith w h4, run_carith w h5, run_carith w h6, run_cconv w (by decide) hx, run_cconv w (by decide) hy]
end
/-- The value of one phase times that of another, and times its conjugate. -/
def mm (x y : Int) : Nat × Nat := (cMul32 (f32of (vx x)) (f32of (vy x)) (f32of (vx y)) (f32of (vy y))).getD (0, 0)
def mc (x y : Int) : Nat × Nat := (cMul32 (f32of (vx x)) (f32of (vy x)) (f32of (vx y)) (f32neg (f32of (vy y)))).getD (0, 0)
theorem mm_ok (x y : Int) (h1 : 0 ≤ x) (h2 : x ≤ 3) (h3 : 0 ≤ y) (h4 : y ≤ 3) : cMul32 (f32of (vx x)) (f32of (vy x)) (f32of (vx y)) (f32of (vy y)) = some ((mm x y).1, (mm x y).2) ∧ unitF (mm x y).1 = true ∧ unitF (mm x y).2 = true ∧ valF (mm x y).1 = vx ((x + y) % 4) ∧ valF (mm x y).2 = vy ((x + y) % 4) := by
  have h : ∀ i : Nat, i < 4 → ∀ j : Nat, j < 4 → (cMul32 (f32of (vx i)) (f32of (vy i)) (f32of (vx j)) (f32of (vy j)) = some ((mm i j).1, (mm i j).2) ∧ unitF (mm i j).1 = true ∧ unitF (mm i j).2 = true ∧ valF (mm i j).1 = vx ((i + j) % 4) ∧ valF (mm i j).2 = vy ((i + j) % 4)) := by decide +kernel
  have := h x.toNat (by omega) y.toNat (by omega)
  rwa [Int.toNat_of_nonneg h1, Int.toNat_of_nonneg h3] at this
theorem mc_ok (x y : Int) (h1 : 0 ≤ x) (h2 : x ≤ 3) (h3 : 0 ≤ y) (h4 : y ≤ 3) : cMul32 (f32of (vx x)) (f32of (vy x)) (f32of (vx y)) (f32neg (f32of (vy y))) = some ((mc x y).1, (mc x y).2) ∧ unitF (mc x y).1 = true ∧ unitF (mc x y).2 = true ∧ valF (mc x y).1 = vx ((x - y) % 4) ∧ valF (mc x y).2 = vy ((x - y) % 4) := by
  have h : ∀ i : Nat, i < 4 → ∀ j : Nat, j < 4 → (cMul32 (f32of (vx i)) (f32of (vy i)) (f32of (vx j)) (f32neg (f32of (vy j))) = some ((mc i j).1, (mc i j).2) ∧ unitF (mc i j).1 = true ∧ unitF (mc i j).2 = true ∧ valF (mc i j).1 = vx (((i : Int) - j) % 4) ∧ valF (mc i j).2 = vy (((i : Int) - j) % 4)) := by decide +kernel
  have := h x.toNat (by omega) y.toNat (by omega)
  rwa [Int.toNat_of_nonneg h1, Int.toNat_of_nonneg h3] at this
end
section

def sg (s : Bool) (z : Nat) : Nat := if s then 9223372036854775808 + z else z
def posNum (d : Ieee.Datum) : Bool := match d with | .number false _ _ => true | _ => false
theorem posNum_iff {d : Ieee.Datum} (h : posNum d = true) : ∃ m p, d = .number false m p := by
  unfold posNum at h
  split at h
  · exact ⟨_, _, rfl⟩
  · cases h
theorem read_flip (f : Ieee.Format) (z : Nat) (hz : z < f.signWeight) : f.read (f.signWeight + z) = (f.read z).opposite := by
  have hp : 0 < f.signWeight := Nat.lt_of_le_of_lt (Nat.zero_le _) hz
  have e0 : z / f.signWeight = 0 := Nat.div_eq_of_lt hz
  have e1 : (f.signWeight + z) / f.signWeight = 1 := by rw [Nat.add_div_left _ hp, e0]
  have e2 : (f.signWeight + z) % f.signWeight = z % f.signWeight := Nat.add_mod_left _ _
  unfold Ieee.Format.read
  simp only [e0, e1, e2]
  split
  · rfl
  · split
    · rfl
    · split <;> rfl
theorem signD : Ieee.double.signWeight = 9223372036854775808 := by decide
theorem read_sg (s : Bool) (z : Nat) (hz : z < 9223372036854775808) {m : Nat} {p : Int} (h : Ieee.double.read z = .number false m p) : Ieee.double.read (sg s z) = .number s m p := by
  cases s with
  | false => simpa [sg] using h
  | true =>
    have := read_flip Ieee.double z (by rw [signD]; exact hz)
    rw [signD, h] at this
    simpa [sg, Ieee.Datum.opposite] using this
theorem cut_flip (n d : Nat) : Ieee.Toward.even.cut true n d = Ieee.Toward.even.cut false n d := rfl
theorem nearest_flip (f : Ieee.Format) (m : Nat) (p : Int) : f.nearest true m p = f.signWeight + f.nearest false m p := by
  unfold Ieee.Format.nearest
  split
  · simp [Ieee.Format.word]
  · simp only [cut_flip, Ieee.Format.word, if_true]
    rfl
theorem nearest_sg (s : Bool) (m : Nat) (p : Int) : Ieee.double.nearest s m p = sg s (Ieee.double.nearest false m p) := by
  cases s with
  | false => simp [sg]
  | true => rw [nearest_flip, signD]; simp [sg]
theorem mul_sg (s t : Bool) (x y z : Nat) (hx : x < 9223372036854775808) (hy : y < 9223372036854775808) (px : posNum (Ieee.double.read x) = true) (py : posNum (Ieee.double.read y) = true)
    (h : floatBits .mul .f64 x y = some z) : floatBits .mul .f64 (sg s x) (sg t y) = some (sg (s ^^ t) z) := by
  obtain ⟨m, p, hm⟩ := posNum_iff px
  obtain ⟨n, q, hn⟩ := posNum_iff py
  have h' : ((Ieee.double.read x).product (Ieee.double.read y)).map Ieee.double.write = some z := h
  show ((Ieee.double.read (sg s x)).product (Ieee.double.read (sg t y))).map Ieee.double.write = some _
  rw [read_sg s x hx hm, read_sg t y hy hn]
  rw [hm, hn] at h'
  simp only [Ieee.Datum.product, Option.map_some, Ieee.Format.write, Option.some.injEq] at h' ⊢
  have h2 : Ieee.double.nearest false (m * n) (p + q) = z := h'
  rw [nearest_sg, h2]
theorem add_sg (s : Bool) (z : Nat) (hz : z < 9223372036854775808) (pz : posNum (Ieee.double.read z) = true) : floatBits .add .f64 (sg s z) (sg (!s) z) = some 0 := by
  obtain ⟨m, p, hm⟩ := posNum_iff pz
  show ((Ieee.double.read (sg s z)).sum (Ieee.double.read (sg (!s) z))).map Ieee.double.write = some _
  rw [read_sg s z hz hm, read_sg (!s) z hz hm]
  have e : Ieee.signed s m (p - min p p).toNat + Ieee.signed (!s) m (p - min p p).toNat = 0 := by
    cases s <;> simp [Ieee.signed] <;> omega
  simp only [Ieee.Datum.sum, e, Option.map_some, Ieee.Format.write]
  cases s <;> rfl

def f64neg (b : Nat) : Nat := if b < 9223372036854775808 then b + 9223372036854775808 else b - 9223372036854775808
theorem f64_sg (n : Int) (h1 : -33 ≤ n) (h2 : n ≤ 33) : f64of n = sg (decide (n < 0)) (f64of n.natAbs) ∧ f64neg (f64of n) = sg (!decide (n < 0)) (f64of n.natAbs) ∧ f64of n.natAbs < 9223372036854775808 ∧ posNum (Ieee.double.read (f64of n.natAbs)) = true := by
  have h : ∀ i : Nat, i < 67 → (f64of ((i : Int) - 33) = sg (decide ((i : Int) - 33 < 0)) (f64of ((i : Int) - 33).natAbs) ∧ f64neg (f64of ((i : Int) - 33)) = sg (!decide ((i : Int) - 33 < 0)) (f64of ((i : Int) - 33).natAbs) ∧ f64of ((i : Int) - 33).natAbs < 9223372036854775808 ∧ posNum (Ieee.double.read (f64of ((i : Int) - 33).natAbs)) = true) := by decide +kernel
  have := h (n + 33).toNat (by omega)
  rwa [show (((n + 33).toNat : Nat) : Int) - 33 = n by omega] at this
theorem f64_in (n : Int) (h1 : -33 ≤ n) (h2 : n ≤ 33) : floatToFloatBits .f32 (f32of n) .f64 = some (f64of n) ∧ floatToFloatBits .f32 (f32neg (f32of n)) .f64 = some (f64neg (f64of n)) ∧ floatBits .mul .f64 (f64of n) (f64of n) = some (f64of (n.natAbs * n.natAbs : Nat)) ∧ floatBits .mul .f64 (f64of n) (f64neg (f64of n)) = some (f64neg (f64of (n.natAbs * n.natAbs : Nat))) := by
  have h : ∀ i : Nat, i < 67 → (floatToFloatBits .f32 (f32of ((i : Int) - 33)) .f64 = some (f64of ((i : Int) - 33)) ∧ floatToFloatBits .f32 (f32neg (f32of ((i : Int) - 33))) .f64 = some (f64neg (f64of ((i : Int) - 33))) ∧ floatBits .mul .f64 (f64of ((i : Int) - 33)) (f64of ((i : Int) - 33)) = some (f64of (((i : Int) - 33).natAbs * ((i : Int) - 33).natAbs : Nat)) ∧ floatBits .mul .f64 (f64of ((i : Int) - 33)) (f64neg (f64of ((i : Int) - 33))) = some (f64neg (f64of (((i : Int) - 33).natAbs * ((i : Int) - 33).natAbs : Nat)))) := by decide +kernel
  have := h (n + 33).toNat (by omega)
  rwa [show (((n + 33).toNat : Nat) : Int) - 33 = n by omega] at this
set_option maxHeartbeats 4000000 in
theorem prods : ∀ i : Nat, i < 33 → ∀ j : Nat, j < 33 → (floatBits .mul .f64 (f64of i) (f64of j) = some (f64of (i * j : Nat)) ∧ f64of (i * j : Nat) < 9223372036854775808 ∧ posNum (Ieee.double.read (f64of (i * j : Nat))) = true) := by decide +kernel
set_option maxHeartbeats 4000000 in
theorem diffs : ∀ i : Nat, i < 33 → ∀ j : Nat, j < 33 → floatBits .sub .f64 (f64of (i * i : Nat)) (f64neg (f64of (j * j : Nat))) = some (f64of (i * i + j * j : Nat)) := by decide +kernel
set_option maxHeartbeats 4000000 in
theorem outs : ∀ n : Nat, n < 2049 → (floatToFloatBits .f64 (f64of n) .f32 = some (f32of n) ∧ floatToIntVal .f32 (f32of n) .i64 = some (n : Int)) := by decide +kernel

/-- The square of a number's size. -/
def norm (X Y : Int) : Int := X * X + Y * Y
theorem norm_ok (X Y : Int) (h1 : -32 ≤ X) (h2 : X ≤ 32) (h3 : -32 ≤ Y) (h4 : Y ≤ 32) : ∃ re im, cMul32 (f32of X) (f32of Y) (f32of X) (f32neg (f32of Y)) = some (re, im) ∧ floatToIntVal .f32 re .i64 = some (norm X Y) := by
  have ax := f64_in X (by omega) (by omega)
  have ay := f64_in Y (by omega) (by omega)
  have sx := f64_sg X (by omega) (by omega)
  have sy := f64_sg Y (by omega) (by omega)
  have bx : X.natAbs < 33 := by omega
  have by' : Y.natAbs < 33 := by omega
  have p1 := prods X.natAbs bx Y.natAbs by'
  have p2 := prods Y.natAbs by' X.natAbs bx
  have d := diffs X.natAbs bx Y.natAbs by'
  have q1 : X.natAbs * X.natAbs ≤ 32 * 32 := Nat.mul_le_mul (by omega) (by omega)
  have q2 : Y.natAbs * Y.natAbs ≤ 32 * 32 := Nat.mul_le_mul (by omega) (by omega)
  have o := outs (X.natAbs * X.natAbs + Y.natAbs * Y.natAbs) (by omega)
  have m1 : floatBits .mul .f64 (f64of X) (f64neg (f64of Y)) = some (sg (decide (X < 0) ^^ !decide (Y < 0)) (f64of (X.natAbs * Y.natAbs : Nat))) := by
    rw [sx.1, sy.2.1]; exact mul_sg _ _ _ _ _ sx.2.2.1 sy.2.2.1 sx.2.2.2 sy.2.2.2 p1.1
  have m2 : floatBits .mul .f64 (f64of Y) (f64of X) = some (sg (!(decide (X < 0) ^^ !decide (Y < 0))) (f64of (X.natAbs * Y.natAbs : Nat))) := by
    rw [sx.1, sy.1]
    have := mul_sg (decide (Y < 0)) (decide (X < 0)) _ _ _ sy.2.2.1 sx.2.2.1 sy.2.2.2 sx.2.2.2 p2.1
    rw [this, Nat.mul_comm Y.natAbs]
    cases decide (X < 0) <;> cases decide (Y < 0) <;> rfl
  have m3 := add_sg (decide (X < 0) ^^ !decide (Y < 0)) _ p1.2.1 p1.2.2
  refine ⟨f32of (X.natAbs * X.natAbs + Y.natAbs * Y.natAbs : Nat), 0, ?_, ?_⟩
  · have z0 : floatToFloatBits .f64 0 .f32 = some 0 := by decide
    simp only [cMul32, cMulBits, ax.1, ay.1, ay.2.1, ax.2.2.1, ay.2.2.2, d, m1, m2, m3, o.1, z0, Option.bind_some]
  · rw [o.2]
    congr 1
    unfold norm
    rw [Int.natCast_add, Int.natCast_mul, Int.natCast_mul, Int.natAbs_mul_self', Int.natAbs_mul_self']
end
section
open Go.RowKit

theorem f32_addw (n m : Int) (h1 : -32 ≤ n ∧ n ≤ 32) (h2 : -32 ≤ m ∧ m ≤ 32) : floatBits .add .f32 (f32of n) (f32of m) = some (f32of (n + m)) := by
  have h : ∀ i : Nat, i < 65 → ∀ j : Nat, j < 65 → floatBits .add .f32 (f32of ((i : Int) - 32)) (f32of ((j : Int) - 32)) = some (f32of (((i : Int) - 32) + ((j : Int) - 32))) := by decide +kernel
  have := h (n + 32).toNat (by omega) (m + 32).toNat (by omega)
  rwa [show (((n + 32).toNat : Nat) : Int) - 32 = n by omega, show (((m + 32).toNat : Nat) : Int) - 32 = m by omega] at this
theorem f32_backw (n : Int) (h1 : -64 ≤ n ∧ n ≤ 64) : floatToIntVal .f32 (f32of n) .i64 = some n := by
  have h : ∀ i : Nat, i < 129 → floatToIntVal .f32 (f32of ((i : Int) - 64)) .i64 = some ((i : Int) - 64) := by decide +kernel
  have := h (n + 64).toNat (by omega)
  rwa [show (((n + 64).toNat : Nat) : Int) - 64 = n by omega] at this
theorem f32_zero (n : Int) (h1 : -64 ≤ n ∧ n ≤ 64) : (FloatKind.f32.format.order (f32of n) 0 == some .eq) = decide (n = 0) := by
  have h : ∀ i : Nat, i < 129 → (FloatKind.f32.format.order (f32of ((i : Int) - 64)) 0 == some .eq) = decide ((i : Int) - 64 = 0) := by decide +kernel
  have := h (n + 64).toNat (by omega)
  rwa [show (((n + 64).toNat : Nat) : Int) - 64 = n by omega] at this
section
variable {P : Program}
theorem run_addw (w : World) (t : TypeId) (X Y X' Y' : Int) (h1 : -32 ≤ X ∧ X ≤ 32) (h2 : -32 ≤ Y ∧ Y ≤ 32) (h3 : -32 ≤ X' ∧ X' ≤ 32) (h4 : -32 ≤ Y' ∧ Y' ≤ 32) :
    (binOp .add t (.complex .f32 (f32of X) (f32of Y)) (.complex .f32 (f32of X') (f32of Y'))).run P w = .ok (.complex .f32 (f32of (X + X')) (f32of (Y + Y'))) w :=
  run_complex_sum w .add (Or.inl rfl) t .f32 _ _ _ _ _ _ (by unfold cSumBits; rw [f32_addw X X' h1 h3, f32_addw Y Y' h2 h4]; rfl)
theorem run_neqz (w : World) (t : TypeId) (X Y : Int) (h1 : -64 ≤ X ∧ X ≤ 64) (h2 : -64 ≤ Y ∧ Y ≤ 64) :
    (binOp .neq t (.complex .f32 (f32of X) (f32of Y)) (.complex .f32 0 0)).run P w = .ok (.bool (!(decide (X = 0) && decide (Y = 0)))) w := by
  rw [run_neq_complex, f32_zero X h1, f32_zero Y h2]
end
end
end Go.Proofs.YtgjdaeaiheibbabDoor
