/- The norm of a small Gaussian number in complex64: exact. -/
import Derived.Test.YtodgalflngfnpaaFlo
namespace Go.Proofs.Ytodgalflngfnpaa

set_option maxRecDepth 100000
def sg (s : Bool) (z : Nat) : Nat := if s then 9223372036854775808 + z else z
def posNum (d : Ieee.Datum) : Bool := match d with | .number false _ _ => true | _ => false
theorem posNum_iff {d : Ieee.Datum} (h : posNum d = true) : ∃ m p, d = .number false m p := by
  unfold posNum at h
  split at h
  · exact ⟨_, _, rfl⟩
  · cases h
theorem read_flip (f : Ieee.Format) (z : Nat) (hz : z < f.signWeight) : f.read (f.signWeight + z) = (f.read z).opposite := by
  have hp : 0 < f.signWeight := Nat.lt_of_le_of_lt (Nat.zero_le _) hz
  have e0 : z / f.signWeight = 0 := Nat.div_eq_of_lt hz
  have e1 : (f.signWeight + z) / f.signWeight = 1 := by rw [Nat.add_div_left _ hp, e0]
  have e2 : (f.signWeight + z) % f.signWeight = z % f.signWeight := Nat.add_mod_left _ _
  unfold Ieee.Format.read
  simp only [e0, e1, e2]
  split
  · rfl
  · split
    · rfl
    · split <;> rfl
theorem signD : Ieee.double.signWeight = 9223372036854775808 := by decide
theorem read_sg (s : Bool) (z : Nat) (hz : z < 9223372036854775808) {m : Nat} {p : Int} (h : Ieee.double.read z = .number false m p) : Ieee.double.read (sg s z) = .number s m p := by
  cases s with
  | false => simpa [sg] using h
  | true =>
    have := read_flip Ieee.double z (by rw [signD]; exact hz)
    rw [signD, h] at this
    simpa [sg, Ieee.Datum.opposite] using this
theorem cut_flip (n d : Nat) : Ieee.Toward.even.cut true n d = Ieee.Toward.even.cut false n d := rfl
theorem nearest_flip (f : Ieee.Format) (m : Nat) (p : Int) : f.nearest true m p = f.signWeight + f.nearest false m p := by
  unfold Ieee.Format.nearest
  split
  · simp [Ieee.Format.word]
  · simp only [cut_flip, Ieee.Format.word, if_true]
    rfl
theorem nearest_sg (s : Bool) (m : Nat) (p : Int) : Ieee.double.nearest s m p = sg s (Ieee.double.nearest false m p) := by
  cases s with
  | false => simp [sg]
  | true => rw [nearest_flip, signD]; simp [sg]
theorem mul_sg (s t : Bool) (x y z : Nat) (hx : x < 9223372036854775808) (hy : y < 9223372036854775808) (px : posNum (Ieee.double.read x) = true) (py : posNum (Ieee.double.read y) = true)
    (h : floatBits .mul .f64 x y = some z) : floatBits .mul .f64 (sg s x) (sg t y) = some (sg (s ^^ t) z) := by
  obtain ⟨m, p, hm⟩ := posNum_iff px
  obtain ⟨n, q, hn⟩ := posNum_iff py
  have h' : ((Ieee.double.read x).product (Ieee.double.read y)).map Ieee.double.write = some z := h
  show ((Ieee.double.read (sg s x)).product (Ieee.double.read (sg t y))).map Ieee.double.write = some _
  rw [read_sg s x hx hm, read_sg t y hy hn]
  rw [hm, hn] at h'
  simp only [Ieee.Datum.product, Option.map_some, Ieee.Format.write, Option.some.injEq] at h' ⊢
  have h2 : Ieee.double.nearest false (m * n) (p + q) = z := h'
  rw [nearest_sg, h2]
theorem add_sg (s : Bool) (z : Nat) (hz : z < 9223372036854775808) (pz : posNum (Ieee.double.read z) = true) : floatBits .add .f64 (sg s z) (sg (!s) z) = some 0 := by
  obtain ⟨m, p, hm⟩ := posNum_iff pz
  show ((Ieee.double.read (sg s z)).sum (Ieee.double.read (sg (!s) z))).map Ieee.double.write = some _
  rw [read_sg s z hz hm, read_sg (!s) z hz hm]
  have e : Ieee.signed s m (p - min p p).toNat + Ieee.signed (!s) m (p - min p p).toNat = 0 := by
    cases s <;> simp [Ieee.signed] <;> omega
  simp only [Ieee.Datum.sum, e, Option.map_some, Ieee.Format.write]
  cases s <;> rfl

def f64neg (b : Nat) : Nat := if b < 9223372036854775808 then b + 9223372036854775808 else b - 9223372036854775808
theorem f64_sg (n : Int) (h1 : -33 ≤ n) (h2 : n ≤ 33) : f64of n = sg (decide (n < 0)) (f64of n.natAbs) ∧ f64neg (f64of n) = sg (!decide (n < 0)) (f64of n.natAbs) ∧ f64of n.natAbs < 9223372036854775808 ∧ posNum (Ieee.double.read (f64of n.natAbs)) = true := by
  have h : ∀ i : Nat, i < 67 → (f64of ((i : Int) - 33) = sg (decide ((i : Int) - 33 < 0)) (f64of ((i : Int) - 33).natAbs) ∧ f64neg (f64of ((i : Int) - 33)) = sg (!decide ((i : Int) - 33 < 0)) (f64of ((i : Int) - 33).natAbs) ∧ f64of ((i : Int) - 33).natAbs < 9223372036854775808 ∧ posNum (Ieee.double.read (f64of ((i : Int) - 33).natAbs)) = true) := by decide +kernel
  have := h (n + 33).toNat (by omega)
  rwa [show (((n + 33).toNat : Nat) : Int) - 33 = n by omega] at this
theorem f64_in (n : Int) (h1 : -33 ≤ n) (h2 : n ≤ 33) : floatToFloatBits .f32 (f32of n) .f64 = some (f64of n) ∧ floatToFloatBits .f32 (f32neg (f32of n)) .f64 = some (f64neg (f64of n)) ∧ floatBits .mul .f64 (f64of n) (f64of n) = some (f64of (n.natAbs * n.natAbs : Nat)) ∧ floatBits .mul .f64 (f64of n) (f64neg (f64of n)) = some (f64neg (f64of (n.natAbs * n.natAbs : Nat))) := by
  have h : ∀ i : Nat, i < 67 → (floatToFloatBits .f32 (f32of ((i : Int) - 33)) .f64 = some (f64of ((i : Int) - 33)) ∧ floatToFloatBits .f32 (f32neg (f32of ((i : Int) - 33))) .f64 = some (f64neg (f64of ((i : Int) - 33))) ∧ floatBits .mul .f64 (f64of ((i : Int) - 33)) (f64of ((i : Int) - 33)) = some (f64of (((i : Int) - 33).natAbs * ((i : Int) - 33).natAbs : Nat)) ∧ floatBits .mul .f64 (f64of ((i : Int) - 33)) (f64neg (f64of ((i : Int) - 33))) = some (f64neg (f64of (((i : Int) - 33).natAbs * ((i : Int) - 33).natAbs : Nat)))) := by decide +kernel
  have := h (n + 33).toNat (by omega)
  rwa [show (((n + 33).toNat : Nat) : Int) - 33 = n by omega] at this
set_option maxHeartbeats 4000000 in
theorem prods : ∀ i : Nat, i < 33 → ∀ j : Nat, j < 33 → (floatBits .mul .f64 (f64of i) (f64of j) = some (f64of (i * j : Nat)) ∧ f64of (i * j : Nat) < 9223372036854775808 ∧ posNum (Ieee.double.read (f64of (i * j : Nat))) = true) := by decide +kernel
set_option maxHeartbeats 4000000 in
theorem diffs : ∀ i : Nat, i < 33 → ∀ j : Nat, j < 33 → floatBits .sub .f64 (f64of (i * i : Nat)) (f64neg (f64of (j * j : Nat))) = some (f64of (i * i + j * j : Nat)) := by decide +kernel
set_option maxHeartbeats 4000000 in
theorem outs : ∀ n : Nat, n < 2049 → (floatToFloatBits .f64 (f64of n) .f32 = some (f32of n) ∧ floatToIntVal .f32 (f32of n) .i64 = some (n : Int)) := by decide +kernel

/-- The square of a number's size. -/
def norm (X Y : Int) : Int := X * X + Y * Y
theorem norm_ok (X Y : Int) (h1 : -32 ≤ X) (h2 : X ≤ 32) (h3 : -32 ≤ Y) (h4 : Y ≤ 32) : ∃ re im, cMul32 (f32of X) (f32of Y) (f32of X) (f32neg (f32of Y)) = some (re, im) ∧ floatToIntVal .f32 re .i64 = some (norm X Y) := by
  have ax := f64_in X (by omega) (by omega)
  have ay := f64_in Y (by omega) (by omega)
  have sx := f64_sg X (by omega) (by omega)
  have sy := f64_sg Y (by omega) (by omega)
  have bx : X.natAbs < 33 := by omega
  have by' : Y.natAbs < 33 := by omega
  have p1 := prods X.natAbs bx Y.natAbs by'
  have p2 := prods Y.natAbs by' X.natAbs bx
  have d := diffs X.natAbs bx Y.natAbs by'
  have q1 : X.natAbs * X.natAbs ≤ 32 * 32 := Nat.mul_le_mul (by omega) (by omega)
  have q2 : Y.natAbs * Y.natAbs ≤ 32 * 32 := Nat.mul_le_mul (by omega) (by omega)
  have o := outs (X.natAbs * X.natAbs + Y.natAbs * Y.natAbs) (by omega)
  have m1 : floatBits .mul .f64 (f64of X) (f64neg (f64of Y)) = some (sg (decide (X < 0) ^^ !decide (Y < 0)) (f64of (X.natAbs * Y.natAbs : Nat))) := by
    rw [sx.1, sy.2.1]; exact mul_sg _ _ _ _ _ sx.2.2.1 sy.2.2.1 sx.2.2.2 sy.2.2.2 p1.1
  have m2 : floatBits .mul .f64 (f64of Y) (f64of X) = some (sg (!(decide (X < 0) ^^ !decide (Y < 0))) (f64of (X.natAbs * Y.natAbs : Nat))) := by
    rw [sx.1, sy.1]
    have := mul_sg (decide (Y < 0)) (decide (X < 0)) _ _ _ sy.2.2.1 sx.2.2.1 sy.2.2.2 sx.2.2.2 p2.1
    rw [this, Nat.mul_comm Y.natAbs]
    cases decide (X < 0) <;> cases decide (Y < 0) <;> rfl
  have m3 := add_sg (decide (X < 0) ^^ !decide (Y < 0)) _ p1.2.1 p1.2.2
  refine ⟨f32of (X.natAbs * X.natAbs + Y.natAbs * Y.natAbs : Nat), 0, ?_, ?_⟩
  · have z0 : floatToFloatBits .f64 0 .f32 = some 0 := by decide
    simp only [cMul32, cMulBits, ax.1, ay.1, ay.2.1, ax.2.2.1, ay.2.2.2, d, m1, m2, m3, o.1, z0, Option.bind_some]
  · rw [o.2]
    congr 1
    unfold norm
    rw [Int.natCast_add, Int.natCast_mul, Int.natCast_mul, Int.natAbs_mul_self', Int.natAbs_mul_self']
end Go.Proofs.Ytodgalflngfnpaa
