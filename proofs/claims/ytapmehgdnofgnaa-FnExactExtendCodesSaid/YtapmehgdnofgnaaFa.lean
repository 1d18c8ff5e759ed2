/- Sums of two whole numbers in float32 that are rounded: past 2^24. Values of phases times whole numbers. -/
import Derived.Test.YtapmehgdnofgnaaFx
import Derived.Test.YtapmehgdnofgnaaDeM
namespace Go.Proofs.Ytapmehgdnofgnaa
set_option maxRecDepth 100000
section
open Ieee

/-- The word stands for the whole number r, without a digit behind the point. -/
def NW (f : Format) (b : Nat) (r : Int) : Prop := ∃ (s : Bool) (m k : Nat), f.read b = .number s m (k : Int) ∧ r = signed s m k
theorem signed_add (s : Bool) (m a b : Nat) : signed s m (a + b) = signed s m a * 2 ^ b := by
  unfold signed
  rw [Nat.shiftLeft_add]
  cases s with
  | false =>
    simp only [Bool.false_eq_true, if_false]
    rw [Nat.shiftLeft_eq (m <<< a) b, Int.natCast_mul, Int.natCast_pow]; rfl
  | true =>
    simp only [if_true]
    rw [Nat.shiftLeft_eq (m <<< a) b, Int.natCast_mul, Int.natCast_pow, Int.neg_mul]; rfl
theorem NW_toInt {k : FloatKind} {b : Nat} {r : Int} (h : NW k.format b r) (hr : -9223372036854775808 ≤ r ∧ r ≤ 9223372036854775807) : floatToIntVal k b .i64 = some r := by
  obtain ⟨s, m, i, e1, h1⟩ := h
  have e2 : k.decode b = .number s m (i : Int) := e1
  have e3 : (k.decode b).toInt .zero = some r := by
    rw [e2]
    simp only [Datum.toInt, Datum.integral]
    rw [show ((i : Int)).toNat = i by omega, show (-(i : Int)).toNat = 0 by omega]
    have hc : Toward.zero.cut s (m <<< i) 0 = m <<< i := by simp [Toward.cut]
    rw [hc, h1]
    unfold signed
    simp
  unfold floatToIntVal
  rw [e3]
  have hb : IntKind.i64.min ≤ r ∧ r ≤ IntKind.i64.max := by
    have h1 : IntKind.i64.min = -9223372036854775808 := by decide
    have h2 : IntKind.i64.max = 9223372036854775807 := by decide
    omega
  simp only [hb, and_self, if_true]
theorem NW_ne {k : FloatKind} {b c : Nat} {r y : Int} (h : NW k.format b r) (hc : FK k c y) (hne : r ≠ y) : (k.format.order b c == some .eq) = false ∧ (k.format.order c b == some .eq) = false := by
  obtain ⟨s, m, i, e1, h1⟩ := h
  obtain ⟨t, n, j, e2, h2⟩ := hc
  have hmin : min ((i : Int)) (-(j : Int)) = -(j : Int) := by omega
  have hmin2 : min (-(j : Int)) ((i : Int)) = -(j : Int) := by omega
  have g1 : signed s m ((i : Int) - -(j : Int)).toNat = r * 2 ^ j := by
    rw [show ((i : Int) - -(j : Int)).toNat = i + j by omega, signed_add, h1]
  have g2 : signed t n (-(j : Int) - -(j : Int)).toNat = y * 2 ^ j := by
    have := signed_num h2 0
    rw [show (-(j : Int) - -(j : Int)).toNat = 0 by omega]
    simpa using this
  have hp : (0 : Int) < 2 ^ j := by
    have := Nat.two_pow_pos j
    have h : ((2 : Int) ^ j) = ((2 ^ j : Nat) : Int) := by rw [Int.natCast_pow]; rfl
    rw [h]; omega
  have hlt : ∀ p q : Int, p * 2 ^ j < q * 2 ^ j ↔ p < q := fun p q => Int.mul_lt_mul_right hp
  have heq : ∀ p q : Int, p * 2 ^ j = q * 2 ^ j ↔ p = q := fun p q => by
    constructor
    · intro h
      have a1 := hlt p q
      have a2 := hlt q p
      omega
    · rintro rfl; rfl
  unfold Format.order
  rw [e1, e2]
  simp only [Datum.order, hmin, hmin2, g1, g2]
  constructor
  · by_cases h2 : r < y
    · simp [compare, compareOfLessAndEq, hlt, h2]
    · simp [compare, compareOfLessAndEq, hlt, h2, heq, hne]
  · by_cases h2 : y < r
    · simp [compare, compareOfLessAndEq, hlt, h2]
    · simp [compare, compareOfLessAndEq, hlt, h2, heq]
      exact fun e => hne e.symm
/-- A number of 25 digits is written with one digit less. -/
theorem nearest_wide (s : Bool) (N k : Nat) (h1 : 16777216 ≤ N) (h2 : N < 33554432) : ∃ q, (N % 2 = 0 → 2 * q = N) ∧ 8388608 ≤ q ∧ q ≤ 16777216 ∧ (N ≤ 2 * q + 1 ∧ 2 * q ≤ N + 1) ∧ NW single (single.nearest s (N * 2 ^ k) (-(k : Int))) (signed s (2 * q) 0) := by
  have hN : N ≠ 0 := by omega
  have hlog : N.log2 = 24 := by
    have a1 : N.log2 < 25 := (Nat.log2_lt hN).2 (by omega)
    have a2 : ¬ N.log2 < 24 := fun h => by have := (Nat.log2_lt hN).1 h; omega
    omega
  have hp : 0 < 2 ^ k := Nat.two_pow_pos k
  have hm0 : N * 2 ^ k ≠ 0 := by have := Nat.mul_pos (show 0 < N by omega) hp; omega
  have hl : (N * 2 ^ k).log2 = 24 + k := by rw [log2_mul_pow N k hN, hlog]
  have hlast : max (-(k : Int) + ((N * 2 ^ k).log2 : Nat) - (single.fractionBits : Nat)) single.leastPlace = 1 := by
    rw [hl, ok32.least, show single.fractionBits = 23 from rfl]; omega
  have hcut : ∃ q, Toward.even.cut s ((N * 2 ^ k) <<< (-(k : Int) - 1).toNat) (1 - -(k : Int)).toNat = q ∧ (N % 2 = 0 → 2 * q = N) ∧ (N ≤ 2 * q + 1 ∧ 2 * q ≤ N + 1) := by
    rw [show (-(k : Int) - 1).toNat = 0 by omega, show (1 - -(k : Int)).toNat = k + 1 by omega, Nat.shiftLeft_zero]
    unfold Toward.cut
    have hmin : min (k + 1) ((N * 2 ^ k).log2 + 2) = k + 1 := by rw [hl]; omega
    simp only [hmin, Nat.shiftLeft_eq, Nat.one_mul]
    have hd : N * 2 ^ k / 2 ^ (k + 1) = N / 2 := by
      rw [Nat.pow_succ, Nat.mul_comm (2 ^ k) 2, Nat.mul_div_mul_right _ _ hp]
    have hmod : N * 2 ^ k % 2 ^ (k + 1) = N % 2 * 2 ^ k := by
      rw [Nat.pow_succ, Nat.mul_comm (2 ^ k) 2, Nat.mul_mod_mul_right]
    rw [hd, hmod]
    have hlt : ¬ (2 ^ (k + 1) < 2 * (N % 2 * 2 ^ k)) := by
      rw [Nat.pow_succ]
      have : N % 2 * 2 ^ k ≤ 1 * 2 ^ k := Nat.mul_le_mul_right _ (by omega)
      omega
    rcases (show N % 2 = 0 ∨ N % 2 = 1 by omega) with e | e
    · refine ⟨N / 2, ?_, by omega, by omega⟩
      have he : ¬ (2 ^ (k + 1) = 2 * (N % 2 * 2 ^ k)) := by rw [e, Nat.pow_succ]; omega
      simp [hlt, he]
    · by_cases ho : N / 2 % 2 = 1
      · refine ⟨N / 2 + 1, ?_, by omega, by omega⟩
        have he : 2 ^ (k + 1) = 2 * (N % 2 * 2 ^ k) := by rw [e, Nat.pow_succ]; omega
        simp [he, ho]
      · refine ⟨N / 2, ?_, by omega, by omega⟩
        simp [hlt, ho]
  obtain ⟨q, hq, hev, hq1, hq2⟩ := hcut
  refine ⟨q, hev, by omega, by omega, ⟨hq1, hq2⟩, ?_⟩
  have hB : single.binade = 8388608 := by decide
  have hI : single.infRung = 255 * 8388608 := by decide
  have hleast : single.leastPlace = -149 := by decide
  unfold Format.nearest
  rw [if_neg hm0]
  simp only [hlast, hq, hB, hI]
  rw [hleast, show ((1 : Int) - -149).toNat = 150 by omega, Nat.min_eq_left (by omega)]
  have hr := read_word single s (150 * 8388608 + q) (by rw [hI]; omega)
  rw [hB, if_neg (by omega), hleast] at hr
  by_cases hqe : q = 16777216
  · subst hqe
    refine ⟨s, 8388608, 2, ?_, ?_⟩
    · rw [hr]; rfl
    · unfold signed; rfl
  · refine ⟨s, q, 1, ?_, ?_⟩
    · rw [hr]
      have e1 : (150 * 8388608 + q) / 8388608 = 151 := by omega
      have e2 : 8388608 + (150 * 8388608 + q) % 8388608 = q := by omega
      rw [e1, e2]
      rfl
    · unfold signed
      rw [Nat.shiftLeft_zero, Nat.shiftLeft_eq, Nat.mul_comm]

/-- The word stands for n, rounded past 2^24. -/
def WD (b : Nat) (n : Int) : Prop := ∃ r, NW single b r ∧ 16777216 ≤ r.natAbs ∧ r.natAbs ≤ 33554432 ∧ (n % 2 = 0 → r = n) ∧ r.natAbs ≤ n.natAbs + 1
def FA (b : Nat) (n : Int) : Prop := (n.natAbs < 16777216 → FK .f32 b n) ∧ (16777216 ≤ n.natAbs → WD b n)
theorem FA_add {a b : Nat} {x y : Int} (hx : FK .f32 a x) (hy : FK .f32 b y) (h : (x + y).natAbs < 33554432) : ∃ r, floatBits .add .f32 a b = some r ∧ FA r (x + y) := by
  have ht : topF .f32 = 16777216 := by decide
  by_cases hs : (x + y).natAbs < 16777216
  · obtain ⟨r, e, f⟩ := FN_add hx hy (by rw [ht]; exact hs)
    exact ⟨r, e, fun _ => f, fun h2 => absurd hs (by omega)⟩
  · obtain ⟨s, m, i, e1, h1⟩ := hx
    obtain ⟨t, n, j, e2, h2⟩ := hy
    obtain ⟨u, g, l, e3, h3⟩ := sum_num h1 h2
    obtain ⟨q, hev, hq1, hq2, hq3, hnw⟩ := nearest_wide u (x + y).natAbs l (by omega) h
    refine ⟨single.nearest u g (-(l : Int)), ?_, fun hc => absurd hc hs, fun _ => ⟨signed u (2 * q) 0, by rw [h3.1]; exact hnw, ?_, ?_, ?_, ?_⟩⟩
    · show ((single.read a).sum (single.read b)).map single.write = _
      have e1' : single.read a = .number s m (-(i : Int)) := e1
      have e2' : single.read b = .number t n (-(j : Int)) := e2
      rw [e1', e2', e3]
      rfl
    · unfold signed; rw [Nat.shiftLeft_zero]; cases u <;> simp <;> omega
    · unfold signed; rw [Nat.shiftLeft_zero]; cases u <;> simp <;> omega
    · intro h0
      have hne : x + y ≠ 0 := by omega
      have hsg := h3.2 hne
      have := hev (by omega)
      unfold signed
      rw [Nat.shiftLeft_zero, this, hsg]
      by_cases hn : x + y < 0
      · simp only [hn, decide_true, if_true]; omega
      · simp only [hn, decide_false, Bool.false_eq_true, if_false]; omega
    · unfold signed; rw [Nat.shiftLeft_zero]; cases u <;> simp <;> omega
/-- What int() makes of it. -/
theorem FA_toInt {b : Nat} {n : Int} (h : FA b n) : ∃ r, floatToIntVal .f32 b .i64 = some r ∧ (n.natAbs < 16777216 → r = n) ∧ (16777216 ≤ n.natAbs → 16777216 ≤ r.natAbs ∧ r.natAbs ≤ n.natAbs + 1 ∧ (n % 2 = 0 → r = n)) := by
  by_cases hs : n.natAbs < 16777216
  · exact ⟨n, FN_toInt (h.1 hs) (by omega), fun _ => rfl, fun h2 => absurd hs (by omega)⟩
  · obtain ⟨r, h1, h2, h3, h4, h5⟩ := h.2 (by omega)
    exact ⟨r, NW_toInt (k := .f32) h1 (by omega), fun hc => absurd hc hs, fun _ => ⟨h2, h5, h4⟩⟩
theorem FA_eq {b c : Nat} {n y : Int} (h : FA b n) (hc : FK .f32 c y) (hy : y.natAbs < 16777216) : (FloatKind.f32.format.order b c == some .eq) = decide (n = y) := by
  by_cases hs : n.natAbs < 16777216
  · exact FN_eq (h.1 hs) hc
  · obtain ⟨r, h1, h2, h3, h4⟩ := h.2 (by omega)
    rw [(NW_ne (k := .f32) h1 hc (by rintro rfl; omega)).1, decide_eq_false (by rintro rfl; omega)]
theorem FA_of {b : Nat} {n : Int} (h : FK .f32 b n) (hn : n.natAbs < 16777216) : FA b n := ⟨fun _ => h, fun h2 => absurd hn (by omega)⟩

/-! ### phases' values times whole numbers -/
theorem FK_unit (k : Int) (h1 : 0 ≤ k) (h2 : k ≤ 3) : FK .f32 (f32of (vx k)) (vx k) ∧ FK .f32 (f32of (vy k)) (vy k) := by
  have z : FK .f32 (f32of 0) 0 := ⟨false, 0, 149, by decide, by unfold NumZ; decide⟩
  have p : FK .f32 (f32of 1) 1 := ⟨false, 8388608, 23, by decide, by unfold NumZ; decide⟩
  have m : FK .f32 (f32of (-1)) (-1) := ⟨true, 8388608, 23, by decide, by unfold NumZ; decide⟩
  rcases (show k = 0 ∨ k = 1 ∨ k = 2 ∨ k = 3 by omega) with rfl | rfl | rfl | rfl
  · exact ⟨p, z⟩
  · exact ⟨z, p⟩
  · exact ⟨m, z⟩
  · exact ⟨z, m⟩
theorem FC_mul32 {a b c d : Nat} {x y u v : Int} (ha : FK .f32 a x) (hb : FK .f32 b y) (hc : FK .f32 c u) (hd : FK .f32 d v) (hx : x.natAbs < 16777216) (hy : y.natAbs < 16777216) (hu : u.natAbs < 16777216) (hv : v.natAbs < 16777216)
    (h1 : (x * u).natAbs < 9007199254740992) (h2 : (y * v).natAbs < 9007199254740992) (h3 : (x * v).natAbs < 9007199254740992) (h4 : (y * u).natAbs < 9007199254740992)
    (h5 : (x * u - y * v).natAbs < 16777216) (h6 : (x * v + y * u).natAbs < 16777216) : ∃ re im, cMul32 a b c d = some (re, im) ∧ FK .f32 re (x * u - y * v) ∧ FK .f32 im (x * v + y * u) := by
  have t64 : topF .f64 = 9007199254740992 := by decide
  have t32 : topF .f32 = 16777216 := by decide
  have hne : FloatKind.f32 ≠ .f64 := by decide
  have hne' : FloatKind.f64 ≠ .f32 := by decide
  obtain ⟨a', ea, fa⟩ := FN_conv ha hne (by rw [t64]; omega)
  obtain ⟨b', eb, fb⟩ := FN_conv hb hne (by rw [t64]; omega)
  obtain ⟨c', ec, fc⟩ := FN_conv hc hne (by rw [t64]; omega)
  obtain ⟨d', ed, fd⟩ := FN_conv hd hne (by rw [t64]; omega)
  obtain ⟨r1, e1, f1⟩ := FN_mul fa fc (by rw [t64]; exact h1)
  obtain ⟨r2, e2, f2⟩ := FN_mul fb fd (by rw [t64]; exact h2)
  obtain ⟨r3, e3, f3⟩ := FN_sub f1 f2 (by rw [t64]; omega)
  obtain ⟨r4, e4, f4⟩ := FN_mul fa fd (by rw [t64]; exact h3)
  obtain ⟨r5, e5, f5⟩ := FN_mul fb fc (by rw [t64]; exact h4)
  obtain ⟨r6, e6, f6⟩ := FN_add f4 f5 (by rw [t64]; omega)
  obtain ⟨r7, e7, f7⟩ := FN_conv f3 hne' (by rw [t32]; exact h5)
  obtain ⟨r8, e8, f8⟩ := FN_conv f6 hne' (by rw [t32]; exact h6)
  exact ⟨r7, r8, by simp only [cMul32, cMulBits, ea, eb, ec, ed, e1, e2, e3, e4, e5, e6, e7, e8, Option.bind_some], f7, f8⟩
/-- A number times the value of a phase. -/
theorem FC_turn {a b : Nat} {x y : Int} (ha : FK .f32 a x) (hb : FK .f32 b y) (hx : x.natAbs < 16777216) (hy : y.natAbs < 16777216) (k : Int) (h1 : 0 ≤ k) (h2 : k ≤ 3) :
    ∃ re im, cMul32 a b (f32of (vx k)) (f32of (vy k)) = some (re, im) ∧ FK .f32 re (dtT k (x, y)).1 ∧ FK .f32 im (dtT k (x, y)).2 := by
  have hu := FK_unit k h1 h2
  have e1 : (dtT k (x, y)).1 = x * vx k - y * vy k := by unfold dtT; dsimp only; rw [Int.mul_comm (vx k), Int.mul_comm (vy k)]
  have e2 : (dtT k (x, y)).2 = x * vy k + y * vx k := by unfold dtT; dsimp only; rw [Int.mul_comm (vx k), Int.mul_comm (vy k), Int.add_comm]
  rw [e1, e2]
  rcases (show k = 0 ∨ k = 1 ∨ k = 2 ∨ k = 3 by omega) with rfl | rfl | rfl | rfl
  all_goals
    refine FC_mul32 ha hb hu.1 hu.2 hx hy (by decide) (by decide) ?_ ?_ ?_ ?_ ?_ ?_
    all_goals
      simp only [show vx 0 = 1 from rfl, show vy 0 = 0 from rfl, show vx 1 = 0 from rfl, show vy 1 = 1 from rfl, show vx 2 = -1 from rfl, show vy 2 = 0 from rfl, show vx 3 = 0 from rfl, show vy 3 = -1 from rfl]
      omega
end
end Go.Proofs.Ytapmehgdnofgnaa
