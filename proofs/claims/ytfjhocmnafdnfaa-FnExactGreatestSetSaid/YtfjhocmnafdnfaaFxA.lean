/- Whole numbers as floats, exactly: what a word stands for; sums, differences, products, conversions, the order. Not by tables: out of how a word is read and written. Determinants of phases along the rows: plain. Sums of two whole numbers in float32 that are rounded: past 2^24. Values of phases times whole numbers. -/
import Derived.Laws.ComplexArith
import Derived.Laws.FloatArith
import Derived.Laws.Cover3
import Derived.Test.YtfjhocmnafdnfaaFlt
import Derived.Test.YtfjhocmnafdnfaaCors
namespace Go.Proofs.Ytfjhocmnafdnfaa
set_option maxRecDepth 100000
section
section
open Ieee

/-! ### words and rungs -/
theorem read_word (f : Format) (s : Bool) (r : Nat) (h : r < f.infRung) :
    f.read (f.word s r) = if r < f.binade then .number s r f.leastPlace else .number s (f.binade + r % f.binade) (f.leastPlace + (r / f.binade - 1 : Nat)) := by
  have hw := Nat.lt_trans h f.infRung_lt
  have hp : 0 < f.signWeight := by omega
  have e0 : r / f.signWeight = 0 := Nat.div_eq_of_lt hw
  have e1 : r % f.signWeight = r := Nat.mod_eq_of_lt hw
  have e2 : (f.signWeight + r) / f.signWeight = 1 := by rw [Nat.add_div_left _ hp, e0]
  have e3 : (f.signWeight + r) % f.signWeight = r := by rw [Nat.add_mod_left, e1]
  cases s with
  | false =>
    unfold Format.read Format.word
    simp only [Bool.false_eq_true, if_false, e0, e1, h, if_true]
    rfl
  | true =>
    unfold Format.read Format.word
    simp only [if_true, e2, e3, h]
    rfl

theorem cut_none (s : Bool) (n : Nat) : Toward.even.cut s n 0 = n := by
  simp [Toward.cut]
  omega
theorem log2_mul_pow (q d : Nat) (hq : q ≠ 0) : (q * 2 ^ d).log2 = q.log2 + d := by
  induction d with
  | zero => simp
  | succ d ih =>
    rw [Nat.pow_succ, ← Nat.mul_assoc, Nat.mul_comm _ 2, Nat.log2_two_mul (by
      have : 0 < 2 ^ d := Nat.two_pow_pos d
      have : 0 < q * 2 ^ d := Nat.mul_pos (by omega) this
      omega), ih]
    omega
theorem cut_exact (w : Toward) (s : Bool) (q d : Nat) (hq : q ≠ 0) : w.cut s (q * 2 ^ d) d = q := by
  have hl := log2_mul_pow q d hq
  have hp : 0 < 2 ^ d := Nat.two_pow_pos d
  have hmin : min d (q.log2 + d + 2) = d := by omega
  unfold Toward.cut
  simp only [hl, hmin, Nat.shiftLeft_eq, Nat.one_mul, Nat.mul_div_cancel _ hp, Nat.mul_mod_left]
  cases w <;> simp <;> omega

structure OkF (f : Format) (K : Nat) : Prop where
  least : f.leastPlace = -(K : Int)
  low : f.fractionBits ≤ K
  high : K + f.fractionBits + 3 ≤ 2 ^ f.exponentBits - 1
theorem ok32 : OkF single 149 := ⟨by decide, by decide, by decide⟩
theorem ok64 : OkF double 1074 := ⟨by decide, by decide, by decide⟩

/-- A number whose digits all fit is read as it was written. -/
theorem read_nearest {f : Format} {K : Nat} (ok : OkF f K) (s : Bool) (mag : Nat) (place last : Int) (q : Nat) (hm : mag ≠ 0) (hlast : last = place + mag.log2 - f.fractionBits)
    (h0 : -(K : Int) ≤ last) (h1 : last ≤ f.fractionBits) (hq : (last ≤ place ∧ q = mag * 2 ^ (place - last).toNat) ∨ (place ≤ last ∧ mag = q * 2 ^ (last - place).toNat)) :
    f.read (f.nearest s mag place) = .number s q last := by
  have hB : f.binade = 2 ^ f.fractionBits := rfl
  have hmax : max (place + mag.log2 - f.fractionBits) f.leastPlace = last := by rw [ok.least]; omega
  have hl1 : 2 ^ mag.log2 ≤ mag := Nat.log2_self_le hm
  have hl2 : mag < 2 ^ (mag.log2 + 1) := Nat.lt_log2_self
  have hqb : f.binade ≤ q ∧ q < 2 * f.binade := by
    rw [hB]
    rcases hq with ⟨hle, rfl⟩ | ⟨hle, he⟩
    · have e : (place - last).toNat + mag.log2 = f.fractionBits := by omega
      have hp : 0 < 2 ^ (place - last).toNat := Nat.two_pow_pos _
      rw [← e, Nat.pow_add, Nat.mul_comm (2 ^ (place - last).toNat)]
      constructor
      · exact Nat.mul_le_mul_right _ hl1
      · rw [← Nat.mul_assoc, Nat.mul_comm 2, ← Nat.pow_succ]
        exact (Nat.mul_lt_mul_right hp).2 hl2
    · have e : (last - place).toNat + f.fractionBits = mag.log2 := by omega
      have hp : 0 < 2 ^ (last - place).toNat := Nat.two_pow_pos _
      rw [← e] at hl1 hl2
      rw [he] at hl1 hl2
      rw [Nat.add_comm, Nat.pow_add] at hl1
      rw [show (last - place).toNat + f.fractionBits + 1 = (f.fractionBits + 1) + (last - place).toNat by omega, Nat.pow_add] at hl2
      constructor
      · exact Nat.le_of_mul_le_mul_right hl1 hp
      · have := Nat.lt_of_mul_lt_mul_right hl2
        rw [Nat.pow_succ] at this
        omega
  have hq0 : q ≠ 0 := by
    have : 0 < 2 ^ f.fractionBits := Nat.two_pow_pos _
    omega
  have hcut : Toward.even.cut s (mag <<< (place - last).toNat) (last - place).toNat = q := by
    rw [Nat.shiftLeft_eq]
    rcases hq with ⟨hle, rfl⟩ | ⟨hle, he⟩
    · rw [show (last - place).toNat = 0 by omega, cut_none]
    · rw [show (place - last).toNat = 0 by omega, Nat.pow_zero, Nat.mul_one, he, cut_exact _ _ _ _ hq0]
  have hBpos : 0 < f.binade := Nat.two_pow_pos _
  obtain ⟨t, ht⟩ : ∃ t : Nat, (t : Int) = last + K := ⟨(last + K).toNat, by omega⟩
  have htn : (last - f.leastPlace).toNat = t := by rw [ok.least]; omega
  have htb : t + 2 ≤ 2 ^ f.exponentBits - 1 := by have := ok.high; omega
  have hinf : t * f.binade + q < f.infRung := by
    have h2 : (t + 2) * f.binade ≤ (2 ^ f.exponentBits - 1) * f.binade := Nat.mul_le_mul_right _ htb
    unfold Format.infRung
    rw [Nat.add_mul] at h2
    omega
  have hd : (t * f.binade + q) / f.binade = t + 1 := by
    rw [show t * f.binade + q = f.binade * (t + 1) + (q - f.binade) by rw [Nat.mul_add, Nat.mul_comm]; omega, Nat.mul_add_div hBpos, Nat.div_eq_of_lt (by omega)]
  have hmo : (t * f.binade + q) % f.binade = q - f.binade := by
    rw [show t * f.binade + q = f.binade * (t + 1) + (q - f.binade) by rw [Nat.mul_add, Nat.mul_comm]; omega, Nat.mul_add_mod, Nat.mod_eq_of_lt (by omega)]
  unfold Format.nearest
  rw [if_neg hm]
  simp only [hmax, hcut, htn]
  rw [Nat.min_eq_left (Nat.le_of_lt hinf), read_word f s _ hinf, if_neg (by have : f.binade ≤ t * f.binade + q := Nat.le_trans hqb.1 (Nat.le_add_left _ _); omega), hd, hmo, ok.least]
  rw [show f.binade + (q - f.binade) = q by omega, show -(K : Int) + ((t + 1 - 1 : Nat) : Int) = last by omega]

/-- The sign and the digits of a whole number. -/
def NumZ (s : Bool) (m k : Nat) (n : Int) : Prop := m = n.natAbs * 2 ^ k ∧ (n ≠ 0 → s = decide (n < 0))
/-- The word stands for the whole number n; a zero may have either sign. -/
def FN (f : Format) (b : Nat) (n : Int) : Prop := ∃ (s : Bool) (m k : Nat), f.read b = .number s m (-(k : Int)) ∧ NumZ s m k n

theorem read_zero {f : Format} {K : Nat} (ok : OkF f K) (s : Bool) (p : Int) : f.read (f.nearest s 0 p) = .number s 0 (-(K : Int)) := by
  have hB : 0 < f.binade := Nat.two_pow_pos _
  have hinf : 0 < f.infRung := by
    unfold Format.infRung
    exact Nat.mul_pos (by have := ok.high; omega) hB
  unfold Format.nearest
  rw [if_pos rfl, read_word f s 0 hinf, if_pos hB, ok.least]
theorem FN_nearest {f : Format} {K : Nat} (ok : OkF f K) (s : Bool) (m k : Nat) (n : Int) (h : NumZ s m k n) (hn : n.natAbs < 2 ^ (f.fractionBits + 1)) : FN f (f.nearest s m (-(k : Int))) n := by
  obtain ⟨rfl, hs⟩ := h
  by_cases h0 : n = 0
  · subst h0
    rw [Int.natAbs_zero, Nat.zero_mul]
    exact ⟨s, 0, K, read_zero ok s _, by simp [NumZ]⟩
  · have hN : n.natAbs ≠ 0 := by omega
    have hlog : (n.natAbs * 2 ^ k).log2 = n.natAbs.log2 + k := log2_mul_pow _ _ hN
    have hle : n.natAbs.log2 ≤ f.fractionBits := by
      have := (Nat.log2_lt hN).2 hn
      omega
    have hp : 0 < 2 ^ k := Nat.two_pow_pos k
    refine ⟨s, n.natAbs * 2 ^ (f.fractionBits - n.natAbs.log2), f.fractionBits - n.natAbs.log2, read_nearest ok s _ _ _ _ (by have := Nat.mul_pos (show 0 < n.natAbs by omega) hp; omega) ?_ ?_ ?_ ?_, rfl, hs⟩
    · rw [hlog]; omega
    · have := ok.low; omega
    · omega
    · by_cases hk : k ≤ f.fractionBits - n.natAbs.log2
      · left
        refine ⟨by omega, ?_⟩
        rw [Nat.mul_assoc, ← Nat.pow_add]
        congr 2
        omega
      · right
        refine ⟨by omega, ?_⟩
        rw [Nat.mul_assoc, ← Nat.pow_add]
        congr 2
        omega

/-! ### sums and products -/
theorem signed_num {s : Bool} {m k : Nat} {n : Int} (h : NumZ s m k n) (up : Nat) : signed s m up = n * 2 ^ (k + up) := by
  obtain ⟨rfl, hs⟩ := h
  have e : ((n.natAbs * 2 ^ k) <<< up : Nat) = n.natAbs * 2 ^ (k + up) := by rw [Nat.shiftLeft_eq, Nat.mul_assoc, ← Nat.pow_add]
  unfold signed
  rw [e]
  by_cases h0 : n = 0
  · subst h0; simp
  · rw [hs h0]
    by_cases hn : n < 0
    · simp only [hn, decide_true, if_true]
      rw [Int.natCast_mul, Int.natCast_pow, ← Int.neg_mul, show -((n.natAbs : Nat) : Int) = n by omega]
      rfl
    · simp only [hn, decide_false, Bool.false_eq_true, if_false]
      rw [Int.natCast_mul, Int.natCast_pow, show ((n.natAbs : Nat) : Int) = n by omega]
      rfl
theorem natAbs_mul_pow (n : Int) (k : Nat) : (n * 2 ^ k).natAbs = n.natAbs * 2 ^ k := by
  rw [Int.natAbs_mul, Int.natAbs_pow]; rfl
theorem mul_pow_zero (n : Int) (k : Nat) : n * 2 ^ k = 0 ↔ n = 0 := by
  have : (2 : Int) ^ k ≠ 0 := by
    have := Nat.two_pow_pos k
    have h : ((2 : Int) ^ k) = ((2 ^ k : Nat) : Int) := by rw [Int.natCast_pow]; rfl
    rw [h]; omega
  constructor
  · intro h; rcases Int.mul_eq_zero.1 h with h | h
    · exact h
    · exact absurd h this
  · rintro rfl; simp
theorem mul_pow_neg (n : Int) (k : Nat) : n * 2 ^ k < 0 ↔ n < 0 := by
  have hp : (0 : Int) < 2 ^ k := by
    have := Nat.two_pow_pos k
    have h : ((2 : Int) ^ k) = ((2 ^ k : Nat) : Int) := by rw [Int.natCast_pow]; rfl
    rw [h]; omega
  constructor
  · intro h
    by_cases hn : n < 0
    · exact hn
    · have := Int.mul_nonneg (show 0 ≤ n by omega) (Int.le_of_lt hp)
      omega
  · intro h
    exact Int.mul_neg_of_neg_of_pos h hp
theorem sum_num {s t : Bool} {m n k l : Nat} {x y : Int} (hx : NumZ s m k x) (hy : NumZ t n l y) :
    ∃ (u : Bool) (g j : Nat), (Datum.number s m (-(k : Int))).sum (.number t n (-(l : Int))) = some (.number u g (-(j : Int))) ∧ NumZ u g j (x + y) := by
  have e1 := signed_num hx ((-(k : Int)) - min (-(k : Int)) (-(l : Int))).toNat
  have e2 := signed_num hy ((-(l : Int)) - min (-(k : Int)) (-(l : Int))).toNat
  rw [show k + ((-(k : Int)) - min (-(k : Int)) (-(l : Int))).toNat = max k l by omega] at e1
  rw [show l + ((-(l : Int)) - min (-(k : Int)) (-(l : Int))).toNat = max k l by omega] at e2
  refine ⟨_, _, max k l, by simp only [Datum.sum, e1, e2]; rw [show min (-(k : Int)) (-(l : Int)) = -((max k l : Nat) : Int) by omega], ?_⟩
  rw [← Int.add_mul]
  refine ⟨natAbs_mul_pow _ _, fun hne => ?_⟩
  rw [if_neg (by rw [mul_pow_zero]; exact hne)]
  have := mul_pow_neg (x + y) (max k l)
  by_cases h : x + y < 0 <;> simp [h, this]
theorem prod_num {s t : Bool} {m n k l : Nat} {x y : Int} (hx : NumZ s m k x) (hy : NumZ t n l y) :
    ∃ (u : Bool) (g j : Nat), (Datum.number s m (-(k : Int))).product (.number t n (-(l : Int))) = some (.number u g (-(j : Int))) ∧ NumZ u g j (x * y) := by
  refine ⟨s ^^ t, m * n, k + l, by simp only [Datum.product]; rw [show -(k : Int) + -(l : Int) = -((k + l : Nat) : Int) by omega], ?_, ?_⟩
  · rw [hx.1, hy.1, Int.natAbs_mul, Nat.pow_add, Nat.mul_mul_mul_comm]
  · intro hne
    have hx0 : x ≠ 0 := by rintro rfl; simp at hne
    have hy0 : y ≠ 0 := by rintro rfl; simp at hne
    rw [hx.2 hx0, hy.2 hy0]
    by_cases h1 : x < 0 <;> by_cases h2 : y < 0
    · have := Int.mul_pos_of_neg_of_neg h1 h2
      simp [h1, h2]; omega
    · have := Int.mul_neg_of_neg_of_pos h1 (show 0 < y by omega)
      simp [h1, h2]; omega
    · have := Int.mul_neg_of_pos_of_neg (show 0 < x by omega) h2
      simp [h1, h2]; omega
    · have := Int.mul_pos (show 0 < x by omega) (show 0 < y by omega)
      simp [h1, h2]; omega

def topF (k : FloatKind) : Nat := 2 ^ (k.format.fractionBits + 1)
theorem okK (k : FloatKind) : ∃ K, OkF k.format K := by
  cases k
  · exact ⟨_, ok32⟩
  · exact ⟨_, ok64⟩
abbrev FK (k : FloatKind) (b : Nat) (n : Int) : Prop := FN k.format b n
theorem FN_add {k : FloatKind} {a b : Nat} {x y : Int} (hx : FK k a x) (hy : FK k b y) (h : (x + y).natAbs < topF k) : ∃ r, floatBits .add k a b = some r ∧ FK k r (x + y) := by
  obtain ⟨s, m, i, e1, h1⟩ := hx
  obtain ⟨t, n, j, e2, h2⟩ := hy
  obtain ⟨u, g, l, e3, h3⟩ := sum_num h1 h2
  obtain ⟨K, ok⟩ := okK k
  refine ⟨k.format.nearest u g (-(l : Int)), ?_, FN_nearest ok u g l _ h3 h⟩
  show ((k.format.read a).sum (k.format.read b)).map k.format.write = _
  rw [e1, e2, e3]
  rfl
theorem NumZ.neg {s : Bool} {m k : Nat} {n : Int} (h : NumZ s m k n) : NumZ (!s) m k (-n) := by
  refine ⟨by rw [Int.natAbs_neg]; exact h.1, fun hn => ?_⟩
  rw [h.2 (by omega)]
  by_cases h1 : n < 0
  · have h2 : ¬ (-n < 0) := by omega
    simp [h1]; omega
  · have h2 : -n < 0 := by omega
    simp [h1]; omega
theorem FN_sub {k : FloatKind} {a b : Nat} {x y : Int} (hx : FK k a x) (hy : FK k b y) (h : (x - y).natAbs < topF k) : ∃ r, floatBits .sub k a b = some r ∧ FK k r (x - y) := by
  obtain ⟨s, m, i, e1, h1⟩ := hx
  obtain ⟨t, n, j, e2, h2⟩ := hy
  obtain ⟨u, g, l, e3, h3⟩ := sum_num h1 h2.neg
  obtain ⟨K, ok⟩ := okK k
  refine ⟨k.format.nearest u g (-(l : Int)), ?_, FN_nearest ok u g l _ h3 h⟩
  show ((k.format.read a).sum (k.format.read b).opposite).map k.format.write = _
  rw [e1, e2]
  show ((Datum.number s m (-(i : Int))).sum (.number (!t) n (-(j : Int)))).map _ = _
  rw [e3]
  rfl
theorem FN_mul {k : FloatKind} {a b : Nat} {x y : Int} (hx : FK k a x) (hy : FK k b y) (h : (x * y).natAbs < topF k) : ∃ r, floatBits .mul k a b = some r ∧ FK k r (x * y) := by
  obtain ⟨s, m, i, e1, h1⟩ := hx
  obtain ⟨t, n, j, e2, h2⟩ := hy
  obtain ⟨u, g, l, e3, h3⟩ := prod_num h1 h2
  obtain ⟨K, ok⟩ := okK k
  refine ⟨k.format.nearest u g (-(l : Int)), ?_, FN_nearest ok u g l _ h3 h⟩
  show ((k.format.read a).product (k.format.read b)).map k.format.write = _
  rw [e1, e2, e3]
  rfl
/-- From one kind to the other. -/
theorem FN_conv {s k : FloatKind} {a : Nat} {x : Int} (hx : FK s a x) (hne : s ≠ k) (h : x.natAbs < topF k) : ∃ r, floatToFloatBits s a k = some r ∧ FK k r x := by
  obtain ⟨u, m, i, e1, h1⟩ := hx
  obtain ⟨K, ok⟩ := okK k
  have hr := FN_nearest ok u m i x h1 h
  refine ⟨k.format.nearest u m (-(i : Int)), ?_, hr⟩
  unfold floatToFloatBits
  rw [if_neg hne]
  have e1' : s.decode a = .number u m (-(i : Int)) := e1
  rw [e1']
  obtain ⟨u', m', i', e2, _⟩ := hr
  have e3 : k.decode (k.encode (.number u m (-(i : Int)))) = .number u' m' (-(i' : Int)) := e2
  simp only [e3]
  rfl
theorem FN_toInt {k : FloatKind} {a : Nat} {x : Int} (hx : FK k a x) (h : -9223372036854775808 ≤ x ∧ x ≤ 9223372036854775807) : floatToIntVal k a .i64 = some x := by
  obtain ⟨s, m, i, e1, h1⟩ := hx
  have e2 : k.decode a = .number s m (-(i : Int)) := e1
  have e3 : (k.decode a).toInt .zero = some x := by
    rw [e2]
    simp only [Datum.toInt, Datum.integral]
    rw [show (-(i : Int)).toNat = 0 by omega, show (-(-(i : Int))).toNat = i by omega, Nat.shiftLeft_zero]
    have hc : Toward.zero.cut s m i = x.natAbs := by
      rw [h1.1]
      by_cases h0 : x = 0
      · subst h0; simp [Toward.cut]
      · exact cut_exact _ _ _ _ (by omega)
    rw [hc]
    have := signed_num (s := s) (m := x.natAbs) (k := 0) (n := x) ⟨by simp, h1.2⟩ 0
    rw [this]
    simp
  unfold floatToIntVal
  rw [e3]
  have hb : IntKind.i64.min ≤ x ∧ x ≤ IntKind.i64.max := by
    have h1 : IntKind.i64.min = -9223372036854775808 := by decide
    have h2 : IntKind.i64.max = 9223372036854775807 := by decide
    omega
  simp only [hb, and_self, if_true]
theorem FN_ofInt (k : FloatKind) (x : Int) (h : x.natAbs < topF k) : FK k (floatOfInt k x) x := by
  obtain ⟨K, ok⟩ := okK k
  have := FN_nearest ok (decide (x < 0)) x.natAbs 0 x ⟨by simp, fun _ => rfl⟩ h
  exact this
theorem FN_order {k : FloatKind} {a b : Nat} {x y : Int} (hx : FK k a x) (hy : FK k b y) : k.format.order a b = some (compare x y) := by
  obtain ⟨s, m, i, e1, h1⟩ := hx
  obtain ⟨t, n, j, e2, h2⟩ := hy
  have g1 := signed_num h1 ((-(i : Int)) - min (-(i : Int)) (-(j : Int))).toNat
  have g2 := signed_num h2 ((-(j : Int)) - min (-(i : Int)) (-(j : Int))).toNat
  rw [show i + ((-(i : Int)) - min (-(i : Int)) (-(j : Int))).toNat = max i j by omega] at g1
  rw [show j + ((-(j : Int)) - min (-(i : Int)) (-(j : Int))).toNat = max i j by omega] at g2
  unfold Format.order
  rw [e1, e2]
  simp only [Datum.order, g1, g2]
  congr 1
  have hp : (0 : Int) < 2 ^ (max i j) := by
    have := Nat.two_pow_pos (max i j)
    have h : ((2 : Int) ^ (max i j)) = ((2 ^ (max i j) : Nat) : Int) := by rw [Int.natCast_pow]; rfl
    rw [h]; omega
  have hlt : ∀ p q : Int, p * 2 ^ max i j < q * 2 ^ max i j ↔ p < q := fun p q => Int.mul_lt_mul_right hp
  have heq : x * 2 ^ max i j = y * 2 ^ max i j ↔ x = y := by
    constructor
    · intro h
      have a1 := hlt x y
      have a2 := hlt y x
      omega
    · rintro rfl; rfl
  simp only [compare, compareOfLessAndEq, hlt, heq]
theorem FN_eq {k : FloatKind} {a b : Nat} {x y : Int} (hx : FK k a x) (hy : FK k b y) : (k.format.order a b == some .eq) = decide (x = y) := by
  rw [FN_order hx hy]
  by_cases h : x = y
  · subst h
    simp [compare, compareOfLessAndEq]
  · by_cases h2 : x < y
    · simp [compare, compareOfLessAndEq, h, h2]
    · simp [compare, compareOfLessAndEq, h, h2]
end
end
section

/-- The value of the phase p times a Gaussian number. -/
def dtT (p : Int) (z : Int × Int) : Int × Int := (vx p * z.1 - vy p * z.2, vx p * z.2 + vy p * z.1)
/-- The determinant of the rows from i on, d of them, and of the columns cols. -/
def dt (M : Nat → Nat → Int) : Nat → Nat → List Nat → Int × Int
  | 0, _, _ => (1, 0)
  | d + 1, i, cols => (sumN (fun k => (dtT ((M i (cols.getD k 0) + 2 * (k : Int)) % 4) (dt M d (i + 1) (cols.eraseIdx k))).1) cols.length,
      sumN (fun k => (dtT ((M i (cols.getD k 0) + 2 * (k : Int)) % 4) (dt M d (i + 1) (cols.eraseIdx k))).2) cols.length)
def dtK (M : Nat → Nat → Int) (d i : Nat) (cols : List Nat) (k : Nat) : Int × Int := dtT ((M i (cols.getD k 0) + 2 * (k : Int)) % 4) (dt M d (i + 1) (cols.eraseIdx k))
theorem dt_succ (M : Nat → Nat → Int) (d i : Nat) (cols : List Nat) : dt M (d + 1) i cols = (sumN (fun k => (dtK M d i cols k).1) cols.length, sumN (fun k => (dtK M d i cols k).2) cols.length) := rfl
def fac : Nat → Int
  | 0 => 1
  | d + 1 => (d + 1 : Nat) * fac d
theorem dtT_small (p : Int) (z : Int × Int) (b : Int) (h1 : -b ≤ z.1 ∧ z.1 ≤ b) (h2 : -b ≤ z.2 ∧ z.2 ≤ b) (hp : 0 ≤ p ∧ p ≤ 3) : (-b ≤ (dtT p z).1 ∧ (dtT p z).1 ≤ b) ∧ (-b ≤ (dtT p z).2 ∧ (dtT p z).2 ≤ b) := by
  unfold dtT
  rcases (show p = 0 ∨ p = 1 ∨ p = 2 ∨ p = 3 by omega) with rfl | rfl | rfl | rfl
  · rw [show vx 0 = 1 from rfl, show vy 0 = 0 from rfl]; dsimp only; omega
  · rw [show vx 1 = 0 from rfl, show vy 1 = 1 from rfl]; dsimp only; omega
  · rw [show vx 2 = -1 from rfl, show vy 2 = 0 from rfl]; dsimp only; omega
  · rw [show vx 3 = 0 from rfl, show vy 3 = -1 from rfl]; dsimp only; omega
theorem sumN_upto (g : Nat → Int) (b : Int) (n : Nat) (hg : ∀ i, i < n → -b ≤ g i ∧ g i ≤ b) : ∀ k, k ≤ n → -((k : Int) * b) ≤ sumN g k ∧ sumN g k ≤ (k : Int) * b
  | 0, _ => by simp [sumN]
  | k + 1, h => by
    have h1 := sumN_upto g b n hg k (by omega)
    have h2 := hg k (by omega)
    have e : ((k + 1 : Nat) : Int) * b = (k : Int) * b + b := by rw [Int.natCast_add, Int.add_mul]; simp
    simp only [sumN]
    rw [e]
    omega
theorem dt_small (M : Nat → Nat → Int) : ∀ d i cols, cols.length = d → (-(fac d) ≤ (dt M d i cols).1 ∧ (dt M d i cols).1 ≤ fac d) ∧ (-(fac d) ≤ (dt M d i cols).2 ∧ (dt M d i cols).2 ≤ fac d)
  | 0, _, _, _ => by simp [dt, fac]
  | d + 1, i, cols, h => by
    have key : ∀ k, k < d + 1 → (-(fac d) ≤ (dtK M d i cols k).1 ∧ (dtK M d i cols k).1 ≤ fac d) ∧ (-(fac d) ≤ (dtK M d i cols k).2 ∧ (dtK M d i cols k).2 ≤ fac d) := fun k hk => by
      have ih := dt_small M d (i + 1) (cols.eraseIdx k) (by rw [List.length_eraseIdx_of_lt (by omega)]; omega)
      exact dtT_small _ _ _ ih.1 ih.2 (by omega)
    rw [dt_succ, h]
    have h1 := sumN_upto (fun k => (dtK M d i cols k).1) (fac d) (d + 1) (fun k hk => (key k hk).1) (d + 1) (Nat.le_refl _)
    have h2 := sumN_upto (fun k => (dtK M d i cols k).2) (fac d) (d + 1) (fun k hk => (key k hk).2) (d + 1) (Nat.le_refl _)
    exact ⟨h1, h2⟩
theorem dtK_small (M : Nat → Nat → Int) (d i : Nat) (cols : List Nat) (h : cols.length = d + 1) (k : Nat) (hk : k < d + 1) : (-(fac d) ≤ (dtK M d i cols k).1 ∧ (dtK M d i cols k).1 ≤ fac d) ∧ (-(fac d) ≤ (dtK M d i cols k).2 ∧ (dtK M d i cols k).2 ≤ fac d) := by
  have ih := dt_small M d (i + 1) (cols.eraseIdx k) (by rw [List.length_eraseIdx_of_lt (by omega)]; omega)
  exact dtT_small _ _ _ ih.1 ih.2 (by omega)
theorem fac_le : ∀ d, d ≤ 5 → 1 ≤ fac d ∧ fac d ≤ 120 := by decide
theorem fac_four : ∀ d, d ≤ 4 → 1 ≤ fac d ∧ fac d ≤ 24 ∧ (d : Int) * fac d ≤ 96 := by decide
/-- The columns below j that are not taken. -/
def freeC (T : Nat → Bool) (j : Nat) : List Nat := (List.range j).filter (fun c => !(T c))
def tkC (T : Nat → Bool) (j : Nat) : Nat → Bool := fun c => if c = j then true else T c
theorem freeC_no (T : Nat → Bool) (j : Nat) (h : T j = false) : freeC T (j + 1) = freeC T j ++ [j] := by
  unfold freeC; rw [List.range_succ, List.filter_append]; simp [h]
theorem freeC_yes (T : Nat → Bool) (j : Nat) (h : T j = true) : freeC T (j + 1) = freeC T j := by
  unfold freeC; rw [List.range_succ, List.filter_append]; simp [h]
theorem freeC_tk (T : Nat → Bool) (j : Nat) : ∀ k, k ≤ j → freeC (tkC T j) k = freeC T k
  | 0, _ => rfl
  | k + 1, h => by
    have ih := freeC_tk T j k (by omega)
    unfold freeC at ih ⊢
    rw [List.range_succ, List.filter_append, List.filter_append, ih]
    have : tkC T j k = T k := by unfold tkC; rw [if_neg (by omega)]
    rw [show List.filter (fun c => !(tkC T j c)) [k] = List.filter (fun c => !(T c)) [k] by simp only [List.filter, this]]
/-- All the columns: those below j, j, and the others. -/
theorem freeC_split (T : Nat → Bool) (j : Nat) (h : T j = false) : ∀ n, j < n → ∃ rest, freeC T n = freeC T j ++ j :: rest ∧ freeC (tkC T j) n = freeC T j ++ rest
  | 0, hn => absurd hn (Nat.not_lt_zero _)
  | n + 1, hn => by
    by_cases e : n = j
    · subst e
      refine ⟨[], freeC_no T n h, ?_⟩
      have ht : tkC T n n = true := by unfold tkC; rw [if_pos rfl]
      rw [freeC_yes _ _ ht, freeC_tk T n n (Nat.le_refl _), List.append_nil]
    · obtain ⟨rest, h1, h2⟩ := freeC_split T j h n (by omega)
      have hk : tkC T j n = T n := by unfold tkC; rw [if_neg e]
      cases ht : T n with
      | true =>
        rw [freeC_yes T n ht, freeC_yes (tkC T j) n (by rw [hk, ht])]
        exact ⟨rest, h1, h2⟩
      | false =>
        rw [freeC_no T n ht, freeC_no (tkC T j) n (by rw [hk, ht]), h1, h2]
        exact ⟨rest ++ [n], by simp, by simp⟩
theorem free_at (T : Nat → Bool) (j n : Nat) (h : T j = false) (hj : j < n) : (freeC T n).getD (freeC T j).length 0 = j ∧ (freeC T n).eraseIdx (freeC T j).length = freeC (tkC T j) n ∧ (freeC T j).length < (freeC T n).length := by
  obtain ⟨rest, h1, h2⟩ := freeC_split T j h n hj
  rw [h1, h2]
  refine ⟨by simp [List.getD], ?_, by simp⟩
  rw [List.eraseIdx_append_of_length_le (Nat.le_refl _)]
  simp
end
section
section
open Ieee

/-- The word stands for the whole number r, without a digit behind the point. -/
def NW (f : Format) (b : Nat) (r : Int) : Prop := ∃ (s : Bool) (m k : Nat), f.read b = .number s m (k : Int) ∧ r = signed s m k
theorem signed_add (s : Bool) (m a b : Nat) : signed s m (a + b) = signed s m a * 2 ^ b := by
  unfold signed
  rw [Nat.shiftLeft_add]
  cases s with
  | false =>
    simp only [Bool.false_eq_true, if_false]
    rw [Nat.shiftLeft_eq (m <<< a) b, Int.natCast_mul, Int.natCast_pow]; rfl
  | true =>
    simp only [if_true]
    rw [Nat.shiftLeft_eq (m <<< a) b, Int.natCast_mul, Int.natCast_pow, Int.neg_mul]; rfl
theorem NW_toInt {k : FloatKind} {b : Nat} {r : Int} (h : NW k.format b r) (hr : -9223372036854775808 ≤ r ∧ r ≤ 9223372036854775807) : floatToIntVal k b .i64 = some r := by
  obtain ⟨s, m, i, e1, h1⟩ := h
  have e2 : k.decode b = .number s m (i : Int) := e1
  have e3 : (k.decode b).toInt .zero = some r := by
    rw [e2]
    simp only [Datum.toInt, Datum.integral]
    rw [show ((i : Int)).toNat = i by omega, show (-(i : Int)).toNat = 0 by omega]
    have hc : Toward.zero.cut s (m <<< i) 0 = m <<< i := by simp [Toward.cut]
    rw [hc, h1]
    unfold signed
    simp
  unfold floatToIntVal
  rw [e3]
  have hb : IntKind.i64.min ≤ r ∧ r ≤ IntKind.i64.max := by
    have h1 : IntKind.i64.min = -9223372036854775808 := by decide
    have h2 : IntKind.i64.max = 9223372036854775807 := by decide
    omega
  simp only [hb, and_self, if_true]
theorem NW_ne {k : FloatKind} {b c : Nat} {r y : Int} (h : NW k.format b r) (hc : FK k c y) (hne : r ≠ y) : (k.format.order b c == some .eq) = false ∧ (k.format.order c b == some .eq) = false := by
  obtain ⟨s, m, i, e1, h1⟩ := h
  obtain ⟨t, n, j, e2, h2⟩ := hc
  have hmin : min ((i : Int)) (-(j : Int)) = -(j : Int) := by omega
  have hmin2 : min (-(j : Int)) ((i : Int)) = -(j : Int) := by omega
  have g1 : signed s m ((i : Int) - -(j : Int)).toNat = r * 2 ^ j := by
    rw [show ((i : Int) - -(j : Int)).toNat = i + j by omega, signed_add, h1]
  have g2 : signed t n (-(j : Int) - -(j : Int)).toNat = y * 2 ^ j := by
    have := signed_num h2 0
    rw [show (-(j : Int) - -(j : Int)).toNat = 0 by omega]
    simpa using this
  have hp : (0 : Int) < 2 ^ j := by
    have := Nat.two_pow_pos j
    have h : ((2 : Int) ^ j) = ((2 ^ j : Nat) : Int) := by rw [Int.natCast_pow]; rfl
    rw [h]; omega
  have hlt : ∀ p q : Int, p * 2 ^ j < q * 2 ^ j ↔ p < q := fun p q => Int.mul_lt_mul_right hp
  have heq : ∀ p q : Int, p * 2 ^ j = q * 2 ^ j ↔ p = q := fun p q => by
    constructor
    · intro h
      have a1 := hlt p q
      have a2 := hlt q p
      omega
    · rintro rfl; rfl
  unfold Format.order
  rw [e1, e2]
  simp only [Datum.order, hmin, hmin2, g1, g2]
  constructor
  · by_cases h2 : r < y
    · simp [compare, compareOfLessAndEq, hlt, h2]
    · simp [compare, compareOfLessAndEq, hlt, h2, heq, hne]
  · by_cases h2 : y < r
    · simp [compare, compareOfLessAndEq, hlt, h2]
    · simp [compare, compareOfLessAndEq, hlt, h2, heq]
      exact fun e => hne e.symm
/-- A number of 25 digits is written with one digit less. -/
theorem nearest_wide (s : Bool) (N k : Nat) (h1 : 16777216 ≤ N) (h2 : N < 33554432) : ∃ q, (N % 2 = 0 → 2 * q = N) ∧ 8388608 ≤ q ∧ q ≤ 16777216 ∧ (N ≤ 2 * q + 1 ∧ 2 * q ≤ N + 1) ∧ NW single (single.nearest s (N * 2 ^ k) (-(k : Int))) (signed s (2 * q) 0) := by
  have hN : N ≠ 0 := by omega
  have hlog : N.log2 = 24 := by
    have a1 : N.log2 < 25 := (Nat.log2_lt hN).2 (by omega)
    have a2 : ¬ N.log2 < 24 := fun h => by have := (Nat.log2_lt hN).1 h; omega
    omega
  have hp : 0 < 2 ^ k := Nat.two_pow_pos k
  have hm0 : N * 2 ^ k ≠ 0 := by have := Nat.mul_pos (show 0 < N by omega) hp; omega
  have hl : (N * 2 ^ k).log2 = 24 + k := by rw [log2_mul_pow N k hN, hlog]
  have hlast : max (-(k : Int) + ((N * 2 ^ k).log2 : Nat) - (single.fractionBits : Nat)) single.leastPlace = 1 := by
    rw [hl, ok32.least, show single.fractionBits = 23 from rfl]; omega
  have hcut : ∃ q, Toward.even.cut s ((N * 2 ^ k) <<< (-(k : Int) - 1).toNat) (1 - -(k : Int)).toNat = q ∧ (N % 2 = 0 → 2 * q = N) ∧ (N ≤ 2 * q + 1 ∧ 2 * q ≤ N + 1) := by
    rw [show (-(k : Int) - 1).toNat = 0 by omega, show (1 - -(k : Int)).toNat = k + 1 by omega, Nat.shiftLeft_zero]
    unfold Toward.cut
    have hmin : min (k + 1) ((N * 2 ^ k).log2 + 2) = k + 1 := by rw [hl]; omega
    simp only [hmin, Nat.shiftLeft_eq, Nat.one_mul]
    have hd : N * 2 ^ k / 2 ^ (k + 1) = N / 2 := by
      rw [Nat.pow_succ, Nat.mul_comm (2 ^ k) 2, Nat.mul_div_mul_right _ _ hp]
    have hmod : N * 2 ^ k % 2 ^ (k + 1) = N % 2 * 2 ^ k := by
      rw [Nat.pow_succ, Nat.mul_comm (2 ^ k) 2, Nat.mul_mod_mul_right]
    rw [hd, hmod]
    have hlt : ¬ (2 ^ (k + 1) < 2 * (N % 2 * 2 ^ k)) := by
      rw [Nat.pow_succ]
      have : N % 2 * 2 ^ k ≤ 1 * 2 ^ k := Nat.mul_le_mul_right _ (by omega)
      omega
    rcases (show N % 2 = 0 ∨ N % 2 = 1 by omega) with e | e
    · refine ⟨N / 2, ?_, by omega, by omega⟩
      have he : ¬ (2 ^ (k + 1) = 2 * (N % 2 * 2 ^ k)) := by rw [e, Nat.pow_succ]; omega
      simp [hlt, he]
    · by_cases ho : N / 2 % 2 = 1
      · refine ⟨N / 2 + 1, ?_, by omega, by omega⟩
        have he : 2 ^ (k + 1) = 2 * (N % 2 * 2 ^ k) := by rw [e, Nat.pow_succ]; omega
        simp [he, ho]
      · refine ⟨N / 2, ?_, by omega, by omega⟩
        simp [hlt, ho]
  obtain ⟨q, hq, hev, hq1, hq2⟩ := hcut
  refine ⟨q, hev, by omega, by omega, ⟨hq1, hq2⟩, ?_⟩
  have hB : single.binade = 8388608 := by decide
  have hI : single.infRung = 255 * 8388608 := by decide
  have hleast : single.leastPlace = -149 := by decide
  unfold Format.nearest
  rw [if_neg hm0]
  simp only [hlast, hq, hB, hI]
  rw [hleast, show ((1 : Int) - -149).toNat = 150 by omega, Nat.min_eq_left (by omega)]
  have hr := read_word single s (150 * 8388608 + q) (by rw [hI]; omega)
  rw [hB, if_neg (by omega), hleast] at hr
  by_cases hqe : q = 16777216
  · subst hqe
    refine ⟨s, 8388608, 2, ?_, ?_⟩
    · rw [hr]; rfl
    · unfold signed; rfl
  · refine ⟨s, q, 1, ?_, ?_⟩
    · rw [hr]
      have e1 : (150 * 8388608 + q) / 8388608 = 151 := by omega
      have e2 : 8388608 + (150 * 8388608 + q) % 8388608 = q := by omega
      rw [e1, e2]
      rfl
    · unfold signed
      rw [Nat.shiftLeft_zero, Nat.shiftLeft_eq, Nat.mul_comm]

/-- The word stands for n, rounded past 2^24. -/
def WD (b : Nat) (n : Int) : Prop := ∃ r, NW single b r ∧ 16777216 ≤ r.natAbs ∧ r.natAbs ≤ 33554432 ∧ (n % 2 = 0 → r = n) ∧ r.natAbs ≤ n.natAbs + 1
def FA (b : Nat) (n : Int) : Prop := (n.natAbs < 16777216 → FK .f32 b n) ∧ (16777216 ≤ n.natAbs → WD b n)
theorem FA_add {a b : Nat} {x y : Int} (hx : FK .f32 a x) (hy : FK .f32 b y) (h : (x + y).natAbs < 33554432) : ∃ r, floatBits .add .f32 a b = some r ∧ FA r (x + y) := by
  have ht : topF .f32 = 16777216 := by decide
  by_cases hs : (x + y).natAbs < 16777216
  · obtain ⟨r, e, f⟩ := FN_add hx hy (by rw [ht]; exact hs)
    exact ⟨r, e, fun _ => f, fun h2 => absurd hs (by omega)⟩
  · obtain ⟨s, m, i, e1, h1⟩ := hx
    obtain ⟨t, n, j, e2, h2⟩ := hy
    obtain ⟨u, g, l, e3, h3⟩ := sum_num h1 h2
    obtain ⟨q, hev, hq1, hq2, hq3, hnw⟩ := nearest_wide u (x + y).natAbs l (by omega) h
    refine ⟨single.nearest u g (-(l : Int)), ?_, fun hc => absurd hc hs, fun _ => ⟨signed u (2 * q) 0, by rw [h3.1]; exact hnw, ?_, ?_, ?_, ?_⟩⟩
    · show ((single.read a).sum (single.read b)).map single.write = _
      have e1' : single.read a = .number s m (-(i : Int)) := e1
      have e2' : single.read b = .number t n (-(j : Int)) := e2
      rw [e1', e2', e3]
      rfl
    · unfold signed; rw [Nat.shiftLeft_zero]; cases u <;> simp <;> omega
    · unfold signed; rw [Nat.shiftLeft_zero]; cases u <;> simp <;> omega
    · intro h0
      have hne : x + y ≠ 0 := by omega
      have hsg := h3.2 hne
      have := hev (by omega)
      unfold signed
      rw [Nat.shiftLeft_zero, this, hsg]
      by_cases hn : x + y < 0
      · simp only [hn, decide_true, if_true]; omega
      · simp only [hn, decide_false, Bool.false_eq_true, if_false]; omega
    · unfold signed; rw [Nat.shiftLeft_zero]; cases u <;> simp <;> omega
/-- What int() makes of it. -/
theorem FA_toInt {b : Nat} {n : Int} (h : FA b n) : ∃ r, floatToIntVal .f32 b .i64 = some r ∧ (n.natAbs < 16777216 → r = n) ∧ (16777216 ≤ n.natAbs → 16777216 ≤ r.natAbs ∧ r.natAbs ≤ n.natAbs + 1 ∧ (n % 2 = 0 → r = n)) := by
  by_cases hs : n.natAbs < 16777216
  · exact ⟨n, FN_toInt (h.1 hs) (by omega), fun _ => rfl, fun h2 => absurd hs (by omega)⟩
  · obtain ⟨r, h1, h2, h3, h4, h5⟩ := h.2 (by omega)
    exact ⟨r, NW_toInt (k := .f32) h1 (by omega), fun hc => absurd hc hs, fun _ => ⟨h2, h5, h4⟩⟩
theorem FA_eq {b c : Nat} {n y : Int} (h : FA b n) (hc : FK .f32 c y) (hy : y.natAbs < 16777216) : (FloatKind.f32.format.order b c == some .eq) = decide (n = y) := by
  by_cases hs : n.natAbs < 16777216
  · exact FN_eq (h.1 hs) hc
  · obtain ⟨r, h1, h2, h3, h4⟩ := h.2 (by omega)
    rw [(NW_ne (k := .f32) h1 hc (by rintro rfl; omega)).1, decide_eq_false (by rintro rfl; omega)]
theorem FA_of {b : Nat} {n : Int} (h : FK .f32 b n) (hn : n.natAbs < 16777216) : FA b n := ⟨fun _ => h, fun h2 => absurd hn (by omega)⟩

/-! ### phases' values times whole numbers -/
theorem FK_unit (k : Int) (h1 : 0 ≤ k) (h2 : k ≤ 3) : FK .f32 (f32of (vx k)) (vx k) ∧ FK .f32 (f32of (vy k)) (vy k) := by
  have z : FK .f32 (f32of 0) 0 := ⟨false, 0, 149, by decide, by unfold NumZ; decide⟩
  have p : FK .f32 (f32of 1) 1 := ⟨false, 8388608, 23, by decide, by unfold NumZ; decide⟩
  have m : FK .f32 (f32of (-1)) (-1) := ⟨true, 8388608, 23, by decide, by unfold NumZ; decide⟩
  rcases (show k = 0 ∨ k = 1 ∨ k = 2 ∨ k = 3 by omega) with rfl | rfl | rfl | rfl
  · exact ⟨p, z⟩
  · exact ⟨z, p⟩
  · exact ⟨m, z⟩
  · exact ⟨z, m⟩
theorem FC_mul32 {a b c d : Nat} {x y u v : Int} (ha : FK .f32 a x) (hb : FK .f32 b y) (hc : FK .f32 c u) (hd : FK .f32 d v) (hx : x.natAbs < 16777216) (hy : y.natAbs < 16777216) (hu : u.natAbs < 16777216) (hv : v.natAbs < 16777216)
    (h1 : (x * u).natAbs < 9007199254740992) (h2 : (y * v).natAbs < 9007199254740992) (h3 : (x * v).natAbs < 9007199254740992) (h4 : (y * u).natAbs < 9007199254740992)
    (h5 : (x * u - y * v).natAbs < 16777216) (h6 : (x * v + y * u).natAbs < 16777216) : ∃ re im, cMul32 a b c d = some (re, im) ∧ FK .f32 re (x * u - y * v) ∧ FK .f32 im (x * v + y * u) := by
  have t64 : topF .f64 = 9007199254740992 := by decide
  have t32 : topF .f32 = 16777216 := by decide
  have hne : FloatKind.f32 ≠ .f64 := by decide
  have hne' : FloatKind.f64 ≠ .f32 := by decide
  obtain ⟨a', ea, fa⟩ := FN_conv ha hne (by rw [t64]; omega)
  obtain ⟨b', eb, fb⟩ := FN_conv hb hne (by rw [t64]; omega)
  obtain ⟨c', ec, fc⟩ := FN_conv hc hne (by rw [t64]; omega)
  obtain ⟨d', ed, fd⟩ := FN_conv hd hne (by rw [t64]; omega)
  obtain ⟨r1, e1, f1⟩ := FN_mul fa fc (by rw [t64]; exact h1)
  obtain ⟨r2, e2, f2⟩ := FN_mul fb fd (by rw [t64]; exact h2)
  obtain ⟨r3, e3, f3⟩ := FN_sub f1 f2 (by rw [t64]; omega)
  obtain ⟨r4, e4, f4⟩ := FN_mul fa fd (by rw [t64]; exact h3)
  obtain ⟨r5, e5, f5⟩ := FN_mul fb fc (by rw [t64]; exact h4)
  obtain ⟨r6, e6, f6⟩ := FN_add f4 f5 (by rw [t64]; omega)
  obtain ⟨r7, e7, f7⟩ := FN_conv f3 hne' (by rw [t32]; exact h5)
  obtain ⟨r8, e8, f8⟩ := FN_conv f6 hne' (by rw [t32]; exact h6)
  exact ⟨r7, r8, by simp only [cMul32, cMulBits, ea, eb, ec, ed, e1, e2, e3, e4, e5, e6, e7, e8, Option.bind_some], f7, f8⟩
/-- A number times the value of a phase. -/
theorem FC_turn {a b : Nat} {x y : Int} (ha : FK .f32 a x) (hb : FK .f32 b y) (hx : x.natAbs < 16777216) (hy : y.natAbs < 16777216) (k : Int) (h1 : 0 ≤ k) (h2 : k ≤ 3) :
    ∃ re im, cMul32 a b (f32of (vx k)) (f32of (vy k)) = some (re, im) ∧ FK .f32 re (dtT k (x, y)).1 ∧ FK .f32 im (dtT k (x, y)).2 := by
  have hu := FK_unit k h1 h2
  have e1 : (dtT k (x, y)).1 = x * vx k - y * vy k := by unfold dtT; dsimp only; rw [Int.mul_comm (vx k), Int.mul_comm (vy k)]
  have e2 : (dtT k (x, y)).2 = x * vy k + y * vx k := by unfold dtT; dsimp only; rw [Int.mul_comm (vx k), Int.mul_comm (vy k), Int.add_comm]
  rw [e1, e2]
  rcases (show k = 0 ∨ k = 1 ∨ k = 2 ∨ k = 3 by omega) with rfl | rfl | rfl | rfl
  all_goals
    refine FC_mul32 ha hb hu.1 hu.2 hx hy (by decide) (by decide) ?_ ?_ ?_ ?_ ?_ ?_
    all_goals
      simp only [show vx 0 = 1 from rfl, show vy 0 = 0 from rfl, show vx 1 = 0 from rfl, show vy 1 = 1 from rfl, show vx 2 = -1 from rfl, show vy 2 = 0 from rfl, show vx 3 = 0 from rfl, show vy 3 = -1 from rfl]
      omega
end
end
end Go.Proofs.Ytfjhocmnafdnfaa
