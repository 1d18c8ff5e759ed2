/- Whole numbers as floats, exactly: what a word stands for; sums, differences, products, conversions, the order. Not by tables: out of how a word is read and written. -/
import Derived.Laws.ComplexArith
import Derived.Laws.FloatArith
import Derived.Laws.Cover3
namespace Go.Proofs.Ytapmehgdnofgnaa
set_option maxRecDepth 100000
section
open Ieee

/-! ### words and rungs -/
theorem read_word (f : Format) (s : Bool) (r : Nat) (h : r < f.infRung) :
    f.read (f.word s r) = if r < f.binade then .number s r f.leastPlace else .number s (f.binade + r % f.binade) (f.leastPlace + (r / f.binade - 1 : Nat)) := by
  have hw := Nat.lt_trans h f.infRung_lt
  have hp : 0 < f.signWeight := by omega
  have e0 : r / f.signWeight = 0 := Nat.div_eq_of_lt hw
  have e1 : r % f.signWeight = r := Nat.mod_eq_of_lt hw
  have e2 : (f.signWeight + r) / f.signWeight = 1 := by rw [Nat.add_div_left _ hp, e0]
  have e3 : (f.signWeight + r) % f.signWeight = r := by rw [Nat.add_mod_left, e1]
  cases s with
  | false =>
    unfold Format.read Format.word
    simp only [Bool.false_eq_true, if_false, e0, e1, h, if_true]
    rfl
  | true =>
    unfold Format.read Format.word
    simp only [if_true, e2, e3, h]
    rfl

theorem cut_none (s : Bool) (n : Nat) : Toward.even.cut s n 0 = n := by
  simp [Toward.cut]
  omega
theorem log2_mul_pow (q d : Nat) (hq : q ≠ 0) : (q * 2 ^ d).log2 = q.log2 + d := by
  induction d with
  | zero => simp
  | succ d ih =>
    rw [Nat.pow_succ, ← Nat.mul_assoc, Nat.mul_comm _ 2, Nat.log2_two_mul (by
      have : 0 < 2 ^ d := Nat.two_pow_pos d
      have : 0 < q * 2 ^ d := Nat.mul_pos (by omega) this
      omega), ih]
    omega
theorem cut_exact (w : Toward) (s : Bool) (q d : Nat) (hq : q ≠ 0) : w.cut s (q * 2 ^ d) d = q := by
  have hl := log2_mul_pow q d hq
  have hp : 0 < 2 ^ d := Nat.two_pow_pos d
  have hmin : min d (q.log2 + d + 2) = d := by omega
  unfold Toward.cut
  simp only [hl, hmin, Nat.shiftLeft_eq, Nat.one_mul, Nat.mul_div_cancel _ hp, Nat.mul_mod_left]
  cases w <;> simp <;> omega

structure OkF (f : Format) (K : Nat) : Prop where
  least : f.leastPlace = -(K : Int)
  low : f.fractionBits ≤ K
  high : K + f.fractionBits + 3 ≤ 2 ^ f.exponentBits - 1
theorem ok32 : OkF single 149 := ⟨by decide, by decide, by decide⟩
theorem ok64 : OkF double 1074 := ⟨by decide, by decide, by decide⟩

/-- A number whose digits all fit is read as it was written. -/
theorem read_nearest {f : Format} {K : Nat} (ok : OkF f K) (s : Bool) (mag : Nat) (place last : Int) (q : Nat) (hm : mag ≠ 0) (hlast : last = place + mag.log2 - f.fractionBits)
    (h0 : -(K : Int) ≤ last) (h1 : last ≤ f.fractionBits) (hq : (last ≤ place ∧ q = mag * 2 ^ (place - last).toNat) ∨ (place ≤ last ∧ mag = q * 2 ^ (last - place).toNat)) :
    f.read (f.nearest s mag place) = .number s q last := by
  have hB : f.binade = 2 ^ f.fractionBits := rfl
  have hmax : max (place + mag.log2 - f.fractionBits) f.leastPlace = last := by rw [ok.least]; omega
  have hl1 : 2 ^ mag.log2 ≤ mag := Nat.log2_self_le hm
  have hl2 : mag < 2 ^ (mag.log2 + 1) := Nat.lt_log2_self
  have hqb : f.binade ≤ q ∧ q < 2 * f.binade := by
    rw [hB]
    rcases hq with ⟨hle, rfl⟩ | ⟨hle, he⟩
    · have e : (place - last).toNat + mag.log2 = f.fractionBits := by omega
      have hp : 0 < 2 ^ (place - last).toNat := Nat.two_pow_pos _
      rw [← e, Nat.pow_add, Nat.mul_comm (2 ^ (place - last).toNat)]
      constructor
      · exact Nat.mul_le_mul_right _ hl1
      · rw [← Nat.mul_assoc, Nat.mul_comm 2, ← Nat.pow_succ]
        exact (Nat.mul_lt_mul_right hp).2 hl2
    · have e : (last - place).toNat + f.fractionBits = mag.log2 := by omega
      have hp : 0 < 2 ^ (last - place).toNat := Nat.two_pow_pos _
      rw [← e] at hl1 hl2
      rw [he] at hl1 hl2
      rw [Nat.add_comm, Nat.pow_add] at hl1
      rw [show (last - place).toNat + f.fractionBits + 1 = (f.fractionBits + 1) + (last - place).toNat by omega, Nat.pow_add] at hl2
      constructor
      · exact Nat.le_of_mul_le_mul_right hl1 hp
      · have := Nat.lt_of_mul_lt_mul_right hl2
        rw [Nat.pow_succ] at this
        omega
  have hq0 : q ≠ 0 := by
    have : 0 < 2 ^ f.fractionBits := Nat.two_pow_pos _
    omega
  have hcut : Toward.even.cut s (mag <<< (place - last).toNat) (last - place).toNat = q := by
    rw [Nat.shiftLeft_eq]
    rcases hq with ⟨hle, rfl⟩ | ⟨hle, he⟩
    · rw [show (last - place).toNat = 0 by omega, cut_none]
    · rw [show (place - last).toNat = 0 by omega, Nat.pow_zero, Nat.mul_one, he, cut_exact _ _ _ _ hq0]
  have hBpos : 0 < f.binade := Nat.two_pow_pos _
  obtain ⟨t, ht⟩ : ∃ t : Nat, (t : Int) = last + K := ⟨(last + K).toNat, by omega⟩
  have htn : (last - f.leastPlace).toNat = t := by rw [ok.least]; omega
  have htb : t + 2 ≤ 2 ^ f.exponentBits - 1 := by have := ok.high; omega
  have hinf : t * f.binade + q < f.infRung := by
    have h2 : (t + 2) * f.binade ≤ (2 ^ f.exponentBits - 1) * f.binade := Nat.mul_le_mul_right _ htb
    unfold Format.infRung
    rw [Nat.add_mul] at h2
    omega
  have hd : (t * f.binade + q) / f.binade = t + 1 := by
    rw [show t * f.binade + q = f.binade * (t + 1) + (q - f.binade) by rw [Nat.mul_add, Nat.mul_comm]; omega, Nat.mul_add_div hBpos, Nat.div_eq_of_lt (by omega)]
  have hmo : (t * f.binade + q) % f.binade = q - f.binade := by
    rw [show t * f.binade + q = f.binade * (t + 1) + (q - f.binade) by rw [Nat.mul_add, Nat.mul_comm]; omega, Nat.mul_add_mod, Nat.mod_eq_of_lt (by omega)]
  unfold Format.nearest
  rw [if_neg hm]
  simp only [hmax, hcut, htn]
  rw [Nat.min_eq_left (Nat.le_of_lt hinf), read_word f s _ hinf, if_neg (by have : f.binade ≤ t * f.binade + q := Nat.le_trans hqb.1 (Nat.le_add_left _ _); omega), hd, hmo, ok.least]
  rw [show f.binade + (q - f.binade) = q by omega, show -(K : Int) + ((t + 1 - 1 : Nat) : Int) = last by omega]

/-- The sign and the digits of a whole number. -/
def NumZ (s : Bool) (m k : Nat) (n : Int) : Prop := m = n.natAbs * 2 ^ k ∧ (n ≠ 0 → s = decide (n < 0))
/-- The word stands for the whole number n; a zero may have either sign. -/
def FN (f : Format) (b : Nat) (n : Int) : Prop := ∃ (s : Bool) (m k : Nat), f.read b = .number s m (-(k : Int)) ∧ NumZ s m k n

theorem read_zero {f : Format} {K : Nat} (ok : OkF f K) (s : Bool) (p : Int) : f.read (f.nearest s 0 p) = .number s 0 (-(K : Int)) := by
  have hB : 0 < f.binade := Nat.two_pow_pos _
  have hinf : 0 < f.infRung := by
    unfold Format.infRung
    exact Nat.mul_pos (by have := ok.high; omega) hB
  unfold Format.nearest
  rw [if_pos rfl, read_word f s 0 hinf, if_pos hB, ok.least]
theorem FN_nearest {f : Format} {K : Nat} (ok : OkF f K) (s : Bool) (m k : Nat) (n : Int) (h : NumZ s m k n) (hn : n.natAbs < 2 ^ (f.fractionBits + 1)) : FN f (f.nearest s m (-(k : Int))) n := by
  obtain ⟨rfl, hs⟩ := h
  by_cases h0 : n = 0
  · subst h0
    rw [Int.natAbs_zero, Nat.zero_mul]
    exact ⟨s, 0, K, read_zero ok s _, by simp [NumZ]⟩
  · have hN : n.natAbs ≠ 0 := by omega
    have hlog : (n.natAbs * 2 ^ k).log2 = n.natAbs.log2 + k := log2_mul_pow _ _ hN
    have hle : n.natAbs.log2 ≤ f.fractionBits := by
      have := (Nat.log2_lt hN).2 hn
      omega
    have hp : 0 < 2 ^ k := Nat.two_pow_pos k
    refine ⟨s, n.natAbs * 2 ^ (f.fractionBits - n.natAbs.log2), f.fractionBits - n.natAbs.log2, read_nearest ok s _ _ _ _ (by have := Nat.mul_pos (show 0 < n.natAbs by omega) hp; omega) ?_ ?_ ?_ ?_, rfl, hs⟩
    · rw [hlog]; omega
    · have := ok.low; omega
    · omega
    · by_cases hk : k ≤ f.fractionBits - n.natAbs.log2
      · left
        refine ⟨by omega, ?_⟩
        rw [Nat.mul_assoc, ← Nat.pow_add]
        congr 2
        omega
      · right
        refine ⟨by omega, ?_⟩
        rw [Nat.mul_assoc, ← Nat.pow_add]
        congr 2
        omega

/-! ### sums and products -/
theorem signed_num {s : Bool} {m k : Nat} {n : Int} (h : NumZ s m k n) (up : Nat) : signed s m up = n * 2 ^ (k + up) := by
  obtain ⟨rfl, hs⟩ := h
  have e : ((n.natAbs * 2 ^ k) <<< up : Nat) = n.natAbs * 2 ^ (k + up) := by rw [Nat.shiftLeft_eq, Nat.mul_assoc, ← Nat.pow_add]
  unfold signed
  rw [e]
  by_cases h0 : n = 0
  · subst h0; simp
  · rw [hs h0]
    by_cases hn : n < 0
    · simp only [hn, decide_true, if_true]
      rw [Int.natCast_mul, Int.natCast_pow, ← Int.neg_mul, show -((n.natAbs : Nat) : Int) = n by omega]
      rfl
    · simp only [hn, decide_false, Bool.false_eq_true, if_false]
      rw [Int.natCast_mul, Int.natCast_pow, show ((n.natAbs : Nat) : Int) = n by omega]
      rfl
theorem natAbs_mul_pow (n : Int) (k : Nat) : (n * 2 ^ k).natAbs = n.natAbs * 2 ^ k := by
  rw [Int.natAbs_mul, Int.natAbs_pow]; rfl
theorem mul_pow_zero (n : Int) (k : Nat) : n * 2 ^ k = 0 ↔ n = 0 := by
  have : (2 : Int) ^ k ≠ 0 := by
    have := Nat.two_pow_pos k
    have h : ((2 : Int) ^ k) = ((2 ^ k : Nat) : Int) := by rw [Int.natCast_pow]; rfl
    rw [h]; omega
  constructor
  · intro h; rcases Int.mul_eq_zero.1 h with h | h
    · exact h
    · exact absurd h this
  · rintro rfl; simp
theorem mul_pow_neg (n : Int) (k : Nat) : n * 2 ^ k < 0 ↔ n < 0 := by
  have hp : (0 : Int) < 2 ^ k := by
    have := Nat.two_pow_pos k
    have h : ((2 : Int) ^ k) = ((2 ^ k : Nat) : Int) := by rw [Int.natCast_pow]; rfl
    rw [h]; omega
  constructor
  · intro h
    by_cases hn : n < 0
    · exact hn
    · have := Int.mul_nonneg (show 0 ≤ n by omega) (Int.le_of_lt hp)
      omega
  · intro h
    exact Int.mul_neg_of_neg_of_pos h hp
theorem sum_num {s t : Bool} {m n k l : Nat} {x y : Int} (hx : NumZ s m k x) (hy : NumZ t n l y) :
    ∃ (u : Bool) (g j : Nat), (Datum.number s m (-(k : Int))).sum (.number t n (-(l : Int))) = some (.number u g (-(j : Int))) ∧ NumZ u g j (x + y) := by
  have e1 := signed_num hx ((-(k : Int)) - min (-(k : Int)) (-(l : Int))).toNat
  have e2 := signed_num hy ((-(l : Int)) - min (-(k : Int)) (-(l : Int))).toNat
  rw [show k + ((-(k : Int)) - min (-(k : Int)) (-(l : Int))).toNat = max k l by omega] at e1
  rw [show l + ((-(l : Int)) - min (-(k : Int)) (-(l : Int))).toNat = max k l by omega] at e2
  refine ⟨_, _, max k l, by simp only [Datum.sum, e1, e2]; rw [show min (-(k : Int)) (-(l : Int)) = -((max k l : Nat) : Int) by omega], ?_⟩
  rw [← Int.add_mul]
  refine ⟨natAbs_mul_pow _ _, fun hne => ?_⟩
  rw [if_neg (by rw [mul_pow_zero]; exact hne)]
  have := mul_pow_neg (x + y) (max k l)
  by_cases h : x + y < 0 <;> simp [h, this]
theorem prod_num {s t : Bool} {m n k l : Nat} {x y : Int} (hx : NumZ s m k x) (hy : NumZ t n l y) :
    ∃ (u : Bool) (g j : Nat), (Datum.number s m (-(k : Int))).product (.number t n (-(l : Int))) = some (.number u g (-(j : Int))) ∧ NumZ u g j (x * y) := by
  refine ⟨s ^^ t, m * n, k + l, by simp only [Datum.product]; rw [show -(k : Int) + -(l : Int) = -((k + l : Nat) : Int) by omega], ?_, ?_⟩
  · rw [hx.1, hy.1, Int.natAbs_mul, Nat.pow_add, Nat.mul_mul_mul_comm]
  · intro hne
    have hx0 : x ≠ 0 := by rintro rfl; simp at hne
    have hy0 : y ≠ 0 := by rintro rfl; simp at hne
    rw [hx.2 hx0, hy.2 hy0]
    by_cases h1 : x < 0 <;> by_cases h2 : y < 0
    · have := Int.mul_pos_of_neg_of_neg h1 h2
      simp [h1, h2]; omega
    · have := Int.mul_neg_of_neg_of_pos h1 (show 0 < y by omega)
      simp [h1, h2]; omega
    · have := Int.mul_neg_of_pos_of_neg (show 0 < x by omega) h2
      simp [h1, h2]; omega
    · have := Int.mul_pos (show 0 < x by omega) (show 0 < y by omega)
      simp [h1, h2]; omega

def topF (k : FloatKind) : Nat := 2 ^ (k.format.fractionBits + 1)
theorem okK (k : FloatKind) : ∃ K, OkF k.format K := by
  cases k
  · exact ⟨_, ok32⟩
  · exact ⟨_, ok64⟩
abbrev FK (k : FloatKind) (b : Nat) (n : Int) : Prop := FN k.format b n
theorem FN_add {k : FloatKind} {a b : Nat} {x y : Int} (hx : FK k a x) (hy : FK k b y) (h : (x + y).natAbs < topF k) : ∃ r, floatBits .add k a b = some r ∧ FK k r (x + y) := by
  obtain ⟨s, m, i, e1, h1⟩ := hx
  obtain ⟨t, n, j, e2, h2⟩ := hy
  obtain ⟨u, g, l, e3, h3⟩ := sum_num h1 h2
  obtain ⟨K, ok⟩ := okK k
  refine ⟨k.format.nearest u g (-(l : Int)), ?_, FN_nearest ok u g l _ h3 h⟩
  show ((k.format.read a).sum (k.format.read b)).map k.format.write = _
  rw [e1, e2, e3]
  rfl
theorem NumZ.neg {s : Bool} {m k : Nat} {n : Int} (h : NumZ s m k n) : NumZ (!s) m k (-n) := by
  refine ⟨by rw [Int.natAbs_neg]; exact h.1, fun hn => ?_⟩
  rw [h.2 (by omega)]
  by_cases h1 : n < 0
  · have h2 : ¬ (-n < 0) := by omega
    simp [h1]; omega
  · have h2 : -n < 0 := by omega
    simp [h1]; omega
theorem FN_sub {k : FloatKind} {a b : Nat} {x y : Int} (hx : FK k a x) (hy : FK k b y) (h : (x - y).natAbs < topF k) : ∃ r, floatBits .sub k a b = some r ∧ FK k r (x - y) := by
  obtain ⟨s, m, i, e1, h1⟩ := hx
  obtain ⟨t, n, j, e2, h2⟩ := hy
  obtain ⟨u, g, l, e3, h3⟩ := sum_num h1 h2.neg
  obtain ⟨K, ok⟩ := okK k
  refine ⟨k.format.nearest u g (-(l : Int)), ?_, FN_nearest ok u g l _ h3 h⟩
  show ((k.format.read a).sum (k.format.read b).opposite).map k.format.write = _
  rw [e1, e2]
  show ((Datum.number s m (-(i : Int))).sum (.number (!t) n (-(j : Int)))).map _ = _
  rw [e3]
  rfl
theorem FN_mul {k : FloatKind} {a b : Nat} {x y : Int} (hx : FK k a x) (hy : FK k b y) (h : (x * y).natAbs < topF k) : ∃ r, floatBits .mul k a b = some r ∧ FK k r (x * y) := by
  obtain ⟨s, m, i, e1, h1⟩ := hx
  obtain ⟨t, n, j, e2, h2⟩ := hy
  obtain ⟨u, g, l, e3, h3⟩ := prod_num h1 h2
  obtain ⟨K, ok⟩ := okK k
  refine ⟨k.format.nearest u g (-(l : Int)), ?_, FN_nearest ok u g l _ h3 h⟩
  show ((k.format.read a).product (k.format.read b)).map k.format.write = _
  rw [e1, e2, e3]
  rfl
/-- From one kind to the other. -/
theorem FN_conv {s k : FloatKind} {a : Nat} {x : Int} (hx : FK s a x) (hne : s ≠ k) (h : x.natAbs < topF k) : ∃ r, floatToFloatBits s a k = some r ∧ FK k r x := by
  obtain ⟨u, m, i, e1, h1⟩ := hx
  obtain ⟨K, ok⟩ := okK k
  have hr := FN_nearest ok u m i x h1 h
  refine ⟨k.format.nearest u m (-(i : Int)), ?_, hr⟩
  unfold floatToFloatBits
  rw [if_neg hne]
  have e1' : s.decode a = .number u m (-(i : Int)) := e1
  rw [e1']
  obtain ⟨u', m', i', e2, _⟩ := hr
  have e3 : k.decode (k.encode (.number u m (-(i : Int)))) = .number u' m' (-(i' : Int)) := e2
  simp only [e3]
  rfl
theorem FN_toInt {k : FloatKind} {a : Nat} {x : Int} (hx : FK k a x) (h : -9223372036854775808 ≤ x ∧ x ≤ 9223372036854775807) : floatToIntVal k a .i64 = some x := by
  obtain ⟨s, m, i, e1, h1⟩ := hx
  have e2 : k.decode a = .number s m (-(i : Int)) := e1
  have e3 : (k.decode a).toInt .zero = some x := by
    rw [e2]
    simp only [Datum.toInt, Datum.integral]
    rw [show (-(i : Int)).toNat = 0 by omega, show (-(-(i : Int))).toNat = i by omega, Nat.shiftLeft_zero]
    have hc : Toward.zero.cut s m i = x.natAbs := by
      rw [h1.1]
      by_cases h0 : x = 0
      · subst h0; simp [Toward.cut]
      · exact cut_exact _ _ _ _ (by omega)
    rw [hc]
    have := signed_num (s := s) (m := x.natAbs) (k := 0) (n := x) ⟨by simp, h1.2⟩ 0
    rw [this]
    simp
  unfold floatToIntVal
  rw [e3]
  have hb : IntKind.i64.min ≤ x ∧ x ≤ IntKind.i64.max := by
    have h1 : IntKind.i64.min = -9223372036854775808 := by decide
    have h2 : IntKind.i64.max = 9223372036854775807 := by decide
    omega
  simp only [hb, and_self, if_true]
theorem FN_ofInt (k : FloatKind) (x : Int) (h : x.natAbs < topF k) : FK k (floatOfInt k x) x := by
  obtain ⟨K, ok⟩ := okK k
  have := FN_nearest ok (decide (x < 0)) x.natAbs 0 x ⟨by simp, fun _ => rfl⟩ h
  exact this
theorem FN_order {k : FloatKind} {a b : Nat} {x y : Int} (hx : FK k a x) (hy : FK k b y) : k.format.order a b = some (compare x y) := by
  obtain ⟨s, m, i, e1, h1⟩ := hx
  obtain ⟨t, n, j, e2, h2⟩ := hy
  have g1 := signed_num h1 ((-(i : Int)) - min (-(i : Int)) (-(j : Int))).toNat
  have g2 := signed_num h2 ((-(j : Int)) - min (-(i : Int)) (-(j : Int))).toNat
  rw [show i + ((-(i : Int)) - min (-(i : Int)) (-(j : Int))).toNat = max i j by omega] at g1
  rw [show j + ((-(j : Int)) - min (-(i : Int)) (-(j : Int))).toNat = max i j by omega] at g2
  unfold Format.order
  rw [e1, e2]
  simp only [Datum.order, g1, g2]
  congr 1
  have hp : (0 : Int) < 2 ^ (max i j) := by
    have := Nat.two_pow_pos (max i j)
    have h : ((2 : Int) ^ (max i j)) = ((2 ^ (max i j) : Nat) : Int) := by rw [Int.natCast_pow]; rfl
    rw [h]; omega
  have hlt : ∀ p q : Int, p * 2 ^ max i j < q * 2 ^ max i j ↔ p < q := fun p q => Int.mul_lt_mul_right hp
  have heq : x * 2 ^ max i j = y * 2 ^ max i j ↔ x = y := by
    constructor
    · intro h
      have a1 := hlt x y
      have a2 := hlt y x
      omega
    · rintro rfl; rfl
  simp only [compare, compareOfLessAndEq, hlt, heq]
theorem FN_eq {k : FloatKind} {a b : Nat} {x y : Int} (hx : FK k a x) (hy : FK k b y) : (k.format.order a b == some .eq) = decide (x = y) := by
  rw [FN_order hx hy]
  by_cases h : x = y
  · subst h
    simp [compare, compareOfLessAndEq]
  · by_cases h2 : x < y
    · simp [compare, compareOfLessAndEq, h, h2]
    · simp [compare, compareOfLessAndEq, h, h2]
end
end Go.Proofs.Ytapmehgdnofgnaa
