/- Points: phases times a scale, signals turned. -/
import Derived.Test.YtfjhocmnafdnfaaMoM
import Derived.Test.YtfjhocmnafdnfaaNrM
import Derived.Test.YtfjhocmnafdnfaaMvM
import Derived.Test.YtfjhocmnafdnfaaFxA
namespace Go.Proofs.Ytfjhocmnafdnfaa
set_option maxRecDepth 100000
open Go.RowKit

/-! ### phases times a scale -/
def scX (s : List Int) (k : Int) (i : Nat) : Int := k * vx (s.getD i 0)
def scY (s : List Int) (k : Int) (i : Nat) : Int := k * vy (s.getD i 0)
def scL (s : List Int) (k : Int) : List (Int × Int) := genG s.length (scX s k) (scY s k)
/-- What the program asks of a list and a scale. -/
def scOk (s : List Int) (k : Int) : Bool := inB k 1 1000 && decide (s.length ≤ 48)
theorem vx4 (k : Int) (B : Int) (x : Int) (h : 0 ≤ k ∧ k ≤ 3) (hx : 0 ≤ x ∧ x ≤ B) : -B ≤ x * vx k ∧ x * vx k ≤ B ∧ -B ≤ x * vy k ∧ x * vy k ≤ B := by
  rcases (show k = 0 ∨ k = 1 ∨ k = 2 ∨ k = 3 by omega) with rfl | rfl | rfl | rfl <;> simp [vx, vy] <;> omega
theorem sc_le {s : List Int} {k : Int} (hs : allIn s 0 3 = true) (hk : 0 ≤ k ∧ k ≤ 1000) (i : Nat) (hi : i < s.length) : good (scX s k i) (scY s k i) = true := by
  have hb := vx4 (s.getD i 0) 1000 k (allIn_getD hs i hi) hk
  unfold scX scY good
  rw [decide_eq_true_eq]
  omega
theorem sc_good {s : List Int} {k : Int} (hs : allIn s 0 3 = true) (hk : 0 ≤ k ∧ k ≤ 1000) : goodL (scL s k) = true := goodL_gen (fun i hi => sc_le hs hk i hi)
theorem scL_len (s : List Int) (k : Int) : (scL s k).length = s.length := genG_length _ _ _
def poOk (s : List Int) (k : Int) : Bool := isSeq s && inB k 1 1000
def poF (s : List Int) (k : Int) : List (Int × Int) := if poOk s k then scL s k else []
theorem poF_len (s : List Int) (k : Int) : (poF s k).length ≤ 1048576 := by
  unfold poF
  split
  · next h => have := isSeq_len (by unfold poOk at h; exact (Bool.and_eq_true_iff.1 h).1 : isSeq s = true); rw [scL_len]; omega
  · simp
/-! ### signals turned -/
def tuX (X Y : Nat → Int) (k : Int) (i : Nat) : Int := mulX (X i) (Y i) (vx k) (vy k)
def tuY (X Y : Nat → Int) (k : Int) (i : Nat) : Int := mulY (X i) (Y i) (vx k) (vy k)
def tuL (l : List (Int × Int)) (k : Int) : List (Int × Int) := genG l.length (tuX (gre l) (gim l) k) (tuY (gre l) (gim l) k)
theorem tu_le {x y B : Int} {k : Int} (h1 : -B ≤ x ∧ x ≤ B) (h2 : -B ≤ y ∧ y ≤ B) (h : 0 ≤ k ∧ k ≤ 3) : (-B ≤ mulX x y (vx k) (vy k) ∧ mulX x y (vx k) (vy k) ≤ B) ∧ (-B ≤ mulY x y (vx k) (vy k) ∧ mulY x y (vx k) (vy k) ≤ B) := by
  rcases (show k = 0 ∨ k = 1 ∨ k = 2 ∨ k = 3 by omega) with rfl | rfl | rfl | rfl <;> simp [vx, vy, mulX, mulY] <;> omega
theorem tu_good {l : List (Int × Int)} {k : Int} (hg : goodL l = true) (h : 0 ≤ k ∧ k ≤ 3) (i : Nat) (hi : i < l.length) : good (tuX (gre l) (gim l) k i) (tuY (gre l) (gim l) k i) = true := by
  have hh := good_in (goodL_at hg i hi)
  have := tu_le hh.1 hh.2 h
  unfold tuX tuY good
  rw [decide_eq_true_eq]
  exact this
theorem tuL_good {l : List (Int × Int)} {k : Int} (hg : goodL l = true) (h : 0 ≤ k ∧ k ≤ 3) : goodL (tuL l k) = true := goodL_gen (fun i hi => tu_good hg h i hi)
theorem tuL_len (l : List (Int × Int)) (k : Int) : (tuL l k).length = l.length := genG_length _ _ _
def tpOk (l : List (Int × Int)) (k : Int) : Bool := sgOk l && inB k 0 3
def tpF (l : List (Int × Int)) (k : Int) : List (Int × Int) := if tpOk l k then tuL l k else []
theorem tpF_len (l : List (Int × Int)) (k : Int) : (tpF l k).length ≤ 1048576 := by
  unfold tpF
  split
  · next h => have := sgOk_len (by unfold tpOk at h; exact (Bool.and_eq_true_iff.1 h).1 : sgOk l = true); rw [tuL_len]; omega
  · simp
/-! ### the program's numbers -/
/-- The words of a product. -/
def mulC (a b c d : Nat) : Nat × Nat := (cMul32 a b c d).getD (0, 0)
theorem mulC_some {a b c d re im : Nat} (h : cMul32 a b c d = some (re, im)) : cMul32 a b c d = some ((mulC a b c d).1, (mulC a b c d).2) ∧ (mulC a b c d).1 = re ∧ (mulC a b c d).2 = im := by
  unfold mulC
  rw [h]
  exact ⟨rfl, rfl, rfl⟩
/-- A number of at most a million each part, times the value of a phase. -/
theorem mulC_turn {a b : Nat} {x y : Int} (ha : FK .f32 a x) (hb : FK .f32 b y) (hx : -1000000 ≤ x ∧ x ≤ 1000000) (hy : -1000000 ≤ y ∧ y ≤ 1000000) (k : Int) (hk : 0 ≤ k ∧ k ≤ 3) :
    cMul32 a b (f32of (vx k)) (f32of (vy k)) = some ((mulC a b (f32of (vx k)) (f32of (vy k))).1, (mulC a b (f32of (vx k)) (f32of (vy k))).2) ∧ FK .f32 (mulC a b (f32of (vx k)) (f32of (vy k))).1 (mulX x y (vx k) (vy k)) ∧ FK .f32 (mulC a b (f32of (vx k)) (f32of (vy k))).2 (mulY x y (vx k) (vy k)) := by
  have hu := FK_unit k hk.1 hk.2
  have hv1 := vx_one k
  have hv2 := vy_one k
  have hle := tu_le hx hy hk
  have hb1 : (x * vx k).natAbs ≤ 1000000 ∧ (y * vy k).natAbs ≤ 1000000 ∧ (x * vy k).natAbs ≤ 1000000 ∧ (y * vx k).natAbs ≤ 1000000 := by
    rcases (show k = 0 ∨ k = 1 ∨ k = 2 ∨ k = 3 by omega) with rfl | rfl | rfl | rfl <;> simp [vx, vy] <;> omega
  have e1 : mulX x y (vx k) (vy k) = x * vx k - y * vy k := rfl
  have e2 : mulY x y (vx k) (vy k) = x * vy k + y * vx k := rfl
  rw [e1, e2] at hle
  obtain ⟨re, im, e, f1, f2⟩ := FC_mul32 ha hb hu.1 hu.2 (by omega) (by omega) (by omega) (by omega) (by omega) (by omega) (by omega) (by omega) (by omega) (by omega)
  obtain ⟨g1, g2, g3⟩ := mulC_some e
  refine ⟨g1, ?_, ?_⟩
  · rw [g2, e1]; exact f1
  · rw [g3, e2]; exact f2
/-! ### frames sent -/
def sfAll (known bits : List Int) : List Int := known ++ fsL (known.getD (known.length - 1) 0) (moL bits)
def sfOk (known bits : List Int) (k : Int) : Bool := isSeq known && decide (1 ≤ known.length) && seOk bits && inB k 1 1000 && decide (known.length + bits.length / 2 ≤ 48)
def sfF (known bits : List Int) (k : Int) : List (Int × Int) := if sfOk known bits k then scL (sfAll known bits) k else []
theorem sfAll_length (known bits : List Int) : (sfAll known bits).length = known.length + bits.length / 2 := by unfold sfAll; rw [List.length_append, fsL_length, moL_length]
theorem sfF_len (known bits : List Int) (k : Int) : (sfF known bits k).length ≤ 1048576 := by
  unfold sfF
  split
  · next h => simp [sfOk] at h; rw [scL_len, sfAll_length]; omega
  · simp
theorem sfAll_all {known bits : List Int} (h : isSeq known = true) : allIn (sfAll known bits) 0 3 = true := by
  unfold sfAll allIn
  rw [List.all_append]
  have h1 := isSeq_all h
  have h2 := fsL_all (known.getD (known.length - 1) 0) (moL bits)
  unfold allIn at h1 h2
  rw [h1, h2]
  rfl
end Go.Proofs.Ytfjhocmnafdnfaa
