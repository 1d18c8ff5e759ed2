/- Sums of values: what the program and the model add up; the block of a result. Small whole numbers as float32, and the program's values of phases. A Gaussian number out of a complex64. The program's conjugateValue and normOfSum. Correlations as sums over the index: plain mathematics. Side energies and peaks: plain mathematics. The program's aperiodic: a sum over the index. -/
import Derived.Test.YtfjhocmnafdnfaaKit
import Derived.Test.YtfjhocmnafdnfaaFlt
import Derived.Test.YtfjhocmnafdnfaaPhs
namespace Go.Proofs.Ytfjhocmnafdnfaa
set_option maxRecDepth 100000
section
open Go.RowKit

def sumF (f : Int → Int) : List Int → Int
  | [] => 0
  | x :: t => f x + sumF f t
theorem sumF_take_succ (f : Int → Int) (l : List Int) (k : Nat) (h : k < l.length) : sumF f (l.take (k + 1)) = sumF f (l.take k) + f (l.getD k 0) := by
  induction l generalizing k with
  | nil => simp at h
  | cons x t ih =>
    cases k with
    | zero => simp [sumF]
    | succ k =>
      simp only [List.take_succ_cons, sumF, List.getD_cons_succ]
      rw [ih k (by simpa using h)]
      omega
theorem sumF_bound (f : Int → Int) (hf : ∀ x, -1 ≤ f x ∧ f x ≤ 1) (l : List Int) : -(l.length : Int) ≤ sumF f l ∧ sumF f l ≤ l.length := by
  induction l with
  | nil => simp [sumF]
  | cons x t ih =>
    have := hf x
    simp only [sumF, List.length_cons]
    omega
theorem sum_small (f : Int → Int) (hf : ∀ x, -1 ≤ f x ∧ f x ≤ 1) (l : List Int) (h : l.length ≤ 32) (k : Nat) (hk : k ≤ l.length) : -32 ≤ sumF f (l.take k) ∧ sumF f (l.take k) ≤ 32 := by
  have := sumF_bound f hf (l.take k)
  rw [List.length_take] at this
  omega
def sumX (l : List Int) : Int := if isSeq l then sumF vx l else 0
def sumY (l : List Int) : Int := if isSeq l then sumF vy l else 0
theorem run_sum (w : World) (t : TypeId) (X Y a b : Int) (h1 : -33 ≤ X) (h2 : X ≤ 33) (h3 : -33 ≤ Y) (h4 : Y ≤ 33) (h5 : -1 ≤ a ∧ a ≤ 1) (h6 : -1 ≤ b ∧ b ≤ 1) :
    (binOp .add t (.complex .f32 (f32of X) (f32of Y)) (.complex .f32 (f32of a) (f32of b))).run Try.prog w = .ok (.complex .f32 (f32of (X + a)) (f32of (Y + b))) w :=
  run_complex_sum w .add (Or.inl rfl) t .f32 _ _ _ _ _ _ (by unfold cSumBits; rw [f32_add X a h1 h2 h5.1 h5.2, f32_add Y b h3 h4 h6.1 h6.2]; rfl)

/-- The call's zero Gauss block, at the first place behind w, and w below. -/
structure ZG (w wr : World) : Prop where
  below : Below w.heap.size w wr
  c0 : wr.cell? ⟨w.heap.size, 0, none⟩ = some (.int .i64 0)
  c1 : wr.cell? ⟨w.heap.size, 1, none⟩ = some (.int .i64 0)
  f0 : wr.frozen? ⟨w.heap.size, 0, none⟩ = false
  f1 : wr.frozen? ⟨w.heap.size, 1, none⟩ = false
  size : w.heap.size < wr.heap.size
theorem ZG.start (w : World) (T : TypeId) : ZG w (w.alloc (.cells #[.int .i64 0, .int .i64 0] T)) :=
  ⟨belowa (Below.refl _ _) _, cell_new0 _ _ _ _, cell_new1 _ _ _ _, World.frozen?_alloc_new .., World.frozen?_alloc_new .., by simp⟩
theorem ZG.step {w wr w' : World} (h : ZG w wr) (hb : Below wr.heap.size wr w') : ZG w w' :=
  ⟨joins h.below hb, keepc hb h.c0, keepc hb h.c1, (hb.frozen (p := ⟨w.heap.size, 0, none⟩) h.size).trans h.f0, (hb.frozen (p := ⟨w.heap.size, 1, none⟩) h.size).trans h.f1, Nat.lt_of_lt_of_le h.size hb.size⟩
theorem ZG.ret {w w1 : World} (h : ZG w w1) (p q : Value) :
    (w1.setCell ⟨w.heap.size, 0, none⟩ p).cell? ⟨w.heap.size, 0, none⟩ = some p ∧
    ((w1.setCell ⟨w.heap.size, 0, none⟩ p).setCell ⟨w.heap.size, 1, none⟩ q).cell? ⟨w.heap.size, 1, none⟩ = some q ∧
    Below w.heap.size w ((w1.setCell ⟨w.heap.size, 0, none⟩ p).setCell ⟨w.heap.size, 1, none⟩ q) := by
  refine ⟨World.cell?_setCell_same _ _ _ h.c0, World.cell?_setCell_same _ _ _ ((World.cell?_setCell_other _ _ _ _ (by simp)).trans h.c1), belows (belows h.below (Nat.le_refl _) _) (Nat.le_refl _) _⟩
theorem IS.step {w wr : World} {v : Value} {l : List Int} (h : IS w v l) (hz : ZG w wr) : IS wr v l := h.below hz.below

end
section
open Go.RowKit

theorem store_complex {P : Program} (w : World) (a : Addr) (k : FloatKind) (x y : Nat) (m : Mode) : (store a (.complex k x y) m).run P w = stored P w a (.complex k x y) m := run_store P w a _ m rfl

set_option maxHeartbeats 1000000 in
theorem valueOf_any (k : Int) (h1 : 0 ≤ k) (h2 : k ≤ 3) (w : World) : Calls Try.prog 118 #[.int .i64 k] w (Ret w (.complex .f32 (f32of (vx k)) (f32of (vy k)))) := by
  have hst := @store_complex Try.prog
  have hk : k = 0 ∨ k = 1 ∨ k = 2 ∨ k = 3 := by omega
  rcases hk with rfl | rfl | rfl | rfl
  all_goals
    clear h1 h2
    go_enter Try.func118, Try.ntmps118
    go_wp2
    go_returns
    exact ⟨rfl, by go_grown⟩

end
section
open Go.RowKit

set_option maxHeartbeats 1000000 in
theorem gaussOf_any (a b : Int) (h1 : -33 ≤ a) (h2 : a ≤ 33) (h3 : -33 ≤ b) (h4 : b ≤ 33) (w : World) : Calls Try.prog 119 #[.complex .f32 (f32of a) (f32of b)] w (Ret w (.agg #[.int .i64 a, .int .i64 b])) := by
  have ha := fun w => run_convert_float_int (P := Try.prog) w 145 3 .f32 .i64 (f32of a) a rfl Try.underlying3 (f32_back a h1 h2)
  have hb := fun w => run_convert_float_int (P := Try.prog) w 145 3 .f32 .i64 (f32of b) b rfl Try.underlying3 (f32_back b h3 h4)
  obtain ⟨fa, hfa⟩ : ∃ fa, fa = f32of a := ⟨_, rfl⟩
  obtain ⟨fb, hfb⟩ : ∃ fb, fb = f32of b := ⟨_, rfl⟩
  rw [← hfa] at ha ⊢
  rw [← hfb] at hb ⊢
  clear hfa hfb h1 h2 h3 h4
  go_enter Try.func119, Try.ntmps119
  go_wp2
  go_returns
  exact ⟨rfl, by go_grown⟩
end
section
open Go.RowKit

theorem run_neg32 (w : World) (b : Nat) : (Op.unary .neg (.float .f32 b)).run Try.prog w = .ok (.float .f32 (f32neg b)) w := by
  have h : (2 : Nat) ^ (FloatKind.f32.format.exponentBits + FloatKind.f32.format.fractionBits) = 2147483648 := by decide
  simp [Op.unary, Op.negFloat, f32neg, h]
set_option maxHeartbeats 400000 in
theorem conjugateValue_any (a b : Nat) (w : World) : Calls Try.prog 185 #[.complex .f32 a b] w (Pure w (.complex .f32 a (f32neg b))) := by
  have hn := run_neg32
  go_enter Try.func185, Try.ntmps185
  go_wp2
  go_returns
  exact ⟨rfl, rfl⟩
set_option maxHeartbeats 400000 in
theorem normOfSum_any (X Y : Int) (h1 : -32 ≤ X ∧ X ≤ 32) (h2 : -32 ≤ Y ∧ Y ≤ 32) (w : World) : Calls Try.prog 141 #[.complex .f32 (f32of X) (f32of Y)] w (Pure w (.int .i64 (norm X Y))) := by
  obtain ⟨re, im, hm, ho⟩ := norm_ok X Y h1.1 h1.2 h2.1 h2.2
  have hmul := fun w t => run_complex_mul32 (P := Try.prog) w t _ _ _ _ _ _ hm
  have hcv := fun w => run_convert_float_int (P := Try.prog) w 145 3 .f32 .i64 re (norm X Y) rfl Try.underlying3 ho
  obtain ⟨N, hN⟩ : ∃ N, N = norm X Y := ⟨_, rfl⟩
  rw [← hN] at hcv ⊢
  obtain ⟨fa, hfa⟩ : ∃ fa, fa = f32of X := ⟨_, rfl⟩
  obtain ⟨fb, hfb⟩ : ∃ fb, fb = f32of Y := ⟨_, rfl⟩
  rw [← hfa, ← hfb] at hmul
  rw [← hfa, ← hfb]
  have HC := Lib.hid (conjugateValue_any fa fb)
  obtain ⟨fc, hfc⟩ : ∃ fc, fc = f32neg fb := ⟨_, rfl⟩
  rw [← hfc] at hmul HC
  clear hN hfa hfb hfc hm ho h1 h2
  go_enter Try.func141, Try.ntmps141
  go_wp2_with fail
  refine (HC.out _).mono ?_
  rintro e w1 ⟨rfl, rfl⟩
  go_wp2_with fail
  go_returns
  exact ⟨rfl, rfl⟩
end
section

def sumN (g : Nat → Int) : Nat → Int
  | 0 => 0
  | k + 1 => sumN g k + g k
theorem sumN_bound (g : Nat → Int) (hg : ∀ i, -1 ≤ g i ∧ g i ≤ 1) (k : Nat) : -(k : Int) ≤ sumN g k ∧ sumN g k ≤ k := by
  induction k with
  | zero => simp [sumN]
  | succ k ih => have := hg k; simp only [sumN]; omega
theorem sumN_same (g : Nat → Int) (a : Nat) (d : Nat) (h : ∀ i, a ≤ i → i < a + d → g i = 0) : sumN g (a + d) = sumN g a := by
  induction d with
  | zero => rfl
  | succ d ih =>
    have h1 := ih (fun i h1 h2 => h i h1 (by omega))
    have h2 := h (a + d) (by omega) (by omega)
    show sumN g (a + d) + g (a + d) = _
    omega
theorem sumN_zero (g : Nat → Int) (b : Nat) (h : ∀ i, i < b → g i = 0) : sumN g b = 0 := by
  have := sumN_same g 0 b (fun i _ h2 => h i (by omega))
  rw [Nat.zero_add] at this
  exact this
theorem sumN_ext (g h : Nat → Int) (n : Nat) (e : ∀ i, i < n → g i = h i) : sumN g n = sumN h n := by
  induction n with
  | zero => rfl
  | succ n ih => simp only [sumN]; rw [ih (fun i hi => e i (by omega)), e n (by omega)]
theorem sumF_append (f : Int → Int) (l m : List Int) : sumF f (l ++ m) = sumF f l + sumF f m := by
  induction l with
  | nil => simp [sumF]
  | cons x t ih => simp only [List.cons_append, sumF, ih]; omega
theorem sumF_gen (f : Int → Int) (g : Nat → Int) (n : Nat) : sumF f (gen n g) = sumN (fun i => f (g i)) n := by
  induction n with
  | zero => rfl
  | succ n ih => rw [gen_succ, sumF_append, ih]; simp [sumF, sumN]
/-- The terms of an aperiodic correlation at u. -/
def apT (f : Int → Int) (a b : List Int) (u : Int) (i : Nat) : Int := if 0 ≤ (i : Int) + u ∧ (i : Int) + u < a.length then f ((a.getD ((i : Int) + u).toNat 0 - b.getD i 0) % 4) else 0
def apS (f : Int → Int) (a b : List Int) (u : Int) : Int := sumN (apT f a b u) b.length
/-- The terms of a periodic one. -/
def peT (f : Int → Int) (a b : List Int) (u : Int) (i : Nat) : Int := f ((a.getD (((i : Int) + u) % (a.length : Int)).toNat 0 - b.getD i 0) % 4)
def peS (f : Int → Int) (a b : List Int) (u : Int) : Int := sumN (peT f a b u) b.length
/-- The terms of a value at a root. -/
def vrT (f : Int → Int) (l : List Int) (k : Int) (i : Nat) : Int := f ((l.getD i 0 + k * (i : Int)) % 4)
def vrS (f : Int → Int) (l : List Int) (k : Int) : Int := sumN (vrT f l k) l.length
theorem apT_one (f : Int → Int) (hf : ∀ x, -1 ≤ f x ∧ f x ≤ 1) (a b : List Int) (u : Int) (i : Nat) : -1 ≤ apT f a b u i ∧ apT f a b u i ≤ 1 := by
  unfold apT; split
  · exact hf _
  · omega
theorem peT_one (f : Int → Int) (hf : ∀ x, -1 ≤ f x ∧ f x ≤ 1) (a b : List Int) (u : Int) (i : Nat) : -1 ≤ peT f a b u i ∧ peT f a b u i ≤ 1 := hf _
theorem vrT_one (f : Int → Int) (hf : ∀ x, -1 ≤ f x ∧ f x ≤ 1) (l : List Int) (k : Int) (i : Nat) : -1 ≤ vrT f l k i ∧ vrT f l k i ≤ 1 := hf _
theorem apS_small (f : Int → Int) (hf : ∀ x, -1 ≤ f x ∧ f x ≤ 1) (a b : List Int) (u : Int) (h : b.length ≤ 32) : -32 ≤ apS f a b u ∧ apS f a b u ≤ 32 := by
  have := sumN_bound _ (apT_one f hf a b u) b.length
  unfold apS; omega
theorem peS_small (f : Int → Int) (hf : ∀ x, -1 ≤ f x ∧ f x ≤ 1) (a b : List Int) (u : Int) (h : b.length ≤ 32) : -32 ≤ peS f a b u ∧ peS f a b u ≤ 32 := by
  have := sumN_bound _ (peT_one f hf a b u) b.length
  unfold peS; omega
theorem vrS_small (f : Int → Int) (hf : ∀ x, -1 ≤ f x ∧ f x ≤ 1) (l : List Int) (k : Int) (h : l.length ≤ 32) : -32 ≤ vrS f l k ∧ vrS f l k ≤ 32 := by
  have := sumN_bound _ (vrT_one f hf l k) l.length
  unfold vrS; omega
theorem apT_in (f : Int → Int) (a b : List Int) (u : Int) (i M : Nat) (h : (i : Int) + u = M) (hM : M < a.length) : apT f a b u i = f ((a.getD M 0 - b.getD i 0) % 4) := by
  unfold apT
  rw [if_pos (by omega), h, Int.toNat_natCast]
theorem apT_out (f : Int → Int) (a b : List Int) (u : Int) (i : Nat) (h : ¬ (0 ≤ (i : Int) + u ∧ (i : Int) + u < a.length)) : apT f a b u i = 0 := by
  unfold apT
  rw [if_neg h]
/-- Up to the first index there is nothing. -/
theorem ap_start (f : Int → Int) (a b : List Int) (u : Int) (L : Nat) (h : (L : Int) ≤ -u ∨ L = 0) : sumN (apT f a b u) L = 0 :=
  sumN_zero _ _ (fun i hi => apT_out f a b u i (by omega))
/-- From the last index on there is nothing more. -/
theorem ap_end (f : Int → Int) (a b : List Int) (u : Int) (H : Nat) (hH : H ≤ b.length) (h : (a.length : Int) - u ≤ H ∨ H = b.length) : sumN (apT f a b u) H = apS f a b u := by
  unfold apS
  obtain ⟨d, hd⟩ : ∃ d, b.length = H + d := ⟨b.length - H, by omega⟩
  rw [hd]
  exact (sumN_same _ H d (fun i h1 h2 => apT_out f a b u i (by omega))).symm
end
section

theorem sq_small (X : Int) (h1 : -32 ≤ X) (h2 : X ≤ 32) : 0 ≤ X * X ∧ X * X ≤ 1024 := by
  have h : X.natAbs ≤ 32 := by omega
  have := Nat.mul_le_mul h h
  have e : X * X = ((X.natAbs * X.natAbs : Nat) : Int) := by rw [Int.natCast_mul, Int.natAbs_mul_self']
  rw [e]; omega
/-- The norm of the own correlation at u. -/
def nS (l : List Int) (u : Int) : Int := norm (apS vx l l u) (apS vy l l u)
theorem nS_bound (l : List Int) (h : l.length ≤ 32) (u : Int) : 0 ≤ nS l u ∧ nS l u ≤ 2048 := by
  have a := apS_small vx vx_one l l u h
  have b := apS_small vy vy_one l l u h
  have c := sq_small _ a.1 a.2
  have d := sq_small _ b.1 b.2
  unfold nS norm; omega
def sideT (l : List Int) (i : Nat) : Int := nS l ((i : Int) + 1)
def sideE (l : List Int) : Int := sumN (sideT l) (l.length - 1)
def maxN (g : Nat → Int) : Nat → Int
  | 0 => 0
  | k + 1 => if g k > maxN g k then g k else maxN g k
def peakS (l : List Int) : Int := maxN (sideT l) (l.length - 1)
def barB (l : List Int) : Bool := decide (1 ≤ l.length) && decide (peakS l ≤ 1)
theorem sumN_up (g : Nat → Int) (b : Int) (hg : ∀ i, 0 ≤ g i ∧ g i ≤ b) (k : Nat) : 0 ≤ sumN g k ∧ sumN g k ≤ k * b := by
  induction k with
  | zero => simp [sumN]
  | succ k ih =>
    have := hg k
    have e : ((k + 1 : Nat) : Int) * b = k * b + b := by rw [Int.natCast_add, Int.add_mul]; simp
    simp only [sumN]
    omega
theorem maxN_up (g : Nat → Int) (b : Int) (hb : 0 ≤ b) (hg : ∀ i, 0 ≤ g i ∧ g i ≤ b) (k : Nat) : 0 ≤ maxN g k ∧ maxN g k ≤ b := by
  induction k with
  | zero => simp [maxN]; exact hb
  | succ k ih => have := hg k; simp only [maxN]; split <;> omega
theorem sideE_bound (l : List Int) (h : l.length ≤ 32) : 0 ≤ sideE l ∧ sideE l ≤ 65536 := by
  have := sumN_up (sideT l) 2048 (fun i => nS_bound l h _) (l.length - 1)
  unfold sideE
  omega
theorem peakS_bound (l : List Int) (h : l.length ≤ 32) : 0 ≤ peakS l ∧ peakS l ≤ 2048 := maxN_up _ _ (by omega) (fun i => nS_bound l h _) _
end
section
open Go.RowKit

theorem run_addu (w : World) (t : TypeId) (X Y : Int) (a b : Nat) (h1 : -32 ≤ X ∧ X ≤ 32) (h2 : -32 ≤ Y ∧ Y ≤ 32) (ha : unitF a = true) (hb : unitF b = true) :
    (binOp .add t (.complex .f32 (f32of X) (f32of Y)) (.complex .f32 a b)).run Try.prog w = .ok (.complex .f32 (f32of (X + valF a)) (f32of (Y + valF b))) w :=
  run_complex_sum w .add (Or.inl rfl) t .f32 _ _ _ _ _ _ (by unfold cSumBits; rw [f32_addu X a (by omega) (by omega) ha, f32_addu Y b (by omega) (by omega) hb]; rfl)

set_option maxRecDepth 100000 in
set_option maxHeartbeats 2000000 in
theorem aperiodic_any (a b : List Int) (u : Int) (ha : isSeq a = true) (hb : isSeq b = true) (hab : a.length = b.length) (hu1 : -(a.length : Int) ≤ u) (hu2 : u ≤ a.length) (w : World) :
    Calls Try.prog 129 #[.agg (phA (padL a) a.length), .agg (phA (padL b) b.length), .int .i64 u] w (Ret w (.complex .f32 (f32of (apS vx a b u)) (f32of (apS vy a b u)))) := by
  have h32 := isSeq_len ha
  have hpa : (padL a).length = 32 := padL_length h32
  have hpb : (padL b).length = 32 := padL_length (by omega)
  have hlenA := phA_len (padL a) (a.length : Int) hpa
  have hgetA : ∀ i : Nat, i < a.length → (phA (padL a) (a.length : Int))[i]? = some (.int .i64 (a.getD i 0)) := fun i hi => by rw [phA_get _ _ i (by omega), pad_getD a i hi]
  have hgetB : ∀ i : Nat, i < b.length → (phA (padL b) (b.length : Int))[i]? = some (.int .i64 (b.getD i 0)) := fun i hi => by rw [phA_get _ _ i (by omega), pad_getD b i hi]
  have hba : ∀ i : Nat, i < a.length → 0 ≤ a.getD i 0 ∧ a.getD i 0 ≤ 3 := fun i hi => allIn_getD (isSeq_all ha) i hi
  have hbb : ∀ i : Nat, i < b.length → 0 ≤ b.getD i 0 ∧ b.getD i 0 ≤ 3 := fun i hi => allIn_getD (isSeq_all hb) i hi
  obtain ⟨ca, hca⟩ : ∃ cs, cs = phA (padL a) (a.length : Int) := ⟨_, rfl⟩
  obtain ⟨cb, hcb⟩ : ∃ cs, cs = phA (padL b) (b.length : Int) := ⟨_, rfl⟩
  rw [← hca, ← hcb]
  rw [← hca] at hlenA hgetA
  rw [← hcb] at hgetB
  have HGA := Lib.hid hgetA
  have HGB := Lib.hid hgetB
  have HBA := Lib.hid hba
  have HBB := Lib.hid hbb
  have HLA := Lib.hid hlenA
  obtain ⟨N, hN⟩ : ∃ N, N = a.length := ⟨_, rfl⟩
  have hNb : N = b.length := by omega
  rw [← hN] at h32 hu1 hu2 HLA
  have HN := Lib.hid hN
  have HNB := Lib.hid hNb
  have hXs := apS_small vx vx_one a b u (by omega)
  have hYs := apS_small vy vy_one a b u (by omega)
  obtain ⟨G1, hG1⟩ : ∃ G, G = apT vx a b u := ⟨_, rfl⟩
  obtain ⟨G2, hG2⟩ : ∃ G, G = apT vy a b u := ⟨_, rfl⟩
  -- first and last index
  obtain ⟨L, hL⟩ : ∃ L : Nat, (L : Int) = if -u > 0 then -u else 0 := ⟨(-u).toNat, by split <;> omega⟩
  obtain ⟨H, hH⟩ : ∃ H : Nat, (H : Int) = if (N : Int) - u < N then (N : Int) - u else N := ⟨if (N : Int) - u < N then ((N : Int) - u).toNat else N, by split <;> omega⟩
  have hLH : L ≤ H := by split at hL <;> split at hH <;> omega
  have hHN : H ≤ N := by split at hH <;> omega
  have s1 : sumN G1 L = 0 := by rw [hG1]; exact ap_start vx a b u L (by split at hL <;> omega)
  have s2 : sumN G2 L = 0 := by rw [hG2]; exact ap_start vy a b u L (by split at hL <;> omega)
  have e1 : sumN G1 H = apS vx a b u := by rw [hG1]; exact ap_end vx a b u H (by omega) (by split at hH <;> omega)
  have e2 : sumN G2 H = apS vy a b u := by rw [hG2]; exact ap_end vy a b u H (by omega) (by split at hH <;> omega)
  have hin : ∀ i : Nat, L ≤ i → i < H → 0 ≤ (i : Int) + u ∧ (i : Int) + u < N := fun i h1 h2 => by split at hL <;> split at hH <;> omega
  have b1 : ∀ i, -1 ≤ G1 i ∧ G1 i ≤ 1 := fun i => by rw [hG1]; exact apT_one vx vx_one a b u i
  have b2 : ∀ i, -1 ≤ G2 i ∧ G2 i ≤ 1 := fun i => by rw [hG2]; exact apT_one vy vy_one a b u i
  rw [← e1, ← e2]
  have HIN := Lib.hid hin
  have HS1 := Lib.hid s1
  have HS2 := Lib.hid s2
  have HG1 := Lib.hid hG1
  have HG2 := Lib.hid hG2
  have HB1 := Lib.hid b1
  have HB2 := Lib.hid b2
  have HL := Lib.hid hL
  have HH := Lib.hid hH
  clear hca hcb hN hNb hG1 hG2 hL hH s1 s2 e1 e2 hin b1 b2 hpa hpb hlenA hgetA hgetB hba hbb ha hb hab hXs hYs
  have hL1 : (L : Int) ≤ -u ∨ L = 0 := by have := HL.out; split at this <;> omega
  have hL2 : -u ≤ L := by have := HL.out; split at this <;> omega
  have hH1 : (H : Int) ≤ N - u := by have := HH.out; split at this <;> omega
  have hH2 : (N : Int) ≤ H ∨ (N : Int) - u ≤ H := by have := HH.out; split at this <;> omega
  rcases (show u < 0 ∨ (0 ≤ u ∧ u ≤ 0) ∨ 0 < u by omega) with hc | ⟨hc, hc'⟩ | hc
  all_goals
    have hs8 : (L : Int) = if -u > 0 then -u else 0 := HL.out
    first | rw [if_pos (by omega)] at hs8 | rw [if_neg (by omega)] at hs8
    have hs9 : (H : Int) = if (N : Int) - u < N then (N : Int) - u else N := HH.out
    first | rw [if_pos (by omega)] at hs9 | rw [if_neg (by omega)] at hs9
    have hs91 := Int.le_of_eq hs9
    have hs92 := Int.le_of_eq hs9.symm
    have HS8 := Lib.hid hs8
    clear hs8 hs9 hL1 hL2 hH1 hH2 HL HH
    go_enter Try.func129, Try.ntmps129
    go_wp2_with fail
    go_loopw [8, 7] (fun i s wr => ∃ k : Nat, L ≤ k ∧ k ≤ H ∧ i = .int .i64 k ∧ s = .complex .f32 (f32of (sumN G1 k)) (f32of (sumN G2 k)) ∧ wr.heap[w.heap.size]? = some (.cells ca 97 (0, 0)) ∧ wr.heap[w.heap.size + 1]? = some (.cells cb 97 (0, 0)) ∧ Below w.heap.size w wr) (fun i _ _ => H - (intOf i).toNat)
    case atStart => exact ⟨L, Nat.le_refl _, hLH, by rw [HS8.out], by rw [HS1.out, HS2.out]; rfl, heap_alloc2_old w _ _, heap_alloc2_new w _ _, by go_grown⟩
    case round =>
      obtain ⟨k, hk1, hk2, rfl, rfl, hb0, hb1, hbel⟩ := hrel
      have c32 : wr.cell? ⟨w.heap.size, 32, none⟩ = some (.int .i64 N) := by rw [cell_of_row wr _ _ _ _ _ hb0]; exact HLA.out
      have hX := sumN_bound G1 HB1.out k
      have hY := sumN_bound G2 HB2.out k
      by_cases hlt : k < H
      · have hi := HIN.out k hk1 hlt
        obtain ⟨M, hM⟩ : ∃ M : Nat, (k : Int) + u = M := ⟨_, (Int.toNat_of_nonneg hi.1).symm⟩
        have hMN : M < N := by omega
        have hxr := HBA.out M (by rw [← HN.out]; exact hMN)
        have hyr := HBB.out k (by rw [← HNB.out]; omega)
        have hg1 : G1 k = vx ((a.getD M 0 - b.getD k 0) % 4) := by rw [HG1.out]; exact apT_in vx a b u k M hM (by rw [← HN.out]; exact hMN)
        have hg2 : G2 k = vy ((a.getD M 0 - b.getD k 0) % 4) := by rw [HG2.out]; exact apT_in vy a b u k M hM (by rw [← HN.out]; exact hMN)
        have cM : wr.cell? ⟨w.heap.size, M, none⟩ = some (.int .i64 (a.getD M 0)) := by rw [cell_of_row wr _ _ _ _ _ hb0]; exact HGA.out M (by rw [← HN.out]; exact hMN)
        have ck : wr.cell? ⟨w.heap.size + 1, k, none⟩ = some (.int .i64 (b.getD k 0)) := by rw [cell_of_row wr _ _ _ _ _ hb1]; exact HGB.out k (by rw [← HNB.out]; omega)
        obtain ⟨x, hx⟩ : ∃ x, x = a.getD M 0 := ⟨_, rfl⟩
        obtain ⟨y, hy⟩ : ∃ y, y = b.getD k 0 := ⟨_, rfl⟩
        rw [← hx] at hxr cM hg1 hg2
        rw [← hy] at hyr ck hg1 hg2
        have hmc := mc_ok x y hxr.1 hxr.2 hyr.1 hyr.2
        obtain ⟨m1, hm1⟩ : ∃ m, m = (mc x y).1 := ⟨_, rfl⟩
        obtain ⟨m2, hm2⟩ : ∃ m, m = (mc x y).2 := ⟨_, rfl⟩
        rw [← hm1, ← hm2] at hmc
        obtain ⟨hmc1, hu1, hu2, hv1, hv2⟩ := hmc
        have hadd := fun w t => run_addu w t (sumN G1 k) (sumN G2 k) m1 m2 (by omega) (by omega) hu1 hu2
        have hn1 : sumN G1 k + valF m1 = sumN G1 (k + 1) := by rw [hv1, ← hg1]; rfl
        have hn2 : sumN G2 k + valF m2 = sumN G2 (k + 1) := by rw [hv2, ← hg2]; rfl
        rw [hn1, hn2] at hadd
        have hmul := fun w t => run_complex_mul32 (P := Try.prog) w t _ _ _ _ _ _ hmc1
        have HVX := Lib.hid (valueOf_any x hxr.1 hxr.2)
        have HVY := Lib.hid (valueOf_any y hyr.1 hyr.2)
        have HCJ := Lib.hid (conjugateValue_any (f32of (vx y)) (f32of (vy y)))
        obtain ⟨fa, hfa⟩ : ∃ fa, fa = f32of (sumN G1 k) := ⟨_, rfl⟩
        obtain ⟨fb, hfb⟩ : ∃ fb, fb = f32of (sumN G2 k) := ⟨_, rfl⟩
        obtain ⟨ga, hga⟩ : ∃ fa, fa = f32of (sumN G1 (k + 1)) := ⟨_, rfl⟩
        obtain ⟨gb, hgb⟩ : ∃ fb, fb = f32of (sumN G2 (k + 1)) := ⟨_, rfl⟩
        obtain ⟨p1, hp1⟩ : ∃ fa, fa = f32of (vx x) := ⟨_, rfl⟩
        obtain ⟨p2, hp2⟩ : ∃ fa, fa = f32of (vy x) := ⟨_, rfl⟩
        obtain ⟨q1, hq1⟩ : ∃ fa, fa = f32of (vx y) := ⟨_, rfl⟩
        obtain ⟨q2, hq2⟩ : ∃ fa, fa = f32of (vy y) := ⟨_, rfl⟩
        obtain ⟨q3, hq3⟩ : ∃ fa, fa = f32neg (f32of (vy y)) := ⟨_, rfl⟩
        rw [← hq3] at hmul HCJ
        rw [← hq1, ← hq2] at HCJ HVY
        rw [← hp1, ← hp2, ← hq1] at hmul
        rw [← hp1, ← hp2] at HVX
        rw [← hfa, ← hfb, ← hga, ← hgb] at hadd
        rw [← hfa, ← hfb]
        have HGA' := Lib.hid hga
        have HGB' := Lib.hid hgb
        have HM := Lib.hid hM
        have hsum : IntKind.i64.wrap ((k : Int) + u) = (M : Int) := by rw [hM]; exact IntWalk.i64_in _ (by omega)
        have h0 : (0 : Int) ≤ (k : Int) := by omega
        have h1 : (k : Int) < 32 := by omega
        have h2 : (0 : Int) ≤ (M : Int) := by omega
        have h3 : (M : Int) < 32 := by omega
        have h4 : (k : Int) < (H : Int) := by omega
        have HB := Lib.hid hbel
        have HB0 := Lib.hid hb0
        have HB1' := Lib.hid hb1
        obtain ⟨hk3, hk4⟩ : (k : Int) + u ≤ M ∧ (M : Int) ≤ k + u := by omega
        clear hX hY hi hM hxr hyr hg1 hg2 hx hy hm1 hm2 hmc1 hu1 hu2 hv1 hv2 hn1 hn2 hfa hfb hga hgb hp1 hp2 hq1 hq2 hq3 hb0 hb1 hbel
        go_wp2_with fail
        go_region_held3 (fun w' => w'.cell? ⟨w.heap.size, M, none⟩ = some (.int .i64 x) ∧ w'.cell? ⟨w.heap.size + 1, k, none⟩ = some (.int .i64 y) ∧ Below wr.heap.size wr w')
          (first | (exact ⟨keepd cM, keepd ck, belowN (Below.refl _ _) 1⟩) | (go_split_ands; first | exact ⟨by assumption, by assumption, by assumption⟩ | exact ⟨keepc hb (by assumption), keepc hb (by assumption), joins (by assumption) hb⟩))
          (first
            | (go_at_call 185; refine (HCJ.out _).mono ?_; rintro e w' ⟨rfl, rfl⟩)
            | (go_at_call 118; (with_reducible refine (HVX.out _).mono ?_); rintro e w' ⟨rfl, hb⟩)
            | (go_at_call 118; (with_reducible refine (HVY.out _).mono ?_); rintro e w' ⟨rfl, hb⟩))
        go_split_ands
        have hbr := ‹Below wr.heap.size wr _›
        have f0 := (hbr.block w.heap.size (Array.getElem?_eq_some_iff.1 HB0.out).1).trans HB0.out
        have f1 := (hbr.block (w.heap.size + 1) (Array.getElem?_eq_some_iff.1 HB1'.out).1).trans HB1'.out
        have f2 := joins HB.out hbr
        have F0 := Lib.hid f0
        have F1 := Lib.hid f1
        have F2 := Lib.hid f2
        clear f0 f1 f2 hbr
        go_wp2_with fail
        go_roundw
        case rel => exact ⟨k + 1, by omega, by omega, by go_num, by rw [HGA'.out, HGB'.out], F0.out, F1.out, F2.out⟩
        case measure => simp [intOf]; omega
      · have he : k = H := by omega
        subst he
        have HB := Lib.hid hbel
        obtain ⟨fa, hfa⟩ : ∃ fa, fa = f32of (sumN G1 k) := ⟨_, rfl⟩
        obtain ⟨fb, hfb⟩ : ∃ fb, fb = f32of (sumN G2 k) := ⟨_, rfl⟩
        rw [← hfa, ← hfb]
        have HFA := Lib.hid hfa
        have HFB := Lib.hid hfb
        clear hfa hfb hbel hb0 hb1
        go_wp2_with fail
        go_returns
        exact ⟨by rw [← HFA.out, ← HFB.out]; rfl, HB.out⟩
end
end Go.Proofs.Ytfjhocmnafdnfaa
