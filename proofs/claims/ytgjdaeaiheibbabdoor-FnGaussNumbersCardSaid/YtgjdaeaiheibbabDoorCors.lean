/- Sums of values: what the program and the model add up; the block of a result. Small whole numbers as float32, and the program's values of phases. A Gaussian number out of a complex64. The program's conjugateValue and normOfSum. Correlations as sums over the index: plain mathematics. Side energies and peaks: plain mathematics. The program's aperiodic: a sum over the index. -/
import Derived.Test.YtgjdaeaiheibbabDoorKit
import Derived.Test.YtgjdaeaiheibbabDoorFlt
import Derived.Test.YtgjdaeaiheibbabDoorPhs
namespace Go.Proofs.YtgjdaeaiheibbabDoor
set_option maxRecDepth 100000
section
open Go.RowKit

def sumF (f : Int → Int) : List Int → Int
  | [] => 0
  | x :: t => f x + sumF f t
theorem sumF_take_succ (f : Int → Int) (l : List Int) (k : Nat) (h : k < l.length) : sumF f (l.take (k + 1)) = sumF f (l.take k) + f (l.getD k 0) := by
  induction l generalizing k with
  | nil => simp at h
  | cons x t ih =>
    cases k with
    | zero => simp [sumF]
    | succ k =>
      simp only [List.take_succ_cons, sumF, List.getD_cons_succ]
      rw [ih k (by simpa using h)]
      omega
theorem sumF_bound (f : Int → Int) (hf : ∀ x, -1 ≤ f x ∧ f x ≤ 1) (l : List Int) : -(l.length : Int) ≤ sumF f l ∧ sumF f l ≤ l.length := by
  induction l with
  | nil => simp [sumF]
  | cons x t ih =>
    have := hf x
    simp only [sumF, List.length_cons]
    omega
theorem sum_small (f : Int → Int) (hf : ∀ x, -1 ≤ f x ∧ f x ≤ 1) (l : List Int) (h : l.length ≤ 32) (k : Nat) (hk : k ≤ l.length) : -32 ≤ sumF f (l.take k) ∧ sumF f (l.take k) ≤ 32 := by
  have := sumF_bound f hf (l.take k)
  rw [List.length_take] at this
  omega
def sumX (l : List Int) : Int := if isSeq l then sumF vx l else 0
def sumY (l : List Int) : Int := if isSeq l then sumF vy l else 0
theorem run_sum (w : World) (t : TypeId) (X Y a b : Int) (h1 : -33 ≤ X) (h2 : X ≤ 33) (h3 : -33 ≤ Y) (h4 : Y ≤ 33) (h5 : -1 ≤ a ∧ a ≤ 1) (h6 : -1 ≤ b ∧ b ≤ 1) :
    (binOp .add t (.complex .f32 (f32of X) (f32of Y)) (.complex .f32 (f32of a) (f32of b))).run Tryd.prog w = .ok (.complex .f32 (f32of (X + a)) (f32of (Y + b))) w :=
  run_complex_sum w .add (Or.inl rfl) t .f32 _ _ _ _ _ _ (by unfold cSumBits; rw [f32_add X a h1 h2 h5.1 h5.2, f32_add Y b h3 h4 h6.1 h6.2]; rfl)

/-- The call's zero Gauss block, at the first place behind w, and w below. -/
structure ZG (w wr : World) : Prop where
  below : Below w.heap.size w wr
  c0 : wr.cell? ⟨w.heap.size, 0, none⟩ = some (.int .i64 0)
  c1 : wr.cell? ⟨w.heap.size, 1, none⟩ = some (.int .i64 0)
  f0 : wr.frozen? ⟨w.heap.size, 0, none⟩ = false
  f1 : wr.frozen? ⟨w.heap.size, 1, none⟩ = false
  size : w.heap.size < wr.heap.size
theorem ZG.start (w : World) (T : TypeId) : ZG w (w.alloc (.cells #[.int .i64 0, .int .i64 0] T)) :=
  ⟨belowa (Below.refl _ _) _, cell_new0 _ _ _ _, cell_new1 _ _ _ _, World.frozen?_alloc_new .., World.frozen?_alloc_new .., by simp⟩
theorem ZG.step {w wr w' : World} (h : ZG w wr) (hb : Below wr.heap.size wr w') : ZG w w' :=
  ⟨joins h.below hb, keepc hb h.c0, keepc hb h.c1, (hb.frozen (p := ⟨w.heap.size, 0, none⟩) h.size).trans h.f0, (hb.frozen (p := ⟨w.heap.size, 1, none⟩) h.size).trans h.f1, Nat.lt_of_lt_of_le h.size hb.size⟩
theorem ZG.ret {w w1 : World} (h : ZG w w1) (p q : Value) :
    (w1.setCell ⟨w.heap.size, 0, none⟩ p).cell? ⟨w.heap.size, 0, none⟩ = some p ∧
    ((w1.setCell ⟨w.heap.size, 0, none⟩ p).setCell ⟨w.heap.size, 1, none⟩ q).cell? ⟨w.heap.size, 1, none⟩ = some q ∧
    Below w.heap.size w ((w1.setCell ⟨w.heap.size, 0, none⟩ p).setCell ⟨w.heap.size, 1, none⟩ q) := by
  refine ⟨World.cell?_setCell_same _ _ _ h.c0, World.cell?_setCell_same _ _ _ ((World.cell?_setCell_other _ _ _ _ (by simp)).trans h.c1), belows (belows h.below (Nat.le_refl _) _) (Nat.le_refl _) _⟩
theorem IS.step {w wr : World} {v : Value} {l : List Int} (h : IS w v l) (hz : ZG w wr) : IS wr v l := h.below hz.below

end
section
open Go.RowKit

theorem store_complex {P : Program} (w : World) (a : Addr) (k : FloatKind) (x y : Nat) (m : Mode) : (store a (.complex k x y) m).run P w = stored P w a (.complex k x y) m := run_store P w a _ m rfl

set_option maxHeartbeats 1000000 in
theorem valueOf_any (k : Int) (h1 : 0 ≤ k) (h2 : k ≤ 3) (w : World) : Calls Tryd.prog 33 #[.int .i64 k] w (Ret w (.complex .f32 (f32of (vx k)) (f32of (vy k)))) := by
  have hst := @store_complex Tryd.prog
  have hk : k = 0 ∨ k = 1 ∨ k = 2 ∨ k = 3 := by omega
  rcases hk with rfl | rfl | rfl | rfl
  all_goals
    clear h1 h2
    go_enter Tryd.func33, Tryd.ntmps33
    go_wp2
    go_returns
    exact ⟨rfl, by go_grown⟩

end
section
open Go.RowKit

set_option maxHeartbeats 1000000 in
theorem gaussOf_any (a b : Int) (h1 : -33 ≤ a) (h2 : a ≤ 33) (h3 : -33 ≤ b) (h4 : b ≤ 33) (w : World) : Calls Tryd.prog 32 #[.complex .f32 (f32of a) (f32of b)] w (Ret w (.agg #[.int .i64 a, .int .i64 b])) := by
  have ha := fun w => run_convert_float_int (P := Tryd.prog) w 57 3 .f32 .i64 (f32of a) a rfl Tryd.underlying3 (f32_back a h1 h2)
  have hb := fun w => run_convert_float_int (P := Tryd.prog) w 57 3 .f32 .i64 (f32of b) b rfl Tryd.underlying3 (f32_back b h3 h4)
  obtain ⟨fa, hfa⟩ : ∃ fa, fa = f32of a := ⟨_, rfl⟩
  obtain ⟨fb, hfb⟩ : ∃ fb, fb = f32of b := ⟨_, rfl⟩
  rw [← hfa] at ha ⊢
  rw [← hfb] at hb ⊢
  clear hfa hfb h1 h2 h3 h4
  go_enter Tryd.func32, Tryd.ntmps32
  go_wp2
  go_returns
  exact ⟨rfl, by go_grown⟩
end
section
open Go.RowKit

theorem run_neg32 (w : World) (b : Nat) : (Op.unary .neg (.float .f32 b)).run Tryd.prog w = .ok (.float .f32 (f32neg b)) w := by
  have h : (2 : Nat) ^ (FloatKind.f32.format.exponentBits + FloatKind.f32.format.fractionBits) = 2147483648 := by decide
  simp [Op.unary, Op.negFloat, f32neg, h]
end
section

def sumN (g : Nat → Int) : Nat → Int
  | 0 => 0
  | k + 1 => sumN g k + g k
theorem sumN_bound (g : Nat → Int) (hg : ∀ i, -1 ≤ g i ∧ g i ≤ 1) (k : Nat) : -(k : Int) ≤ sumN g k ∧ sumN g k ≤ k := by
  induction k with
  | zero => simp [sumN]
  | succ k ih => have := hg k; simp only [sumN]; omega
theorem sumN_same (g : Nat → Int) (a : Nat) (d : Nat) (h : ∀ i, a ≤ i → i < a + d → g i = 0) : sumN g (a + d) = sumN g a := by
  induction d with
  | zero => rfl
  | succ d ih =>
    have h1 := ih (fun i h1 h2 => h i h1 (by omega))
    have h2 := h (a + d) (by omega) (by omega)
    show sumN g (a + d) + g (a + d) = _
    omega
theorem sumN_zero (g : Nat → Int) (b : Nat) (h : ∀ i, i < b → g i = 0) : sumN g b = 0 := by
  have := sumN_same g 0 b (fun i _ h2 => h i (by omega))
  rw [Nat.zero_add] at this
  exact this
theorem sumN_ext (g h : Nat → Int) (n : Nat) (e : ∀ i, i < n → g i = h i) : sumN g n = sumN h n := by
  induction n with
  | zero => rfl
  | succ n ih => simp only [sumN]; rw [ih (fun i hi => e i (by omega)), e n (by omega)]
theorem sumF_append (f : Int → Int) (l m : List Int) : sumF f (l ++ m) = sumF f l + sumF f m := by
  induction l with
  | nil => simp [sumF]
  | cons x t ih => simp only [List.cons_append, sumF, ih]; omega
theorem sumF_gen (f : Int → Int) (g : Nat → Int) (n : Nat) : sumF f (gen n g) = sumN (fun i => f (g i)) n := by
  induction n with
  | zero => rfl
  | succ n ih => rw [gen_succ, sumF_append, ih]; simp [sumF, sumN]
/-- The terms of an aperiodic correlation at u. -/
def apT (f : Int → Int) (a b : List Int) (u : Int) (i : Nat) : Int := if 0 ≤ (i : Int) + u ∧ (i : Int) + u < a.length then f ((a.getD ((i : Int) + u).toNat 0 - b.getD i 0) % 4) else 0
def apS (f : Int → Int) (a b : List Int) (u : Int) : Int := sumN (apT f a b u) b.length
/-- The terms of a periodic one. -/
def peT (f : Int → Int) (a b : List Int) (u : Int) (i : Nat) : Int := f ((a.getD (((i : Int) + u) % (a.length : Int)).toNat 0 - b.getD i 0) % 4)
def peS (f : Int → Int) (a b : List Int) (u : Int) : Int := sumN (peT f a b u) b.length
/-- The terms of a value at a root. -/
def vrT (f : Int → Int) (l : List Int) (k : Int) (i : Nat) : Int := f ((l.getD i 0 + k * (i : Int)) % 4)
def vrS (f : Int → Int) (l : List Int) (k : Int) : Int := sumN (vrT f l k) l.length
theorem apT_one (f : Int → Int) (hf : ∀ x, -1 ≤ f x ∧ f x ≤ 1) (a b : List Int) (u : Int) (i : Nat) : -1 ≤ apT f a b u i ∧ apT f a b u i ≤ 1 := by
  unfold apT; split
  · exact hf _
  · omega
theorem peT_one (f : Int → Int) (hf : ∀ x, -1 ≤ f x ∧ f x ≤ 1) (a b : List Int) (u : Int) (i : Nat) : -1 ≤ peT f a b u i ∧ peT f a b u i ≤ 1 := hf _
theorem vrT_one (f : Int → Int) (hf : ∀ x, -1 ≤ f x ∧ f x ≤ 1) (l : List Int) (k : Int) (i : Nat) : -1 ≤ vrT f l k i ∧ vrT f l k i ≤ 1 := hf _
theorem apS_small (f : Int → Int) (hf : ∀ x, -1 ≤ f x ∧ f x ≤ 1) (a b : List Int) (u : Int) (h : b.length ≤ 32) : -32 ≤ apS f a b u ∧ apS f a b u ≤ 32 := by
  have := sumN_bound _ (apT_one f hf a b u) b.length
  unfold apS; omega
theorem peS_small (f : Int → Int) (hf : ∀ x, -1 ≤ f x ∧ f x ≤ 1) (a b : List Int) (u : Int) (h : b.length ≤ 32) : -32 ≤ peS f a b u ∧ peS f a b u ≤ 32 := by
  have := sumN_bound _ (peT_one f hf a b u) b.length
  unfold peS; omega
theorem vrS_small (f : Int → Int) (hf : ∀ x, -1 ≤ f x ∧ f x ≤ 1) (l : List Int) (k : Int) (h : l.length ≤ 32) : -32 ≤ vrS f l k ∧ vrS f l k ≤ 32 := by
  have := sumN_bound _ (vrT_one f hf l k) l.length
  unfold vrS; omega
theorem apT_in (f : Int → Int) (a b : List Int) (u : Int) (i M : Nat) (h : (i : Int) + u = M) (hM : M < a.length) : apT f a b u i = f ((a.getD M 0 - b.getD i 0) % 4) := by
  unfold apT
  rw [if_pos (by omega), h, Int.toNat_natCast]
theorem apT_out (f : Int → Int) (a b : List Int) (u : Int) (i : Nat) (h : ¬ (0 ≤ (i : Int) + u ∧ (i : Int) + u < a.length)) : apT f a b u i = 0 := by
  unfold apT
  rw [if_neg h]
/-- Up to the first index there is nothing. -/
theorem ap_start (f : Int → Int) (a b : List Int) (u : Int) (L : Nat) (h : (L : Int) ≤ -u ∨ L = 0) : sumN (apT f a b u) L = 0 :=
  sumN_zero _ _ (fun i hi => apT_out f a b u i (by omega))
/-- From the last index on there is nothing more. -/
theorem ap_end (f : Int → Int) (a b : List Int) (u : Int) (H : Nat) (hH : H ≤ b.length) (h : (a.length : Int) - u ≤ H ∨ H = b.length) : sumN (apT f a b u) H = apS f a b u := by
  unfold apS
  obtain ⟨d, hd⟩ : ∃ d, b.length = H + d := ⟨b.length - H, by omega⟩
  rw [hd]
  exact (sumN_same _ H d (fun i h1 h2 => apT_out f a b u i (by omega))).symm
end
section

theorem sq_small (X : Int) (h1 : -32 ≤ X) (h2 : X ≤ 32) : 0 ≤ X * X ∧ X * X ≤ 1024 := by
  have h : X.natAbs ≤ 32 := by omega
  have := Nat.mul_le_mul h h
  have e : X * X = ((X.natAbs * X.natAbs : Nat) : Int) := by rw [Int.natCast_mul, Int.natAbs_mul_self']
  rw [e]; omega
/-- The norm of the own correlation at u. -/
def nS (l : List Int) (u : Int) : Int := norm (apS vx l l u) (apS vy l l u)
theorem nS_bound (l : List Int) (h : l.length ≤ 32) (u : Int) : 0 ≤ nS l u ∧ nS l u ≤ 2048 := by
  have a := apS_small vx vx_one l l u h
  have b := apS_small vy vy_one l l u h
  have c := sq_small _ a.1 a.2
  have d := sq_small _ b.1 b.2
  unfold nS norm; omega
def sideT (l : List Int) (i : Nat) : Int := nS l ((i : Int) + 1)
def sideE (l : List Int) : Int := sumN (sideT l) (l.length - 1)
def maxN (g : Nat → Int) : Nat → Int
  | 0 => 0
  | k + 1 => if g k > maxN g k then g k else maxN g k
def peakS (l : List Int) : Int := maxN (sideT l) (l.length - 1)
def barB (l : List Int) : Bool := decide (1 ≤ l.length) && decide (peakS l ≤ 1)
theorem sumN_up (g : Nat → Int) (b : Int) (hg : ∀ i, 0 ≤ g i ∧ g i ≤ b) (k : Nat) : 0 ≤ sumN g k ∧ sumN g k ≤ k * b := by
  induction k with
  | zero => simp [sumN]
  | succ k ih =>
    have := hg k
    have e : ((k + 1 : Nat) : Int) * b = k * b + b := by rw [Int.natCast_add, Int.add_mul]; simp
    simp only [sumN]
    omega
theorem maxN_up (g : Nat → Int) (b : Int) (hb : 0 ≤ b) (hg : ∀ i, 0 ≤ g i ∧ g i ≤ b) (k : Nat) : 0 ≤ maxN g k ∧ maxN g k ≤ b := by
  induction k with
  | zero => simp [maxN]; exact hb
  | succ k ih => have := hg k; simp only [maxN]; split <;> omega
theorem sideE_bound (l : List Int) (h : l.length ≤ 32) : 0 ≤ sideE l ∧ sideE l ≤ 65536 := by
  have := sumN_up (sideT l) 2048 (fun i => nS_bound l h _) (l.length - 1)
  unfold sideE
  omega
theorem peakS_bound (l : List Int) (h : l.length ≤ 32) : 0 ≤ peakS l ∧ peakS l ≤ 2048 := maxN_up _ _ (by omega) (fun i => nS_bound l h _) _
end
section
open Go.RowKit

theorem run_addu (w : World) (t : TypeId) (X Y : Int) (a b : Nat) (h1 : -32 ≤ X ∧ X ≤ 32) (h2 : -32 ≤ Y ∧ Y ≤ 32) (ha : unitF a = true) (hb : unitF b = true) :
    (binOp .add t (.complex .f32 (f32of X) (f32of Y)) (.complex .f32 a b)).run Tryd.prog w = .ok (.complex .f32 (f32of (X + valF a)) (f32of (Y + valF b))) w :=
  run_complex_sum w .add (Or.inl rfl) t .f32 _ _ _ _ _ _ (by unfold cSumBits; rw [f32_addu X a (by omega) (by omega) ha, f32_addu Y b (by omega) (by omega) hb]; rfl)

end
end Go.Proofs.YtgjdaeaiheibbabDoor
