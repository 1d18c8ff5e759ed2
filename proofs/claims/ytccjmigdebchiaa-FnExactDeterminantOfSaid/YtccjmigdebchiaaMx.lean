/- A matrix as a value of the program: sixty-four complex64 cells and a side; what it stands for. -/
import Derived.Test.YtccjmigdebchiaaPhs
import Derived.Test.YtccjmigdebchiaaCors
import Derived.Test.YtccjmigdebchiaaVm
namespace Go.Proofs.Ytccjmigdebchiaa
set_option maxRecDepth 100000
open Go.RowKit

def cxV (x : Nat × Nat) : Value := .complex .f32 x.1 x.2
def rvC (V : Nat → Nat × Nat) (n : Nat) : Array Value := ((List.range n).map (fun c => cxV (V c))).toArray
def mxC (V : Nat → Nat × Nat) (n : Int) : Array Value := rvC V 64 ++ #[.int .i64 n]
theorem rvC_size (V : Nat → Nat × Nat) (n : Nat) : (rvC V n).size = n := by simp [rvC]
theorem rvC_get (V : Nat → Nat × Nat) (n c : Nat) (h : c < n) : (rvC V n)[c]? = some (cxV (V c)) := by simp [rvC, h]
theorem rvC_one (V : Nat → Nat × Nat) (n : Nat) : (rvC V n).all (·.oneCell') = true := by
  rw [Array.all_eq_true_iff_forall_mem]
  intro v hv
  simp [rvC] at hv
  obtain ⟨a, _, rfl⟩ := hv
  rfl
theorem mxC_size (V : Nat → Nat × Nat) (n : Int) : (mxC V n).size = 65 := by simp [mxC, rvC_size]
theorem mxC_one (V : Nat → Nat × Nat) (n : Int) : (mxC V n).all (·.oneCell') = true := by
  unfold mxC; rw [Array.all_append, rvC_one]; simp [Value.oneCell']
theorem mxC_tab (V : Nat → Nat × Nat) (n : Int) : Part (mxC V n) 0 (rvC V 64) := (Part.self _).left
theorem mxC_get (V : Nat → Nat × Nat) (n : Int) (c : Nat) (h : c < 64) : (mxC V n)[c]? = some (cxV (V c)) := by
  unfold mxC; rw [Array.getElem?_append_left (by rw [rvC_size]; exact h)]; exact rvC_get V 64 c h
theorem mxC_side (V : Nat → Nat × Nat) (n : Int) : (mxC V n)[64]? = some (.int .i64 n) := by
  unfold mxC; rw [Array.getElem?_append_right (by rw [rvC_size]; omega), rvC_size]; rfl
theorem rvC_part (V : Nat → Nat × Nat) (n o k : Nat) (h : o + k ≤ n) : Part (rvC V n) o (rvC (fun c => V (o + c)) k) := fun j v hv => by
  have hj : j < k := by have := (List.getElem?_eq_some_iff.1 hv).1; simpa [rvC_size] using this
  have h1 : (rvC (fun c => V (o + c)) k)[j]? = some v := by simpa using hv
  rw [rvC_get _ _ _ hj] at h1
  rw [rvC_get _ _ _ (by omega), ← h1]
theorem mxC_row (V : Nat → Nat × Nat) (n : Int) (o : Nat) (h : o + 8 ≤ 64) : Part (mxC V n) o (rvC (fun c => V (o + c)) 8) := (rvC_part V 64 o 8 h).left
def up (V : Nat → Nat × Nat) (c : Nat) (x : Nat × Nat) : Nat → Nat × Nat := fun d => if d = c then x else V d
theorem rvC_set (V : Nat → Nat × Nat) (n c : Nat) (h : c < n) (x : Nat × Nat) : (rvC V n).setIfInBounds c (cxV x) = rvC (up V c x) n := by
  apply Array.ext_getElem?
  intro j
  by_cases hj : j < n
  · rw [rvC_get _ _ _ hj, Array.getElem?_setIfInBounds, rvC_size]
    by_cases e : c = j
    · subst e; rw [if_pos rfl, if_pos h]; simp [up]
    · rw [if_neg e, rvC_get _ _ _ hj]; simp [up, Ne.symm e]
  · rw [Array.getElem?_eq_none (by simp [rvC_size]; omega), Array.getElem?_eq_none (by rw [rvC_size]; omega)]
theorem mxC_set (V : Nat → Nat × Nat) (n : Int) (c : Nat) (h : c < 64) (x : Nat × Nat) : (mxC V n).setIfInBounds c (cxV x) = mxC (up V c x) n := by
  unfold mxC
  rw [← rvC_set V 64 c h x, Array.setIfInBounds_append_left (by rw [rvC_size]; exact h)]
def V0 : Nat → Nat × Nat := fun _ => (0, 0)
theorem infoMx : (Try.prog.info? 53).map (·.size) = some 65 := by kernel_rfl
theorem infoMxC (V : Nat → Nat × Nat) (n : Int) : (Try.prog.info? 53).map (·.size) = some (mxC V n).size := by rw [mxC_size]; exact infoMx
theorem infoRv : (Try.prog.info? 49).map (·.size) = some 8 := by kernel_rfl
theorem infoRvC (V : Nat → Nat × Nat) : (Try.prog.info? 49).map (·.size) = some (rvC V 8).size := by rw [rvC_size]; exact infoRv
theorem infoTb : (Try.prog.info? 51).map (·.size) = some 64 := by kernel_rfl
theorem infoTbC (V : Nat → Nat × Nat) : (Try.prog.info? 51).map (·.size) = some (rvC V 64).size := by rw [rvC_size]; exact infoTb
theorem zero_is_of {P : Program} {t : TypeId} {z : Value} (h : (P.info? t).map (·.zero) = some (some z)) (w : World) : (zeroValue t).run P w = .ok z w := by
  cases hi : P.info? t with
  | none => rw [hi] at h; cases h
  | some it =>
    rw [hi] at h
    simp only [Option.map_some, Option.some.injEq] at h
    unfold zeroValue typeInfo
    simp [Sem.run_bind, hi, h]
theorem zeroMx (w : World) : (zeroValue 53).run Try.prog w = .ok (.agg (mxC V0 0)) w := by
  refine zero_is_of ?_ w
  kernel_rfl
theorem builtMx (n : Int) : Try.prog.built 53 [(1, .int .i64 n)] = some (mxC V0 n) := by rfl
theorem builtMx0 : Try.prog.built 53 [] = some (mxC V0 0) := by rfl

/-! ### what it stands for -/
/-- The matrix V of side n stands for the phases M: zeros of the plain kind outside. -/
def MxR (V : Nat → Nat × Nat) (n : Nat) (M : Nat → Nat → Int) : Prop :=
  n ≤ 8 ∧ (∀ i j, i < n → j < n → isV (V (i * 8 + j)) (M i j)) ∧ ∀ i j, i < 8 → j < 8 → ¬ (i < n ∧ j < n) → V (i * 8 + j) = (0, 0)
theorem MxR.ext {V : Nat → Nat × Nat} {n : Nat} {M N : Nat → Nat → Int} (h : MxR V n M) (e : ∀ i j, i < n → j < n → M i j = N i j) : MxR V n N :=
  ⟨h.1, fun i j hi hj => by rw [← e i j hi hj]; exact h.2.1 i j hi hj, h.2.2⟩
theorem MxR.zero (M : Nat → Nat → Int) : MxR V0 0 M := ⟨by omega, fun i j hi => by omega, fun _ _ _ _ _ => rfl⟩
def upM (M : Nat → Nat → Int) (i j : Nat) (k : Int) : Nat → Nat → Int := fun a b => if a = i ∧ b = j then k else M a b
theorem MxR.set {V : Nat → Nat × Nat} {n : Nat} {M : Nat → Nat → Int} (h : MxR V n M) (i j : Nat) (hi : i < n) (hj : j < n) {x : Nat × Nat} {k : Int} (hx : isV x k) : MxR (up V (i * 8 + j) x) n (upM M i j k) := by
  have h8 := h.1
  refine ⟨h.1, fun a b ha hb => ?_, fun a b ha hb hn => ?_⟩
  · unfold up upM
    by_cases e : a = i ∧ b = j
    · obtain ⟨rfl, rfl⟩ := e
      rw [if_pos rfl, if_pos ⟨rfl, rfl⟩]; exact hx
    · rw [if_neg (by omega), if_neg e]; exact h.2.1 a b ha hb
  · unfold up
    rw [if_neg (by omega)]
    exact h.2.2 a b ha hb hn
theorem MxR.ph {V : Nat → Nat × Nat} {n : Nat} {M : Nat → Nat → Int} (h : MxR V n M) (i j : Nat) (hi : i < n) (hj : j < n) : 0 ≤ M i j ∧ M i j ≤ 3 := (h.2.1 i j hi hj).2.2

/-! ### inner products of rows -/
/-- A row of n values of phases, zeros behind them. -/
def RowR (V : Nat → Nat × Nat) (n : Nat) (f : Nat → Int) : Prop := ∀ j, j < 8 → (j < n → isV (V j) (f j)) ∧ (n ≤ j → V j = (0, 0))
theorem MxR.row {V : Nat → Nat × Nat} {n : Nat} {M : Nat → Nat → Int} (h : MxR V n M) (i : Nat) (hi : i < n) : RowR (fun c => V (i * 8 + c)) n (M i) := fun j hj =>
  ⟨fun hn => h.2.1 i j hi hn, fun hn => h.2.2 i j (by have := h.1; omega) hj (by omega)⟩
theorem MxR.out {V : Nat → Nat × Nat} {n : Nat} {M : Nat → Nat → Int} (h : MxR V n M) (i : Nat) (hi : n ≤ i) (h8 : i < 8) (f : Nat → Int) : RowR (fun c => V (i * 8 + c)) 0 f := fun j hj =>
  ⟨fun hn => absurd hn (Nat.not_lt_zero _), fun _ => h.2.2 i j h8 hj (by omega)⟩
theorem RowR.zero {V : Nat → Nat × Nat} {n : Nat} {f : Nat → Int} (h : RowR V n f) (j : Nat) (hj : n ≤ j) (h8 : j < 8) : V j = (0, 0) := (h j h8).2 hj
/-- The inner product's terms. -/
def ipT (f : Int → Int) (a b : Nat → Int) (n j : Nat) : Int := if j < n then f ((a j - b j) % 4) else 0
def ipS (f : Int → Int) (a b : Nat → Int) (n : Nat) : Int := sumN (ipT f a b n) 8
theorem ip_step {V W : Nat → Nat × Nat} {n : Nat} {a b : Nat → Int} (ha : RowR V n a) (hb : RowR W n b) (j : Nat) (hj : j < 8) :
    ∃ p : Nat × Nat, cMul32 (V j).1 (V j).2 (W j).1 (f32neg (W j).2) = some (p.1, p.2) ∧ unitF p.1 = true ∧ unitF p.2 = true ∧ valF p.1 = ipT vx a b n j ∧ valF p.2 = ipT vy a b n j := by
  unfold ipT
  by_cases h : j < n
  · have := isV_mul_cj ((ha j hj).1 h) ((hb j hj).1 h)
    refine ⟨mulB (V j) (cj (W j)), this.1, this.2.1.1, this.2.1.2, ?_, ?_⟩
    · rw [if_pos h]; exact this.2.2.1.1
    · rw [if_pos h]; exact this.2.2.1.2
  · have e1 := (ha j hj).2 (by omega)
    have e2 := (hb j hj).2 (by omega)
    refine ⟨(0, 0), by rw [e1, e2]; exact zero_mul_cj, by decide, by decide, ?_, ?_⟩
    · rw [if_neg h]; rfl
    · rw [if_neg h]; rfl
theorem ipT_one (f : Int → Int) (hf : ∀ x, -1 ≤ f x ∧ f x ≤ 1) (a b : Nat → Int) (n j : Nat) : -1 ≤ ipT f a b n j ∧ ipT f a b n j ≤ 1 := by
  unfold ipT; split
  · exact hf _
  · omega
theorem ipS_small (f : Int → Int) (hf : ∀ x, -1 ≤ f x ∧ f x ≤ 1) (a b : Nat → Int) (n k : Nat) (hk : k ≤ 8) : -8 ≤ sumN (ipT f a b n) k ∧ sumN (ipT f a b n) k ≤ 8 := by
  have := sumN_bound _ (ipT_one f hf a b n) k
  omega
theorem ipS_n (f : Int → Int) (a b : Nat → Int) (n : Nat) (h : n ≤ 8) : ipS f a b n = sumN (fun j => f ((a j - b j) % 4)) n := by
  unfold ipS
  obtain ⟨d, hd⟩ : ∃ d, 8 = n + d := ⟨8 - n, by omega⟩
  rw [hd, sumN_same _ n d (fun i h1 _ => by unfold ipT; rw [if_neg (by omega)])]
  exact sumN_ext _ _ _ (fun i hi => by unfold ipT; rw [if_pos hi])
end Go.Proofs.Ytccjmigdebchiaa
