/- Rows of sums of the program, compared by ==; what they say of perfect arrays. -/
import Derived.Test.YtjoepdflbbcliabMx
import Derived.Test.YtjoepdflbbcliabGa
import Derived.Test.YtjoepdflbbcliabPwM
import Derived.ChangeKeysEq
import Derived.Laws.StructEq
namespace Go.Proofs.Ytjoepdflbbcliab
set_option maxRecDepth 100000
open Go.RowKit

def eqX (x y : Nat × Nat) : Bool := (FloatKind.f32.format.order x.1 y.1 == some .eq) && (FloatKind.f32.format.order x.2 y.2 == some .eq)
section
variable {P : Program}
theorem run_eqItems_as (d : Nat) (e : TypeId) (s : Nat) (xs ys : Array Value) (f : Nat → Bool) (w : World) : ∀ is : List Nat,
    (∀ i ∈ is, ∃ a b, (part e xs (i * s)).run P w = .ok a w ∧ (part e ys (i * s)).run P w = .ok b w ∧ (Op.equalIn d e a b).run P w = .ok (f i) w) → (Op.eqItems d e s xs ys is).run P w = .ok (is.all f) w
  | [], _ => by simp [Op.eqItems]
  | i :: is, h => by
    obtain ⟨a, b, h1, h2, h3⟩ := h i List.mem_cons_self
    have ih := run_eqItems_as d e s xs ys f w is (fun j hj => h j (List.mem_cons_of_mem _ hj))
    simp only [Op.eqItems, Sem.run_bind, h1, h2, h3, Result.andThen_ok, List.all_cons]
    cases f i
    · simp
    · simpa using ih
theorem run_equalIn_cx (d : Nat) (t : TypeId) (k : FloatKind) (x y : Nat × Nat) (w : World) (h : P.underlying t = some (.complex k)) (hk : k = .f32) : (Op.equalIn (d + 1) t (cxV x) (cxV y)).run P w = .ok (eqX x y) w := by
  subst hk
  unfold cxV eqX
  simp [Op.equalIn, run_underlying h, Op.floatEq]
end
theorem cellsCx : Try.prog.cellsOf 56 = 1 := by kernel_rfl
theorem run_equal_rs (V W : Nat → Nat × Nat) (w : World) : (Op.equalIn 10000 83 (.agg (rvC V 8)) (.agg (rvC W 8))).run Try.prog w = .ok ((List.range 8).all (fun c => eqX (V c) (W c))) w := by
  have hi : ∃ i, Try.prog.info? 56 = some i := Option.isSome_iff_exists.1 (by kernel_rfl)
  obtain ⟨i, hi⟩ := hi
  rw [run_equalIn_array w 9999 _ _ (Try.underlying83) hi, cellsCx]
  refine run_eqItems_as _ _ _ _ _ _ w _ (fun c hc => ⟨cxV (V c), cxV (W c), ?_, ?_, run_equalIn_cx 9998 _ _ _ _ w Try.underlying56 rfl⟩)
  · have : c < 8 := List.mem_range.1 hc
    simp [part, isAgg, run_underlying Try.underlying56, rvC_get V 8 c this]
  · have : c < 8 := List.mem_range.1 hc
    simp [part, isAgg, run_underlying Try.underlying56, rvC_get W 8 c this]
theorem run_neq_rs (t : TypeId) (ht : t = 83) (V W : Nat → Nat × Nat) (w : World) :
    (binOp .neq t (.agg (rvC V 8)) (.agg (rvC W 8))).run Try.prog w = .ok (.bool (!((List.range 8).all (fun c => eqX (V c) (W c))))) w := by
  subst ht
  rw [run_neq_struct, run_equal_rs]
  rfl

/-! ### what the rows are -/
def csV (n m : Nat) (M : Nat → Nat → Int) (u : Nat) (k : Nat) : Nat → Nat × Nat := fun v => if v < k then (f32of (gaS vx n m M u v n), f32of (gaS vy n m M u v n)) else (0, 0)
def ipV (n m u : Nat) : Nat → Nat × Nat := fun v => if u = 0 ∧ v = 0 then (f32of ((n * m : Nat) : Int), 0) else (0, 0)
theorem csV_zero (n m : Nat) (M : Nat → Nat → Int) (u : Nat) : csV n m M u 0 = V0 := by funext v; unfold csV V0; rw [if_neg (Nat.not_lt_zero _)]
theorem csV_step (n m : Nat) (M : Nat → Nat → Int) (u k : Nat) : up (csV n m M u k) k (f32of (gaS vx n m M u k n), f32of (gaS vy n m M u k n)) = csV n m M u (k + 1) := by
  funext v
  unfold up csV
  by_cases e : v = k
  · subst e; rw [if_pos rfl, if_pos (by omega)]
  · rw [if_neg e]
    by_cases h : v < k
    · rw [if_pos h, if_pos (by omega)]
    · rw [if_neg h, if_neg (by omega)]
theorem ipV_off (n m u : Nat) (h : u ≠ 0) : ipV n m u = V0 := by funext v; unfold ipV V0; rw [if_neg (fun e => h e.1)]
theorem ipV_zero (n m : Nat) : ipV n m 0 = up V0 0 (f32of ((n * m : Nat) : Int), 0) := by
  funext v
  unfold ipV up
  by_cases e : v = 0
  · rw [if_pos ⟨rfl, e⟩, if_pos e]
  · rw [if_neg (fun h => e h.2), if_neg e]; rfl
theorem eqX_refl (k : Nat) (h : k ≤ 64) : eqX (f32of (k : Int), 0) (f32of (k : Int), 0) = true := by
  have t : ∀ k : Nat, k < 65 → eqX (f32of (k : Int), 0) (f32of (k : Int), 0) = true := by decide +kernel
  exact t k (by omega)
theorem eqX_zero (X Y : Int) (hx : -64 ≤ X ∧ X ≤ 64) (hy : -64 ≤ Y ∧ Y ≤ 64) : eqX (f32of X, f32of Y) (0, 0) = (decide (X = 0) && decide (Y = 0)) := by
  unfold eqX
  dsimp only
  rw [f32_zero X hx, f32_zero Y hy]
theorem sumN_const (c : Int) (k : Nat) : sumN (fun _ => c) k = c * k := by
  induction k with
  | zero => simp [sumN]
  | succ k ih => simp only [sumN, ih]; push_cast; rw [Int.mul_add, Int.mul_one]
/-- At 0, 0 each product is 1. -/
theorem ga_origin (f : Int → Int) (n m : Nat) (M : Nat → Nat → Int) : gaS f n m M 0 0 n = f 0 * m * n := by
  have h1 : ∀ i, i < n → gaR f n m M 0 0 i m = f 0 * m := fun i hi => by
    unfold gaR
    rw [← sumN_const]
    refine sumN_ext _ _ _ (fun j hj => ?_)
    unfold gaT
    rw [Nat.add_zero, Nat.add_zero, Nat.mod_eq_of_lt hi, Nat.mod_eq_of_lt hj, Int.sub_self]; rfl
  unfold gaS
  rw [← sumN_const]
  exact sumN_ext _ _ _ h1
/-- A row of sums is what it is in each perfect array just where the array's correlations of this row vanish. -/
theorem rs_row (l : List (List Int)) (hok : arOk l = true) (u : Nat) (hu : u < l.length) :
    (List.range 8).all (fun c => eqX (csV l.length (colsOf l) (atM l) u (colsOf l) c) (ipV l.length (colsOf l) u c)) = pwRow l u (colsOf l) := by
  obtain ⟨⟨p1, p2⟩, ⟨p3, p4⟩, -⟩ := arOk_parts hok
  have hb : ∀ v, (-64 ≤ aaS vx l u v l.length ∧ aaS vx l u v l.length ≤ 64) ∧ (-64 ≤ aaS vy l u v l.length ∧ aaS vy l u v l.length ≤ 64) := fun v => by
    have h1 := aaS_le vx vx_one l u v p4 l.length
    have h2 := aaS_le vy vy_one l u v p4 l.length
    omega
  have hone : ∀ v, v < colsOf l → eqX (csV l.length (colsOf l) (atM l) u (colsOf l) v) (ipV l.length (colsOf l) u v) = (decide (u + v = 0) || pwZ l u v) := fun v hv => by
    unfold csV
    rw [if_pos hv, ga_aa, ga_aa]
    by_cases e : u + v = 0
    · have e1 : u = 0 := by omega
      have e2 : v = 0 := by omega
      subst e1 e2
      rw [decide_eq_true e, Bool.true_or]
      unfold ipV
      rw [if_pos ⟨rfl, rfl⟩, ← ga_aa, ← ga_aa, ga_origin, ga_origin]
      have hnm : l.length * colsOf l ≤ 64 := Nat.mul_le_mul p2 p4
      rw [show vx 0 * (colsOf l : Int) * (l.length : Int) = ((l.length * colsOf l : Nat) : Int) by rw [show vx 0 = 1 from rfl]; push_cast; rw [Int.one_mul, Int.mul_comm], show vy 0 * (colsOf l : Int) * (l.length : Int) = 0 by rw [show vy 0 = 0 from rfl]; simp]
      exact eqX_refl _ hnm
    · rw [decide_eq_false e, Bool.false_or]
      unfold ipV
      rw [if_neg (by omega), eqX_zero _ _ (hb v).1 (hb v).2]
      rfl
  have hrow : ∀ k, k ≤ colsOf l → (List.range k).all (fun c => eqX (csV l.length (colsOf l) (atM l) u (colsOf l) c) (ipV l.length (colsOf l) u c)) = pwRow l u k := fun k hk => by
    induction k with
    | zero => rfl
    | succ k ih =>
      rw [List.range_succ, List.all_append, ih (by omega)]
      show (pwRow l u k && (eqX _ _ && true)) = (pwRow l u k && (decide (u + k = 0) || pwZ l u k))
      rw [Bool.and_true, hone k (by omega)]
  have hrest : ∀ d, colsOf l + d ≤ 8 → (List.range (colsOf l + d)).all (fun c => eqX (csV l.length (colsOf l) (atM l) u (colsOf l) c) (ipV l.length (colsOf l) u c)) = pwRow l u (colsOf l) := fun d hd => by
    induction d with
    | zero => exact hrow _ (Nat.le_refl _)
    | succ d ih =>
      rw [← Nat.add_assoc, List.range_succ, List.all_append, ih (by omega)]
      have e : eqX (csV l.length (colsOf l) (atM l) u (colsOf l) (colsOf l + d)) (ipV l.length (colsOf l) u (colsOf l + d)) = true := by
        unfold csV ipV
        rw [if_neg (by omega), if_neg (by omega)]
        decide +kernel
      simp only [List.all_cons, List.all_nil, e, Bool.and_true]
  have := hrest (8 - colsOf l) (by omega)
  rwa [show colsOf l + (8 - colsOf l) = 8 by omega] at this
end Go.Proofs.Ytjoepdflbbcliab
