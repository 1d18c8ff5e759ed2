/- Tables of complex64 compared by ==. -/
import Derived.Test.YtccjmigdebchiaaIn
import Derived.ChangeKeysEq
import Derived.Laws.StructEq
namespace Go.Proofs.Ytccjmigdebchiaa
set_option maxRecDepth 100000
open Go.RowKit

def eqC (x y : Nat × Nat) : Bool := (FloatKind.f32.format.order x.1 y.1 == some .eq) && (FloatKind.f32.format.order x.2 y.2 == some .eq)
section
variable {P : Program}
theorem run_eqItems_of (d : Nat) (e : TypeId) (s : Nat) (xs ys : Array Value) (f : Nat → Bool) (w : World) : ∀ is : List Nat,
    (∀ i ∈ is, ∃ a b, (part e xs (i * s)).run P w = .ok a w ∧ (part e ys (i * s)).run P w = .ok b w ∧ (Op.equalIn d e a b).run P w = .ok (f i) w) → (Op.eqItems d e s xs ys is).run P w = .ok (is.all f) w
  | [], _ => by simp [Op.eqItems]
  | i :: is, h => by
    obtain ⟨a, b, h1, h2, h3⟩ := h i List.mem_cons_self
    have ih := run_eqItems_of d e s xs ys f w is (fun j hj => h j (List.mem_cons_of_mem _ hj))
    simp only [Op.eqItems, Sem.run_bind, h1, h2, h3, Result.andThen_ok, List.all_cons]
    cases f i
    · simp
    · simpa using ih
theorem run_equalIn_complex (d : Nat) (t : TypeId) (k : FloatKind) (x y : Nat × Nat) (w : World) (h : P.underlying t = some (.complex k)) : (Op.equalIn (d + 1) t (cxV x) (cxV y)).run P w = .ok (eqC x y) w := by
  unfold cxV eqC
  simp [Op.equalIn, run_underlying h, Op.floatEq]
end
theorem cellsC : Try.prog.cellsOf 47 = 1 := by kernel_rfl
theorem cellsRv : Try.prog.cellsOf 49 = 8 := by kernel_rfl
theorem run_equalIn_rv (d : Nat) (V W : Nat → Nat × Nat) (w : World) : (Op.equalIn (d + 2) 49 (.agg (rvC V 8)) (.agg (rvC W 8))).run Try.prog w = .ok ((List.range 8).all (fun c => eqC (V c) (W c))) w := by
  have hi : ∃ i, Try.prog.info? 47 = some i := Option.isSome_iff_exists.1 (by kernel_rfl)
  obtain ⟨i, hi⟩ := hi
  rw [run_equalIn_array w (d + 1) _ _ (Try.underlying49) hi, cellsC]
  refine run_eqItems_of _ _ _ _ _ _ w _ (fun c hc => ⟨cxV (V c), cxV (W c), ?_, ?_, run_equalIn_complex d _ _ _ _ w Try.underlying47⟩)
  · have : c < 8 := List.mem_range.1 hc
    simp [part, isAgg, run_underlying Try.underlying47, rvC_get V 8 c this]
  · have : c < 8 := List.mem_range.1 hc
    simp [part, isAgg, run_underlying Try.underlying47, rvC_get W 8 c this]
theorem rvC_extract (V : Nat → Nat × Nat) (i : Nat) (h : i < 8) : (rvC V 64).extract (i * 8) (i * 8 + 8) = rvC (fun c => V (i * 8 + c)) 8 := by
  apply Array.ext_getElem?
  intro j
  by_cases hj : j < 8
  · rw [rvC_get _ _ _ hj, Array.getElem?_extract]
    rw [if_pos (by rw [rvC_size]; omega), rvC_get _ _ _ (by omega)]
  · rw [Array.getElem?_eq_none (by simp [rvC_size]; omega), Array.getElem?_eq_none (by rw [rvC_size]; omega)]
theorem run_eql_tb (t : TypeId) (ht : t = 51) (V W : Nat → Nat × Nat) (w : World) :
    (binOp .eql t (.agg (rvC V 64)) (.agg (rvC W 64))).run Try.prog w = .ok (.bool ((List.range 8).all (fun i => (List.range 8).all (fun c => eqC (V (i * 8 + c)) (W (i * 8 + c)))))) w := by
  subst ht
  have hi : ∃ i, Try.prog.info? 49 = some i := Option.isSome_iff_exists.1 (by kernel_rfl)
  obtain ⟨i, hi⟩ := hi
  rw [run_eql_struct, run_equalIn_array w 9999 _ _ (Try.underlying51) hi, cellsRv]
  rw [run_eqItems_of 9999 _ 8 _ _ (fun i => (List.range 8).all (fun c => eqC (V (i * 8 + c)) (W (i * 8 + c)))) w (List.range 8) (fun c hc => ⟨.agg (rvC (fun j => V (c * 8 + j)) 8), .agg (rvC (fun j => W (c * 8 + j)) 8), ?_, ?_, run_equalIn_rv 9997 _ _ w⟩)]
  · rfl
  · have : c < 8 := List.mem_range.1 hc
    simp [part, isAgg, run_underlying Try.underlying49, rvC_extract V c this]
  · have : c < 8 := List.mem_range.1 hc
    simp [part, isAgg, run_underlying Try.underlying49, rvC_extract W c this]
end Go.Proofs.Ytccjmigdebchiaa
