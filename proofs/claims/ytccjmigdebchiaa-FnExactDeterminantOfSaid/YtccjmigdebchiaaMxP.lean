/- A row of values laid into a matrix, whole. -/
import Derived.Test.YtccjmigdebchiaaIMx
namespace Go.Proofs.Ytccjmigdebchiaa
set_option maxRecDepth 100000
open Go.RowKit

/-- Eight cells from o on are U's. -/
def upR (V : Nat → Nat × Nat) (o : Nat) (U : Nat → Nat × Nat) : Nat → Nat × Nat := fun c => if o ≤ c ∧ c < o + 8 then U (c - o) else V c
def upL (V : Nat → Nat × Nat) (o : Nat) : List (Nat × Nat) → Nat → Nat × Nat
  | [] => V
  | x :: xs => upL (up V o x) (o + 1) xs
theorem upL_at (xs : List (Nat × Nat)) : ∀ (V : Nat → Nat × Nat) (o c : Nat), upL V o xs c = if o ≤ c ∧ c < o + xs.length then xs.getD (c - o) (0, 0) else V c := by
  induction xs with
  | nil => intro V o c; rw [if_neg (by simp only [List.length_nil]; omega)]; rfl
  | cons x xs ih =>
    intro V o c
    show upL (up V o x) (o + 1) xs c = _
    rw [ih]
    by_cases h : o + 1 ≤ c ∧ c < o + 1 + xs.length
    · rw [if_pos h, if_pos (by simp; omega), show c - o = (c - (o + 1)) + 1 by omega]
      rfl
    · rw [if_neg h]
      unfold up
      by_cases e : c = o
      · subst e; rw [if_pos rfl, if_pos (by simp)]; simp
      · rw [if_neg e, if_neg (by simp; omega)]
theorem upL_row (V U : Nat → Nat × Nat) (o : Nat) : upL V o ((List.range 8).map U) = upR V o U := by
  funext c
  rw [upL_at]
  unfold upR
  by_cases h : o ≤ c ∧ c < o + 8
  · rw [if_pos (by simpa using h), if_pos h]
    have : c - o < 8 := by omega
    simp [List.getD, this]
  · rw [if_neg (by simpa using h), if_neg h]
theorem set_list (xs : List (Nat × Nat)) (n : Int) (t : TypeId) (g : Nat) : ∀ (w : World) (o : Nat) (V : Nat → Nat × Nat), w.heap[g]? = some (.cells (mxC V n) t (0, 0)) → o + xs.length ≤ 64 →
    (w.setCells g o (xs.map cxV)).heap[g]? = some (.cells (mxC (upL V o xs) n) t (0, 0)) ∧ SetAt w (w.setCells g o (xs.map cxV)) g ∧ ∀ S w0, Below S w0 w → S ≤ g → Below S w0 (w.setCells g o (xs.map cxV)) := by
  induction xs with
  | nil => intro w o V h _; exact ⟨h, ⟨rfl, fun _ _ => rfl⟩, fun _ _ hb _ => hb⟩
  | cons x xs ih =>
    intro w o V h hl
    have hl' : o + (xs.length + 1) ≤ 64 := hl
    have h1 := set_row h (c := o) (by omega) x
    have := ih (w.setCell ⟨g, o, none⟩ (cxV x)) (o + 1) (up V o x) h1 (by omega)
    refine ⟨this.1, ⟨?_, fun k hk => ?_⟩, fun S w0 hb hS => ?_⟩
    · have e := this.2.1.size
      rw [show (w.setCell ⟨g, o, none⟩ (cxV x)).heap.size = w.heap.size by simp] at e
      exact e
    · exact (this.2.1.block k hk).trans (heap_setCell_other w ⟨g, o, none⟩ k (cxV x) hk)
    · exact this.2.2 S w0 (hb.setCell (p := ⟨g, o, none⟩) hS (cxV x)) hS
theorem rvC_list (U : Nat → Nat × Nat) (n : Nat) : (rvC U n).toList = ((List.range n).map U).map cxV := by simp [rvC]
section
variable {P : Program}
theorem there_row {w : World} {g o : Nat} {V : Nat → Nat × Nat} {n : Int} {t : TypeId} (hg : w.heap[g]? = some (.cells (mxC V n) t (0, 0))) (k : Nat) (h : o + k ≤ 64) : w.there g o k := fun j hj =>
  ⟨by rw [cell_row hg (c := o + j) (by omega)]; rfl, rowFree hg⟩
theorem wp_put_rv {op : Oper} {a : Act} {w : World} {K : Act → World → Prop} {Q : Exit → Act → World → Prop} (ty : TypeId) (x y : Operand) (ho : op.op = .store ty x y)
    (g o : Nat) (U : Nat → Nat × Nat) (hx : a.eval x = .pointer (some ⟨g, o, none⟩)) (hy : a.eval y = .agg (rvC U 8))
    (V : Nat → Nat × Nat) (n : Int) (t : TypeId) (hg : w.heap[g]? = some (.cells (mxC V n) t (0, 0))) (h64 : o + 8 ≤ 64) (hi : (P.info? ty).map (·.size) = some 8) (S : Nat) (w0 : World) (hb : Below S w0 w) (hS : S ≤ g)
    (h : ∀ w', w'.heap[g]? = some (.cells (mxC (upR V o U) n) t (0, 0)) → SetAt w w' g → Below S w0 w' → K (a.put op.dst undef) w') : op.wp P a w K Q := by
  refine wp_store_mid ty x y ho g o (rvC U 8) hx hy (by rw [rvC_size]; exact there_row hg 8 h64) (by rw [rvC_size]; exact hi) (rvC_one _ _) ?_
  rw [rvC_list]
  have := set_list ((List.range 8).map U) n t g w o V hg (by simpa using h64)
  rw [upL_row] at this
  exact h _ this.1 this.2.1 (this.2.2 S w0 hb hS)
theorem wpList_put_rv {ops : Array Oper} {rest : List Oper} {op : Oper} {a : Act} {w : World} {Q : Exit → Act → World → Prop} (hgd : op.guard = none) (ty : TypeId) (x y : Operand) (ho : op.op = .store ty x y)
    (g o : Nat) (U : Nat → Nat × Nat) (hx : a.eval x = .pointer (some ⟨g, o, none⟩)) (hy : a.eval y = .agg (rvC U 8))
    (V : Nat → Nat × Nat) (n : Int) (t : TypeId) (hg : w.heap[g]? = some (.cells (mxC V n) t (0, 0))) (h64 : o + 8 ≤ 64) (hi : (P.info? ty).map (·.size) = some 8) (S : Nat) (w0 : World) (hb : Below S w0 w) (hS : S ≤ g)
    (h : ∀ w', w'.heap[g]? = some (.cells (mxC (upR V o U) n) t (0, 0)) → SetAt w w' g → Below S w0 w' → wpList P ops Q rest (a.put op.dst undef) w') : wpList P ops Q (op :: rest) a w :=
  wpList_plain hgd fun _ hK => wp_put_rv ty x y ho g o U hx hy V n t hg h64 hi S w0 hb hS (fun w' h1 h2 h3 => hK _ _ (h w' h1 h2 h3))
theorem wp_load_part {op : Oper} {a : Act} {w : World} {K : Act → World → Prop} {Q : Exit → Act → World → Prop} (ty : TypeId) (x : Operand) (ho : op.op = .load ty x)
    (g o : Nat) (hx : a.eval x = .pointer (some ⟨g, o, none⟩)) (C D : Array Value) (t : TypeId) (fr : Nat × Nat) (d : TypeDesc) (hg : w.heap[g]? = some (.cells C t fr)) (hp : Part C o D)
    (hu : P.underlying ty = some d) (hd : d.isRow = true) (hi : (P.info? ty).map (·.size) = some D.size)
    (h : K (a.put op.dst (.agg D)) w) : op.wp P a w K Q := by
  refine wp_load_mid ty x ho g o hx D.toList d (fun j v hv => rowC hg (hp j v hv)) hu hd (by rw [hi, Array.length_toList]) ?_
  rwa [Array.toArray_toList]
end
/-- Rows exchanged. -/
def swV (V : Nat → Nat × Nat) (i j : Nat) : Nat → Nat × Nat := fun c => if c / 8 = j then V (i * 8 + c % 8) else if c / 8 = i then V (j * 8 + c % 8) else V c
theorem swV_up (V : Nat → Nat × Nat) (i j : Nat) : upR (upR V (i * 8) (fun c => V (j * 8 + c))) (j * 8) (fun c => V (i * 8 + c)) = swV V i j := by
  funext c
  unfold upR swV
  dsimp only
  by_cases h1 : c / 8 = j
  · rw [if_pos h1, if_pos (by omega)]; congr 1; omega
  · rw [if_neg h1, if_neg (by omega)]
    by_cases h2 : c / 8 = i
    · rw [if_pos h2, if_pos (by omega)]; congr 1; omega
    · rw [if_neg h2, if_neg (by omega)]
theorem sw_MxR {V : Nat → Nat × Nat} {n : Nat} {M : Nat → Nat → Int} (h : MxR V n M) (i j : Nat) (hi : i < n) (hj : j < n) : MxR (swV V i j) n (fun a b => if a = j then M i b else if a = i then M j b else M a b) := by
  have h8 := h.1
  refine ⟨h8, fun a b ha hb => ?_, fun a b ha hb hn => ?_⟩
  · unfold swV
    rw [show (a * 8 + b) / 8 = a by omega, show (a * 8 + b) % 8 = b by omega]
    by_cases h1 : a = j
    · simp only [if_pos h1]; exact h.2.1 i b hi hb
    · simp only [if_neg h1]
      by_cases h2 : a = i
      · simp only [if_pos h2]; exact h.2.1 j b hj hb
      · simp only [if_neg h2]; exact h.2.1 a b ha hb
  · unfold swV
    rw [show (a * 8 + b) / 8 = a by omega, show (a * 8 + b) % 8 = b by omega]
    by_cases h1 : a = j
    · simp only [if_pos h1]; exact h.2.2 i b (by omega) hb (by omega)
    · simp only [if_neg h1]
      by_cases h2 : a = i
      · simp only [if_pos h2]; exact h.2.2 j b (by omega) hb (by omega)
      · simp only [if_neg h2]; exact h.2.2 a b ha hb hn
end Go.Proofs.Ytccjmigdebchiaa
