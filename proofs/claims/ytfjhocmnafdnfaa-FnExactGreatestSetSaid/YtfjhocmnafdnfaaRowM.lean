/- Rows side by side in one block, written one after the other. -/
import Derived.Test.YtfjhocmnafdnfaaPhs
namespace Go.Proofs.Ytfjhocmnafdnfaa
set_option maxRecDepth 100000
open Go.RowKit

theorem setCells_size (b : Nat) : ∀ (vs : List Value) (o : Nat) (w : World), (w.setCells b o vs).heap.size = w.heap.size
  | [], _, _ => rfl
  | v :: r, o, w => by rw [World.setCells, setCells_size b r]; simp
theorem setCells_other (b k : Nat) (hk : k ≠ b) : ∀ (vs : List Value) (o : Nat) (w : World), (w.setCells b o vs).heap[k]? = w.heap[k]?
  | [], _, _ => rfl
  | v :: r, o, w => by rw [World.setCells, setCells_other b k hk r]; exact heap_setCell_other w ⟨b, o, none⟩ k v hk
theorem setCells_world (b : Nat) : ∀ (vs : List Value) (o : Nat) (w : World), (w.setCells b o vs).os = w.os ∧ (w.setCells b o vs).tape = w.tape ∧ (w.setCells b o vs).output = w.output
  | [], _, _ => ⟨rfl, rfl, rfl⟩
  | v :: r, o, w => by
    rw [World.setCells]
    have := setCells_world b r (o + 1) (w.setCell ⟨b, o, none⟩ v)
    exact this
/-- The first k of K rows of z cells in block g; all cells may be written. -/
structure AllAt (w : World) (g z K : Nat) (D : Nat → Array Value) (k : Nat) : Prop where
  cells : ∀ x, x < k → w.rangeAt g (x * z) (D x).toList
  there : w.there g 0 (K * z)
  lt : g < w.heap.size
theorem AllAt.below {w w' : World} {g z K k : Nat} {D : Nat → Array Value} (h : AllAt w g z K D k) (hb : Below w.heap.size w w') : AllAt w' g z K D k :=
  ⟨fun x hx j v hv => keepc hb (h.cells x hx j v hv), fun j hj => by
    obtain ⟨h1, h2⟩ := h.there j hj
    exact ⟨by rw [hb.cell (p := ⟨g, 0 + j, none⟩) h.lt]; exact h1, by rw [hb.frozen (p := ⟨g, 0 + j, none⟩) h.lt]; exact h2⟩, Nat.lt_of_lt_of_le h.lt hb.size⟩
theorem AllAt.block {w w' : World} {g z K k : Nat} {D : Nat → Array Value} (h : AllAt w g z K D k) (hb : w'.heap[g]? = w.heap[g]?) (hs : g < w'.heap.size) : AllAt w' g z K D k :=
  ⟨fun x hx j v hv => (World.cell?_of_block (a := ⟨g, x * z + j, none⟩) hb).trans (h.cells x hx j v hv), fun j hj => by
    obtain ⟨h1, h2⟩ := h.there j hj
    exact ⟨by rw [World.cell?_of_block (a := ⟨g, 0 + j, none⟩) hb]; exact h1, by rw [World.frozen?_of_block (a := ⟨g, 0 + j, none⟩) hb]; exact h2⟩, hs⟩
theorem AllAt.one {w : World} {g z K k : Nat} {D : Nat → Array Value} (h : AllAt w g z K D k) (x : Nat) (hx : x < K) : w.there g (x * z) z := fun j hj => by
  have := h.there (x * z + j) (by
    have : (x + 1) * z ≤ K * z := Nat.mul_le_mul_right z hx
    rw [Nat.add_mul, Nat.one_mul] at this
    omega)
  rwa [Nat.zero_add] at this
theorem AllAt.next {w : World} {g z K k : Nat} {D : Nat → Array Value} (h : AllAt w g z K D k) (hk : k < K) (hD : ∀ x, (D x).size = z) : AllAt (w.setCells g (k * z) (D k).toList) g z K D (k + 1) := by
  have ht : w.there g (k * z) (D k).toList.length := by rw [Array.length_toList, hD]; exact h.one k hk
  refine ⟨fun x hx => ?_, World.there_setCells h.there _ _ _, by rw [setCells_size]; exact h.lt⟩
  by_cases e : x = k
  · subst e
    exact World.rangeAt_setCells_same w g _ _ ht
  · refine World.rangeAt_setCells_apart (h.cells x (by omega)) g _ _ (Or.inr (Or.inl ?_))
    rw [Array.length_toList, hD]
    have : (x + 1) * z ≤ k * z := Nat.mul_le_mul_right z (by omega)
    rw [Nat.add_mul, Nat.one_mul] at this
    omega
theorem AllAt.start {w : World} {B g z K : Nat} {E : TypeId} {D : Nat → Array Value} {cap : Nat} {xs : List Value} (h : w.ownsRow B E z (.slice (some ⟨g, 0, none⟩) K cap) K xs) : AllAt w g z K D 0 := by
  refine ⟨fun x hx => by omega, fun j hj => ?_, (h.lt g rfl).2⟩
  rw [Nat.zero_add]
  refine ⟨?_, h.frozenAt j⟩
  rw [h.cellAt j hj, List.getElem?_eq_getElem (by rw [h.1]; exact hj)]
  rfl
section
variable {P : Program}
/-- A whole value is stored at its place in a block of many: the world behind it under a name. -/
theorem wpList_put_at {ops : Array Oper} {rest : List Oper} {o : Oper} {a : Act} {w : World} {Q : Exit → Act → World → Prop} (hgd : o.guard = none) (ty : TypeId) (x y : Operand) (ho : o.op = .store ty x y)
    (g z K k : Nat) (D : Nat → Array Value) (hx : a.eval x = .pointer (some ⟨g, k * z, none⟩)) (hy : a.eval y = .agg (D k)) (hall : AllAt w g z K D k) (hk : k < K) (hD : ∀ x, (D x).size = z)
    (hi : (P.info? ty).map (·.size) = some z) (h1 : (D k).all (·.oneCell') = true) (S : Nat) (w0 : World) (hb : Below S w0 w) (hS : S ≤ g)
    (h : ∀ w', AllAt w' g z K D (k + 1) → SetAt w w' g → Below S w0 w' → wpList P ops Q rest (a.put o.dst undef) w') : wpList P ops Q (o :: rest) a w := by
  refine wpList_store_mid hgd ty x y ho g (k * z) (D k) hx hy (by rw [hD]; exact hall.one k hk) (by rw [hD]; exact hi) h1 ?_
  obtain ⟨s1, s2, s3⟩ := setCells_world g (D k).toList (k * z) w
  refine h _ (hall.next hk hD) ⟨setCells_size _ _ _ _, fun j hj => setCells_other g j hj _ _ _⟩ ?_
  exact hb.trans ⟨s1, s2, s3, Nat.le_of_eq (setCells_size _ _ _ _).symm, fun j hj => setCells_other g j (by omega) _ _ _⟩
/-- One of the rows is loaded. -/
theorem wpList_load_at {ops : Array Oper} {rest : List Oper} {op : Oper} {a : Act} {w : World} {Q : Exit → Act → World → Prop} (hgd : op.guard = none) (ty : TypeId) (x : Operand) (ho : op.op = .load ty x)
    (g z K k i : Nat) (D : Nat → Array Value) (hx : a.eval x = .pointer (some ⟨g, i * z, none⟩)) (hall : AllAt w g z K D k) (hik : i < k) (hD : (D i).size = z) (d : TypeDesc)
    (hu : P.underlying ty = some d) (hd : d.isRow = true) (hi : (P.info? ty).map (·.size) = some z)
    (h : wpList P ops Q rest (a.put op.dst (.agg (D i))) w) : wpList P ops Q (op :: rest) a w := by
  have := wpList_load_mid (P := P) (ops := ops) (rest := rest) (op := op) (a := a) (w := w) (Q := Q) hgd ty x ho g (i * z) hx (D i).toList d (hall.cells i hik) hu hd (by rw [hi, Array.length_toList, hD])
  rw [Array.toArray_toList] at this
  exact this h
end
end Go.Proofs.Ytfjhocmnafdnfaa
