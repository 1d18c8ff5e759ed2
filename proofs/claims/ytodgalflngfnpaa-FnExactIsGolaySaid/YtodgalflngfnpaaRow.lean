/- Rows of cells, known whole: opaque worlds behind an alloc, a box, a store; parts of rows; structs made of parts. -/
import Derived.Test.YtodgalflngfnpaaPh
import Derived.Deep.MidRow
import Derived.Great.FillDense
namespace Go.Proofs.Ytodgalflngfnpaa
set_option maxRecDepth 100000
open Go.RowKit

/-- D lies in C from o on. -/
def Part (C : Array Value) (o : Nat) (D : Array Value) : Prop := ∀ (j : Nat) v, D.toList[j]? = some v → C[o + j]? = some v
theorem Part.self (C : Array Value) : Part C 0 C := fun j v h => by rw [Nat.zero_add]; simpa using h
theorem Part.left {A B D : Array Value} {o : Nat} (h : Part A o D) : Part (A ++ B) o D := fun j v hv => by
  have := h j v hv
  have hl := (Array.getElem?_eq_some_iff.1 this).1
  rw [Array.getElem?_append_left hl]; exact this
theorem Part.right {A B D : Array Value} {o n m : Nat} (h : Part B o D) (hA : A.size = n) (hm : m = n + o) : Part (A ++ B) m D := fun j v hv => by
  subst hm hA
  rw [Array.getElem?_append_right (by omega), show A.size + o + j - A.size = o + j by omega]
  exact h j v hv
theorem Part.cell {C D : Array Value} {o : Nat} (h : Part C o D) {i : Nat} {v : Value} (hv : D[i]? = some v) : C[o + i]? = some v := h i v (by simpa using hv)
theorem Part.trans {C D E : Array Value} {o p m : Nat} (h : Part C o D) (h' : Part D p E) (hm : m = o + p) : Part C m E := fun j v hv => by
  subst hm
  rw [Nat.add_assoc]
  exact h.cell (h' j v hv)
theorem row_lt {w : World} {g : Nat} {x : Obj} (h : w.heap[g]? = some x) : g < w.heap.size := (Array.getElem?_eq_some_iff.1 h).1
/-- A block that was there is there behind a step that keeps what was there. -/
theorem rowB {w w' : World} {g : Nat} {x : Obj} (h : w.heap[g]? = some x) (hb : Below w.heap.size w w') : w'.heap[g]? = some x := (hb.block g (row_lt h)).trans h
theorem rowC {w : World} {g : Nat} {C : Array Value} {t : TypeId} {fr : Nat × Nat} (h : w.heap[g]? = some (.cells C t fr)) {i : Nat} {v : Value} (hv : C[i]? = some v) : w.cell? ⟨g, i, none⟩ = some v := by
  rw [cell_of_row w _ _ _ _ _ h]; exact hv
theorem rowFree {w : World} {g i : Nat} {C : Array Value} {t : TypeId} (h : w.heap[g]? = some (.cells C t (0, 0))) : w.frozen? ⟨g, i, none⟩ = false := by
  simp [World.frozen?, h]
/-- w' is w but for block g. -/
structure SetAt (w w' : World) (g : Nat) : Prop where
  size : w'.heap.size = w.heap.size
  block : ∀ k, k ≠ g → w'.heap[k]? = w.heap[k]?
theorem SetAt.row {w w' : World} {g k : Nat} {x : Obj} (h : SetAt w w' g) (hk : w.heap[k]? = some x) (hne : k ≠ g) : w'.heap[k]? = some x := (h.block k hne).trans hk

theorem grownB {w0 w w' : World} {row : Option Nat} (h : w0.grownBy w row) (hb : Below w.heap.size w w') : w0.grownBy w' row :=
  ⟨hb.os.trans h.os, hb.tape.trans h.tape, hb.output.trans h.output, Nat.le_trans h.size hb.size, fun k hk hne => (hb.block k (Nat.lt_of_lt_of_le hk h.size)).trans (h.block k hk hne)⟩
theorem grownS {w0 w w' w1 : World} {g S : Nat} (h : w0.grownBy w (some g)) (hs : SetAt w w' g) (hb : Below S w1 w') (h1 : Below S w1 w) : w0.grownBy w' (some g) :=
  ⟨(hb.os.trans h1.os.symm).trans h.os, (hb.tape.trans h1.tape.symm).trans h.tape, (hb.output.trans h1.output.symm).trans h.output, Nat.le_trans h.size (Nat.le_of_eq hs.size.symm), fun k hk hne => (hs.block k (fun e => hne (by rw [e]))).trans (h.block k hk hne)⟩
theorem grownDrew {w0 w : World} {row : Option Nat} (h : w0.grownBy w row) : w0.grownBy w.drew row := ⟨h.os, h.tape, h.output, h.size, h.block⟩
theorem rowG {w w' : World} {g : Nat} {x : Obj} {row : Option Nat} (h : w.heap[g]? = some x) (hg : w.grownBy w' row) (hne : some g ≠ row) : w'.heap[g]? = some x := (hg.block g (row_lt h) hne).trans h

section
variable {P : Program}
theorem run_part (w : World) (g o : Nat) (ty : TypeId) (C D : Array Value) (t : TypeId) (fr : Nat × Nat) (d : TypeDesc) (hg : w.heap[g]? = some (.cells C t fr)) (hp : Part C o D)
    (hu : P.underlying ty = some d) (hd : d.isRow = true) (hi : (P.info? ty).map (·.size) = some D.size) :
    (Instr.loadAt ty (.pointer (some ⟨g, o, none⟩))).run P w = .ok (.agg D) w := by
  have := run_loadAt_mid (P := P) w g o ty D.toList d (fun j v hv => rowC hg (hp j v hv)) hu hd (by rw [hi, Array.length_toList])
  rwa [Array.toArray_toList] at this
/-- The operation that is next, by its make: so that an arm that does not fit fails at once. -/
theorem at_op {d : Option Tmp} (op : Op) {ty : TypeId} {pos : String} {after : Array Edge} {guard : Option (Nat × Bool)} {ops : Array Oper} {rest : List Oper} {a : Act} {w : World} {Q : Exit → Act → World → Prop}
    (h : wpList P ops Q (⟨d, op, ty, pos, after, guard⟩ :: rest) a w) : wpList P ops Q (⟨d, op, ty, pos, after, guard⟩ :: rest) a w := h
/-- A part of a row is loaded. -/
theorem wpList_load_part {ops : Array Oper} {rest : List Oper} {op : Oper} {a : Act} {w : World} {Q : Exit → Act → World → Prop} (hgd : op.guard = none) (ty : TypeId) (x : Operand) (ho : op.op = .load ty x)
    (g o : Nat) (hx : a.eval x = .pointer (some ⟨g, o, none⟩)) (C D : Array Value) (t : TypeId) (fr : Nat × Nat) (d : TypeDesc) (hg : w.heap[g]? = some (.cells C t fr)) (hp : Part C o D)
    (hu : P.underlying ty = some d) (hd : d.isRow = true) (hi : (P.info? ty).map (·.size) = some D.size)
    (h : wpList P ops Q rest (a.put op.dst (.agg D)) w) : wpList P ops Q (op :: rest) a w := by
  have := wpList_load_mid (P := P) (ops := ops) (rest := rest) (op := op) (a := a) (w := w) (Q := Q) hgd ty x ho g o hx D.toList d (fun j v hv => rowC hg (hp j v hv)) hu hd (by rw [hi, Array.length_toList])
  rw [Array.toArray_toList] at this
  exact this h
/-- The same of a guarded operation that is wanted. -/
theorem wpList_load_part_w {ops : Array Oper} {rest : List Oper} {op : Oper} {a : Act} {w : World} {Q : Exit → Act → World → Prop} (hw : Region.wanted op (yielded ops a.tmps) = true) (ty : TypeId) (x : Operand) (ho : op.op = .load ty x)
    (g o : Nat) (hx : a.eval x = .pointer (some ⟨g, o, none⟩)) (C D : Array Value) (t : TypeId) (fr : Nat × Nat) (d : TypeDesc) (hg : w.heap[g]? = some (.cells C t fr)) (hp : Part C o D)
    (hu : P.underlying ty = some d) (hd : d.isRow = true) (hi : (P.info? ty).map (·.size) = some D.size)
    (h : wpList P ops Q rest (a.put op.dst (.agg D)) w) : wpList P ops Q (op :: rest) a w :=
  wpList_step fun K hK => by
    rw [if_pos hw]
    have := wp_load_mid (P := P) (op := op) (a := a) (w := w) (K := K) (Q := Q) ty x ho g o hx D.toList d (fun j v hv => rowC hg (hp j v hv)) hu hd (by rw [hi, Array.length_toList])
    rw [Array.toArray_toList] at this
    exact this (hK _ _ h)
theorem yieldsPart {ops : Array Oper} {S : World → Prop} {op : Oper} {a : Act} (hw : Region.wanted op (yielded ops a.tmps) = true) (ty : TypeId) (x : Operand) (ho : op.op = .load ty x)
    (g o : Nat) (hx : a.eval x = .pointer (some ⟨g, o, none⟩)) (C D : Array Value) (t : TypeId) (fr : Nat × Nat) (d : TypeDesc) (hS : ∀ w, S w → w.heap[g]? = some (.cells C t fr)) (hp : Part C o D)
    (hu : P.underlying ty = some d) (hd : d.isRow = true) (hi : (P.info? ty).map (·.size) = some D.size) : YieldsIf P ops S op (.agg D) a :=
  .inl ⟨hw, fun w hw' => by
    unfold execOp
    simp only [ho, hx, Sem.run_bind, run_part w g o ty C D t fr d (hS w hw') hp hu hd hi, Result.andThen_ok]
    rfl⟩
/-- A new variable of a struct's type: the world behind it under a name. -/
theorem wpList_alloc_row {ops : Array Oper} {rest : List Oper} {o : Oper} {a : Act} {w : World} {Q : Exit → Act → World → Prop} (hg : o.guard = none) (t : TypeId) (ho : o.op = .alloc t)
    (Z : Array Value) (hz : ∀ w, (zeroValue t).run P w = .ok (.agg Z) w)
    (h : ∀ w', w'.heap[w.heap.size]? = some (.cells Z t (0, 0)) → Below w.heap.size w w' → w'.heap.size = w.heap.size + 1 → wpList P ops Q rest (a.put o.dst (.pointer (some ⟨w.heap.size, 0, none⟩))) w') : wpList P ops Q (o :: rest) a w :=
  wpList_alloc_big hg t ho Z hz (h _ (heap_alloc_new w _) (belowa (Below.refl _ _) _) (by simp))
theorem wpList_box_row {ops : Array Oper} {rest : List Oper} {o : Oper} {a : Act} {w : World} {Q : Exit → Act → World → Prop} (hg : o.guard = none) (t : TypeId) (x : Operand) (ho : o.op = .box t x)
    (C : Array Value) (hx : a.eval x = .agg C)
    (h : ∀ w', w'.heap[w.heap.size]? = some (.cells C t (0, 0)) → Below w.heap.size w w' → w'.heap.size = w.heap.size + 1 → wpList P ops Q rest (a.put o.dst (.pointer (some ⟨w.heap.size, 0, none⟩))) w') : wpList P ops Q (o :: rest) a w := by
  refine wpList_plain hg fun K hK => ?_
  unfold Oper.wp execOp
  simp only [ho, hx, Instr.box, newVar, Sem.run_bind, Sem.run_pure, Value.cells, Oper.upon]
  exact hK _ _ (h _ (heap_alloc_new w _) (belowa (Below.refl _ _) _) (by simp))
/-- A whole row is stored. -/
theorem wpList_put_row {ops : Array Oper} {rest : List Oper} {o : Oper} {a : Act} {w : World} {Q : Exit → Act → World → Prop} (hgd : o.guard = none) (ty : TypeId) (x y : Operand) (ho : o.op = .store ty x y)
    (g : Nat) (cells : Array Value) (hx : a.eval x = .pointer (some ⟨g, 0, none⟩)) (hy : a.eval y = .agg cells)
    (t : TypeId) (old : Array Value) (hg : w.heap[g]? = some (.cells old t (0, 0))) (n : Nat) (hi : (P.info? ty).map (·.size) = some n) (hn : cells.size = n)
    (hold : old.size = n) (h1 : cells.all (·.oneCell') = true) (S : Nat) (w0 : World) (hb : Below S w0 w) (hS : S ≤ g)
    (h : ∀ w', w'.heap[g]? = some (.cells cells t (0, 0)) → SetAt w w' g → Below S w0 w' → wpList P ops Q rest (a.put o.dst undef) w') : wpList P ops Q (o :: rest) a w :=
  wpList_store_big hgd ty x y ho g cells hx hy t old hg n hi hn hold h1 S w0 hb hS fun w' h1 h2 h3 h4 => h w' h1 ⟨h3, h2⟩ h4
theorem wp_put_row {o : Oper} {a : Act} {w : World} {K : Act → World → Prop} {Q : Exit → Act → World → Prop} (ty : TypeId) (x y : Operand) (ho : o.op = .store ty x y)
    (g : Nat) (cells : Array Value) (hx : a.eval x = .pointer (some ⟨g, 0, none⟩)) (hy : a.eval y = .agg cells)
    (t : TypeId) (old : Array Value) (hg : w.heap[g]? = some (.cells old t (0, 0))) (n : Nat) (hi : (P.info? ty).map (·.size) = some n) (hn : cells.size = n)
    (hold : old.size = n) (h1 : cells.all (·.oneCell') = true) (S : Nat) (w0 : World) (hb : Below S w0 w) (hS : S ≤ g)
    (h : ∀ w', w'.heap[g]? = some (.cells cells t (0, 0)) → SetAt w w' g → Below S w0 w' → K (a.put o.dst undef) w') : o.wp P a w K Q := by
  refine wp_store_row ty x y ho g cells hx hy t old hg (by rw [hn]; exact hi) (by rw [hn]; exact hold) h1 ?_
  refine h _ (setRow_heap w g old _ t _ hg) ⟨by simp, fun k hk => setRow_other w g k _ hk⟩ ?_
  exact hb.trans ⟨rfl, rfl, rfl, by simp, fun k hk => setRow_other w g k _ (by omega)⟩
theorem yieldsBuild {ops : Array Oper} {S : World → Prop} {op : Oper} {a : Act} (hw : Region.wanted op (yielded ops a.tmps) = true) (t : TypeId) (pl : List (Nat × Operand)) (ho : op.op = .build t pl.toArray)
    (C : Array Value) (hC : P.built t (pl.map fun x => (x.1, a.eval x.2)) = some C) : YieldsIf P ops S op (.agg C) a :=
  .inl ⟨hw, fun w _ => by
    have e : (pl.toArray.map fun (i, x) => (i, a.eval x)).toList = pl.map fun x => (x.1, a.eval x.2) := by simp
    unfold execOp
    simp only [ho, Sem.run_bind, run_build w t _ C (by rw [e]; exact hC), Result.andThen_ok]
    rfl⟩
/-- A struct is made of its parts. -/
theorem wpList_build_row {ops : Array Oper} {rest : List Oper} {o : Oper} {a : Act} {w : World} {Q : Exit → Act → World → Prop} (hg : o.guard = none) (t : TypeId) (pl : List (Nat × Operand)) (ho : o.op = .build t pl.toArray)
    (C : Array Value) (hC : P.built t (pl.map fun x => (x.1, a.eval x.2)) = some C)
    (h : wpList P ops Q rest (a.put o.dst (.agg C)) w) : wpList P ops Q (o :: rest) a w := by
  have e : (pl.toArray.map fun (i, x) => (i, a.eval x)).toList = pl.map fun x => (x.1, a.eval x.2) := by simp
  refine wpList_build hg t pl.toArray ho ?_ ?_
  · rw [e, hC]; rfl
  · rw [e, hC]; exact h
end

theorem put_get (off : Nat) (D cs : Array Value) : (D.zipIdx.foldl (fun cs (x : Value × Nat) => cs.setIfInBounds (off + x.2) x.1) cs).size = cs.size ∧
    ∀ k, (D.zipIdx.foldl (fun cs (x : Value × Nat) => cs.setIfInBounds (off + x.2) x.1) cs)[k]? = if off ≤ k ∧ k < off + D.size ∧ k < cs.size then D[k - off]? else cs[k]? := by
  have h := Great.foldl_set off D.toList 0 cs
  have e : D.zipIdx.foldl (fun cs (x : Value × Nat) => cs.setIfInBounds (off + x.2) x.1) cs = (D.toList.zipIdx 0).foldl (fun cs (x : Value × Nat) => cs.setIfInBounds (off + x.2) x.1) cs := by
    rw [← Array.foldl_toList, Array.toList_zipIdx]
  rw [e]
  simpa using h
/-- A struct of two parts. -/
theorem fill_two (u v : Value) (Z : Array Value) (n m : Nat) (hA : u.cells.size = n) (hB : v.cells.size = m) (hZ : Z.size = n + m) (place : Nat → Option (Nat × Nat)) (h0 : place 0 = some (0, n)) (h1 : place 1 = some (n, m)) :
    Instr.fill place Z [(0, u), (1, v)] = some (u.cells ++ v.cells) := by
  obtain ⟨s1, g1⟩ := put_get 0 u.cells Z
  obtain ⟨r, hr⟩ : ∃ r, r = (u.cells.zipIdx.foldl (fun cs (x : Value × Nat) => cs.setIfInBounds (0 + x.2) x.1) Z) := ⟨_, rfl⟩
  rw [← hr] at s1 g1
  obtain ⟨s2, g2⟩ := put_get n v.cells r
  simp only [Instr.fill, h0, h1]
  rw [← hr]
  have c1 : ¬ ((decide (u.cells.size ≠ n) || decide (0 + u.cells.size > Z.size)) = true) := by simp; omega
  have c2 : ¬ ((decide (v.cells.size ≠ m) || decide (n + v.cells.size > r.size)) = true) := by simp; omega
  rw [if_neg c1, if_neg c2]
  congr 1
  apply Array.ext_getElem?
  intro k
  refine (g2 k).trans ?_
  rw [s1, g1 k, Array.getElem?_append, hA, hB]
  by_cases hk : k < n
  · rw [if_neg (by omega), if_pos (by omega), if_pos hk]; rfl
  · rw [if_neg hk]
    by_cases hk2 : k < n + m
    · rw [if_pos (by omega)]
    · rw [if_neg (by omega), if_neg (by omega)]
      exact (Array.getElem?_eq_none (by omega)).trans (Array.getElem?_eq_none (by omega)).symm
end Go.Proofs.Ytodgalflngfnpaa
