/- Loads of whole rows inside a region that draws its order. -/
import Derived.Test.YtmckophclehkpabPh
import Derived.Deep.RegionHeld3
namespace Go.Proofs.Ytmckophclehkpab
open Go.RowKit

/-- A whole row's load yields its value in every world that keeps the row: it may be taken first. -/
theorem yields_row {P : Program} {ops : Array Oper} {S : World → Prop} {o : Oper} {a : Act} (hw : Region.wanted o (yielded ops a.tmps) = true) (ty : TypeId) (x : Operand) (ho : o.op = .load ty x)
    (g : Nat) (hx : a.eval x = .pointer (some ⟨g, 0, none⟩)) (t : TypeId) (cs : Array Value) (fr : Nat × Nat) (d : TypeDesc) (hS : ∀ w, S w → w.heap[g]? = some (.cells cs t fr))
    (hu : P.underlying ty = some d) (hd : (match d with | .struct _ | .array _ _ => true | _ => false) = true) (hi : (P.info? ty).map (·.size) = some cs.size) : YieldsIf P ops S o (.agg cs) a :=
  .inl ⟨hw, fun w hw' => by
    unfold execOp
    simp only [ho, hx, Instr.loadAt, Instr.sureAddr, Sem.run_bind, Sem.run_pure, Result.andThen_ok, run_loadVar_row w g t ty cs fr d (hS w hw') hu hd hi]⟩
/-- What a region over one row asks of the world: the row as it was, and below it nothing turned. -/
structure KR (w0 : World) (g : Nat) (C : Array Value) (w : World) : Prop where
  row : w.heap[g]? = some (.cells C 43 (0, 0))
  below : Below w0.heap.size w0 w
theorem KR.step {w0 w w' : World} {g : Nat} {C : Array Value} (h : KR w0 g C w) (hb : Below w.heap.size w w') : KR w0 g C w' :=
  ⟨(hb.block g (Array.getElem?_eq_some_iff.1 h.row).1).trans h.row, joins h.below hb⟩
theorem KR.drew {w0 w : World} {g : Nat} {C : Array Value} (h : KR w0 g C w) : KR w0 g C w.drew := ⟨h.row, belowN h.below 1⟩
theorem KR.alloc {w0 w : World} {g : Nat} {C : Array Value} (h : KR w0 g C w) (o : Obj) : KR w0 g C (w.alloc o) := h.step (belowa (Below.refl _ _) _)
theorem KR.cell {w0 w : World} {g : Nat} {C : Array Value} (h : KR w0 g C w) (i : Nat) (v : Value) (hc : C[i]? = some v) : w.cell? ⟨g, i, none⟩ = some v := by
  rw [cell_of_row w _ _ _ _ _ h.row]; exact hc
theorem KR.set {w0 w : World} {g : Nat} {C : Array Value} (h : KR w0 g C w) (a : Addr) (u : Value) (hg : a.block ≠ g) (hw : w0.heap.size ≤ a.block) : KR w0 g C (w.setCell a u) :=
  ⟨(heap_setCell_other w a g u (fun e => hg e.symm)).trans h.row, belows h.below hw _⟩
end Go.Proofs.Ytmckophclehkpab
