/- The program's phasesWith and barkersOf. -/
import Derived.Test.YtapmehgdnofgnaaIEn
import Derived.Test.YtapmehgdnofgnaaPhs
import Derived.Test.YtapmehgdnofgnaaBarM
import Derived.Test.YtapmehgdnofgnaaKit
import Derived.Great.BuildSlice
namespace Go.Proofs.Ytapmehgdnofgnaa
set_option maxRecDepth 100000
open Go.RowKit

theorem infoP : (Try.prog.info? 61).map (fun i => (i.zero, i.size, i.bytes)) = some (some (.agg (phA z32 0)), 33, 264) := by kernel_rfl
theorem fill_one (C : Array Value) (h : C.size = 33) (cells : Array Value) (hc : cells.size = 33) : Instr.fill (fun i => some (i * 33, 33)) cells [(0, .agg C)] = some C := by
  have := Great.fill_whole (s := 33) (by omega) [.agg C] cells (by intro v hv; simp at hv; subst hv; simpa [Value.cells] using h) (by simp [hc])
  simpa [Value.cells] using this
theorem fill_hf (i0 : TypeInfo) (h : i0.size = 33) (C : Array Value) (hC : C.size = 33) : Instr.fill (fun i => some (i * i0.size, i0.size)) ((Array.range (1 * i0.size)).map ((Value.agg (phA z32 0)).cells[· % (Value.agg (phA z32 0)).cells.size]!)) [(0, .agg C)] = some C := by
  rw [h]
  refine fill_one C hC _ ?_
  rw [Array.size_map, Array.size_range]
theorem parts_one (a : Act) (k : Tmp) : ((#[(0, Operand.tmp k)] : Array (Nat × Operand)).map fun (i, x) => (i, a.eval x)).toList = [(0, a.eval (.tmp k))] := by simp
theorem news_row (w : World) (C : Array Value) (t : TypeId) : ∀ j u, C.toList[j]? = some u → (w.alloc (.cells C t)).cell? ((⟨w.heap.size, 0, none⟩ : Addr).add j) = some u := by
  intro j u hj
  rw [Addr.add_lit, Nat.zero_add, cell_of_row _ _ _ _ _ _ (heap_alloc_new w _)]
  simpa using hj
/-- The cells of the sequences of these ranks, side by side. -/
def rankCells (n : Nat) (rs : List Nat) : List Value := rs.flatMap (fun r : Nat => (phA (padL (lowD (r : Int) n)) n).toList)
/-- A call that makes a row of sequences of its own. -/
def MakesP (w : World) (n : Nat) (rs : List Nat) (e : Ending) (w' : World) : Prop := ∃ v, e = .returned v ∧ w'.ownsRow w.heap.size 61 33 v rs.length (rankCells n rs) ∧ Below w.heap.size w w'

end Go.Proofs.Ytapmehgdnofgnaa
