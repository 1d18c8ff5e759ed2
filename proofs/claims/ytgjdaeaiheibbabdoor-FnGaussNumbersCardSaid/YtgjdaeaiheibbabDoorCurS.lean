/- Sequences drawn. -/
import Derived.Test.YtgjdaeaiheibbabDoorCur
import Derived.Test.YtgjdaeaiheibbabDoorPuK
import Derived.Test.YtgjdaeaiheibbabDoorSConjugateOf
namespace Go.Proofs.YtgjdaeaiheibbabDoor
set_option maxRecDepth 100000
open Go.RowKit

/-- What is made or written behind a world stays out of it. -/
theorem grown_own {w w1 w2 : World} {row row2 : Option Nat} (h : w.grownBy w1 row) (h' : w1.grownBy w2 row2) (hr : ∀ k, row2 = some k → w.heap.size ≤ k) : w.grownBy w2 row :=
  ⟨h'.os.trans h.os, h'.tape.trans h.tape, h'.output.trans h.output, Nat.le_trans h.size h'.size, fun k hk hne => (h'.block k (Nat.lt_of_lt_of_le hk h.size) (fun e => by have := hr k e.symm; omega)).trans (h.block k hk hne)⟩
theorem grown_alloc {w w' : World} {row : Option Nat} (h : w.grownBy w' row) (o : Obj) : w.grownBy (w'.alloc o) row := grown_trans h (grown_of_below (belowa (Below.refl _ _) o) row)
theorem cell_new_1 (w : World) (v : Value) (t : TypeId) : (w.alloc (.cells #[v] t)).cell? ⟨w.heap.size, 0, none⟩ = some v := by rw [World.cell?_alloc_new]; rfl
/-- A list of the call's own; how long at most, and its numbers. -/
def SeqV (B M : Nat) (v : Value) (w : World) : Prop := ∃ s : List Int, Own w B v s ∧ s.length ≤ M
theorem IS.lit {w : World} {B : Nat} {l : List Int} (h : w.heap[B]? = some (.cells (l.map (Value.int .i64)).toArray 3 (0, 0))) (hl : l.length ≤ maxLen) : IS w (.slice (some ⟨B, 0, none⟩) l.length l.length) l := (own_lit (Nat.le_refl _) h hl).is
theorem sure_seq {s : List Int} (h : ∀ x ∈ s, 0 ≤ x ∧ x ≤ 3) (hl : s.length ≤ 32) : isSeq s = true := isSeq_of hl (by unfold allIn; refine List.all_eq_true.2 (fun x hx => ?_); have := h x hx; simp [inB, this])
theorem Own.kept {w w' : World} {B g : Nat} {v : Value} {l : List Int} (h : Own w B v l) (hg : w.grownBy w' (some g)) (hB : g < B) : Own w' B v l := h.grown hg (fun k hk e => by cases e; have := (h.lt g hk).1; omega)
theorem Cu.own {g : Nat} {cv : Value} {l : List Int} {n : Nat} {w w' : World} {B : Nat} {v : Value} {s : List Int} (h : Cu g cv l n w) (hv : Own w B v s) (hB : g < B) (hg : w.grownBy w' v.ownBlock) : Cu g cv l n w' := h.grown hg (fun k hk => by have := (hv.lt k hk).1; omega)
end Go.Proofs.YtgjdaeaiheibbabDoor
