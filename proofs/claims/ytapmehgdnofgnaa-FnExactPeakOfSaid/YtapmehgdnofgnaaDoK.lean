/- Work behind a door: what may be raised, and what the door makes of it. -/
import Derived.Test.YtapmehgdnofgnaaGsn
import Derived.Recover
namespace Go.Proofs.Ytapmehgdnofgnaa
set_option maxRecDepth 100000
open Go.RowKit

/-- What is raised. -/
def rfs (k : Nat) : PanicEntry := { v := .iface 50 (.int .i64 k), recovered := false }
/-- The work makes what A says of (k = 0), or raises k. What was there stays. -/
def Tries (w : World) (k : Nat) (A : Nat → Value → World → Prop) (e : Ending) (w' : World) : Prop :=
  Below w.heap.size w w' ∧ ((k = 0 ∧ ∃ v, e = .returned v ∧ A w.heap.size v w') ∨ (k ≠ 0 ∧ e = .panicked [rfs k]))
/-- What is said of a value made above a bound stays said. -/
structure Lasts (A : Nat → Value → World → Prop) : Prop where
  mono : ∀ {B B' v w}, B ≤ B' → A B' v w → A B v w
  set : ∀ {B v w b u}, b < B → A B v w → A B v (World.setCell w ⟨b, 0, none⟩ u)
def Doors (w : World) (k : Nat) (z : Value) (A : Nat → Value → World → Prop) (e : Ending) (w' : World) : Prop :=
  Below w.heap.size w w' ∧ ∃ v, e = .returned (.tuple #[v, .int .i64 k]) ∧ ((k = 0 ∧ A w.heap.size v w') ∨ (k ≠ 0 ∧ v = z))
def Shares (w : World) (k : Nat) (z : Value) (A : Nat → Value → World → Prop) (e : Ending) (w' : World) : Prop :=
  Below w.heap.size w w' ∧ ∃ v, e = .returned (.tuple #[v, .bool (k == 0)]) ∧ ((k = 0 ∧ A w.heap.size v w') ∨ (k ≠ 0 ∧ v = z))
theorem setGrown (w : World) (b : Nat) (u : Value) : w.grownBy (w.setCell ⟨b, 0, none⟩ u) (some b) :=
  ⟨rfl, rfl, rfl, Nat.le_of_eq (by simp), fun k _ hne => heap_setCell_other w ⟨b, 0, none⟩ k u (fun e => hne (by rw [e]))⟩
theorem lasts_own (l : List Int) : Lasts (fun B v w => Own w B v l) :=
  ⟨fun h o => o.mono h, fun h o => o.grown (setGrown _ _ _) (fun k hk => by have := (o.lt k hk).1; simp; omega)⟩
end Go.Proofs.Ytapmehgdnofgnaa
