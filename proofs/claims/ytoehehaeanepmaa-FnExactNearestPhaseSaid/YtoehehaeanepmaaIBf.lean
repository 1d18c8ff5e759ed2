/- The program's butterfly. -/
import Derived.Test.YtoehehaeanepmaaSg
import Derived.Test.YtoehehaeanepmaaTrM
import Derived.Test.YtoehehaeanepmaaIVa
import Derived.Test.YtoehehaeanepmaaRg
import Derived.Test.YtoehehaeanepmaaRun
namespace Go.Proofs.Ytoehehaeanepmaa
set_option maxRecDepth 100000
open Go.RowKit

theorem FA_zero : FA 0 0 := ⟨fun _ => ⟨false, 0, 149, by decide, by unfold NumZ; decide⟩, fun h => absurd h (by decide)⟩
/-- What a butterfly leaves. -/
def Bfly (w : World) (B g N o m : Nat) (E : Nat → Nat × Nat) (X Y : Nat → Int) (e : Ending) (w' : World) : Prop :=
  e = .returned (.tuple #[]) ∧ ∃ E', RowC w' B g N E' ∧ (∀ i, (i < o ∨ o + m ≤ i) → E' i = E i) ∧ (∀ q, q < m → FA (E' (o + q)).1 (X q) ∧ FA (E' (o + q)).2 (Y q)) ∧ w.grownBy w' (some g)
end Go.Proofs.Ytoehehaeanepmaa
