/- The model's pairs made of pairs: goTwo, goJoin, JoinPair, InterleavePair, MateOf, JoinMates, MovedPair. -/
import Derived.Test.YtcpeikkkegpdhabSGo
import Derived.Test.YtcpeikkkegpdhabGoJ
import Derived.Test.YtcpeikkkegpdhabSMov
import Derived.Test.YtcpeikkkegpdhabGsn
namespace Go.Proofs.Ytcpeikkkegpdhab
set_option maxRecDepth 100000
open Go.RowKit

theorem Makes2B.none {w w' : World} (h : Below w.heap.size w w') : Makes2B w [] [] false (.returned (.tuple #[.slice none 0 0, .slice none 0 0, .bool false])) w' :=
  ⟨_, _, rfl, World.ownsRow_nil _ _ _ _, World.ownsRow_nil _ _ _ _, fun k h => by simp [Value.ownBlock] at h, h⟩
theorem Makes2B.two {w w1 w' : World} {v u : Value} {l m : List Int} {B1 B2 : Nat} (hv : Own w' B1 v l) (hu : Own w' B2 u m) (hv1 : Own w1 B1 v l) (h1 : w.heap.size ≤ B1) (h2 : w1.heap.size ≤ B2) (h3 : w.heap.size ≤ B2) (h : Below w.heap.size w w') :
    Makes2B w l m true (.returned (.tuple #[v, u, .bool true])) w' :=
  ⟨v, u, rfl, hv.mono h1, hu.mono h3, fun k hk hk' => by have := (hv1.lt k hk).2; have := (hu.lt k hk').1; omega, h⟩
end Go.Proofs.Ytcpeikkkegpdhab
