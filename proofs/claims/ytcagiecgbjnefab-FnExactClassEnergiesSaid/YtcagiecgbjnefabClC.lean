/- Room: what a slice of the call's own has. -/
import Derived.Test.YtcagiecgbjnefabKit
namespace Go.Proofs.Ytcagiecgbjnefab
set_option maxRecDepth 100000
open Go.RowKit

def clCap : Value → Prop
  | .slice _ n c => n ≤ c
  | _ => False
theorem Own.clCap {w : World} {B : Nat} {v : Value} {l : List Int} (h : Own w B v l) : clCap v := by
  rcases h.2 with ⟨rfl, _⟩ | ⟨g, cap, cur, rfl, hg, hh, hn, rest⟩
  · exact Nat.le_refl _
  · exact hn
end Go.Proofs.Ytcagiecgbjnefab
