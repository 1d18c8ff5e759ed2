/- What the program's phasesOf makes of any list. -/
import Derived.Test.YtodgalflngfnpaaGen
namespace Go.Proofs.Ytodgalflngfnpaa
set_option maxRecDepth 100000
open Go.RowKit

/-- What phasesOf makes of a list. -/
def sqz (l : List Int) : List Int := if isSeq l then l else []
def phC (l : List Int) : Array Value := phA (padL (sqz l)) (sqz l).length
theorem sqz_len (l : List Int) : (sqz l).length ≤ 32 := by
  unfold sqz; split
  · exact isSeq_len ‹_›
  · simp
theorem phC_size (l : List Int) : (phC l).size = 33 := phA_size _ _ (padL_length (sqz_len l))
theorem phC_one (l : List Int) : (phC l).all (·.oneCell') = true := phA_one _ _
theorem phC_len (l : List Int) : (phC l)[32]? = some (.int .i64 (sqz l).length) := phA_len _ _ (padL_length (sqz_len l))
theorem phasesOf_any (v : Value) (l : List Int) (w : World) (hv : IS w v l) (hlen : l.length ≤ 1048576) : Calls Try.prog 99 #[v] w (Ret w (.tuple #[.agg (phC l), .bool (isSeq l)])) := by
  by_cases h : isSeq l = true
  · have e : phC l = phA (padL l) l.length := by unfold phC sqz; rw [h]; rfl
    rw [e, h]
    exact phasesOf_seq v l w hv h
  · have h2 : isSeq l = false := by simpa using h
    have e : phC l = phA z32 0 := by unfold phC sqz; rw [h2]; rfl
    rw [e, h2]
    exact phasesOf_not v l w hv h2 hlen

theorem phC_seq {l : List Int} (h : isSeq l = true) : phC l = phA (padL l) l.length := by unfold phC sqz; rw [h]; rfl
end Go.Proofs.Ytodgalflngfnpaa
