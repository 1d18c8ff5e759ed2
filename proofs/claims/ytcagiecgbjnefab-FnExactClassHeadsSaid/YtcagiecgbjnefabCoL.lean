/- Lists of correlations: plain. -/
import Derived.Test.YtcagiecgbjnefabCors
import Derived.Test.YtcagiecgbjnefabGsn
import Derived.Test.YtcagiecgbjnefabPhs
namespace Go.Proofs.Ytcagiecgbjnefab

set_option maxRecDepth 100000
def ownL (l : List Int) : List (Int × Int) := if isSeq l then genG l.length (fun u => apS vx l l (u : Int)) (fun u => apS vy l l (u : Int)) else []
def perL (l : List Int) : List (Int × Int) := if isSeq l then genG l.length (fun u => peS vx l l (u : Int)) (fun u => peS vy l l (u : Int)) else []
theorem ownL_len (l : List Int) : (ownL l).length ≤ 1048576 := by
  unfold ownL; split
  · rename_i h; rw [genG_length]; have := isSeq_len h; omega
  · simp
theorem perL_len (l : List Int) : (perL l).length ≤ 1048576 := by
  unfold perL; split
  · rename_i h; rw [genG_length]; have := isSeq_len h; omega
  · simp
end Go.Proofs.Ytcagiecgbjnefab
