/- Which numbers are Gaussian ones; sums and products: the model's and the program's. -/
import Derived.Test.YtfjhocmnafdnfaaBox
import Derived.Test.YtfjhocmnafdnfaaKit
namespace Go.Proofs.Ytfjhocmnafdnfaa
set_option maxRecDepth 100000
open Go.RowKit

def good (a b : Int) : Bool := decide ((-1000000 ≤ a ∧ a ≤ 1000000) ∧ (-1000000 ≤ b ∧ b ≤ 1000000))
def gx (a b : Int) : Int := if good a b then a else 0
def gy (a b : Int) : Int := if good a b then b else 0
theorem gx_in {a b : Int} (h : good a b = true) : gx a b = a := if_pos h
theorem gy_in {a b : Int} (h : good a b = true) : gy a b = b := if_pos h
theorem gx_out {a b : Int} (h : good a b = false) : gx a b = 0 := if_neg (by rw [h]; exact Bool.false_ne_true)
theorem gy_out {a b : Int} (h : good a b = false) : gy a b = 0 := if_neg (by rw [h]; exact Bool.false_ne_true)

def plusX (a b c d : Int) : Int := if good a b && good c d then gx (wrap64 (a + c)) (wrap64 (b + d)) else 0
def plusY (a b c d : Int) : Int := if good a b && good c d then gy (wrap64 (a + c)) (wrap64 (b + d)) else 0
def plusB (a b c d : Int) : Bool := (good a b && good c d) && good (wrap64 (a + c)) (wrap64 (b + d))
set_option maxHeartbeats 1000000 in
theorem phPlus_w (a b c d : Int) (w : World) : Calls Try.prog 187 #[.agg #[.int .i64 a, .int .i64 b], .agg #[.int .i64 c, .int .i64 d]] w (Ret w (.agg #[.int .i64 (wrap64 (a + c)), .int .i64 (wrap64 (b + d))])) := by
  go_enter Try.func187, Try.ntmps187
  go_wp2
  go_returns
  exact ⟨rfl, by go_grown⟩
def timesX (a b c d : Int) : Int := if good a b && good c d then gx (wrap64 (wrap64 (a * c) - wrap64 (b * d))) (wrap64 (wrap64 (a * d) + wrap64 (b * c))) else 0
def timesY (a b c d : Int) : Int := if good a b && good c d then gy (wrap64 (wrap64 (a * c) - wrap64 (b * d))) (wrap64 (wrap64 (a * d) + wrap64 (b * c))) else 0
def timesB (a b c d : Int) : Bool := (good a b && good c d) && good (wrap64 (wrap64 (a * c) - wrap64 (b * d))) (wrap64 (wrap64 (a * d) + wrap64 (b * c)))
end Go.Proofs.Ytfjhocmnafdnfaa
