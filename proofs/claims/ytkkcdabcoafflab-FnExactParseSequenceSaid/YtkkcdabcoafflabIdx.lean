/- The place of a letter among the four: strings.IndexByte at the program's letters. -/
import Derived.Test.YtkkcdabcoafflabSeq
import Derived.Lib.Bytealg
namespace Go.Proofs.Ytkkcdabcoafflab
open Go.RowKit

/-- The phase of a letter, below 0 if it is none. -/
def code (b : UInt8) : Int := if b = 43 then 0 else if b = 105 then 1 else if b = 45 then 2 else if b = 106 then 3 else -1
theorem code_idx (b : UInt8) : Lib.indexByte [43, 105, 45, 106] b = code b := by
  unfold code
  simp only [Lib.indexByte]
  by_cases h1 : b = 43
  · subst h1; decide
  · by_cases h2 : b = 105
    · subst h2; decide
    · by_cases h3 : b = 45
      · subst h3; decide
      · by_cases h4 : b = 106
        · subst h4; decide
        · rw [if_neg h1, if_neg h2, if_neg h3, if_neg h4]
          have e1 : ((43 : UInt8) == b) = false := by simpa using fun h => h1 h.symm
          have e2 : ((105 : UInt8) == b) = false := by simpa using fun h => h2 h.symm
          have e3 : ((45 : UInt8) == b) = false := by simpa using fun h => h3 h.symm
          have e4 : ((106 : UInt8) == b) = false := by simpa using fun h => h4 h.symm
          simp [e1, e2, e3, e4]
theorem code_range (b : UInt8) : -1 ≤ code b ∧ code b ≤ 3 := by unfold code; split <;> (try split) <;> (try split) <;> (try split) <;> omega

set_option maxHeartbeats 1000000 in
set_option maxRecDepth 100000 in
theorem lite_idx (b : UInt8) (w : World) : Calls Try.prog 67 #[.string ⟨#[43, 105, 45, 106]⟩, .int .u8 (b.toNat : Int)] w (Pure w (.int .i64 (code b))) := by
  go_enter Try.func67, Try.ntmps67
  go_wp2
  rw [run_callFunc_extern Try.func68 (by kernel_rfl) (by kernel_rfl) (by kernel_rfl) (e := Extern.BytealgIndexByte.indexByte) (by kernel_rfl)]
  rw [Lib.run_indexByteString]
  simp only [Result.andThen]
  rw [Oper.upon_value]
  go_wp2
  go_ret
  refine ⟨ret_int ?_, rfl⟩
  rw [← code_idx]
set_option maxHeartbeats 1000000 in
theorem idx_any (b : UInt8) (w : World) : Calls Try.prog 53 #[.string ⟨#[43, 105, 45, 106]⟩, .int .u8 (b.toNat : Int)] w (Pure w (.int .i64 (code b))) := by
  go_enter Try.func53, Try.ntmps53
  go_wp2_with fail
  refine (lite_idx b _).mono ?_
  rintro e w1 ⟨rfl, rfl⟩
  go_wp2_with fail
  go_returns
  exact ⟨rfl, rfl⟩
end Go.Proofs.Ytkkcdabcoafflab
