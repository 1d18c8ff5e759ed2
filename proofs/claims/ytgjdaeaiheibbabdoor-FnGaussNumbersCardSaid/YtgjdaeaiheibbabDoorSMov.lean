/- The model's JoinOf. The model's ProductOf. The model's InterleaveOf. The model's phTurn. The model's phClimb. The model's phConjugate. The model's phBack. -/
import Derived.Test.YtgjdaeaiheibbabDoorPhs
import Derived.Test.YtgjdaeaiheibbabDoorMov
import Derived.Test.YtgjdaeaiheibbabDoorKit
namespace Go.Proofs.YtgjdaeaiheibbabDoor
set_option maxRecDepth 100000
section
open Go.RowKit

theorem isSeq_append (l m : List Int) (hl : isSeq l = true) (hm : isSeq m = true) : isSeq (l ++ m) = joinC l m := by
  have h1 := isSeq_all hl
  have h2 := isSeq_all hm
  unfold allIn at h1 h2
  simp only [isSeq, joinC, allIn, List.all_append, h1, h2, List.length_append, Bool.and_self, Bool.and_true]

end
section
open Go.RowKit

end
section
open Go.RowKit

theorem isSeq_weave (l m : List Int) (hs : isSeq l = true) (ht : isSeq m = true) (hlm : l.length = m.length) : isSeq (weaveG l m) = weaveC l m := by
  have hall : allIn (weaveG l m) 0 3 = true := by
    unfold allIn weaveG gen
    rw [List.all_eq_true]
    intro z hz
    simp only [List.mem_map, List.mem_range] at hz
    obtain ⟨i, hi, rfl⟩ := hz
    have a1 := allIn_getD (isSeq_all hs) (i / 2) (by omega)
    have a2 := allIn_getD (isSeq_all ht) (i / 2) (by omega)
    by_cases hp : i % 2 = 0
    · simp only [if_pos hp, inB, decide_eq_true a1.1, decide_eq_true a1.2, Bool.and_self]
    · simp only [if_neg hp, inB, decide_eq_true a2.1, decide_eq_true a2.2, Bool.and_self]
  unfold isSeq weaveC
  rw [hall, Bool.and_true, Bool.eq_iff_iff]
  simp [weaveG, gen_length]
  omega

end
section
open Go.RowKit

end
section
open Go.RowKit

end
section
open Go.RowKit

end
section
open Go.RowKit

end
end Go.Proofs.YtgjdaeaiheibbabDoor
