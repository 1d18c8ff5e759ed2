/- The program's pairs: pairFrom, length, isPair, ownSum, isGolay. -/
import Derived.Test.YtcpeikkkegpdhabPrM
namespace Go.Proofs.Ytcpeikkkegpdhab
set_option maxRecDepth 100000
open Go.RowKit

/-- A pair that pairFrom makes: of two sequences of one length. -/
def pL (a b : List Int) : List Int := if pairOk a b then a else []
def pR (a b : List Int) : List Int := if pairOk a b then b else []
theorem infoPrC (p q : List Int) : (Try.prog.info? 45).map (·.size) = some (prC p q).size := by rw [prC_size]; exact infoPr
theorem infoPhC (l : List Int) : (Try.prog.info? 43).map (·.size) = some (phC l).size := by rw [phC_size]; exact infoPh
set_option maxHeartbeats 1000000 in
theorem prLength_any (p q : List Int) (hp : isSeq p = true) (w : World) : Calls Try.prog 24 #[.agg (prC p q)] w (Ret w (.int .i64 p.length)) := by
  have hl := prC_len p q
  rw [sqz_seq hp] at hl
  obtain ⟨C, hC⟩ : ∃ C, C = prC p q := ⟨_, rfl⟩
  rw [← hC] at hl ⊢
  have HL := Lib.hid hl
  clear hl hC hp
  go_enter Try.func24, Try.ntmps24
  go_wp2_with (refine wpList_box_row rfl 45 (.tmp 0) rfl C rfl ?_; intro w1 hr1 hb1 hz1; have c1 := rowC hr1 HL.out; clear hz1 hr1)
  go_returns
  exact ⟨rfl, hb1⟩
set_option maxHeartbeats 1000000 in
theorem prIsPair_any (p q : List Int) (hp : isSeq p = true) (w : World) : Calls Try.prog 19 #[.agg (prC p q)] w (Ret w (.bool (decide (1 ≤ p.length)))) := by
  have HLN := Lib.hid (prLength_any p q hp)
  have HI := Lib.hid (infoPrC p q)
  obtain ⟨C, hC⟩ : ∃ C, C = prC p q := ⟨_, rfl⟩
  rw [← hC] at HLN HI ⊢
  clear hC hp
  have B0 := Lib.hid (Below.refl w.heap.size w)
  go_enter Try.func19, Try.ntmps19
  go_wp2_with (first
    | ((with_reducible refine at_op (Op.box 45 (.tmp 0)) ?_); refine wpList_box_row rfl 45 (.tmp 0) rfl C rfl ?_; intro w1 hr hb hz; have R1_p := Lib.hid hr; have B1 := Lib.hid (joins B0.out hb); have L1_p := Lib.hid (show w.heap.size ≤ w.heap.size from B0.out.size); clear hr hb hz)
    | ((with_reducible refine at_op (Op.load 45 (.tmp 1)) ?_); refine wpList_load_part rfl 45 (.tmp 1) rfl (w.heap.size) 0 rfl C C 45 (0, 0) _ R1_p.out (Part.self _) Try.underlying45 rfl HI.out ?_))
  refine (HLN.out _).mono ?_
  rintro e w2 ⟨rfl, hb⟩
  have R2_p := Lib.hid (rowB R1_p.out hb)
  have B2 := Lib.hid (joins B1.out hb)
  clear hb
  go_wp2_with fail
  go_returns
  exact ⟨ret_bool (by simp; omega), B2.out⟩

end Go.Proofs.Ytcpeikkkegpdhab
