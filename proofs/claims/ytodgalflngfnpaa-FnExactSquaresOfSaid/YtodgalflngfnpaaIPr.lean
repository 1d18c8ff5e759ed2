/- The program's pairs: pairFrom, length, isPair, ownSum, isGolay. -/
import Derived.Test.YtodgalflngfnpaaPrM
namespace Go.Proofs.Ytodgalflngfnpaa
set_option maxRecDepth 100000
open Go.RowKit

/-- A pair that pairFrom makes: of two sequences of one length. -/
def pL (a b : List Int) : List Int := if pairOk a b then a else []
def pR (a b : List Int) : List Int := if pairOk a b then b else []
theorem infoPrC (p q : List Int) : (Try.prog.info? 50).map (·.size) = some (prC p q).size := by rw [prC_size]; exact infoPr
theorem infoPhC (l : List Int) : (Try.prog.info? 48).map (·.size) = some (phC l).size := by rw [phC_size]; exact infoPh
set_option maxHeartbeats 1000000 in
theorem prLength_any (p q : List Int) (hp : isSeq p = true) (w : World) : Calls Try.prog 56 #[.agg (prC p q)] w (Ret w (.int .i64 p.length)) := by
  have hl := prC_len p q
  rw [sqz_seq hp] at hl
  obtain ⟨C, hC⟩ : ∃ C, C = prC p q := ⟨_, rfl⟩
  rw [← hC] at hl ⊢
  have HL := Lib.hid hl
  clear hl hC hp
  go_enter Try.func56, Try.ntmps56
  go_wp2_with (refine wpList_box_row rfl 50 (.tmp 0) rfl C rfl ?_; intro w1 hr1 hb1 hz1; have c1 := rowC hr1 HL.out; clear hz1 hr1)
  go_returns
  exact ⟨rfl, hb1⟩
set_option maxHeartbeats 1000000 in
theorem prIsPair_any (p q : List Int) (hp : isSeq p = true) (w : World) : Calls Try.prog 53 #[.agg (prC p q)] w (Ret w (.bool (decide (1 ≤ p.length)))) := by
  have HLN := Lib.hid (prLength_any p q hp)
  have HI := Lib.hid (infoPrC p q)
  obtain ⟨C, hC⟩ : ∃ C, C = prC p q := ⟨_, rfl⟩
  rw [← hC] at HLN HI ⊢
  clear hC hp
  have B0 := Lib.hid (Below.refl w.heap.size w)
  go_enter Try.func53, Try.ntmps53
  go_wp2_with (first
    | ((with_reducible refine at_op (Op.box 50 (.tmp 0)) ?_); refine wpList_box_row rfl 50 (.tmp 0) rfl C rfl ?_; intro w1 hr hb hz; have R1_p := Lib.hid hr; have B1 := Lib.hid (joins B0.out hb); have L1_p := Lib.hid (show w.heap.size ≤ w.heap.size from B0.out.size); clear hr hb hz)
    | ((with_reducible refine at_op (Op.load 50 (.tmp 1)) ?_); refine wpList_load_part rfl 50 (.tmp 1) rfl (w.heap.size) 0 rfl C C 50 (0, 0) _ R1_p.out (Part.self _) Try.underlying50 rfl HI.out ?_))
  refine (HLN.out _).mono ?_
  rintro e w2 ⟨rfl, hb⟩
  have R2_p := Lib.hid (rowB R1_p.out hb)
  have B2 := Lib.hid (joins B1.out hb)
  clear hb
  go_wp2_with fail
  go_returns
  exact ⟨ret_bool (by simp; omega), B2.out⟩

set_option maxHeartbeats 2000000 in
theorem pairFrom_any (va vb : Value) (a b : List Int) (w : World) (hva : IS w va a) (hvb : IS w vb b) (hla : a.length ≤ 1048576) (hlb : b.length ≤ 1048576) :
    Calls Try.prog 51 #[va, vb] w (Ret w (.agg (prC (pL a b) (pR a b)))) := by
  have hp := fun w' (h : Below w.heap.size w w') => pairOf_walk va vb a b w' (hva.below h) (hvb.below h) hla hlb
  have SZ := Lib.hid (prC_size [] [])
  have OZ := Lib.hid (prC_one [] [])
  have ZZ := Lib.hid zeroPr
  have BZ := Lib.hid built_pair0
  have IZ := Lib.hid (infoPrC [] [])
  obtain ⟨Z, hZ⟩ : ∃ Z, Z = prC [] [] := ⟨_, rfl⟩
  rw [← hZ] at SZ OZ ZZ BZ IZ
  cases hok : pairOk a b with
  | true =>
    have e1 : pL a b = a := by unfold pL; rw [hok]; rfl
    have e2 : pR a b = b := by unfold pR; rw [hok]; rfl
    rw [e1, e2]
    simp only [hok, if_true] at hp
    have HP := Lib.hid hp
    have SA := Lib.hid (phC_size a)
    have SB := Lib.hid (phC_size b)
    have OA := Lib.hid (phC_one a)
    have OB := Lib.hid (phC_one b)
    have IA := Lib.hid (infoPhC a)
    have IB := Lib.hid (infoPhC b)
    have SC := Lib.hid (prC_size a b)
    have OC := Lib.hid (prC_one a b)
    have IC := Lib.hid (infoPrC a b)
    have HBU := Lib.hid (built_pair (phC a) (phC b) SA.out SB.out)
    rw [show phC a ++ phC b = prC a b from rfl] at HBU
    obtain ⟨C, hC⟩ : ∃ C, C = prC a b := ⟨_, rfl⟩
    obtain ⟨CA, hCA⟩ : ∃ C, C = phC a := ⟨_, rfl⟩
    obtain ⟨CB, hCB⟩ : ∃ C, C = phC b := ⟨_, rfl⟩
    rw [← hC] at SC OC IC HBU ⊢
    rw [← hCA] at HP SA OA IA HBU
    rw [← hCB] at HP SB OB IB HBU
    clear hC hCA hCB hp e1 e2 hok hZ hva hvb
    have B0 := Lib.hid (Below.refl w.heap.size w)
    go_enter Try.func51, Try.ntmps51
    go_wp2_with ((with_reducible refine at_op (d := some 4) (Op.alloc 50) ?_); refine wpList_alloc_row rfl 50 rfl Z (fun w => ZZ.out w) ?_; intro w1 hr hb hz; have R1_r := Lib.hid hr; have B1 := Lib.hid (joins B0.out hb); have L1_r := Lib.hid (show w.heap.size ≤ w.heap.size from B0.out.size); clear hr hb hz)
    refine (HP.out _ B1.out).mono ?_
    rintro e w2 ⟨rfl, hb⟩
    have R2_r := Lib.hid (rowB R1_r.out hb)
    have B2 := Lib.hid (joins B1.out hb)
    clear hb
    go_wp2_with (first
      | ((with_reducible refine at_op (d := some 5) (Op.alloc 48) ?_); refine wpList_alloc_row rfl 48 rfl (phA z32 0) zeroPh ?_; intro w3 hr hb hz; have N3_r_a := Lib.hid (Nat.ne_of_lt (row_lt R2_r.out)); have N3_a_r := Lib.hid (Ne.symm N3_r_a.out); have R3_r := Lib.hid (rowB R2_r.out hb); have R3_a := Lib.hid hr; have B3 := Lib.hid (joins B2.out hb); have L3_a := Lib.hid (show w.heap.size ≤ w2.heap.size from B2.out.size); clear hr hb hz)
      | ((with_reducible refine at_op (d := some 6) (Op.alloc 48) ?_); refine wpList_alloc_row rfl 48 rfl (phA z32 0) zeroPh ?_; intro w4 hr hb hz; have N4_r_b := Lib.hid (Nat.ne_of_lt (row_lt R3_r.out)); have N4_b_r := Lib.hid (Ne.symm N4_r_b.out); have N4_a_b := Lib.hid (Nat.ne_of_lt (row_lt R3_a.out)); have N4_b_a := Lib.hid (Ne.symm N4_a_b.out); have R4_r := Lib.hid (rowB R3_r.out hb); have R4_a := Lib.hid (rowB R3_a.out hb); have R4_b := Lib.hid hr; have B4 := Lib.hid (joins B3.out hb); have L4_b := Lib.hid (show w.heap.size ≤ w3.heap.size from B3.out.size); clear hr hb hz)
      | ((with_reducible refine at_op (Op.store 48 (.tmp 5) (.tmp 12)) ?_); refine wpList_put_row rfl 48 (.tmp 5) (.tmp 12) rfl (w2.heap.size) CA rfl rfl 48 (phA z32 0) R4_a.out 33 infoPh SA.out (phA_size _ _ z32_length) OA.out w.heap.size w B4.out L3_a.out ?_; intro w5 hr hs hb; have R5_r := Lib.hid (hs.row R4_r.out N3_r_a.out); have R5_b := Lib.hid (hs.row R4_b.out N4_b_a.out); have R5_a := Lib.hid hr; have B5 := Lib.hid hb; clear hr hs hb)
      | ((with_reducible refine at_op (Op.store 48 (.tmp 6) (.tmp 13)) ?_); refine wpList_put_row rfl 48 (.tmp 6) (.tmp 13) rfl (w3.heap.size) CB rfl rfl 48 (phA z32 0) R5_b.out 33 infoPh SB.out (phA_size _ _ z32_length) OB.out w.heap.size w B5.out L4_b.out ?_; intro w6 hr hs hb; have R6_r := Lib.hid (hs.row R5_r.out N4_r_b.out); have R6_a := Lib.hid (hs.row R5_a.out N4_a_b.out); have R6_b := Lib.hid hr; have B6 := Lib.hid hb; clear hr hs hb)
      | ((with_reducible refine at_op (Op.load 48 (.tmp 5)) ?_); refine wpList_load_part rfl 48 (.tmp 5) rfl (w2.heap.size) 0 rfl CA CA 48 (0, 0) _ R6_a.out (Part.self _) Try.underlying48 rfl IA.out ?_)
      | ((with_reducible refine at_op (Op.load 48 (.tmp 6)) ?_); refine wpList_load_part rfl 48 (.tmp 6) rfl (w3.heap.size) 0 rfl CB CB 48 (0, 0) _ R6_b.out (Part.self _) Try.underlying48 rfl IB.out ?_)
      | ((with_reducible refine at_op (Op.build 50 #[(0, .tmp 18), (1, .tmp 19)]) ?_); refine wpList_build_row rfl 50 [(0, .tmp 18), (1, .tmp 19)] rfl C HBU.out ?_)
      | ((with_reducible refine at_op (Op.store 50 (.tmp 4) (.tmp 20)) ?_); refine wpList_put_row rfl 50 (.tmp 4) (.tmp 20) rfl (w.heap.size) C rfl rfl 50 Z R6_r.out 66 infoPr SC.out SZ.out OC.out w.heap.size w B6.out L1_r.out ?_; intro w7 hr hs hb; have R7_a := Lib.hid (hs.row R6_a.out N3_a_r.out); have R7_b := Lib.hid (hs.row R6_b.out N4_b_r.out); have R7_r := Lib.hid hr; have B7 := Lib.hid hb; clear hr hs hb))
    refine bodyPost_ret (v := .agg C) ?_ rfl ⟨rfl, B7.out⟩
    exact results_cell_row Try.results51 _ _ (w.heap.size) 50 C (0, 0) _ rfl R7_r.out Try.underlying50 rfl IC.out
  | false =>
    have e1 : pL a b = [] := by unfold pL; rw [hok]; rfl
    have e2 : pR a b = [] := by unfold pR; rw [hok]; rfl
    rw [e1, e2, ← hZ]
    simp only [hok, Bool.false_eq_true, if_false] at hp
    have HP := Lib.hid hp
    clear hp e1 e2 hok hZ hva hvb
    have B0 := Lib.hid (Below.refl w.heap.size w)
    go_enter Try.func51, Try.ntmps51
    go_wp2_with ((with_reducible refine at_op (d := some 4) (Op.alloc 50) ?_); refine wpList_alloc_row rfl 50 rfl Z (fun w => ZZ.out w) ?_; intro w1 hr hb hz; have R1_r := Lib.hid hr; have B1 := Lib.hid (joins B0.out hb); have L1_r := Lib.hid (show w.heap.size ≤ w.heap.size from B0.out.size); clear hr hb hz)
    refine (HP.out _ B1.out).mono ?_
    rintro e w2 ⟨rfl, hb⟩
    have R2_r := Lib.hid (rowB R1_r.out hb)
    have B2 := Lib.hid (joins B1.out hb)
    clear hb
    go_wp2_with (first
      | ((with_reducible refine at_op (d := some 5) (Op.alloc 48) ?_); refine wpList_alloc_row rfl 48 rfl (phA z32 0) zeroPh ?_; intro w3 hr hb hz; have N3_r_a := Lib.hid (Nat.ne_of_lt (row_lt R2_r.out)); have N3_a_r := Lib.hid (Ne.symm N3_r_a.out); have R3_r := Lib.hid (rowB R2_r.out hb); have R3_a := Lib.hid hr; have B3 := Lib.hid (joins B2.out hb); have L3_a := Lib.hid (show w.heap.size ≤ w2.heap.size from B2.out.size); clear hr hb hz)
      | ((with_reducible refine at_op (d := some 6) (Op.alloc 48) ?_); refine wpList_alloc_row rfl 48 rfl (phA z32 0) zeroPh ?_; intro w4 hr hb hz; have N4_r_b := Lib.hid (Nat.ne_of_lt (row_lt R3_r.out)); have N4_b_r := Lib.hid (Ne.symm N4_r_b.out); have N4_a_b := Lib.hid (Nat.ne_of_lt (row_lt R3_a.out)); have N4_b_a := Lib.hid (Ne.symm N4_a_b.out); have R4_r := Lib.hid (rowB R3_r.out hb); have R4_a := Lib.hid (rowB R3_a.out hb); have R4_b := Lib.hid hr; have B4 := Lib.hid (joins B3.out hb); have L4_b := Lib.hid (show w.heap.size ≤ w3.heap.size from B3.out.size); clear hr hb hz)
      | ((with_reducible refine at_op (Op.store 48 (.tmp 5) (.tmp 12)) ?_); refine wpList_put_row rfl 48 (.tmp 5) (.tmp 12) rfl (w2.heap.size) (phA z32 0) rfl rfl 48 (phA z32 0) R4_a.out 33 infoPh (phA_size _ _ z32_length) (phA_size _ _ z32_length) (phA_one _ _) w.heap.size w B4.out L3_a.out ?_; intro w5 hr hs hb; have R5_r := Lib.hid (hs.row R4_r.out N3_r_a.out); have R5_b := Lib.hid (hs.row R4_b.out N4_b_a.out); have R5_a := Lib.hid hr; have B5 := Lib.hid hb; clear hr hs hb)
      | ((with_reducible refine at_op (Op.store 48 (.tmp 6) (.tmp 13)) ?_); refine wpList_put_row rfl 48 (.tmp 6) (.tmp 13) rfl (w3.heap.size) (phA z32 0) rfl rfl 48 (phA z32 0) R5_b.out 33 infoPh (phA_size _ _ z32_length) (phA_size _ _ z32_length) (phA_one _ _) w.heap.size w B5.out L4_b.out ?_; intro w6 hr hs hb; have R6_r := Lib.hid (hs.row R5_r.out N4_r_b.out); have R6_a := Lib.hid (hs.row R5_a.out N4_a_b.out); have R6_b := Lib.hid hr; have B6 := Lib.hid hb; clear hr hs hb)
      | ((with_reducible refine at_op (Op.build 50 #[]) ?_); refine wpList_build_row rfl 50 [] rfl Z BZ.out ?_)
      | ((with_reducible refine at_op (Op.store 50 (.tmp 4) (.tmp 17)) ?_); refine wpList_put_row rfl 50 (.tmp 4) (.tmp 17) rfl (w.heap.size) Z rfl rfl 50 Z R6_r.out 66 infoPr SZ.out SZ.out OZ.out w.heap.size w B6.out L1_r.out ?_; intro w7 hr hs hb; have R7_a := Lib.hid (hs.row R6_a.out N3_a_r.out); have R7_b := Lib.hid (hs.row R6_b.out N4_b_r.out); have R7_r := Lib.hid hr; have B7 := Lib.hid hb; clear hr hs hb))
    refine bodyPost_ret (v := .agg Z) ?_ rfl ⟨rfl, B7.out⟩
    exact results_cell_row Try.results51 _ _ (w.heap.size) 50 Z (0, 0) _ rfl R7_r.out Try.underlying50 rfl IZ.out
end Go.Proofs.Ytodgalflngfnpaa
