/- The program's moves from lists, at indexes and as lists; sequences with a rank; ApplyMove, MoveBack. -/
import Derived.Test.YtcagiecgbjnefabIClB
namespace Go.Proofs.Ytcagiecgbjnefab
set_option maxRecDepth 100000
open Go.RowKit

def zM : Array Value := #[.int .i64 0, .int .i64 0, .int .i64 0, .int .i64 0]
theorem zeroMv (w : World) : (zeroValue 71).run Try.prog w = .ok (.agg zM) w := by
  rw [Try.zeroValue71]
  rfl
theorem builtMv0 : Try.prog.built 71 [] = some zM := by rfl
def m4 (a b c d : Int) : Array Value := #[.int .i64 a, .int .i64 b, .int .i64 c, .int .i64 d]
theorem builtMv (a b c d : Int) : Try.prog.built 71 [(0, .int .i64 a), (1, .int .i64 b), (2, .int .i64 c), (3, .int .i64 d)] = some (m4 a b c d) := by rfl
theorem one4 (a b c d : Int) : (m4 a b c d).all (·.oneCell') = true := by simp [m4, Value.oneCell']
theorem size4 (a b c d : Int) : (m4 a b c d).size = 4 := rfl
theorem info4 (a b c d : Int) : (Try.prog.info? 71).map (·.size) = some (m4 a b c d).size := infoMv
theorem own_four (w : World) (a b c d : Int) (B : Nat) (hB : B ≤ w.heap.size) : Own (w.alloc (.cells #[.int .i64 a, .int .i64 b, .int .i64 c, .int .i64 d] 3)) B (.slice (some ⟨w.heap.size, 0, none⟩) 4 4) [a, b, c, d] := by
  refine ⟨rfl, Or.inr ⟨w.heap.size, 4, #[.int .i64 a, .int .i64 b, .int .i64 c, .int .i64 d], rfl, hB, heap_alloc_new w _, by simp, by unfold maxLen; omega, by simp, by simp⟩⟩
theorem mvV_size (m : List Int) : (mvV m).size = 4 := by
  cases h : clOk m with
  | true => obtain ⟨a, b, c, d, hm, -⟩ := clOk_four h; rw [mvV_four hm h]; rfl
  | false => rw [mvV_no h]; rfl
theorem mvV_one (m : List Int) : (mvV m).all (·.oneCell') = true := by
  cases h : clOk m with
  | true => obtain ⟨a, b, c, d, hm, -⟩ := clOk_four h; rw [mvV_four hm h]; exact one4 a b c d
  | false => rw [mvV_no h]; exact one4 0 0 0 0
theorem cell_lt {w : World} {g o : Nat} {v : Value} (h : w.cell? ⟨g, o, none⟩ = some v) : g < w.heap.size := by
  rcases Nat.lt_or_ge g w.heap.size with h1 | h1
  · exact h1
  · have hn : w.heap[g]? = none := Array.getElem?_eq_none h1
    simp [World.cell?, hn] at h

set_option maxRecDepth 100000 in
set_option maxHeartbeats 2000000 in
theorem moveAt_any (x : Nat) (hx : x < 64) (w : World) : Calls Try.prog 65 #[.int .i64 x] w (Ret w (.agg (mvC x))) := by
  show Calls _ _ _ _ (Ret w (.agg (m4 ((x : Int) / 16) ((x : Int) / 4 % 4) ((x : Int) / 2 % 2) ((x : Int) % 2))))
  have ZZ := Lib.hid zeroMv
  have BM := Lib.hid (builtMv ((x : Int) / 16) ((x : Int) / 4 % 4) ((x : Int) / 2 % 2) ((x : Int) % 2))
  have SM := Lib.hid (size4 ((x : Int) / 16) ((x : Int) / 4 % 4) ((x : Int) / 2 % 2) ((x : Int) % 2))
  have OM_ := Lib.hid (one4 ((x : Int) / 16) ((x : Int) / 4 % 4) ((x : Int) / 2 % 2) ((x : Int) % 2))
  have IM := Lib.hid (info4 ((x : Int) / 16) ((x : Int) / 4 % 4) ((x : Int) / 2 % 2) ((x : Int) % 2))
  obtain ⟨M, hM⟩ : ∃ M, M = m4 ((x : Int) / 16) ((x : Int) / 4 % 4) ((x : Int) / 2 % 2) ((x : Int) % 2) := ⟨_, rfl⟩
  rw [← hM] at BM SM OM_ IM ⊢
  clear hM
  have B0 := Lib.hid (Below.refl w.heap.size w)
  go_enter Try.func65, Try.ntmps65
  go_wp2_with (first
    | ((with_reducible refine at_op (d := some 2) (Op.alloc 71) ?_); refine wpList_alloc_row rfl 71 rfl zM ZZ.out ?_; intro w1 hr hb hz; have R1_r := Lib.hid hr; have B1 := Lib.hid (joins B0.out hb); have L1_r := Lib.hid (show w.heap.size ≤ w.heap.size from B0.out.size); clear hr hb hz)
    | ((with_reducible refine at_op (Op.build 71 #[(0, .tmp 4), (1, .tmp 7), (2, .tmp 10), (3, .tmp 12)]) ?_); refine wpList_build_row rfl 71 [(0, .tmp 4), (1, .tmp 7), (2, .tmp 10), (3, .tmp 12)] rfl M BM.out ?_)
    | ((with_reducible refine at_op (Op.store 71 (.tmp 2) (.tmp 13)) ?_); refine wpList_put_row rfl 71 (.tmp 2) (.tmp 13) rfl (w.heap.size) M rfl rfl 71 zM R1_r.out 4 infoMv SM.out rfl OM_.out w.heap.size w B1.out L1_r.out ?_; intro w2 hr hs hb; have R2_r := Lib.hid hr; have B2 := Lib.hid hb; clear hr hs hb))
  refine bodyPost_ret (v := .agg M) ?_ rfl ⟨rfl, B2.out⟩
  exact results_cell_row Try.results65 _ _ (w.heap.size) 71 M (0, 0) _ rfl R2_r.out Try.underlying71 rfl IM.out

/-- The sequence, if it has a rank. -/
def rkz (l : List Int) : List Int := if ranked l then l else []
theorem rkz_yes {l : List Int} (h : ranked l = true) : rkz l = l := by unfold rkz; rw [h]; rfl
theorem rkz_seq (l : List Int) : isSeq (rkz l) = true := by
  unfold rkz; split
  · rename_i h; exact (ranked_seq h).1
  · rfl
theorem rkz_len (l : List Int) : (rkz l).length ≤ 15 := by
  unfold rkz; split
  · rename_i h; exact (ranked_seq h).2
  · exact Nat.zero_le _
set_option maxRecDepth 100000 in
set_option maxHeartbeats 2000000 in
theorem rankedOf_any (v : Value) (l : List Int) (w : World) (hv : IS w v l) (hlen : l.length ≤ 1048576) : Calls Try.prog 35 #[v] w (Ret w (.tuple #[.agg (phC (rkz l)), .bool (ranked l)])) := by
  have HP := Lib.hid (fun w' (h : Below w.heap.size w w') => phasesOf_any v l w' (hv.below h) hlen)
  have ZZ := Lib.hid zeroPh
  have SZ := Lib.hid (phA_size z32 0 z32_length)
  have OZ := Lib.hid (phA_one z32 0)
  have IZ := Lib.hid (show (Try.prog.info? 47).map (·.size) = some (phA z32 0).size by rw [phA_size _ _ z32_length]; exact infoPh)
  have BZ := Lib.hid phZ_built
  have SC := Lib.hid (phC_size l)
  have OC := Lib.hid (phC_one l)
  have IC := Lib.hid (phC_info l)
  have CL := phC_len l
  have hzn := phC_nil9
  cases hs : isSeq l with
  | false =>
    have hr : ranked l = false := by unfold ranked; rw [hs]; rfl
    have hz : rkz l = [] := by unfold rkz; rw [hr]; rfl
    rw [hr, hz, hzn]
    rw [hs] at HP
    obtain ⟨Z, hZ⟩ : ∃ Z, Z = phA z32 0 := ⟨_, rfl⟩
    rw [← hZ] at ZZ SZ OZ IZ BZ ⊢
    obtain ⟨C, hC⟩ : ∃ C, C = phC l := ⟨_, rfl⟩
    rw [← hC] at SC OC IC HP
    clear hZ hC hzn hs hr hz hv CL
    have B0 := Lib.hid (Below.refl w.heap.size w)
    go_enter Try.func35, Try.ntmps35
    go_wp2_with ((with_reducible refine at_op (d := some 2) (Op.alloc 47) ?_); refine wpList_alloc_row rfl 47 rfl Z ZZ.out ?_; intro w1 hr hb hz; have R1_r := Lib.hid hr; have B1 := Lib.hid (joins B0.out hb); have L1_r := Lib.hid (show w.heap.size ≤ w.heap.size from B0.out.size); clear hr hb hz)
    refine (HP.out _ B1.out).mono ?_
    rintro e w2 ⟨rfl, hb⟩
    have R2_r := Lib.hid (rowB R1_r.out hb)
    have B2 := Lib.hid (joins B1.out hb)
    clear hb
    go_wp2_with (first
      | ((with_reducible refine at_op (d := some 4) (Op.alloc 47) ?_); refine wpList_alloc_row rfl 47 rfl Z ZZ.out ?_; intro w3 hr hb hz; have N3_r_p := Lib.hid (Nat.ne_of_lt (row_lt R2_r.out)); have N3_p_r := Lib.hid (Ne.symm N3_r_p.out); have R3_r := Lib.hid (rowB R2_r.out hb); have R3_p := Lib.hid hr; have B3 := Lib.hid (joins B2.out hb); have L3_p := Lib.hid (show w.heap.size ≤ w2.heap.size from B2.out.size); clear hr hb hz)
      | ((with_reducible refine at_op (Op.store 47 (.tmp 4) (.tmp 9)) ?_); refine wpList_put_row rfl 47 (.tmp 4) (.tmp 9) rfl (w2.heap.size) C rfl rfl 47 Z R3_p.out 33 infoPh SC.out SZ.out OC.out w.heap.size w B3.out L3_p.out ?_; intro w4 hr hs hb; have R4_r := Lib.hid (hs.row R3_r.out N3_r_p.out); have R4_p := Lib.hid hr; have B4 := Lib.hid hb; clear hr hs hb)
      | ((with_reducible refine at_op (Op.build 47 #[]) ?_); refine wpList_build_row rfl 47 [] rfl Z BZ.out ?_)
      | ((with_reducible refine at_op (Op.store 47 (.tmp 2) (.tmp 18)) ?_); refine wpList_put_row rfl 47 (.tmp 2) (.tmp 18) rfl (w.heap.size) Z rfl rfl 47 Z R4_r.out 33 infoPh SZ.out SZ.out OZ.out w.heap.size w B4.out L1_r.out ?_; intro w5 hr hs hb; have R5_p := Lib.hid (hs.row R4_p.out N3_p_r.out); have R5_r := Lib.hid hr; have B5 := Lib.hid hb; clear hr hs hb))
    refine bodyPost_ret (v := .tuple #[.agg Z, .bool false]) ?_ rfl ⟨rfl, B5.out⟩
    rw [results_cell_tmp (p := 2) (u := 3) (ty := 47) Try.results35]
    simp [asAddr, run_loadVar_row _ (w.heap.size) 47 47 _ (0, 0) _ R5_r.out Try.underlying47 rfl IZ.out, Result.andThen]
  | true =>
    rw [hs] at HP
    have hsq : sqz l = l := by unfold sqz; rw [hs]; rfl
    rw [hsq] at CL
    have CL' := Lib.hid CL
    have h32 := isSeq_len hs
    by_cases h15 : l.length ≤ 15
    · have hr : ranked l = true := by unfold ranked; rw [hs, decide_eq_true h15]; rfl
      rw [rkz_yes hr, hr]
      have hg : ((l.length : Int) > 15) = False := by simp; omega
      obtain ⟨n, hn⟩ : ∃ n, n = l.length := ⟨_, rfl⟩
      rw [← hn] at CL' h15 h32
      obtain ⟨Z, hZ⟩ : ∃ Z, Z = phA z32 0 := ⟨_, rfl⟩
      rw [← hZ] at ZZ SZ OZ IZ BZ
      obtain ⟨C, hC⟩ : ∃ C, C = phC l := ⟨_, rfl⟩
      rw [← hC] at SC OC IC HP CL' ⊢
      clear hZ hC hzn hs hr hv CL hsq hn hg
      have B0 := Lib.hid (Below.refl w.heap.size w)
      go_enter Try.func35, Try.ntmps35
      go_wp2_with ((with_reducible refine at_op (d := some 2) (Op.alloc 47) ?_); refine wpList_alloc_row rfl 47 rfl Z ZZ.out ?_; intro w1 hr hb hz; have R1_r := Lib.hid hr; have B1 := Lib.hid (joins B0.out hb); have L1_r := Lib.hid (show w.heap.size ≤ w.heap.size from B0.out.size); clear hr hb hz)
      refine (HP.out _ B1.out).mono ?_
      rintro e w2 ⟨rfl, hb⟩
      have R2_r := Lib.hid (rowB R1_r.out hb)
      have B2 := Lib.hid (joins B1.out hb)
      clear hb
      go_wp2_with (first
        | ((with_reducible refine at_op (d := some 4) (Op.alloc 47) ?_); refine wpList_alloc_row rfl 47 rfl Z ZZ.out ?_; intro w3 hr hb hz; have N3_r_p := Lib.hid (Nat.ne_of_lt (row_lt R2_r.out)); have N3_p_r := Lib.hid (Ne.symm N3_r_p.out); have R3_r := Lib.hid (rowB R2_r.out hb); have R3_p := Lib.hid hr; have B3 := Lib.hid (joins B2.out hb); have L3_p := Lib.hid (show w.heap.size ≤ w2.heap.size from B2.out.size); clear hr hb hz)
        | ((with_reducible refine at_op (Op.store 47 (.tmp 4) (.tmp 9)) ?_); refine wpList_put_row rfl 47 (.tmp 4) (.tmp 9) rfl (w2.heap.size) C rfl rfl 47 Z R3_p.out 33 infoPh SC.out SZ.out OC.out w.heap.size w B3.out L3_p.out ?_; intro w4 hr hs hb; have R4_r := Lib.hid (hs.row R3_r.out N3_r_p.out); have R4_p := Lib.hid hr; have B4 := Lib.hid hb; have c32 := rowC R4_p.out CL'.out; clear hr hs hb)
        | ((with_reducible refine at_op (d := some 19) (Op.load 47 (.tmp 4)) ?_); refine wpList_load_part rfl 47 (.tmp 4) rfl (w2.heap.size) 0 rfl C C 47 (0, 0) _ R4_p.out (Part.self _) Try.underlying47 rfl IC.out ?_)
        | ((with_reducible refine at_op (Op.store 47 (.tmp 2) (.tmp 19)) ?_); refine wpList_put_row rfl 47 (.tmp 2) (.tmp 19) rfl (w.heap.size) C rfl rfl 47 Z R4_r.out 33 infoPh SC.out SZ.out OC.out w.heap.size w B4.out L1_r.out ?_; intro w5 hr hs hb; have R5_p := Lib.hid (hs.row R4_p.out N3_p_r.out); have R5_r := Lib.hid hr; have B5 := Lib.hid hb; clear hr hs hb))
      refine bodyPost_ret (v := .tuple #[.agg C, .bool true]) ?_ rfl ⟨rfl, B5.out⟩
      rw [results_cell_tmp (p := 2) (u := 3) (ty := 47) Try.results35]
      simp [asAddr, run_loadVar_row _ (w.heap.size) 47 47 _ (0, 0) _ R5_r.out Try.underlying47 rfl IC.out, Result.andThen]
    · have hr : ranked l = false := by unfold ranked; rw [hs, decide_eq_false h15]; rfl
      have hz : rkz l = [] := by unfold rkz; rw [hr]; rfl
      rw [hr, hz, hzn]
      obtain ⟨n, hn⟩ : ∃ n, n = l.length := ⟨_, rfl⟩
      rw [← hn] at CL' h15 h32
      obtain ⟨Z, hZ⟩ : ∃ Z, Z = phA z32 0 := ⟨_, rfl⟩
      rw [← hZ] at ZZ SZ OZ IZ BZ ⊢
      obtain ⟨C, hC⟩ : ∃ C, C = phC l := ⟨_, rfl⟩
      rw [← hC] at SC OC IC HP CL'
      clear hZ hC hzn hs hr hz hv CL hsq hn
      have B0 := Lib.hid (Below.refl w.heap.size w)
      go_enter Try.func35, Try.ntmps35
      go_wp2_with ((with_reducible refine at_op (d := some 2) (Op.alloc 47) ?_); refine wpList_alloc_row rfl 47 rfl Z ZZ.out ?_; intro w1 hr hb hz; have R1_r := Lib.hid hr; have B1 := Lib.hid (joins B0.out hb); have L1_r := Lib.hid (show w.heap.size ≤ w.heap.size from B0.out.size); clear hr hb hz)
      refine (HP.out _ B1.out).mono ?_
      rintro e w2 ⟨rfl, hb⟩
      have R2_r := Lib.hid (rowB R1_r.out hb)
      have B2 := Lib.hid (joins B1.out hb)
      clear hb
      go_wp2_with (first
        | ((with_reducible refine at_op (d := some 4) (Op.alloc 47) ?_); refine wpList_alloc_row rfl 47 rfl Z ZZ.out ?_; intro w3 hr hb hz; have N3_r_p := Lib.hid (Nat.ne_of_lt (row_lt R2_r.out)); have N3_p_r := Lib.hid (Ne.symm N3_r_p.out); have R3_r := Lib.hid (rowB R2_r.out hb); have R3_p := Lib.hid hr; have B3 := Lib.hid (joins B2.out hb); have L3_p := Lib.hid (show w.heap.size ≤ w2.heap.size from B2.out.size); clear hr hb hz)
        | ((with_reducible refine at_op (Op.store 47 (.tmp 4) (.tmp 9)) ?_); refine wpList_put_row rfl 47 (.tmp 4) (.tmp 9) rfl (w2.heap.size) C rfl rfl 47 Z R3_p.out 33 infoPh SC.out SZ.out OC.out w.heap.size w B3.out L3_p.out ?_; intro w4 hr hs hb; have R4_r := Lib.hid (hs.row R3_r.out N3_r_p.out); have R4_p := Lib.hid hr; have B4 := Lib.hid hb; have c32 := rowC R4_p.out CL'.out; clear hr hs hb)
        | ((with_reducible refine at_op (Op.build 47 #[]) ?_); refine wpList_build_row rfl 47 [] rfl Z BZ.out ?_)
        | ((with_reducible refine at_op (Op.store 47 (.tmp 2) (.tmp 18)) ?_); refine wpList_put_row rfl 47 (.tmp 2) (.tmp 18) rfl (w.heap.size) Z rfl rfl 47 Z R4_r.out 33 infoPh SZ.out SZ.out OZ.out w.heap.size w B4.out L1_r.out ?_; intro w5 hr hs hb; have R5_p := Lib.hid (hs.row R4_p.out N3_p_r.out); have R5_r := Lib.hid hr; have B5 := Lib.hid hb; clear hr hs hb))
      refine bodyPost_ret (v := .tuple #[.agg Z, .bool false]) ?_ rfl ⟨rfl, B5.out⟩
      rw [results_cell_tmp (p := 2) (u := 3) (ty := 47) Try.results35]
      simp [asAddr, run_loadVar_row _ (w.heap.size) 47 47 _ (0, 0) _ R5_r.out Try.underlying47 rfl IZ.out, Result.andThen]

end Go.Proofs.Ytcagiecgbjnefab
