/- The program's moves from lists, at indexes and as lists; sequences with a rank; ApplyMove, MoveBack. -/
import Derived.Test.YtcagiecgbjnefaaIClB
namespace Go.Proofs.Ytcagiecgbjnefaa
set_option maxRecDepth 100000
open Go.RowKit

def zM : Array Value := #[.int .i64 0, .int .i64 0, .int .i64 0, .int .i64 0]
theorem zeroMv (w : World) : (zeroValue 44).run Try.prog w = .ok (.agg zM) w := by
  rw [Try.zeroValue44]
  rfl
theorem builtMv0 : Try.prog.built 44 [] = some zM := by rfl
def m4 (a b c d : Int) : Array Value := #[.int .i64 a, .int .i64 b, .int .i64 c, .int .i64 d]
theorem builtMv (a b c d : Int) : Try.prog.built 44 [(0, .int .i64 a), (1, .int .i64 b), (2, .int .i64 c), (3, .int .i64 d)] = some (m4 a b c d) := by rfl
theorem one4 (a b c d : Int) : (m4 a b c d).all (·.oneCell') = true := by simp [m4, Value.oneCell']
theorem size4 (a b c d : Int) : (m4 a b c d).size = 4 := rfl
theorem info4 (a b c d : Int) : (Try.prog.info? 44).map (·.size) = some (m4 a b c d).size := infoMv
theorem own_four (w : World) (a b c d : Int) (B : Nat) (hB : B ≤ w.heap.size) : Own (w.alloc (.cells #[.int .i64 a, .int .i64 b, .int .i64 c, .int .i64 d] 3)) B (.slice (some ⟨w.heap.size, 0, none⟩) 4 4) [a, b, c, d] := by
  refine ⟨rfl, Or.inr ⟨w.heap.size, 4, #[.int .i64 a, .int .i64 b, .int .i64 c, .int .i64 d], rfl, hB, heap_alloc_new w _, by simp, by unfold maxLen; omega, by simp, by simp⟩⟩
theorem mvV_size (m : List Int) : (mvV m).size = 4 := by
  cases h : clOk m with
  | true => obtain ⟨a, b, c, d, hm, -⟩ := clOk_four h; rw [mvV_four hm h]; rfl
  | false => rw [mvV_no h]; rfl
theorem mvV_one (m : List Int) : (mvV m).all (·.oneCell') = true := by
  cases h : clOk m with
  | true => obtain ⟨a, b, c, d, hm, -⟩ := clOk_four h; rw [mvV_four hm h]; exact one4 a b c d
  | false => rw [mvV_no h]; exact one4 0 0 0 0
theorem cell_lt {w : World} {g o : Nat} {v : Value} (h : w.cell? ⟨g, o, none⟩ = some v) : g < w.heap.size := by
  rcases Nat.lt_or_ge g w.heap.size with h1 | h1
  · exact h1
  · have hn : w.heap[g]? = none := Array.getElem?_eq_none h1
    simp [World.cell?, hn] at h

set_option maxRecDepth 100000 in
set_option maxHeartbeats 2000000 in
theorem moveFrom_any (v : Value) (m : List Int) (w : World) (hv : IS w v m) (hc : clCap v) : Calls Try.prog 52 #[v] w (Ret w (.tuple #[.agg (mvV m), .bool (clOk m)])) := by
  have HM := Lib.hid (fun w' (h : Below w.heap.size w w') => isMove_any v m w' (hv.below h) hc)
  have ZZ := Lib.hid zeroMv
  cases hok : clOk m with
  | true =>
    obtain ⟨a, b, c, d, hm, -⟩ := clOk_four hok
    rw [mvV_four hm hok]
    rw [hok] at HM
    subst hm
    obtain ⟨g, off, cap, rfl, c0, c1, c2, c3⟩ := hv.four
    have NG := Lib.hid (Nat.ne_of_gt (cell_lt c0))
    have C0 := Lib.hid c0
    have C1 := Lib.hid c1
    have C2 := Lib.hid c2
    have C3 := Lib.hid c3
    show Calls _ _ _ _ (Ret w (.tuple #[.agg (m4 a b c d), .bool true]))
    have BM := Lib.hid (builtMv a b c d)
    have SM := Lib.hid (size4 a b c d)
    have OM_ := Lib.hid (one4 a b c d)
    have IM := Lib.hid (info4 a b c d)
    obtain ⟨M, hM⟩ : ∃ M, M = m4 a b c d := ⟨_, rfl⟩
    rw [← hM] at BM SM OM_ IM ⊢
    clear hv hc hok hM c0 c1 c2 c3
    have B0 := Lib.hid (Below.refl w.heap.size w)
    go_enter Try.func52, Try.ntmps52
    go_wp2_with ((with_reducible refine at_op (d := some 2) (Op.alloc 44) ?_); refine wpList_alloc_row rfl 44 rfl zM ZZ.out ?_; intro w1 hr hb hz; have R1_r := Lib.hid hr; have B1 := Lib.hid (joins B0.out hb); have L1_r := Lib.hid (show w.heap.size ≤ w.heap.size from B0.out.size); clear hr hb hz)
    refine (HM.out _ B1.out).mono ?_
    rintro e w2 ⟨rfl, hb⟩
    have R2_r := Lib.hid (rowB R1_r.out hb)
    have B2 := Lib.hid (joins B1.out hb)
    clear hb
    go_wp2_with fail
    go_wp2_with fail
    refine wp_region_held_drew (S := (fun w' => World.grownBy w2 w' (some (w.heap.size)))) (by kernel_rfl) (grownDrew (World.grownBy.refl _ _)) ?_
    obtain ⟨w3, hdw⟩ : ∃ w', w' = w2.drew := ⟨_, rfl⟩
    rw [← hdw]
    have hb : Below w2.heap.size w2 w3 := by rw [hdw]; exact belowN (Below.refl _ _) 1
    have R3_r := Lib.hid (rowB R2_r.out hb)
    have B3 := Lib.hid (joins B2.out hb)
    clear hdw hb
    intro hHeld
    refine' wpAnyH_take (i := 0) (v := _) rfl (by kernel_rfl) (by kernel_rfl) (by kernel_rfl) (fun _ _ _ h => h) (Or.inl ⟨by rfl, ?hy1⟩) (by assumption) ?rest1
    case hy1 =>
      intro w h
      (try clear h)
      go_simp
      (try with_reducible rfl)
    (try simp only [Act.put, List.getElem_toArray, List.getElem_cons_zero, List.setIfInBounds_toArray, List.set_cons_zero, List.set_cons_succ])
    refine' wpAnyH_take (i := 1) (v := _) rfl (by kernel_rfl) (by kernel_rfl) (by kernel_rfl) (fun _ _ _ h => h) (Or.inl ⟨by rfl, ?hy2⟩) (by assumption) ?rest2
    case hy2 =>
      intro w h
      (try clear h)
      go_simp
      (try with_reducible rfl)
    (try simp only [Act.put, List.getElem_toArray, List.getElem_cons_zero, List.getElem_cons_succ, List.setIfInBounds_toArray, List.set_cons_zero, List.set_cons_succ])
    refine' wpAnyH_take (i := 2) (v := _) rfl (by kernel_rfl) (by kernel_rfl) (by kernel_rfl) (fun _ _ _ h => h) (Or.inl ⟨by rfl, ?hy3⟩) (by assumption) ?rest3
    case hy3 =>
      intro w h
      have c_ := cellR h (keepc B2.out C0.out) (fun e => NG.out (Option.some.inj e))
      (try clear h)
      go_simp
      (try with_reducible rfl)
    (try simp only [Act.put, List.getElem_toArray, List.getElem_cons_zero, List.getElem_cons_succ, List.setIfInBounds_toArray, List.set_cons_zero, List.set_cons_succ])
    refine' wpAnyH_take (i := 3) (v := _) rfl (by kernel_rfl) (by kernel_rfl) (by kernel_rfl) (fun _ _ _ h => h) (Or.inl ⟨by rfl, ?hy4⟩) (by assumption) ?rest4
    case hy4 =>
      intro w h
      (try clear h)
      go_simp
      (try with_reducible rfl)
    (try simp only [Act.put, List.getElem_toArray, List.getElem_cons_zero, List.getElem_cons_succ, List.setIfInBounds_toArray, List.set_cons_zero, List.set_cons_succ])
    refine' wpAnyH_take (i := 4) (v := _) rfl (by kernel_rfl) (by kernel_rfl) (by kernel_rfl) (fun _ _ _ h => h) (Or.inl ⟨by rfl, ?hy5⟩) (by assumption) ?rest5
    case hy5 =>
      intro w h
      (try clear h)
      go_simp
      (try with_reducible rfl)
    (try simp only [Act.put, List.getElem_toArray, List.getElem_cons_zero, List.getElem_cons_succ, List.setIfInBounds_toArray, List.set_cons_zero, List.set_cons_succ])
    refine' wpAnyH_take (i := 5) (v := _) rfl (by kernel_rfl) (by kernel_rfl) (by kernel_rfl) (fun _ _ _ h => h) (Or.inl ⟨by rfl, ?hy6⟩) (by assumption) ?rest6
    case hy6 =>
      intro w h
      have c_ := cellR h (keepc B2.out C1.out) (fun e => NG.out (Option.some.inj e))
      (try clear h)
      go_simp
      (try with_reducible rfl)
    (try simp only [Act.put, List.getElem_toArray, List.getElem_cons_zero, List.getElem_cons_succ, List.setIfInBounds_toArray, List.set_cons_zero, List.set_cons_succ])
    refine' wpAnyH_take (i := 6) (v := _) rfl (by kernel_rfl) (by kernel_rfl) (by kernel_rfl) (fun _ _ _ h => h) (Or.inl ⟨by rfl, ?hy7⟩) (by assumption) ?rest7
    case hy7 =>
      intro w h
      (try clear h)
      go_simp
      (try with_reducible rfl)
    (try simp only [Act.put, List.getElem_toArray, List.getElem_cons_zero, List.getElem_cons_succ, List.setIfInBounds_toArray, List.set_cons_zero, List.set_cons_succ])
    refine' wpAnyH_take (i := 7) (v := _) rfl (by kernel_rfl) (by kernel_rfl) (by kernel_rfl) (fun _ _ _ h => h) (Or.inl ⟨by rfl, ?hy8⟩) (by assumption) ?rest8
    case hy8 =>
      intro w h
      (try clear h)
      go_simp
      (try with_reducible rfl)
    (try simp only [Act.put, List.getElem_toArray, List.getElem_cons_zero, List.getElem_cons_succ, List.setIfInBounds_toArray, List.set_cons_zero, List.set_cons_succ])
    refine' wpAnyH_take (i := 8) (v := _) rfl (by kernel_rfl) (by kernel_rfl) (by kernel_rfl) (fun _ _ _ h => h) (Or.inl ⟨by rfl, ?hy9⟩) (by assumption) ?rest9
    case hy9 =>
      intro w h
      have c_ := cellR h (keepc B2.out C2.out) (fun e => NG.out (Option.some.inj e))
      (try clear h)
      go_simp
      (try with_reducible rfl)
    (try simp only [Act.put, List.getElem_toArray, List.getElem_cons_zero, List.getElem_cons_succ, List.setIfInBounds_toArray, List.set_cons_zero, List.set_cons_succ])
    refine' wpAnyH_take (i := 9) (v := _) rfl (by kernel_rfl) (by kernel_rfl) (by kernel_rfl) (fun _ _ _ h => h) (Or.inl ⟨by rfl, ?hy10⟩) (by assumption) ?rest10
    case hy10 =>
      intro w h
      (try clear h)
      go_simp
      (try with_reducible rfl)
    (try simp only [Act.put, List.getElem_toArray, List.getElem_cons_zero, List.getElem_cons_succ, List.setIfInBounds_toArray, List.set_cons_zero, List.set_cons_succ])
    refine' wpAnyH_take (i := 10) (v := _) rfl (by kernel_rfl) (by kernel_rfl) (by kernel_rfl) (fun _ _ _ h => h) (Or.inl ⟨by rfl, ?hy11⟩) (by assumption) ?rest11
    case hy11 =>
      intro w h
      (try clear h)
      go_simp
      (try with_reducible rfl)
    (try simp only [Act.put, List.getElem_toArray, List.getElem_cons_zero, List.getElem_cons_succ, List.setIfInBounds_toArray, List.set_cons_zero, List.set_cons_succ])
    refine' wpAnyH_take (i := 11) (v := _) rfl (by kernel_rfl) (by kernel_rfl) (by kernel_rfl) (fun _ _ _ h => h) (Or.inl ⟨by rfl, ?hy12⟩) (by assumption) ?rest12
    case hy12 =>
      intro w h
      have c_ := cellR h (keepc B2.out C3.out) (fun e => NG.out (Option.some.inj e))
      (try clear h)
      go_simp
      (try with_reducible rfl)
    (try simp only [Act.put, List.getElem_toArray, List.getElem_cons_zero, List.getElem_cons_succ, List.setIfInBounds_toArray, List.set_cons_zero, List.set_cons_succ])
    refine' wpAnyH_take (i := 12) (v := _) rfl (by kernel_rfl) (by kernel_rfl) (by kernel_rfl) (fun _ _ _ h => h) (yieldsBuild (by rfl) 44 [(0, .tmp 10), (1, .tmp 13), (2, .tmp 16), (3, .tmp 19)] rfl M BM.out) (by assumption) ?rest13
    (try simp only [Act.put, List.getElem_toArray, List.getElem_cons_zero, List.getElem_cons_succ, List.setIfInBounds_toArray, List.set_cons_zero, List.set_cons_succ])
    refine wpAnyH_ready (rs := [13]) (by kernel_rfl) (by simp) ?_
    refine AllReadyH.cons rfl (fun K hK => ?_) AllReadyH.nil
    rw [if_pos (by rfl)]
    refine wp_put_row 44 (.tmp 2) (.tmp 20) rfl (w.heap.size) M rfl rfl 44 zM R3_r.out 4 infoMv SM.out rfl OM_.out w.heap.size w B3.out L1_r.out ?_
    intro w4 hr hs hb
    have R4_r := Lib.hid hr
    have B4 := Lib.hid hb
    have hHeld := grownS hHeld hs hb B3.out
    clear hr hs hb
    refine hK.out _ _ hHeld (fun hHeld => ?_)
    clear hK K
    (try simp only [Act.put])
    refine' wpAnyH_take (i := 14) (v := _) rfl (by kernel_rfl) (by kernel_rfl) (by kernel_rfl) (fun _ _ _ h => h) (Or.inl ⟨by rfl, ?hy14⟩) (by assumption) ?rest14
    case hy14 =>
      intro w h
      (try clear h)
      go_simp
      (try with_reducible rfl)
    (try simp only [Act.put, List.getElem_toArray, List.getElem_cons_zero, List.getElem_cons_succ, List.setIfInBounds_toArray, List.set_cons_zero, List.set_cons_succ])
    refine wpAnyH_done (by kernel_rfl) ?_ _
    go_wp2_with fail
    refine bodyPost_ret (v := .tuple #[.agg M, .bool true]) ?_ rfl ⟨rfl, B4.out⟩
    rw [results_cell_tmp (p := 2) (u := 3) (ty := 44) Try.results52]
    simp [asAddr, run_loadVar_row _ (w.heap.size) 44 44 _ (0, 0) _ R4_r.out Try.underlying44 rfl IM.out, Result.andThen]
  | false =>
    rw [mvV_no hok]
    rw [hok] at HM
    clear hok
    show Calls _ _ _ _ (Ret w (.tuple #[.agg zM, .bool false]))
    have BM := Lib.hid builtMv0
    have B0 := Lib.hid (Below.refl w.heap.size w)
    go_enter Try.func52, Try.ntmps52
    go_wp2_with ((with_reducible refine at_op (d := some 2) (Op.alloc 44) ?_); refine wpList_alloc_row rfl 44 rfl zM ZZ.out ?_; intro w1 hr hb hz; have R1_r := Lib.hid hr; have B1 := Lib.hid (joins B0.out hb); have L1_r := Lib.hid (show w.heap.size ≤ w.heap.size from B0.out.size); clear hr hb hz)
    refine (HM.out _ B1.out).mono ?_
    rintro e w2 ⟨rfl, hb⟩
    have R2_r := Lib.hid (rowB R1_r.out hb)
    have B2 := Lib.hid (joins B1.out hb)
    clear hb
    go_wp2_with (first
      | ((with_reducible refine at_op (Op.build 44 #[]) ?_); refine wpList_build_row rfl 44 [] rfl zM BM.out ?_)
      | ((with_reducible refine at_op (Op.store 44 (.tmp 2) (.tmp 7)) ?_); refine wpList_put_row rfl 44 (.tmp 2) (.tmp 7) rfl (w.heap.size) zM rfl rfl 44 zM R2_r.out 4 infoMv rfl rfl (one4 0 0 0 0) w.heap.size w B2.out L1_r.out ?_; intro w3 hr hs hb; have R3_r := Lib.hid hr; have B3 := Lib.hid hb; clear hr hs hb))
    refine bodyPost_ret (v := .tuple #[.agg zM, .bool false]) ?_ rfl ⟨rfl, B3.out⟩
    rw [results_cell_tmp (p := 2) (u := 3) (ty := 44) Try.results52]
    simp [asAddr, run_loadVar_row _ (w.heap.size) 44 44 _ (0, 0) _ R3_r.out Try.underlying44 rfl (info4 0 0 0 0), Result.andThen]

set_option maxRecDepth 100000 in
set_option maxHeartbeats 2000000 in
theorem moveAt_any (x : Nat) (hx : x < 64) (w : World) : Calls Try.prog 65 #[.int .i64 x] w (Ret w (.agg (mvC x))) := by
  show Calls _ _ _ _ (Ret w (.agg (m4 ((x : Int) / 16) ((x : Int) / 4 % 4) ((x : Int) / 2 % 2) ((x : Int) % 2))))
  have ZZ := Lib.hid zeroMv
  have BM := Lib.hid (builtMv ((x : Int) / 16) ((x : Int) / 4 % 4) ((x : Int) / 2 % 2) ((x : Int) % 2))
  have SM := Lib.hid (size4 ((x : Int) / 16) ((x : Int) / 4 % 4) ((x : Int) / 2 % 2) ((x : Int) % 2))
  have OM_ := Lib.hid (one4 ((x : Int) / 16) ((x : Int) / 4 % 4) ((x : Int) / 2 % 2) ((x : Int) % 2))
  have IM := Lib.hid (info4 ((x : Int) / 16) ((x : Int) / 4 % 4) ((x : Int) / 2 % 2) ((x : Int) % 2))
  obtain ⟨M, hM⟩ : ∃ M, M = m4 ((x : Int) / 16) ((x : Int) / 4 % 4) ((x : Int) / 2 % 2) ((x : Int) % 2) := ⟨_, rfl⟩
  rw [← hM] at BM SM OM_ IM ⊢
  clear hM
  have B0 := Lib.hid (Below.refl w.heap.size w)
  go_enter Try.func65, Try.ntmps65
  go_wp2_with (first
    | ((with_reducible refine at_op (d := some 2) (Op.alloc 44) ?_); refine wpList_alloc_row rfl 44 rfl zM ZZ.out ?_; intro w1 hr hb hz; have R1_r := Lib.hid hr; have B1 := Lib.hid (joins B0.out hb); have L1_r := Lib.hid (show w.heap.size ≤ w.heap.size from B0.out.size); clear hr hb hz)
    | ((with_reducible refine at_op (Op.build 44 #[(0, .tmp 4), (1, .tmp 7), (2, .tmp 10), (3, .tmp 12)]) ?_); refine wpList_build_row rfl 44 [(0, .tmp 4), (1, .tmp 7), (2, .tmp 10), (3, .tmp 12)] rfl M BM.out ?_)
    | ((with_reducible refine at_op (Op.store 44 (.tmp 2) (.tmp 13)) ?_); refine wpList_put_row rfl 44 (.tmp 2) (.tmp 13) rfl (w.heap.size) M rfl rfl 44 zM R1_r.out 4 infoMv SM.out rfl OM_.out w.heap.size w B1.out L1_r.out ?_; intro w2 hr hs hb; have R2_r := Lib.hid hr; have B2 := Lib.hid hb; clear hr hs hb))
  refine bodyPost_ret (v := .agg M) ?_ rfl ⟨rfl, B2.out⟩
  exact results_cell_row Try.results65 _ _ (w.heap.size) 44 M (0, 0) _ rfl R2_r.out Try.underlying44 rfl IM.out

set_option maxRecDepth 100000 in
set_option maxHeartbeats 2000000 in
theorem moveList_any (a b c d : Int) (w : World) : Calls Try.prog 48 #[.agg #[.int .i64 a, .int .i64 b, .int .i64 c, .int .i64 d]] w (Makes w [a, b, c, d]) := by
  have M0 := Lib.hid (show (m4 a b c d)[0]? = some (.int .i64 a) from rfl)
  have M1 := Lib.hid (show (m4 a b c d)[1]? = some (.int .i64 b) from rfl)
  have M2 := Lib.hid (show (m4 a b c d)[2]? = some (.int .i64 c) from rfl)
  have M3 := Lib.hid (show (m4 a b c d)[3]? = some (.int .i64 d) from rfl)
  show Calls _ _ #[.agg (m4 a b c d)] _ _
  obtain ⟨M, hM⟩ : ∃ M, M = m4 a b c d := ⟨_, rfl⟩
  rw [← hM] at M0 M1 M2 M3 ⊢
  clear hM
  have B0 := Lib.hid (Below.refl w.heap.size w)
  go_enter Try.func48, Try.ntmps48
  go_wp2_with ((with_reducible refine at_op (Op.box 44 (.tmp 0)) ?_); refine wpList_box_row rfl 44 (.tmp 0) rfl M rfl ?_; intro w1 hr hb hz; have R1_m := Lib.hid hr; have B1 := Lib.hid (joins B0.out hb); have L1_m := Lib.hid (show w.heap.size ≤ w.heap.size from B0.out.size); have c0_ := rowC R1_m.out M0.out; have c1_ := rowC R1_m.out M1.out; have c2_ := rowC R1_m.out M2.out; have c3_ := rowC R1_m.out M3.out; clear hr hb hz)
  go_returns
  exact ⟨_, rfl, own_four w1 a b c d _ B1.out.size, belowa B1.out _⟩

/-- The sequence, if it has a rank. -/
def rkz (l : List Int) : List Int := if ranked l then l else []
theorem rkz_yes {l : List Int} (h : ranked l = true) : rkz l = l := by unfold rkz; rw [h]; rfl
theorem rkz_seq (l : List Int) : isSeq (rkz l) = true := by
  unfold rkz; split
  · rename_i h; exact (ranked_seq h).1
  · rfl
theorem rkz_len (l : List Int) : (rkz l).length ≤ 15 := by
  unfold rkz; split
  · rename_i h; exact (ranked_seq h).2
  · exact Nat.zero_le _
set_option maxRecDepth 100000 in
set_option maxHeartbeats 2000000 in
theorem rankedOf_any (v : Value) (l : List Int) (w : World) (hv : IS w v l) (hlen : l.length ≤ 1048576) : Calls Try.prog 49 #[v] w (Ret w (.tuple #[.agg (phC (rkz l)), .bool (ranked l)])) := by
  have HP := Lib.hid (fun w' (h : Below w.heap.size w w') => phasesOf_any v l w' (hv.below h) hlen)
  have ZZ := Lib.hid zeroPh
  have SZ := Lib.hid (phA_size z32 0 z32_length)
  have OZ := Lib.hid (phA_one z32 0)
  have IZ := Lib.hid (show (Try.prog.info? 50).map (·.size) = some (phA z32 0).size by rw [phA_size _ _ z32_length]; exact infoPh)
  have BZ := Lib.hid phZ_built
  have SC := Lib.hid (phC_size l)
  have OC := Lib.hid (phC_one l)
  have IC := Lib.hid (phC_info l)
  have CL := phC_len l
  have hzn := phC_nil9
  cases hs : isSeq l with
  | false =>
    have hr : ranked l = false := by unfold ranked; rw [hs]; rfl
    have hz : rkz l = [] := by unfold rkz; rw [hr]; rfl
    rw [hr, hz, hzn]
    rw [hs] at HP
    obtain ⟨Z, hZ⟩ : ∃ Z, Z = phA z32 0 := ⟨_, rfl⟩
    rw [← hZ] at ZZ SZ OZ IZ BZ ⊢
    obtain ⟨C, hC⟩ : ∃ C, C = phC l := ⟨_, rfl⟩
    rw [← hC] at SC OC IC HP
    clear hZ hC hzn hs hr hz hv CL
    have B0 := Lib.hid (Below.refl w.heap.size w)
    go_enter Try.func49, Try.ntmps49
    go_wp2_with ((with_reducible refine at_op (d := some 2) (Op.alloc 50) ?_); refine wpList_alloc_row rfl 50 rfl Z ZZ.out ?_; intro w1 hr hb hz; have R1_r := Lib.hid hr; have B1 := Lib.hid (joins B0.out hb); have L1_r := Lib.hid (show w.heap.size ≤ w.heap.size from B0.out.size); clear hr hb hz)
    refine (HP.out _ B1.out).mono ?_
    rintro e w2 ⟨rfl, hb⟩
    have R2_r := Lib.hid (rowB R1_r.out hb)
    have B2 := Lib.hid (joins B1.out hb)
    clear hb
    go_wp2_with (first
      | ((with_reducible refine at_op (d := some 4) (Op.alloc 50) ?_); refine wpList_alloc_row rfl 50 rfl Z ZZ.out ?_; intro w3 hr hb hz; have N3_r_p := Lib.hid (Nat.ne_of_lt (row_lt R2_r.out)); have N3_p_r := Lib.hid (Ne.symm N3_r_p.out); have R3_r := Lib.hid (rowB R2_r.out hb); have R3_p := Lib.hid hr; have B3 := Lib.hid (joins B2.out hb); have L3_p := Lib.hid (show w.heap.size ≤ w2.heap.size from B2.out.size); clear hr hb hz)
      | ((with_reducible refine at_op (Op.store 50 (.tmp 4) (.tmp 9)) ?_); refine wpList_put_row rfl 50 (.tmp 4) (.tmp 9) rfl (w2.heap.size) C rfl rfl 50 Z R3_p.out 33 infoPh SC.out SZ.out OC.out w.heap.size w B3.out L3_p.out ?_; intro w4 hr hs hb; have R4_r := Lib.hid (hs.row R3_r.out N3_r_p.out); have R4_p := Lib.hid hr; have B4 := Lib.hid hb; clear hr hs hb)
      | ((with_reducible refine at_op (Op.build 50 #[]) ?_); refine wpList_build_row rfl 50 [] rfl Z BZ.out ?_)
      | ((with_reducible refine at_op (Op.store 50 (.tmp 2) (.tmp 18)) ?_); refine wpList_put_row rfl 50 (.tmp 2) (.tmp 18) rfl (w.heap.size) Z rfl rfl 50 Z R4_r.out 33 infoPh SZ.out SZ.out OZ.out w.heap.size w B4.out L1_r.out ?_; intro w5 hr hs hb; have R5_p := Lib.hid (hs.row R4_p.out N3_p_r.out); have R5_r := Lib.hid hr; have B5 := Lib.hid hb; clear hr hs hb))
    refine bodyPost_ret (v := .tuple #[.agg Z, .bool false]) ?_ rfl ⟨rfl, B5.out⟩
    rw [results_cell_tmp (p := 2) (u := 3) (ty := 50) Try.results49]
    simp [asAddr, run_loadVar_row _ (w.heap.size) 50 50 _ (0, 0) _ R5_r.out Try.underlying50 rfl IZ.out, Result.andThen]
  | true =>
    rw [hs] at HP
    have hsq : sqz l = l := by unfold sqz; rw [hs]; rfl
    rw [hsq] at CL
    have CL' := Lib.hid CL
    have h32 := isSeq_len hs
    by_cases h15 : l.length ≤ 15
    · have hr : ranked l = true := by unfold ranked; rw [hs, decide_eq_true h15]; rfl
      rw [rkz_yes hr, hr]
      have hg : ((l.length : Int) > 15) = False := by simp; omega
      obtain ⟨n, hn⟩ : ∃ n, n = l.length := ⟨_, rfl⟩
      rw [← hn] at CL' h15 h32
      obtain ⟨Z, hZ⟩ : ∃ Z, Z = phA z32 0 := ⟨_, rfl⟩
      rw [← hZ] at ZZ SZ OZ IZ BZ
      obtain ⟨C, hC⟩ : ∃ C, C = phC l := ⟨_, rfl⟩
      rw [← hC] at SC OC IC HP CL' ⊢
      clear hZ hC hzn hs hr hv CL hsq hn hg
      have B0 := Lib.hid (Below.refl w.heap.size w)
      go_enter Try.func49, Try.ntmps49
      go_wp2_with ((with_reducible refine at_op (d := some 2) (Op.alloc 50) ?_); refine wpList_alloc_row rfl 50 rfl Z ZZ.out ?_; intro w1 hr hb hz; have R1_r := Lib.hid hr; have B1 := Lib.hid (joins B0.out hb); have L1_r := Lib.hid (show w.heap.size ≤ w.heap.size from B0.out.size); clear hr hb hz)
      refine (HP.out _ B1.out).mono ?_
      rintro e w2 ⟨rfl, hb⟩
      have R2_r := Lib.hid (rowB R1_r.out hb)
      have B2 := Lib.hid (joins B1.out hb)
      clear hb
      go_wp2_with (first
        | ((with_reducible refine at_op (d := some 4) (Op.alloc 50) ?_); refine wpList_alloc_row rfl 50 rfl Z ZZ.out ?_; intro w3 hr hb hz; have N3_r_p := Lib.hid (Nat.ne_of_lt (row_lt R2_r.out)); have N3_p_r := Lib.hid (Ne.symm N3_r_p.out); have R3_r := Lib.hid (rowB R2_r.out hb); have R3_p := Lib.hid hr; have B3 := Lib.hid (joins B2.out hb); have L3_p := Lib.hid (show w.heap.size ≤ w2.heap.size from B2.out.size); clear hr hb hz)
        | ((with_reducible refine at_op (Op.store 50 (.tmp 4) (.tmp 9)) ?_); refine wpList_put_row rfl 50 (.tmp 4) (.tmp 9) rfl (w2.heap.size) C rfl rfl 50 Z R3_p.out 33 infoPh SC.out SZ.out OC.out w.heap.size w B3.out L3_p.out ?_; intro w4 hr hs hb; have R4_r := Lib.hid (hs.row R3_r.out N3_r_p.out); have R4_p := Lib.hid hr; have B4 := Lib.hid hb; have c32 := rowC R4_p.out CL'.out; clear hr hs hb)
        | ((with_reducible refine at_op (d := some 19) (Op.load 50 (.tmp 4)) ?_); refine wpList_load_part rfl 50 (.tmp 4) rfl (w2.heap.size) 0 rfl C C 50 (0, 0) _ R4_p.out (Part.self _) Try.underlying50 rfl IC.out ?_)
        | ((with_reducible refine at_op (Op.store 50 (.tmp 2) (.tmp 19)) ?_); refine wpList_put_row rfl 50 (.tmp 2) (.tmp 19) rfl (w.heap.size) C rfl rfl 50 Z R4_r.out 33 infoPh SC.out SZ.out OC.out w.heap.size w B4.out L1_r.out ?_; intro w5 hr hs hb; have R5_p := Lib.hid (hs.row R4_p.out N3_p_r.out); have R5_r := Lib.hid hr; have B5 := Lib.hid hb; clear hr hs hb))
      refine bodyPost_ret (v := .tuple #[.agg C, .bool true]) ?_ rfl ⟨rfl, B5.out⟩
      rw [results_cell_tmp (p := 2) (u := 3) (ty := 50) Try.results49]
      simp [asAddr, run_loadVar_row _ (w.heap.size) 50 50 _ (0, 0) _ R5_r.out Try.underlying50 rfl IC.out, Result.andThen]
    · have hr : ranked l = false := by unfold ranked; rw [hs, decide_eq_false h15]; rfl
      have hz : rkz l = [] := by unfold rkz; rw [hr]; rfl
      rw [hr, hz, hzn]
      obtain ⟨n, hn⟩ : ∃ n, n = l.length := ⟨_, rfl⟩
      rw [← hn] at CL' h15 h32
      obtain ⟨Z, hZ⟩ : ∃ Z, Z = phA z32 0 := ⟨_, rfl⟩
      rw [← hZ] at ZZ SZ OZ IZ BZ ⊢
      obtain ⟨C, hC⟩ : ∃ C, C = phC l := ⟨_, rfl⟩
      rw [← hC] at SC OC IC HP CL'
      clear hZ hC hzn hs hr hz hv CL hsq hn
      have B0 := Lib.hid (Below.refl w.heap.size w)
      go_enter Try.func49, Try.ntmps49
      go_wp2_with ((with_reducible refine at_op (d := some 2) (Op.alloc 50) ?_); refine wpList_alloc_row rfl 50 rfl Z ZZ.out ?_; intro w1 hr hb hz; have R1_r := Lib.hid hr; have B1 := Lib.hid (joins B0.out hb); have L1_r := Lib.hid (show w.heap.size ≤ w.heap.size from B0.out.size); clear hr hb hz)
      refine (HP.out _ B1.out).mono ?_
      rintro e w2 ⟨rfl, hb⟩
      have R2_r := Lib.hid (rowB R1_r.out hb)
      have B2 := Lib.hid (joins B1.out hb)
      clear hb
      go_wp2_with (first
        | ((with_reducible refine at_op (d := some 4) (Op.alloc 50) ?_); refine wpList_alloc_row rfl 50 rfl Z ZZ.out ?_; intro w3 hr hb hz; have N3_r_p := Lib.hid (Nat.ne_of_lt (row_lt R2_r.out)); have N3_p_r := Lib.hid (Ne.symm N3_r_p.out); have R3_r := Lib.hid (rowB R2_r.out hb); have R3_p := Lib.hid hr; have B3 := Lib.hid (joins B2.out hb); have L3_p := Lib.hid (show w.heap.size ≤ w2.heap.size from B2.out.size); clear hr hb hz)
        | ((with_reducible refine at_op (Op.store 50 (.tmp 4) (.tmp 9)) ?_); refine wpList_put_row rfl 50 (.tmp 4) (.tmp 9) rfl (w2.heap.size) C rfl rfl 50 Z R3_p.out 33 infoPh SC.out SZ.out OC.out w.heap.size w B3.out L3_p.out ?_; intro w4 hr hs hb; have R4_r := Lib.hid (hs.row R3_r.out N3_r_p.out); have R4_p := Lib.hid hr; have B4 := Lib.hid hb; have c32 := rowC R4_p.out CL'.out; clear hr hs hb)
        | ((with_reducible refine at_op (Op.build 50 #[]) ?_); refine wpList_build_row rfl 50 [] rfl Z BZ.out ?_)
        | ((with_reducible refine at_op (Op.store 50 (.tmp 2) (.tmp 18)) ?_); refine wpList_put_row rfl 50 (.tmp 2) (.tmp 18) rfl (w.heap.size) Z rfl rfl 50 Z R4_r.out 33 infoPh SZ.out SZ.out OZ.out w.heap.size w B4.out L1_r.out ?_; intro w5 hr hs hb; have R5_p := Lib.hid (hs.row R4_p.out N3_p_r.out); have R5_r := Lib.hid hr; have B5 := Lib.hid hb; clear hr hs hb))
      refine bodyPost_ret (v := .tuple #[.agg Z, .bool false]) ?_ rfl ⟨rfl, B5.out⟩
      rw [results_cell_tmp (p := 2) (u := 3) (ty := 50) Try.results49]
      simp [asAddr, run_loadVar_row _ (w.heap.size) 50 50 _ (0, 0) _ R5_r.out Try.underlying50 rfl IZ.out, Result.andThen]

set_option maxRecDepth 100000 in
set_option maxHeartbeats 4000000 in
theorem doneWith_ApplyMove (G : List Int → List Int → List Int) (v vm : Value) (l m : List Int) (w : World) (hv : IS w v l) (hvm : IS w vm m) (hcm : clCap vm) (hlen : l.length ≤ 1048576)
    (hfg : amOk l m = true → ∀ w, Calls Try.prog 37 #[.agg (mvV m), .agg (phC l)] w (Ret w (.agg (phC (G l m))))) (hG : amOk l m = true → isSeq (G l m) = true) :
    Calls Try.prog 36 #[v, vm, .func (.func 37) #[] #[]] w (MakesB w (if amOk l m then G l m else []) (amOk l m)) := by
  have HR := Lib.hid (fun w' (h : Below w.heap.size w w') => rankedOf_any v l w' (hv.below h) hlen)
  have HM := Lib.hid (fun w' (h : Below w.heap.size w w') => moveFrom_any vm m w' (hvm.below h) hcm)
  have ZZ := Lib.hid zeroPh
  have ZM := Lib.hid zeroMv
  have SZ := Lib.hid (phA_size z32 0 z32_length)
  obtain ⟨Z, hZ⟩ : ∃ Z, Z = phA z32 0 := ⟨_, rfl⟩
  rw [← hZ] at ZZ SZ
  have SC := Lib.hid (phC_size (rkz l))
  have OC := Lib.hid (phC_one (rkz l))
  have IC := Lib.hid (phC_info (rkz l))
  have SM := Lib.hid (mvV_size m)
  have OM_ := Lib.hid (mvV_one m)
  have IM := Lib.hid (show (Try.prog.info? 44).map (·.size) = some (mvV m).size by rw [mvV_size]; exact infoMv)
  have HG : ranked l = true → clOk m = true → ∀ w, Calls Try.prog 37 #[.agg (mvV m), .agg (phC (rkz l))] w (Ret w (.agg (phC (G l m)))) := fun h1 h2 => by rw [rkz_yes h1]; exact hfg (by unfold amOk; rw [h1, h2]; rfl)
  have HGS : ranked l = true → clOk m = true → ∀ w, Calls Try.prog 60 #[.agg (phC (G l m))] w (Makes w (G l m)) := fun h1 h2 w => by
    have hs := hG (by unfold amOk; rw [h1, h2]; rfl)
    have := list_any (padL (G l m)) (G l m).length (padL_length (isSeq_len hs)) (isSeq_len hs) w
    rwa [← phC_seq hs, pad_take] at this
  have HGG := Lib.hid HG
  have HGL := Lib.hid HGS
  obtain ⟨C, hC⟩ : ∃ C, C = phC (rkz l) := ⟨_, rfl⟩
  obtain ⟨M, hM⟩ : ∃ C, C = mvV m := ⟨_, rfl⟩
  obtain ⟨E, hE⟩ : ∃ C, C = phC (G l m) := ⟨_, rfl⟩
  rw [← hC] at SC OC IC HR HGG
  rw [← hM] at SM OM_ IM HM HGG
  rw [← hE] at HGG HGL
  unfold amOk
  clear hfg hG HG HGS hC hM hE hZ hv hvm hcm
  obtain ⟨r, hr⟩ : ∃ r, r = ranked l := ⟨_, rfl⟩
  obtain ⟨o, ho⟩ : ∃ r, r = clOk m := ⟨_, rfl⟩
  obtain ⟨L, hL⟩ : ∃ L, L = G l m := ⟨_, rfl⟩
  rw [← hr] at HR HGG HGL
  rw [← ho] at HM HGG HGL
  rw [← hL] at HGL
  rw [← hr, ← ho, ← hL]
  clear hr ho hL
  cases r <;> cases o
  · have B0 := Lib.hid (Below.refl w.heap.size w)
    go_enter Try.func36, Try.ntmps36
    go_wp2_with fail
    refine (HR.out _ B0.out).mono ?_
    rintro e w1 ⟨rfl, hb⟩
    have B1 := Lib.hid (joins B0.out hb)
    clear hb
    go_wp2_with (first
      | ((with_reducible refine at_op (d := some 8) (Op.alloc 50) ?_); refine wpList_alloc_row rfl 50 rfl Z ZZ.out ?_; intro w2 hr hb hz; have R2_p := Lib.hid hr; have B2 := Lib.hid (joins B1.out hb); have L2_p := Lib.hid (show w.heap.size ≤ w1.heap.size from B1.out.size); clear hr hb hz)
      | ((with_reducible refine at_op (Op.store 50 (.tmp 8) (.tmp 15)) ?_); refine wpList_put_row rfl 50 (.tmp 8) (.tmp 15) rfl (w1.heap.size) C rfl rfl 50 Z R2_p.out 33 infoPh SC.out SZ.out OC.out w.heap.size w B2.out L2_p.out ?_; intro w3 hr hs hb; have R3_p := Lib.hid hr; have B3 := Lib.hid hb; clear hr hs hb))
    refine (HM.out _ B3.out).mono ?_
    rintro e w4 ⟨rfl, hb⟩
    have R4_p := Lib.hid (rowB R3_p.out hb)
    have B4 := Lib.hid (joins B3.out hb)
    clear hb
    go_wp2_with (first
      | ((with_reducible refine at_op (d := some 10) (Op.alloc 44) ?_); refine wpList_alloc_row rfl 44 rfl zM ZM.out ?_; intro w5 hr hb hz; have N5_p_m := Lib.hid (Nat.ne_of_lt (row_lt R4_p.out)); have N5_m_p := Lib.hid (Ne.symm N5_p_m.out); have R5_p := Lib.hid (rowB R4_p.out hb); have R5_m := Lib.hid hr; have B5 := Lib.hid (joins B4.out hb); have L5_m := Lib.hid (show w.heap.size ≤ w4.heap.size from B4.out.size); clear hr hb hz)
      | ((with_reducible refine at_op (Op.store 44 (.tmp 10) (.tmp 20)) ?_); refine wpList_put_row rfl 44 (.tmp 10) (.tmp 20) rfl (w4.heap.size) M rfl rfl 44 zM R5_m.out 4 infoMv SM.out rfl OM_.out w.heap.size w B5.out L5_m.out ?_; intro w6 hr hs hb; have R6_p := Lib.hid (hs.row R5_p.out N5_p_m.out); have R6_m := Lib.hid hr; have B6 := Lib.hid hb; clear hr hs hb))
    go_returns
    exact ⟨_, rfl, World.ownsRow_nil _ _ _ _, B6.out⟩
  · have B0 := Lib.hid (Below.refl w.heap.size w)
    go_enter Try.func36, Try.ntmps36
    go_wp2_with fail
    refine (HR.out _ B0.out).mono ?_
    rintro e w1 ⟨rfl, hb⟩
    have B1 := Lib.hid (joins B0.out hb)
    clear hb
    go_wp2_with (first
      | ((with_reducible refine at_op (d := some 8) (Op.alloc 50) ?_); refine wpList_alloc_row rfl 50 rfl Z ZZ.out ?_; intro w2 hr hb hz; have R2_p := Lib.hid hr; have B2 := Lib.hid (joins B1.out hb); have L2_p := Lib.hid (show w.heap.size ≤ w1.heap.size from B1.out.size); clear hr hb hz)
      | ((with_reducible refine at_op (Op.store 50 (.tmp 8) (.tmp 15)) ?_); refine wpList_put_row rfl 50 (.tmp 8) (.tmp 15) rfl (w1.heap.size) C rfl rfl 50 Z R2_p.out 33 infoPh SC.out SZ.out OC.out w.heap.size w B2.out L2_p.out ?_; intro w3 hr hs hb; have R3_p := Lib.hid hr; have B3 := Lib.hid hb; clear hr hs hb))
    refine (HM.out _ B3.out).mono ?_
    rintro e w4 ⟨rfl, hb⟩
    have R4_p := Lib.hid (rowB R3_p.out hb)
    have B4 := Lib.hid (joins B3.out hb)
    clear hb
    go_wp2_with (first
      | ((with_reducible refine at_op (d := some 10) (Op.alloc 44) ?_); refine wpList_alloc_row rfl 44 rfl zM ZM.out ?_; intro w5 hr hb hz; have N5_p_m := Lib.hid (Nat.ne_of_lt (row_lt R4_p.out)); have N5_m_p := Lib.hid (Ne.symm N5_p_m.out); have R5_p := Lib.hid (rowB R4_p.out hb); have R5_m := Lib.hid hr; have B5 := Lib.hid (joins B4.out hb); have L5_m := Lib.hid (show w.heap.size ≤ w4.heap.size from B4.out.size); clear hr hb hz)
      | ((with_reducible refine at_op (Op.store 44 (.tmp 10) (.tmp 20)) ?_); refine wpList_put_row rfl 44 (.tmp 10) (.tmp 20) rfl (w4.heap.size) M rfl rfl 44 zM R5_m.out 4 infoMv SM.out rfl OM_.out w.heap.size w B5.out L5_m.out ?_; intro w6 hr hs hb; have R6_p := Lib.hid (hs.row R5_p.out N5_p_m.out); have R6_m := Lib.hid hr; have B6 := Lib.hid hb; clear hr hs hb))
    go_returns
    exact ⟨_, rfl, World.ownsRow_nil _ _ _ _, B6.out⟩
  · have B0 := Lib.hid (Below.refl w.heap.size w)
    go_enter Try.func36, Try.ntmps36
    go_wp2_with fail
    refine (HR.out _ B0.out).mono ?_
    rintro e w1 ⟨rfl, hb⟩
    have B1 := Lib.hid (joins B0.out hb)
    clear hb
    go_wp2_with (first
      | ((with_reducible refine at_op (d := some 8) (Op.alloc 50) ?_); refine wpList_alloc_row rfl 50 rfl Z ZZ.out ?_; intro w2 hr hb hz; have R2_p := Lib.hid hr; have B2 := Lib.hid (joins B1.out hb); have L2_p := Lib.hid (show w.heap.size ≤ w1.heap.size from B1.out.size); clear hr hb hz)
      | ((with_reducible refine at_op (Op.store 50 (.tmp 8) (.tmp 15)) ?_); refine wpList_put_row rfl 50 (.tmp 8) (.tmp 15) rfl (w1.heap.size) C rfl rfl 50 Z R2_p.out 33 infoPh SC.out SZ.out OC.out w.heap.size w B2.out L2_p.out ?_; intro w3 hr hs hb; have R3_p := Lib.hid hr; have B3 := Lib.hid hb; clear hr hs hb))
    refine (HM.out _ B3.out).mono ?_
    rintro e w4 ⟨rfl, hb⟩
    have R4_p := Lib.hid (rowB R3_p.out hb)
    have B4 := Lib.hid (joins B3.out hb)
    clear hb
    go_wp2_with (first
      | ((with_reducible refine at_op (d := some 10) (Op.alloc 44) ?_); refine wpList_alloc_row rfl 44 rfl zM ZM.out ?_; intro w5 hr hb hz; have N5_p_m := Lib.hid (Nat.ne_of_lt (row_lt R4_p.out)); have N5_m_p := Lib.hid (Ne.symm N5_p_m.out); have R5_p := Lib.hid (rowB R4_p.out hb); have R5_m := Lib.hid hr; have B5 := Lib.hid (joins B4.out hb); have L5_m := Lib.hid (show w.heap.size ≤ w4.heap.size from B4.out.size); clear hr hb hz)
      | ((with_reducible refine at_op (Op.store 44 (.tmp 10) (.tmp 20)) ?_); refine wpList_put_row rfl 44 (.tmp 10) (.tmp 20) rfl (w4.heap.size) M rfl rfl 44 zM R5_m.out 4 infoMv SM.out rfl OM_.out w.heap.size w B5.out L5_m.out ?_; intro w6 hr hs hb; have R6_p := Lib.hid (hs.row R5_p.out N5_p_m.out); have R6_m := Lib.hid hr; have B6 := Lib.hid hb; clear hr hs hb))
    go_returns
    exact ⟨_, rfl, World.ownsRow_nil _ _ _ _, B6.out⟩
  · have B0 := Lib.hid (Below.refl w.heap.size w)
    go_enter Try.func36, Try.ntmps36
    go_wp2_with fail
    refine (HR.out _ B0.out).mono ?_
    rintro e w1 ⟨rfl, hb⟩
    have B1 := Lib.hid (joins B0.out hb)
    clear hb
    go_wp2_with (first
      | ((with_reducible refine at_op (d := some 8) (Op.alloc 50) ?_); refine wpList_alloc_row rfl 50 rfl Z ZZ.out ?_; intro w2 hr hb hz; have R2_p := Lib.hid hr; have B2 := Lib.hid (joins B1.out hb); have L2_p := Lib.hid (show w.heap.size ≤ w1.heap.size from B1.out.size); clear hr hb hz)
      | ((with_reducible refine at_op (Op.store 50 (.tmp 8) (.tmp 15)) ?_); refine wpList_put_row rfl 50 (.tmp 8) (.tmp 15) rfl (w1.heap.size) C rfl rfl 50 Z R2_p.out 33 infoPh SC.out SZ.out OC.out w.heap.size w B2.out L2_p.out ?_; intro w3 hr hs hb; have R3_p := Lib.hid hr; have B3 := Lib.hid hb; clear hr hs hb))
    refine (HM.out _ B3.out).mono ?_
    rintro e w4 ⟨rfl, hb⟩
    have R4_p := Lib.hid (rowB R3_p.out hb)
    have B4 := Lib.hid (joins B3.out hb)
    clear hb
    go_wp2_with (first
      | ((with_reducible refine at_op (d := some 10) (Op.alloc 44) ?_); refine wpList_alloc_row rfl 44 rfl zM ZM.out ?_; intro w5 hr hb hz; have N5_p_m := Lib.hid (Nat.ne_of_lt (row_lt R4_p.out)); have N5_m_p := Lib.hid (Ne.symm N5_p_m.out); have R5_p := Lib.hid (rowB R4_p.out hb); have R5_m := Lib.hid hr; have B5 := Lib.hid (joins B4.out hb); have L5_m := Lib.hid (show w.heap.size ≤ w4.heap.size from B4.out.size); clear hr hb hz)
      | ((with_reducible refine at_op (Op.store 44 (.tmp 10) (.tmp 20)) ?_); refine wpList_put_row rfl 44 (.tmp 10) (.tmp 20) rfl (w4.heap.size) M rfl rfl 44 zM R5_m.out 4 infoMv SM.out rfl OM_.out w.heap.size w B5.out L5_m.out ?_; intro w6 hr hs hb; have R6_p := Lib.hid (hs.row R5_p.out N5_p_m.out); have R6_m := Lib.hid hr; have B6 := Lib.hid hb; clear hr hs hb)
      | ((with_reducible refine at_op (d := some 29) (Op.load 44 (.tmp 10)) ?_); refine wpList_load_part rfl 44 (.tmp 10) rfl (w4.heap.size) 0 rfl M M 44 (0, 0) _ R6_m.out (Part.self _) Try.underlying44 rfl IM.out ?_)
      | ((with_reducible refine at_op (d := some 30) (Op.load 50 (.tmp 8)) ?_); refine wpList_load_part rfl 50 (.tmp 8) rfl (w1.heap.size) 0 rfl C C 50 (0, 0) _ R6_p.out (Part.self _) Try.underlying50 rfl IC.out ?_))
    refine (HGG.out (by trivial) (by trivial) _).mono ?_
    rintro e w7 ⟨rfl, hb⟩
    have R7_p := Lib.hid (rowB R6_p.out hb)
    have R7_m := Lib.hid (rowB R6_m.out hb)
    have B7 := Lib.hid (joins B6.out hb)
    clear hb
    go_wp2_with fail
    go_wp2_with fail
    refine (HGL.out (by trivial) (by trivial) _).mono ?_
    rintro e w8 ⟨v_x, rfl, ho, hb⟩
    have R8_p := Lib.hid (rowB R7_p.out hb)
    have R8_m := Lib.hid (rowB R7_m.out hb)
    have B8 := Lib.hid (joins B7.out hb)
    have O8_x := Lib.hid ho
    have LO_x := Lib.hid (show w.heap.size ≤ w7.heap.size from B7.out.size)
    clear ho
    clear hb
    go_wp2_with fail
    go_returns
    exact ⟨_, rfl, (O8_x.out.mono LO_x.out), B8.out⟩

set_option maxHeartbeats 1000000 in
theorem iApplyMove (v vm : Value) (l m : List Int) (w : World) (hv : IS w v l) (hvm : IS w vm m) (hcm : clCap vm) (hlen : l.length ≤ 1048576) : Calls Try.prog 15 #[v, vm] w (MakesB w (amF l m) (amOk l m)) := by
  have H := Lib.hid (fun w' (h : Below w.heap.size w w') => doneWith_ApplyMove (fun l m => clWith (fun a b c d => clT a b c d l) m) v vm l m w' (hv.below h) (hvm.below h) hcm hlen
    (fun h => by
      have h1 := (ranked_seq (Bool.and_eq_true_iff.1 h).1).1
      have h2 := (Bool.and_eq_true_iff.1 h).2
      obtain ⟨a, b, c, d, hm, e1, e2, e3, e4⟩ := clOk_four h2
      rw [mvV_four hm h2, hm]
      exact fun w => moveOf_any a b c d e1 e2 e3 e4 l h1 w)
    (fun h => by
      have h1 := (ranked_seq (Bool.and_eq_true_iff.1 h).1).1
      obtain ⟨a, b, c, d, hm, -⟩ := clOk_four (Bool.and_eq_true_iff.1 h).2
      rw [hm]
      exact clT_seq a b c d l h1))
  unfold amF
  obtain ⟨L, hL⟩ : ∃ L, L = (if amOk l m then clWith (fun a b c d => clT a b c d l) m else []) := ⟨_, rfl⟩
  rw [← hL]
  simp only [← hL] at H
  clear hL hv hvm hcm
  go_enter Try.func15, Try.ntmps15
  go_wp2_with fail
  refine (H.out _ (Below.refl _ _)).mono ?_
  rintro e w1 ⟨v, rfl, ho, hb⟩
  have HO := Lib.hid ho
  have HB := Lib.hid hb
  clear ho hb
  go_wp2_with fail
  go_returns
  exact ⟨_, rfl, HO.out, HB.out⟩

set_option maxRecDepth 100000 in
set_option maxHeartbeats 4000000 in
theorem doneWith_MoveBack (G : List Int → List Int → List Int) (v vm : Value) (l m : List Int) (w : World) (hv : IS w v l) (hvm : IS w vm m) (hcm : clCap vm) (hlen : l.length ≤ 1048576)
    (hfg : amOk l m = true → ∀ w, Calls Try.prog 43 #[.agg (mvV m), .agg (phC l)] w (Ret w (.agg (phC (G l m))))) (hG : amOk l m = true → isSeq (G l m) = true) :
    Calls Try.prog 36 #[v, vm, .func (.func 43) #[] #[]] w (MakesB w (if amOk l m then G l m else []) (amOk l m)) := by
  have HR := Lib.hid (fun w' (h : Below w.heap.size w w') => rankedOf_any v l w' (hv.below h) hlen)
  have HM := Lib.hid (fun w' (h : Below w.heap.size w w') => moveFrom_any vm m w' (hvm.below h) hcm)
  have ZZ := Lib.hid zeroPh
  have ZM := Lib.hid zeroMv
  have SZ := Lib.hid (phA_size z32 0 z32_length)
  obtain ⟨Z, hZ⟩ : ∃ Z, Z = phA z32 0 := ⟨_, rfl⟩
  rw [← hZ] at ZZ SZ
  have SC := Lib.hid (phC_size (rkz l))
  have OC := Lib.hid (phC_one (rkz l))
  have IC := Lib.hid (phC_info (rkz l))
  have SM := Lib.hid (mvV_size m)
  have OM_ := Lib.hid (mvV_one m)
  have IM := Lib.hid (show (Try.prog.info? 44).map (·.size) = some (mvV m).size by rw [mvV_size]; exact infoMv)
  have HG : ranked l = true → clOk m = true → ∀ w, Calls Try.prog 43 #[.agg (mvV m), .agg (phC (rkz l))] w (Ret w (.agg (phC (G l m)))) := fun h1 h2 => by rw [rkz_yes h1]; exact hfg (by unfold amOk; rw [h1, h2]; rfl)
  have HGS : ranked l = true → clOk m = true → ∀ w, Calls Try.prog 60 #[.agg (phC (G l m))] w (Makes w (G l m)) := fun h1 h2 w => by
    have hs := hG (by unfold amOk; rw [h1, h2]; rfl)
    have := list_any (padL (G l m)) (G l m).length (padL_length (isSeq_len hs)) (isSeq_len hs) w
    rwa [← phC_seq hs, pad_take] at this
  have HGG := Lib.hid HG
  have HGL := Lib.hid HGS
  obtain ⟨C, hC⟩ : ∃ C, C = phC (rkz l) := ⟨_, rfl⟩
  obtain ⟨M, hM⟩ : ∃ C, C = mvV m := ⟨_, rfl⟩
  obtain ⟨E, hE⟩ : ∃ C, C = phC (G l m) := ⟨_, rfl⟩
  rw [← hC] at SC OC IC HR HGG
  rw [← hM] at SM OM_ IM HM HGG
  rw [← hE] at HGG HGL
  unfold amOk
  clear hfg hG HG HGS hC hM hE hZ hv hvm hcm
  obtain ⟨r, hr⟩ : ∃ r, r = ranked l := ⟨_, rfl⟩
  obtain ⟨o, ho⟩ : ∃ r, r = clOk m := ⟨_, rfl⟩
  obtain ⟨L, hL⟩ : ∃ L, L = G l m := ⟨_, rfl⟩
  rw [← hr] at HR HGG HGL
  rw [← ho] at HM HGG HGL
  rw [← hL] at HGL
  rw [← hr, ← ho, ← hL]
  clear hr ho hL
  cases r <;> cases o
  · have B0 := Lib.hid (Below.refl w.heap.size w)
    go_enter Try.func36, Try.ntmps36
    go_wp2_with fail
    refine (HR.out _ B0.out).mono ?_
    rintro e w1 ⟨rfl, hb⟩
    have B1 := Lib.hid (joins B0.out hb)
    clear hb
    go_wp2_with (first
      | ((with_reducible refine at_op (d := some 8) (Op.alloc 50) ?_); refine wpList_alloc_row rfl 50 rfl Z ZZ.out ?_; intro w2 hr hb hz; have R2_p := Lib.hid hr; have B2 := Lib.hid (joins B1.out hb); have L2_p := Lib.hid (show w.heap.size ≤ w1.heap.size from B1.out.size); clear hr hb hz)
      | ((with_reducible refine at_op (Op.store 50 (.tmp 8) (.tmp 15)) ?_); refine wpList_put_row rfl 50 (.tmp 8) (.tmp 15) rfl (w1.heap.size) C rfl rfl 50 Z R2_p.out 33 infoPh SC.out SZ.out OC.out w.heap.size w B2.out L2_p.out ?_; intro w3 hr hs hb; have R3_p := Lib.hid hr; have B3 := Lib.hid hb; clear hr hs hb))
    refine (HM.out _ B3.out).mono ?_
    rintro e w4 ⟨rfl, hb⟩
    have R4_p := Lib.hid (rowB R3_p.out hb)
    have B4 := Lib.hid (joins B3.out hb)
    clear hb
    go_wp2_with (first
      | ((with_reducible refine at_op (d := some 10) (Op.alloc 44) ?_); refine wpList_alloc_row rfl 44 rfl zM ZM.out ?_; intro w5 hr hb hz; have N5_p_m := Lib.hid (Nat.ne_of_lt (row_lt R4_p.out)); have N5_m_p := Lib.hid (Ne.symm N5_p_m.out); have R5_p := Lib.hid (rowB R4_p.out hb); have R5_m := Lib.hid hr; have B5 := Lib.hid (joins B4.out hb); have L5_m := Lib.hid (show w.heap.size ≤ w4.heap.size from B4.out.size); clear hr hb hz)
      | ((with_reducible refine at_op (Op.store 44 (.tmp 10) (.tmp 20)) ?_); refine wpList_put_row rfl 44 (.tmp 10) (.tmp 20) rfl (w4.heap.size) M rfl rfl 44 zM R5_m.out 4 infoMv SM.out rfl OM_.out w.heap.size w B5.out L5_m.out ?_; intro w6 hr hs hb; have R6_p := Lib.hid (hs.row R5_p.out N5_p_m.out); have R6_m := Lib.hid hr; have B6 := Lib.hid hb; clear hr hs hb))
    go_returns
    exact ⟨_, rfl, World.ownsRow_nil _ _ _ _, B6.out⟩
  · have B0 := Lib.hid (Below.refl w.heap.size w)
    go_enter Try.func36, Try.ntmps36
    go_wp2_with fail
    refine (HR.out _ B0.out).mono ?_
    rintro e w1 ⟨rfl, hb⟩
    have B1 := Lib.hid (joins B0.out hb)
    clear hb
    go_wp2_with (first
      | ((with_reducible refine at_op (d := some 8) (Op.alloc 50) ?_); refine wpList_alloc_row rfl 50 rfl Z ZZ.out ?_; intro w2 hr hb hz; have R2_p := Lib.hid hr; have B2 := Lib.hid (joins B1.out hb); have L2_p := Lib.hid (show w.heap.size ≤ w1.heap.size from B1.out.size); clear hr hb hz)
      | ((with_reducible refine at_op (Op.store 50 (.tmp 8) (.tmp 15)) ?_); refine wpList_put_row rfl 50 (.tmp 8) (.tmp 15) rfl (w1.heap.size) C rfl rfl 50 Z R2_p.out 33 infoPh SC.out SZ.out OC.out w.heap.size w B2.out L2_p.out ?_; intro w3 hr hs hb; have R3_p := Lib.hid hr; have B3 := Lib.hid hb; clear hr hs hb))
    refine (HM.out _ B3.out).mono ?_
    rintro e w4 ⟨rfl, hb⟩
    have R4_p := Lib.hid (rowB R3_p.out hb)
    have B4 := Lib.hid (joins B3.out hb)
    clear hb
    go_wp2_with (first
      | ((with_reducible refine at_op (d := some 10) (Op.alloc 44) ?_); refine wpList_alloc_row rfl 44 rfl zM ZM.out ?_; intro w5 hr hb hz; have N5_p_m := Lib.hid (Nat.ne_of_lt (row_lt R4_p.out)); have N5_m_p := Lib.hid (Ne.symm N5_p_m.out); have R5_p := Lib.hid (rowB R4_p.out hb); have R5_m := Lib.hid hr; have B5 := Lib.hid (joins B4.out hb); have L5_m := Lib.hid (show w.heap.size ≤ w4.heap.size from B4.out.size); clear hr hb hz)
      | ((with_reducible refine at_op (Op.store 44 (.tmp 10) (.tmp 20)) ?_); refine wpList_put_row rfl 44 (.tmp 10) (.tmp 20) rfl (w4.heap.size) M rfl rfl 44 zM R5_m.out 4 infoMv SM.out rfl OM_.out w.heap.size w B5.out L5_m.out ?_; intro w6 hr hs hb; have R6_p := Lib.hid (hs.row R5_p.out N5_p_m.out); have R6_m := Lib.hid hr; have B6 := Lib.hid hb; clear hr hs hb))
    go_returns
    exact ⟨_, rfl, World.ownsRow_nil _ _ _ _, B6.out⟩
  · have B0 := Lib.hid (Below.refl w.heap.size w)
    go_enter Try.func36, Try.ntmps36
    go_wp2_with fail
    refine (HR.out _ B0.out).mono ?_
    rintro e w1 ⟨rfl, hb⟩
    have B1 := Lib.hid (joins B0.out hb)
    clear hb
    go_wp2_with (first
      | ((with_reducible refine at_op (d := some 8) (Op.alloc 50) ?_); refine wpList_alloc_row rfl 50 rfl Z ZZ.out ?_; intro w2 hr hb hz; have R2_p := Lib.hid hr; have B2 := Lib.hid (joins B1.out hb); have L2_p := Lib.hid (show w.heap.size ≤ w1.heap.size from B1.out.size); clear hr hb hz)
      | ((with_reducible refine at_op (Op.store 50 (.tmp 8) (.tmp 15)) ?_); refine wpList_put_row rfl 50 (.tmp 8) (.tmp 15) rfl (w1.heap.size) C rfl rfl 50 Z R2_p.out 33 infoPh SC.out SZ.out OC.out w.heap.size w B2.out L2_p.out ?_; intro w3 hr hs hb; have R3_p := Lib.hid hr; have B3 := Lib.hid hb; clear hr hs hb))
    refine (HM.out _ B3.out).mono ?_
    rintro e w4 ⟨rfl, hb⟩
    have R4_p := Lib.hid (rowB R3_p.out hb)
    have B4 := Lib.hid (joins B3.out hb)
    clear hb
    go_wp2_with (first
      | ((with_reducible refine at_op (d := some 10) (Op.alloc 44) ?_); refine wpList_alloc_row rfl 44 rfl zM ZM.out ?_; intro w5 hr hb hz; have N5_p_m := Lib.hid (Nat.ne_of_lt (row_lt R4_p.out)); have N5_m_p := Lib.hid (Ne.symm N5_p_m.out); have R5_p := Lib.hid (rowB R4_p.out hb); have R5_m := Lib.hid hr; have B5 := Lib.hid (joins B4.out hb); have L5_m := Lib.hid (show w.heap.size ≤ w4.heap.size from B4.out.size); clear hr hb hz)
      | ((with_reducible refine at_op (Op.store 44 (.tmp 10) (.tmp 20)) ?_); refine wpList_put_row rfl 44 (.tmp 10) (.tmp 20) rfl (w4.heap.size) M rfl rfl 44 zM R5_m.out 4 infoMv SM.out rfl OM_.out w.heap.size w B5.out L5_m.out ?_; intro w6 hr hs hb; have R6_p := Lib.hid (hs.row R5_p.out N5_p_m.out); have R6_m := Lib.hid hr; have B6 := Lib.hid hb; clear hr hs hb))
    go_returns
    exact ⟨_, rfl, World.ownsRow_nil _ _ _ _, B6.out⟩
  · have B0 := Lib.hid (Below.refl w.heap.size w)
    go_enter Try.func36, Try.ntmps36
    go_wp2_with fail
    refine (HR.out _ B0.out).mono ?_
    rintro e w1 ⟨rfl, hb⟩
    have B1 := Lib.hid (joins B0.out hb)
    clear hb
    go_wp2_with (first
      | ((with_reducible refine at_op (d := some 8) (Op.alloc 50) ?_); refine wpList_alloc_row rfl 50 rfl Z ZZ.out ?_; intro w2 hr hb hz; have R2_p := Lib.hid hr; have B2 := Lib.hid (joins B1.out hb); have L2_p := Lib.hid (show w.heap.size ≤ w1.heap.size from B1.out.size); clear hr hb hz)
      | ((with_reducible refine at_op (Op.store 50 (.tmp 8) (.tmp 15)) ?_); refine wpList_put_row rfl 50 (.tmp 8) (.tmp 15) rfl (w1.heap.size) C rfl rfl 50 Z R2_p.out 33 infoPh SC.out SZ.out OC.out w.heap.size w B2.out L2_p.out ?_; intro w3 hr hs hb; have R3_p := Lib.hid hr; have B3 := Lib.hid hb; clear hr hs hb))
    refine (HM.out _ B3.out).mono ?_
    rintro e w4 ⟨rfl, hb⟩
    have R4_p := Lib.hid (rowB R3_p.out hb)
    have B4 := Lib.hid (joins B3.out hb)
    clear hb
    go_wp2_with (first
      | ((with_reducible refine at_op (d := some 10) (Op.alloc 44) ?_); refine wpList_alloc_row rfl 44 rfl zM ZM.out ?_; intro w5 hr hb hz; have N5_p_m := Lib.hid (Nat.ne_of_lt (row_lt R4_p.out)); have N5_m_p := Lib.hid (Ne.symm N5_p_m.out); have R5_p := Lib.hid (rowB R4_p.out hb); have R5_m := Lib.hid hr; have B5 := Lib.hid (joins B4.out hb); have L5_m := Lib.hid (show w.heap.size ≤ w4.heap.size from B4.out.size); clear hr hb hz)
      | ((with_reducible refine at_op (Op.store 44 (.tmp 10) (.tmp 20)) ?_); refine wpList_put_row rfl 44 (.tmp 10) (.tmp 20) rfl (w4.heap.size) M rfl rfl 44 zM R5_m.out 4 infoMv SM.out rfl OM_.out w.heap.size w B5.out L5_m.out ?_; intro w6 hr hs hb; have R6_p := Lib.hid (hs.row R5_p.out N5_p_m.out); have R6_m := Lib.hid hr; have B6 := Lib.hid hb; clear hr hs hb)
      | ((with_reducible refine at_op (d := some 29) (Op.load 44 (.tmp 10)) ?_); refine wpList_load_part rfl 44 (.tmp 10) rfl (w4.heap.size) 0 rfl M M 44 (0, 0) _ R6_m.out (Part.self _) Try.underlying44 rfl IM.out ?_)
      | ((with_reducible refine at_op (d := some 30) (Op.load 50 (.tmp 8)) ?_); refine wpList_load_part rfl 50 (.tmp 8) rfl (w1.heap.size) 0 rfl C C 50 (0, 0) _ R6_p.out (Part.self _) Try.underlying50 rfl IC.out ?_))
    refine (HGG.out (by trivial) (by trivial) _).mono ?_
    rintro e w7 ⟨rfl, hb⟩
    have R7_p := Lib.hid (rowB R6_p.out hb)
    have R7_m := Lib.hid (rowB R6_m.out hb)
    have B7 := Lib.hid (joins B6.out hb)
    clear hb
    go_wp2_with fail
    go_wp2_with fail
    refine (HGL.out (by trivial) (by trivial) _).mono ?_
    rintro e w8 ⟨v_x, rfl, ho, hb⟩
    have R8_p := Lib.hid (rowB R7_p.out hb)
    have R8_m := Lib.hid (rowB R7_m.out hb)
    have B8 := Lib.hid (joins B7.out hb)
    have O8_x := Lib.hid ho
    have LO_x := Lib.hid (show w.heap.size ≤ w7.heap.size from B7.out.size)
    clear ho
    clear hb
    go_wp2_with fail
    go_returns
    exact ⟨_, rfl, (O8_x.out.mono LO_x.out), B8.out⟩

set_option maxHeartbeats 1000000 in
theorem iMoveBack (v vm : Value) (l m : List Int) (w : World) (hv : IS w v l) (hvm : IS w vm m) (hcm : clCap vm) (hlen : l.length ≤ 1048576) : Calls Try.prog 19 #[v, vm] w (MakesB w (ubF l m) (amOk l m)) := by
  have H := Lib.hid (fun w' (h : Below w.heap.size w w') => doneWith_MoveBack (fun l m => clWith (fun a b c d => clU a b c d l) m) v vm l m w' (hv.below h) (hvm.below h) hcm hlen
    (fun h => by
      have h1 := (ranked_seq (Bool.and_eq_true_iff.1 h).1).1
      have h2 := (Bool.and_eq_true_iff.1 h).2
      obtain ⟨a, b, c, d, hm, e1, e2, e3, e4⟩ := clOk_four h2
      rw [mvV_four hm h2, hm]
      exact fun w => moveBack_any a b c d e1 e2 e3 e4 l h1 w)
    (fun h => by
      have h1 := (ranked_seq (Bool.and_eq_true_iff.1 h).1).1
      obtain ⟨a, b, c, d, hm, -⟩ := clOk_four (Bool.and_eq_true_iff.1 h).2
      rw [hm]
      exact clU_seq a b c d l h1))
  unfold ubF
  obtain ⟨L, hL⟩ : ∃ L, L = (if amOk l m then clWith (fun a b c d => clU a b c d l) m else []) := ⟨_, rfl⟩
  rw [← hL]
  simp only [← hL] at H
  clear hL hv hvm hcm
  go_enter Try.func19, Try.ntmps19
  go_wp2_with fail
  refine (H.out _ (Below.refl _ _)).mono ?_
  rintro e w1 ⟨v, rfl, ho, hb⟩
  have HO := Lib.hid ho
  have HB := Lib.hid hb
  clear ho hb
  go_wp2_with fail
  go_returns
  exact ⟨_, rfl, HO.out, HB.out⟩
end Go.Proofs.Ytcagiecgbjnefaa
