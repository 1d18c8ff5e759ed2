/- The program's sequencesWith, CountFixed, SizesOf. -/
import Derived.Test.YtcagiecgbjnefaaIClM
import Derived.Test.YtcagiecgbjnefaaIW9
import Derived.Test.YtcagiecgbjnefaaRowM
import Derived.Test.YtcagiecgbjnefaaIEn
namespace Go.Proofs.Ytcagiecgbjnefaa
set_option maxRecDepth 100000
open Go.RowKit

theorem load_seq {ops : Array Oper} {rest : List Oper} {op : Oper} {a : Act} {w : World} {Q : Exit → Act → World → Prop} (hgd : op.guard = none) (x : Operand) (ho : op.op = .load 50 x)
    (g o : Nat) (hx : a.eval x = .pointer (some ⟨g, o, none⟩)) (C : Array Value) (hc : w.rangeAt g o C.toList) (hs : C.size = 33)
    (h : wpList Try.prog ops Q rest (a.put op.dst (.agg C)) w) : wpList Try.prog ops Q (op :: rest) a w := by
  have := wpList_load_mid (P := Try.prog) (ops := ops) (rest := rest) (op := op) (a := a) (w := w) (Q := Q) hgd 50 x ho g o hx C.toList _ hc Try.underlying50 rfl (by rw [Array.length_toList, hs]; exact infoPh)
  rw [Array.toArray_toList] at this
  exact this h
theorem infoPd9 : (Try.prog.info? 50).map (fun i => (i.zero, i.size, i.bytes)) = some (some (.agg (phA z32 0)), 33, 264) := by kernel_rfl
/-- All sequences of n phases, in the order of their ranks. -/
def allD (n : Nat) (x : Nat) : Array Value := phC (lowD (x : Int) n)
def AllMade (n : Nat) (w : World) (e : Ending) (w' : World) : Prop := ∃ g, e = .returned (.slice (some ⟨g, 0, none⟩) (pow4' n) (pow4' n)) ∧ w.heap.size ≤ g ∧ AllAt w' g 33 (pow4' n) (allD n) (pow4' n) ∧ Below w.heap.size w w'
set_option maxRecDepth 100000 in
set_option maxHeartbeats 4000000 in
theorem sequencesWith_any (n : Nat) (hn : n ≤ 5) (w : World) : Calls Try.prog 54 #[.int .i64 n] w (AllMade n w) := by
  obtain ⟨i0, hi, hz0, hz1, hz2⟩ := info_parts infoPd9
  have HP := Lib.hid (fun (r : Nat) (hr : r < pow4' n) w => show Calls Try.prog 67 #[.int .i64 n, .int .i64 r] w (Ret w (.agg (allD n r))) from by
    have := phasesWith9 n (by omega) r hr w
    have hs := low_seq r n (by omega)
    unfold allD
    rw [phC_seq hs, lowD_length]
    exact this)
  have HSD := Lib.hid (fun x => show (allD n x).size = 33 from phC_size _)
  have HOD := Lib.hid (fun x => show (allD n x).all (·.oneCell') = true from phC_one _)
  have hsh := shl_eq' n (by omega)
  obtain ⟨hp1, hp2⟩ := pow4_le' n (by omega)
  unfold AllMade
  obtain ⟨K, hK⟩ : ∃ K, K = pow4' n := ⟨_, rfl⟩
  obtain ⟨DD, hD⟩ : ∃ D, D = allD n := ⟨_, rfl⟩
  rw [← hK] at HP hsh hp1 hp2 ⊢
  rw [← hD] at HP HSD HOD ⊢
  have HI0 := Lib.hid hi
  have HZ00 := Lib.hid hz0
  have HZ10 := Lib.hid hz1
  have HZ20 := Lib.hid hz2
  have HP2 := Lib.hid hp2
  clear hi hz0 hz1 hz2 hK hD
  go_enter Try.func54, Try.ntmps54
  go_wp2_with (at_make; refine wpList_make_full _ rfl _ _ 62 rfl w.heap.size 50 i0 (.agg (phA z32 0)) 33 Try.underlying62 HI0.out HZ00.out HZ10.out _ _ _ _ K rfl rfl hsh hsh ?b2_1 ?b3_1 (Nat.le_refl _) ?_)
  case b2_1 => rw [HZ20.out]; omega
  case b3_1 => unfold maxLen; omega
  intro w1 hown0 hgrow0
  have B1 := Lib.hid ((Below.refl w.heap.size w).grown hgrow0 (Nat.le_refl _) (fun k h => by cases h))
  have FA := Lib.hid (AllAt.start (D := DD) hown0)
  clear hown0 hgrow0
  go_wp2_with fail
  go_loopw [11] (fun i wr => ∃ k : Nat, k ≤ K ∧ i = .int .i64 k ∧ AllAt wr w.heap.size 33 K DD k ∧ Below w.heap.size w wr) (fun i _ => K - (intOf i).toNat)
  case atStart => exact ⟨0, Nat.zero_le _, rfl, FA.out, B1.out⟩
  case round =>
    obtain ⟨k, hk, rfl, hall, hbel⟩ := hrel
    have FR := Lib.hid hall
    have BR := Lib.hid hbel
    clear hall hbel
    by_cases hlt : k < K
    · have h0 : (0 : Int) ≤ (k : Int) := by omega
      have h1 : (k : Int) < (K : Int) := by omega
      have HPk := Lib.hid (HP.out k hlt)
      go_wp2_with fail
      refine (HPk.out _).mono ?_
      rintro e w5 ⟨rfl, hb⟩
      have F5 := Lib.hid (FR.out.below hb)
      have B5 := Lib.hid (joins BR.out hb)
      clear hb
      go_wp2_with ((with_reducible refine at_op (Op.store 50 (.tmp 19) (.tmp 18)) ?_); refine wpList_put_at rfl 50 (.tmp 19) (.tmp 18) rfl w.heap.size 33 K k DD rfl rfl F5.out hlt HSD.out infoPh (HOD.out k) w.heap.size w B5.out (Nat.le_refl _) ?_; intro w6 ha6 hs6 hb6)
      go_roundw
      case rel => exact ⟨k + 1, by omega, by go_num, ha6, hb6⟩
      case measure => simp [intOf]; omega
    · obtain rfl : k = K := by omega
      go_wp2_with fail
      go_returns
      exact ⟨_, rfl, Nat.le_refl _, FR.out, BR.out⟩
set_option maxHeartbeats 400000 in
theorem isCounted_any (n : Int) (w : World) : Calls Try.prog 53 #[.int .i64 n] w (Pure w (.bool (inB n 0 5))) := by
  go_enter Try.func53, Try.ntmps53
  go_wp2
  all_goals
    go_ret
    exact ⟨ret_bool (by simp only [inB]; simp; omega), rfl⟩

set_option maxRecDepth 100000 in
set_option maxHeartbeats 4000000 in
theorem iCountFixed (n : Int) (vm : Value) (m : List Int) (w : World) (hvm : IS w vm m) (hcm : clCap vm) : Calls Try.prog 28 #[.int .i64 n, vm] w (Ret w (.tuple #[.int .i64 (cfV9 n m), .bool (cfOk9 n m)])) := by
  have HM := Lib.hid (fun w' (h : Below w.heap.size w w') => moveFrom_any vm m w' (hvm.below h) hcm)
  have HI := Lib.hid (isCounted_any n)
  have ZM := Lib.hid zeroMv
  have SM := Lib.hid (mvV_size m)
  have OM_ := Lib.hid (mvV_one m)
  have IM := Lib.hid (show (Try.prog.info? 44).map (·.size) = some (mvV m).size by rw [mvV_size]; exact infoMv)
  have hz : cfOk9 n m = false → cfV9 n m = 0 := fun h => by unfold cfV9; rw [h]; rfl
  cases hok : clOk m with
  | false =>
    have hno : cfOk9 n m = false := by unfold cfOk9; rw [hok, Bool.and_false]
    rw [hno, hz hno]
    rw [hok] at HM
    obtain ⟨M, hM⟩ : ∃ C, C = mvV m := ⟨_, rfl⟩
    rw [← hM] at SM OM_ IM HM
    clear hz hno hok hM hvm hcm
    have B0 := Lib.hid (Below.refl w.heap.size w)
    go_enter Try.func28, Try.ntmps28
    go_wp2_with fail
    refine (HM.out _ B0.out).mono ?_
    rintro e w1 ⟨rfl, hb⟩
    have B1 := Lib.hid (joins B0.out hb)
    clear hb
    go_wp2_with (first
      | ((with_reducible refine at_op (d := some 6) (Op.alloc 44) ?_); refine wpList_alloc_row rfl 44 rfl zM ZM.out ?_; intro w2 hr hb hz; have R2_m := Lib.hid hr; have L2_m := Lib.hid (show w1.heap.size ≤ w1.heap.size from Nat.le_refl _); have D2 := Lib.hid (hb); clear hr hb hz)
      | ((with_reducible refine at_op (Op.store 44 (.tmp 6) (.tmp 14)) ?_); refine wpList_put_row rfl 44 (.tmp 6) (.tmp 14) rfl (w1.heap.size) M rfl rfl 44 zM R2_m.out 4 infoMv SM.out rfl OM_.out w1.heap.size w1 D2.out L2_m.out ?_; intro w3 hr hs hb; have R3_m := Lib.hid hr; have B3 := Lib.hid (joins B1.out hb); have L3_m := Lib.hid (Nat.le_trans B1.out.size L2_m.out); clear hr hs hb))
    go_returns
    exact ⟨rfl, B3.out⟩
  | true =>
    rw [hok] at HM
    cases hn : inB n 0 5 with
    | false =>
      have hno : cfOk9 n m = false := by unfold cfOk9; rw [hn]; rfl
      rw [hno, hz hno]
      rw [hn] at HI
      obtain ⟨M, hM⟩ : ∃ C, C = mvV m := ⟨_, rfl⟩
      rw [← hM] at SM OM_ IM HM
      clear hz hno hok hn hM hvm hcm
      have B0 := Lib.hid (Below.refl w.heap.size w)
      go_enter Try.func28, Try.ntmps28
      go_wp2_with fail
      refine (HM.out _ B0.out).mono ?_
      rintro e w1 ⟨rfl, hb⟩
      have B1 := Lib.hid (joins B0.out hb)
      clear hb
      go_wp2_with (first
        | ((with_reducible refine at_op (d := some 6) (Op.alloc 44) ?_); refine wpList_alloc_row rfl 44 rfl zM ZM.out ?_; intro w2 hr hb hz; have R2_m := Lib.hid hr; have L2_m := Lib.hid (show w1.heap.size ≤ w1.heap.size from Nat.le_refl _); have D2 := Lib.hid (hb); clear hr hb hz)
        | ((with_reducible refine at_op (Op.store 44 (.tmp 6) (.tmp 14)) ?_); refine wpList_put_row rfl 44 (.tmp 6) (.tmp 14) rfl (w1.heap.size) M rfl rfl 44 zM R2_m.out 4 infoMv SM.out rfl OM_.out w1.heap.size w1 D2.out L2_m.out ?_; intro w3 hr hs hb; have R3_m := Lib.hid hr; have B3 := Lib.hid (joins B1.out hb); have L3_m := Lib.hid (Nat.le_trans B1.out.size L2_m.out); clear hr hs hb))
      go_wp2_with fail
      refine (HI.out _).mono ?_
      rintro e w' ⟨rfl, rfl⟩
      go_wp2_with fail
      go_returns
      exact ⟨rfl, B3.out⟩
    | true =>
      rw [hn] at HI
      have h05 : 0 ≤ n ∧ n ≤ 5 := by unfold inB at hn; simpa using hn
      obtain ⟨N, rfl⟩ := Int.eq_ofNat_of_zero_le h05.1
      have hN : N ≤ 5 := by omega
      have hyes : cfOk9 N m = true := by unfold cfOk9; rw [hn, hok]; rfl
      have hval : cfV9 N m = ((fxC m N (pow4' N) : Nat) : Int) := by unfold cfV9; rw [hyes]; rfl
      rw [hyes, hval]
      have HS := Lib.hid (sequencesWith_any N hN)
      obtain ⟨a, b, c, d, hm, ha, hb, hc, hd⟩ := clOk_four hok
      have HOF := Lib.hid (fun (k : Nat) w => show Calls Try.prog 37 #[.agg (mvV m), .agg (allD N k)] w (Ret w (.agg (phC (clWith (fun a b c d => clT a b c d (lowD (k : Int) N)) m)))) from by
        rw [mvV_four hm hok, hm]
        exact moveOf_any a b c d ha hb hc hd _ (low_seq k N (by omega)) w)
      have HEQ := Lib.hid (fun (k : Nat) w => show (binOp .eql 50 (.agg (phC (clWith (fun a b c d => clT a b c d (lowD (k : Int) N)) m))) (.agg (allD N k))).run Try.prog w = .ok (.bool (decide (clWith (fun a b c d => clT a b c d (lowD (k : Int) N)) m = lowD (k : Int) N))) w from by
        refine eql_ph ?_ (low_seq k N (by omega)) w
        rw [hm]
        exact clT_seq a b c d _ (low_seq k N (by omega)))
      have hp := (pow4_le' N (by omega)).2
      have HST := Lib.hid (fun k => show fxC m N (k + 1) = fxC m N k + if clWith (fun a b c d => clT a b c d (lowD (k : Int) N)) m = lowD (k : Int) N then 1 else 0 from rfl)
      have HLE := Lib.hid (fxC_le m N)
      have HF0 := Lib.hid (show fxC m N 0 = 0 from rfl)
      have HSD := Lib.hid (fun x => show (allD N x).size = 33 from phC_size _)
      have HOD := Lib.hid (fun x => show (allD N x).all (·.oneCell') = true from phC_one _)
      have ID := Lib.hid (fun x => show (Try.prog.info? 50).map (·.size) = some (allD N x).size from phC_info _)
      have ZZ := Lib.hid zeroPh
      have SZ := Lib.hid (phA_size z32 0 z32_length)
      obtain ⟨Z, hZ⟩ : ∃ Z, Z = phA z32 0 := ⟨_, rfl⟩
      rw [← hZ] at ZZ SZ
      unfold AllMade at HS
      obtain ⟨K, hK⟩ : ∃ K, K = pow4' N := ⟨_, rfl⟩
      obtain ⟨F, hF⟩ : ∃ F, F = fxC m N := ⟨_, rfl⟩
      obtain ⟨DD, hD⟩ : ∃ D, D = allD N := ⟨_, rfl⟩
      obtain ⟨E, hE⟩ : ∃ D : Nat → List Int, D = fun k : Nat => clWith (fun a b c d => clT a b c d (lowD (k : Int) N)) m := ⟨_, rfl⟩
      have hEk : ∀ k : Nat, clWith (fun a b c d => clT a b c d (lowD (k : Int) N)) m = E k := fun k => by rw [hE]
      simp only [hEk] at HOF HEQ HST
      obtain ⟨G, hG⟩ : ∃ G : Nat → Array Value, G = fun k => phC (E k) := ⟨_, rfl⟩
      have hGk : ∀ k, phC (E k) = G k := fun k => by rw [hG]
      simp only [hGk] at HOF HEQ
      rw [← hK] at HS hp ⊢
      rw [← hF] at HST HLE HF0 ⊢
      rw [← hD] at HS HOF HEQ HSD HOD ID
      obtain ⟨M, hM⟩ : ∃ C, C = mvV m := ⟨_, rfl⟩
      rw [← hM] at SM OM_ IM HM HOF
      clear hz hyes hval hn hok h05 hvm hcm hK hF hD hE hEk hG hGk hM hm ha hb hc hd hZ
      have B0 := Lib.hid (Below.refl w.heap.size w)
      go_enter Try.func28, Try.ntmps28
      go_wp2_with fail
      refine (HM.out _ B0.out).mono ?_
      rintro e w1 ⟨rfl, hb⟩
      have B1 := Lib.hid (joins B0.out hb)
      clear hb
      go_wp2_with (first
        | ((with_reducible refine at_op (d := some 6) (Op.alloc 44) ?_); refine wpList_alloc_row rfl 44 rfl zM ZM.out ?_; intro w2 hr hb hz; have R2_m := Lib.hid hr; have L2_m := Lib.hid (show w1.heap.size ≤ w1.heap.size from Nat.le_refl _); have D2 := Lib.hid (hb); clear hr hb hz)
        | ((with_reducible refine at_op (Op.store 44 (.tmp 6) (.tmp 14)) ?_); refine wpList_put_row rfl 44 (.tmp 6) (.tmp 14) rfl (w1.heap.size) M rfl rfl 44 zM R2_m.out 4 infoMv SM.out rfl OM_.out w1.heap.size w1 D2.out L2_m.out ?_; intro w3 hr hs hb; have R3_m := Lib.hid hr; have B3 := Lib.hid (joins B1.out hb); have L3_m := Lib.hid (Nat.le_trans B1.out.size L2_m.out); clear hr hs hb))
      go_wp2_with fail
      refine (HI.out _).mono ?_
      rintro e w' ⟨rfl, rfl⟩
      go_wp2_with fail
      refine (HS.out _).mono ?_
      rintro e w20 ⟨g, rfl, hg, hall, hb⟩
      have B20 := Lib.hid (joins B3.out hb)
      have FA := Lib.hid hall
      have RM := Lib.hid (rowB R3_m.out hb)
      have NG := Lib.hid (show w1.heap.size ≠ g from by have := row_lt R3_m.out; omega)
      clear hg hall hb
      go_wp2_with fail
      go_loopw [26, 8] (fun i c wr => ∃ k : Nat, k ≤ K ∧ i = .int .i64 k ∧ c = .int .i64 (F k : Nat) ∧ Below w20.heap.size w20 wr) (fun i _ _ => K - (intOf i).toNat)
      case atStart => exact ⟨0, Nat.zero_le _, rfl, by rw [HF0.out]; rfl, Below.refl _ _⟩
      case round =>
        obtain ⟨k, hk, rfl, rfl, hbel⟩ := hrel
        have BR := Lib.hid hbel
        have FR := Lib.hid (FA.out.below hbel)
        have RMr := Lib.hid (rowB RM.out hbel)
        clear hbel
        by_cases hlt : k < K
        · have h0 : (0 : Int) ≤ (k : Int) := by omega
          have h1 : (k : Int) < (K : Int) := by omega
          have HOk := Lib.hid (HOF.out k)
          have HEk := Lib.hid (HEQ.out k)
          have hst := HST.out k
          have hle := HLE.out k
          obtain ⟨f, hf⟩ : ∃ f, f = F k := ⟨_, rfl⟩
          rw [← hf] at hst hle ⊢
          have hf1 : (0 : Int) ≤ (f : Int) := by omega
          have hf2 : (f : Int) ≤ 65536 := by omega
          have SDk := Lib.hid (HSD.out k)
          have ODk := Lib.hid (HOD.out k)
          have IDk := Lib.hid (ID.out k)
          obtain ⟨C, hC⟩ : ∃ C, C = DD k := ⟨_, rfl⟩
          have HCD := Lib.hid hC
          rw [← hC] at HOk HEk SDk ODk IDk
          obtain ⟨Gk, hGk⟩ : ∃ C, C = G k := ⟨_, rfl⟩
          rw [← hGk] at HOk HEk
          have HLD := Lib.hid (show wr.rangeAt g (k * 33) C.toList from by rw [HCD.out]; exact FR.out.cells k hlt)
          clear hf hC hGk hle
          by_cases hx : E k = lowD (k : Int) N
          · rw [if_pos hx] at hst
            rw [decide_eq_true hx] at HEk
            have HX := Lib.hid hst
            clear hst hx
            go_wp2_with (first
              | ((with_reducible refine at_op (d := some 29) (Op.load 50 (.tmp 28)) ?_); refine load_seq rfl (.tmp 28) rfl g (k * 33) rfl C HLD.out SDk.out ?_)
              | ((with_reducible refine at_op (d := some 10) (Op.alloc 50) ?_); refine wpList_alloc_row rfl 50 rfl Z ZZ.out ?_; intro w31 hr hb hz; have R31_p := Lib.hid hr; have L31_p := Lib.hid (show wr.heap.size ≤ wr.heap.size from Nat.le_refl _); have D31 := Lib.hid (hb); clear hr hb hz)
              | ((with_reducible refine at_op (Op.store 50 (.tmp 10) (.tmp 29)) ?_); refine wpList_put_row rfl 50 (.tmp 10) (.tmp 29) rfl (wr.heap.size) C rfl rfl 50 Z R31_p.out 33 infoPh SDk.out SZ.out ODk.out wr.heap.size wr D31.out L31_p.out ?_; intro w32 hr hs hb; have R32_p := Lib.hid hr; have R32_m := Lib.hid (rowB RMr.out hb); have B32 := Lib.hid (joins BR.out hb); have L32_p := Lib.hid (Nat.le_trans BR.out.size L31_p.out); clear hr hs hb))
            go_wp2_with fail
            refine wp_region_held_drew (S := (fun w' => World.grownBy w32 w' none)) (by kernel_rfl) (grownDrew (World.grownBy.refl _ _)) ?_
            obtain ⟨w33, hdw⟩ : ∃ w', w' = w32.drew := ⟨_, rfl⟩
            rw [← hdw]
            have hb : Below w32.heap.size w32 w33 := by rw [hdw]; exact belowN (Below.refl _ _) 1
            have R33_m := Lib.hid (rowB R32_m.out hb)
            have R33_p := Lib.hid (rowB R32_p.out hb)
            have B33 := Lib.hid (joins B32.out hb)
            clear hdw hb
            intro hHeld
            refine' wpAnyH_take (i := 0) (v := _) rfl (by kernel_rfl) (by kernel_rfl) (by kernel_rfl) (fun _ _ _ h => h) (yieldsPart (by rfl) 44 (.tmp 6) rfl (w1.heap.size) 0 rfl M M 44 (0, 0) _ (fun w h => (rowG R32_m.out h (by simp))) (Part.self _) Try.underlying44 rfl IM.out) (by assumption) ?rest1
            (try simp only [Act.put, List.getElem_toArray, List.getElem_cons_zero, List.setIfInBounds_toArray, List.set_cons_zero, List.set_cons_succ])
            refine' wpAnyH_take (i := 1) (v := _) rfl (by kernel_rfl) (by kernel_rfl) (by kernel_rfl) (fun _ _ _ h => h) (yieldsPart (by rfl) 50 (.tmp 10) rfl (wr.heap.size) 0 rfl C C 50 (0, 0) _ (fun w h => (rowG R32_p.out h (by simp))) (Part.self _) Try.underlying50 rfl IDk.out) (by assumption) ?rest2
            (try simp only [Act.put, List.getElem_toArray, List.getElem_cons_zero, List.getElem_cons_succ, List.setIfInBounds_toArray, List.set_cons_zero, List.set_cons_succ])
            refine' wpAnyH_take (i := 3) (v := _) rfl (by kernel_rfl) (by kernel_rfl) (by kernel_rfl) (fun _ _ _ h => h) (yieldsPart (by rfl) 50 (.tmp 10) rfl (wr.heap.size) 0 rfl C C 50 (0, 0) _ (fun w h => (rowG R32_p.out h (by simp))) (Part.self _) Try.underlying50 rfl IDk.out) (by assumption) ?rest3
            (try simp only [Act.put, List.getElem_toArray, List.getElem_cons_zero, List.getElem_cons_succ, List.setIfInBounds_toArray, List.set_cons_zero, List.set_cons_succ])
            refine wpAnyH_ready (rs := [2]) (by kernel_rfl) (by simp) ?_
            refine AllReadyH.cons rfl (fun K hK => ?_) AllReadyH.nil
            go_simp
            refine (HOk.out _).mono ?_
            rintro e w34 ⟨rfl, hb⟩
            have R34_m := Lib.hid (rowB R33_m.out hb)
            have R34_p := Lib.hid (rowB R33_p.out hb)
            have B34 := Lib.hid (joins B33.out hb)
            have hHeld := grownB hHeld hb
            clear hb
            refine hK.out _ _ hHeld (fun hHeld => ?_)
            clear hK K
            (try simp only [Act.put, List.getElem_toArray, List.getElem_cons_zero, List.getElem_cons_succ, List.setIfInBounds_toArray, List.set_cons_zero, List.set_cons_succ])
            refine wpAnyH_ready (rs := [4]) (by kernel_rfl) (by simp) ?_
            refine AllReadyH.cons rfl (fun K hK => ?_) AllReadyH.nil
            refine step_eql rfl 50 50 (.tmp 32) (.tmp 33) rfl (by kernel_rfl) _ _ _ rfl rfl (HEk.out _) ?_
            refine hK.out _ _ hHeld (fun hHeld => ?_)
            clear hK K
            (try simp only [Act.put, List.getElem_toArray, List.getElem_cons_zero, List.getElem_cons_succ, List.setIfInBounds_toArray, List.set_cons_zero, List.set_cons_succ])
            refine wpAnyH_done (by kernel_rfl) ?_ _
            go_wp2_with fail
            go_roundw
            case rel => exact ⟨k + 1, by omega, by go_num, by rw [HX.out]; go_num, B34.out⟩
            case measure => simp [intOf]; omega
          · rw [if_neg hx, Nat.add_zero] at hst
            rw [decide_eq_false hx] at HEk
            have HX := Lib.hid hst
            clear hst hx
            go_wp2_with (first
              | ((with_reducible refine at_op (d := some 29) (Op.load 50 (.tmp 28)) ?_); refine load_seq rfl (.tmp 28) rfl g (k * 33) rfl C HLD.out SDk.out ?_)
              | ((with_reducible refine at_op (d := some 10) (Op.alloc 50) ?_); refine wpList_alloc_row rfl 50 rfl Z ZZ.out ?_; intro w61 hr hb hz; have R61_p := Lib.hid hr; have L61_p := Lib.hid (show wr.heap.size ≤ wr.heap.size from Nat.le_refl _); have D61 := Lib.hid (hb); clear hr hb hz)
              | ((with_reducible refine at_op (Op.store 50 (.tmp 10) (.tmp 29)) ?_); refine wpList_put_row rfl 50 (.tmp 10) (.tmp 29) rfl (wr.heap.size) C rfl rfl 50 Z R61_p.out 33 infoPh SDk.out SZ.out ODk.out wr.heap.size wr D61.out L61_p.out ?_; intro w62 hr hs hb; have R62_p := Lib.hid hr; have R62_m := Lib.hid (rowB RMr.out hb); have B62 := Lib.hid (joins BR.out hb); have L62_p := Lib.hid (Nat.le_trans BR.out.size L61_p.out); clear hr hs hb))
            go_wp2_with fail
            refine wp_region_held_drew (S := (fun w' => World.grownBy w62 w' none)) (by kernel_rfl) (grownDrew (World.grownBy.refl _ _)) ?_
            obtain ⟨w63, hdw⟩ : ∃ w', w' = w62.drew := ⟨_, rfl⟩
            rw [← hdw]
            have hb : Below w62.heap.size w62 w63 := by rw [hdw]; exact belowN (Below.refl _ _) 1
            have R63_m := Lib.hid (rowB R62_m.out hb)
            have R63_p := Lib.hid (rowB R62_p.out hb)
            have B63 := Lib.hid (joins B62.out hb)
            clear hdw hb
            intro hHeld
            refine' wpAnyH_take (i := 0) (v := _) rfl (by kernel_rfl) (by kernel_rfl) (by kernel_rfl) (fun _ _ _ h => h) (yieldsPart (by rfl) 44 (.tmp 6) rfl (w1.heap.size) 0 rfl M M 44 (0, 0) _ (fun w h => (rowG R62_m.out h (by simp))) (Part.self _) Try.underlying44 rfl IM.out) (by assumption) ?rest4
            (try simp only [Act.put, List.getElem_toArray, List.getElem_cons_zero, List.setIfInBounds_toArray, List.set_cons_zero, List.set_cons_succ])
            refine' wpAnyH_take (i := 1) (v := _) rfl (by kernel_rfl) (by kernel_rfl) (by kernel_rfl) (fun _ _ _ h => h) (yieldsPart (by rfl) 50 (.tmp 10) rfl (wr.heap.size) 0 rfl C C 50 (0, 0) _ (fun w h => (rowG R62_p.out h (by simp))) (Part.self _) Try.underlying50 rfl IDk.out) (by assumption) ?rest5
            (try simp only [Act.put, List.getElem_toArray, List.getElem_cons_zero, List.getElem_cons_succ, List.setIfInBounds_toArray, List.set_cons_zero, List.set_cons_succ])
            refine' wpAnyH_take (i := 3) (v := _) rfl (by kernel_rfl) (by kernel_rfl) (by kernel_rfl) (fun _ _ _ h => h) (yieldsPart (by rfl) 50 (.tmp 10) rfl (wr.heap.size) 0 rfl C C 50 (0, 0) _ (fun w h => (rowG R62_p.out h (by simp))) (Part.self _) Try.underlying50 rfl IDk.out) (by assumption) ?rest6
            (try simp only [Act.put, List.getElem_toArray, List.getElem_cons_zero, List.getElem_cons_succ, List.setIfInBounds_toArray, List.set_cons_zero, List.set_cons_succ])
            refine wpAnyH_ready (rs := [2]) (by kernel_rfl) (by simp) ?_
            refine AllReadyH.cons rfl (fun K hK => ?_) AllReadyH.nil
            go_simp
            refine (HOk.out _).mono ?_
            rintro e w64 ⟨rfl, hb⟩
            have R64_m := Lib.hid (rowB R63_m.out hb)
            have R64_p := Lib.hid (rowB R63_p.out hb)
            have B64 := Lib.hid (joins B63.out hb)
            have hHeld := grownB hHeld hb
            clear hb
            refine hK.out _ _ hHeld (fun hHeld => ?_)
            clear hK K
            (try simp only [Act.put, List.getElem_toArray, List.getElem_cons_zero, List.getElem_cons_succ, List.setIfInBounds_toArray, List.set_cons_zero, List.set_cons_succ])
            refine wpAnyH_ready (rs := [4]) (by kernel_rfl) (by simp) ?_
            refine AllReadyH.cons rfl (fun K hK => ?_) AllReadyH.nil
            refine step_eql rfl 50 50 (.tmp 32) (.tmp 33) rfl (by kernel_rfl) _ _ _ rfl rfl (HEk.out _) ?_
            refine hK.out _ _ hHeld (fun hHeld => ?_)
            clear hK K
            (try simp only [Act.put, List.getElem_toArray, List.getElem_cons_zero, List.getElem_cons_succ, List.setIfInBounds_toArray, List.set_cons_zero, List.set_cons_succ])
            refine wpAnyH_done (by kernel_rfl) ?_ _
            go_wp2_with fail
            go_roundw
            case rel => exact ⟨k + 1, by omega, by go_num, by rw [HX.out]; first | done | rfl, B64.out⟩
            case measure => simp [intOf]; omega
        · obtain rfl : k = K := by omega
          have HBB := Lib.hid (joins B20.out BR.out)
          go_wp2_with fail
          go_returns
          exact ⟨rfl, HBB.out⟩

set_option maxRecDepth 100000 in
set_option maxHeartbeats 4000000 in
theorem iSizesOf (v : Value) (l : List Int) (w : World) (hv : IS w v l) (hl : l.length ≤ 1048576) : Calls Try.prog 30 #[v] w (MakesB w (szF9 l) (ranked l)) := by
  obtain ⟨i0, hi, hz0, hz1, hz2⟩ := info_parts infoInt
  have HI0 := Lib.hid hi
  have HZ00 := Lib.hid hz0
  have HZ10 := Lib.hid hz1
  have HZ20 := Lib.hid hz2
  have HR := Lib.hid (fun w' (h : Below w.heap.size w w') => rankedOf_any v l w' (hv.below h) hl)
  have ZZ := Lib.hid zeroPh
  have SZ := Lib.hid (phA_size z32 0 z32_length)
  obtain ⟨Z, hZ⟩ : ∃ Z, Z = phA z32 0 := ⟨_, rfl⟩
  rw [← hZ] at ZZ SZ
  have S0 := Lib.hid (phC_size (rkz l))
  have O0 := Lib.hid (phC_one (rkz l))
  have I0 := Lib.hid (phC_info (rkz l))
  unfold szF9
  clear hi hz0 hz1 hz2 hZ hv hl
  cases hr : ranked l with
  | false =>
    rw [hr] at HR
    show Calls _ _ _ _ (MakesB w [] false)
    obtain ⟨C0, h0⟩ : ∃ C, C = phC (rkz l) := ⟨_, rfl⟩
    rw [← h0] at S0 O0 I0 HR
    clear h0 hr
    have B0 := Lib.hid (Below.refl w.heap.size w)
    go_enter Try.func30, Try.ntmps30
    go_wp2_with fail
    refine (HR.out _ B0.out).mono ?_
    rintro e w1 ⟨rfl, hb⟩
    have B1 := Lib.hid (joins B0.out hb)
    clear hb
    go_wp2_with (first
      | ((with_reducible refine at_op (d := some 4) (Op.alloc 50) ?_); refine wpList_alloc_row rfl 50 rfl Z ZZ.out ?_; intro w2 hr hb hz; have R2_p := Lib.hid hr; have L2_p := Lib.hid (show w1.heap.size ≤ w1.heap.size from Nat.le_refl _); have D2 := Lib.hid (hb); clear hr hb hz)
      | ((with_reducible refine at_op (Op.store 50 (.tmp 4) (.tmp 11)) ?_); refine wpList_put_row rfl 50 (.tmp 4) (.tmp 11) rfl (w1.heap.size) C0 rfl rfl 50 Z R2_p.out 33 infoPh S0.out SZ.out O0.out w1.heap.size w1 D2.out L2_p.out ?_; intro w3 hr hs hb; have R3_p := Lib.hid hr; have B3 := Lib.hid (joins B1.out hb); have L3_p := Lib.hid (Nat.le_trans B1.out.size L2_p.out); clear hr hs hb))
    go_returns
    exact ⟨_, rfl, World.ownsRow_nil _ _ _ _, B3.out⟩
  | true =>
    rw [hr] at HR
    show Calls _ _ _ _ (MakesB w (gen l.length (fun u => nS l (u : Int))) true)
    obtain ⟨hsq, h15⟩ := ranked_seq hr
    have hrk := rkz_yes hr
    have HN := Lib.hid (fun (u : Nat) (hu : u < l.length) w => show Calls Try.prog 57 #[.agg (phC (rkz l)), .int .i64 u] w (Ret w (.int .i64 (nS l (u : Int)))) from by
      rw [hrk, phC_seq hsq]
      exact sideNorm_any l u hsq (by omega) (by omega) w)
    have CL := phC_len (rkz l)
    rw [show sqz (rkz l) = l from by rw [hrk]; unfold sqz; rw [hsq]; rfl] at CL
    have HCL := Lib.hid CL
    obtain ⟨C0, h0⟩ : ∃ C, C = phC (rkz l) := ⟨_, rfl⟩
    rw [← h0] at S0 O0 I0 HR HN HCL
    obtain ⟨n, hn⟩ : ∃ n, n = l.length := ⟨_, rfl⟩
    rw [← hn] at HN HCL h15 ⊢
    obtain ⟨G, hG⟩ : ∃ G : Nat → Int, G = fun u : Nat => nS l (u : Int) := ⟨_, rfl⟩
    have hGu : ∀ u : Nat, nS l (u : Int) = G u := fun u => by rw [hG]
    simp only [hGu] at HN
    rw [← hG]
    clear h0 hr hsq hrk CL hn hG hGu
    have B0 := Lib.hid (Below.refl w.heap.size w)
    go_enter Try.func30, Try.ntmps30
    go_wp2_with fail
    refine (HR.out _ B0.out).mono ?_
    rintro e w1 ⟨rfl, hb⟩
    have B1 := Lib.hid (joins B0.out hb)
    clear hb
    go_wp2_with (first
      | ((with_reducible refine at_op (d := some 4) (Op.alloc 50) ?_); refine wpList_alloc_row rfl 50 rfl Z ZZ.out ?_; intro w2 hr hb hz; have R2_p := Lib.hid hr; have L2_p := Lib.hid (show w1.heap.size ≤ w1.heap.size from Nat.le_refl _); have D2 := Lib.hid (hb); clear hr hb hz)
      | ((with_reducible refine at_op (Op.store 50 (.tmp 4) (.tmp 11)) ?_); refine wpList_put_row rfl 50 (.tmp 4) (.tmp 11) rfl (w1.heap.size) C0 rfl rfl 50 Z R2_p.out 33 infoPh S0.out SZ.out O0.out w1.heap.size w1 D2.out L2_p.out ?_; intro w3 hr hs hb; have R3_p := Lib.hid hr; have B3 := Lib.hid (joins B1.out hb); have L3_p := Lib.hid (Nat.le_trans B1.out.size L2_p.out); have c32 := rowC R3_p.out HCL.out; clear hr hs hb)
      | (at_make; refine wpList_make_full _ rfl _ _ 22 rfl w3.heap.size 3 i0 (.int .i64 0) 1 Try.underlying22 HI0.out HZ00.out HZ10.out _ _ _ _ n rfl rfl rfl rfl ?b2_7 ?b3_7 (Nat.le_refl _) ?_))
    case b2_7 => rw [HZ20.out]; omega
    case b3_7 => unfold maxLen; omega
    intro w4 hown0 hgrow0
    rw [made_zeros] at hown0
    have hb : Below w3.heap.size w3 w4 := (Below.refl _ _).grown hgrow0 (Nat.le_refl _) (fun k h => by cases h)
    have R4_p := Lib.hid (rowB R3_p.out hb)
    have B4 := Lib.hid (joins B3.out hb)
    have O4_x := Lib.hid hown0
    have N4_p_x := Lib.hid (show w1.heap.size ≠ w3.heap.size from Nat.ne_of_lt (row_lt R3_p.out))
    have L4_x := Lib.hid (show w.heap.size ≤ w3.heap.size from B3.out.size)
    clear hown0 hgrow0 hb
    go_wp2_with fail
    have RP := Lib.hid R4_p.out
    have BB := Lib.hid B4.out
    have LG := Lib.hid (show w.heap.size ≤ w3.heap.size from L4_x.out)
    have NPG := Lib.hid (N4_p_x.out)
    go_loopw [20] (fun i wr => ∃ k : Nat, k ≤ n ∧ i = .int .i64 k ∧ wr.ownsRow w3.heap.size 3 1 (.slice (some ⟨w3.heap.size, 0, none⟩) n n) n ((gen k G ++ List.replicate (n - k) 0).map (Value.int .i64)) ∧ wr.heap[w1.heap.size]? = some (.cells C0 50 (0, 0)) ∧ Below w.heap.size w wr) (fun i _ => n - (intOf i).toNat)
    case atStart => exact ⟨0, Nat.zero_le _, rfl, by simpa [gen] using O4_x.out, RP.out, BB.out⟩
    case round =>
      obtain ⟨k, hk, rfl, hown, hrow, hbel⟩ := hrel
      have RO := Lib.hid hown
      have BR := Lib.hid hbel
      have RR := Lib.hid hrow
      clear hbel hrow
      by_cases hlt : k < n
      · have h0 : (0 : Int) ≤ (k : Int) := by omega
        have h1 : (k : Int) < (n : Int) := by omega
        have HNk := Lib.hid (HN.out k hlt)
        have hset : ((gen k G ++ List.replicate (n - k) 0).map (Value.int .i64)).set k (.int .i64 (G k)) = (gen (k + 1) G ++ List.replicate (n - (k + 1)) 0).map (Value.int .i64) := by
          rw [← List.map_set, show n - k = (n - (k + 1)) + 1 by omega, List.replicate_succ, gen_succ, List.set_append_right _ _ (by rw [gen_length]; exact Nat.le_refl _), gen_length, Nat.sub_self]
          simp
        have HSET := Lib.hid hset
        have hat : ((gen k G ++ List.replicate (n - k) 0).map (Value.int .i64))[k]? = some (.int .i64 0) := by
          rw [List.getElem?_map, List.getElem?_append_right (by rw [gen_length]; exact Nat.le_refl _), gen_length, Nat.sub_self, List.getElem?_replicate, if_pos (by omega)]
          rfl
        obtain ⟨y, hy⟩ : ∃ y, y = G k := ⟨_, rfl⟩
        rw [← hy] at HNk HSET
        have HAT := Lib.hid hat
        clear hset hat hy hown
        go_wp2_with ((with_reducible refine at_op (d := some 25) (Op.load 50 (.tmp 4)) ?_); refine wpList_load_part rfl 50 (.tmp 4) rfl (w1.heap.size) 0 rfl C0 C0 50 (0, 0) _ RR.out (Part.self _) Try.underlying50 rfl I0.out ?_)
        refine (HNk.out _).mono ?_
        rintro e w40 ⟨rfl, hb⟩
        have B40 := Lib.hid (joins BR.out hb)
        have R40 := Lib.hid (rowB RR.out hb)
        have O40 := Lib.hid (rowBelow RO.out hb)
        have c1 : w40.cell? ⟨w3.heap.size, k, none⟩ = some (.int .i64 0) := by rw [O40.out.cellAt k (by omega)]; exact HAT.out
        have c2 := O40.out.frozenAt k
        clear hb
        go_wp2_with fail
        go_roundw
        case rel =>
          have hs := O40.out.stored k (.int .i64 y)
          rw [HSET.out] at hs
          exact ⟨k + 1, by omega, by go_num, hs.1, by rw [heap_setCell_other _ _ _ _ NPG.out]; exact R40.out, B40.out.setCell LG.out _⟩
        case measure => simp [intOf]; omega
      · obtain rfl : k = n := by omega
        have HFI := Lib.hid (show Own wr w.heap.size (.slice (some ⟨w3.heap.size, 0, none⟩) k k) (gen k G) from by
          have := RO.out
          rw [Nat.sub_self, List.replicate_zero, List.append_nil] at this
          unfold Own
          rw [gen_length]
          exact rowMono this LG.out)
        clear hown
        go_wp2_with fail
        go_returns
        exact ⟨_, rfl, HFI.out, BR.out⟩
end Go.Proofs.Ytcagiecgbjnefaa
