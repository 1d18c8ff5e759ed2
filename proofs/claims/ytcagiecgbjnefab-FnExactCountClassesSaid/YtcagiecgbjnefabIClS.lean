/- The program's phasesWith up to eight phases. The program's sequencesWith, CountFixed, SizesOf. -/
import Derived.Test.YtcagiecgbjnefabPhs
import Derived.Test.YtcagiecgbjnefabPcM
import Derived.Test.YtcagiecgbjnefabIClM
import Derived.Test.YtcagiecgbjnefabRowM
import Derived.Test.YtcagiecgbjnefabIEn
namespace Go.Proofs.Ytcagiecgbjnefab
set_option maxRecDepth 100000
section
open Go.RowKit

set_option maxRecDepth 100000 in
set_option maxHeartbeats 1000000 in
theorem phasesWith9 (n : Nat) (hn : n ≤ 8) (r : Nat) (hr : r < pow4' n) (w : World) : Calls Try.prog 93 #[.int .i64 n, .int .i64 r] w (Ret w (.agg (phA (padL (lowD r n)) n))) := by
  have hp := (pow4_le' n hn).2
  have hok : withOk n r = true := by
    unfold withOk pow4' at *
    rw [Int.toNat_natCast, decide_eq_true (by omega), Bool.true_and, decide_eq_true_eq]
    exact ⟨by omega, by exact_mod_cast hr⟩
  have HW := iwith_any n r (by omega)
  have hwf : withF n r = lowD r n := by unfold withF; rw [hok, Int.toNat_natCast]; rfl
  rw [hok, hwf] at HW
  have hsq := low_seq r n (by omega)
  have HP : ∀ v w, IS w v (lowD r n) → Calls Try.prog 64 #[v] w (Ret w (.tuple #[.agg (phA (padL (lowD r n)) n), .bool true])) := fun v w h => by
    have := phasesOf_seq v _ w h hsq
    rwa [lowD_length] at this
  have hsz : (phA (padL (lowD r n)) (n : Int)).size = 33 := phA_size _ _ (padL_length (by rw [lowD_length]; omega))
  have hone := phA_one (padL (lowD r n)) (n : Int)
  have hi : (Try.prog.info? 47).map (·.size) = some (phA (padL (lowD r n)) (n : Int)).size := by rw [hsz]; exact infoPh
  obtain ⟨C, hC⟩ : ∃ C, C = phA (padL (lowD r n)) (n : Int) := ⟨_, rfl⟩
  obtain ⟨D, hD⟩ : ∃ D, D = lowD r n := ⟨_, rfl⟩
  rw [← hC] at HP hsz hone hi ⊢
  rw [← hD] at HP HW
  have HW' := Lib.hid HW
  have HP' := Lib.hid HP
  have HSZ := Lib.hid hsz
  have HONE := Lib.hid hone
  have HI := Lib.hid hi
  have h04 : (w.alloc (.cells (phA z32 0) 47)).heap[w.heap.size]? = some (.cells (phA z32 0) 47 (0, 0)) := heap_alloc_new w _
  have H04 := Lib.hid h04
  clear HW HP hsz hone hi hC hD hsq hwf hok hp h04
  go_enter Try.func93, Try.ntmps93
  go_wp2_with (refine wpList_alloc_big rfl 47 rfl (phA z32 0) zeroPh ?_)
  refine (HW'.out _).mono ?_
  rintro e w1 ⟨v1, rfl, ho1, hb1⟩
  have HO1 := Lib.hid ho1
  have hs1 : w.heap.size + 1 ≤ w1.heap.size := by have := hb1.size; simpa using this
  have H14 := Lib.hid ((hb1.block w.heap.size (by simp)).trans H04.out)
  have HB1 := Lib.hid (joins (belowa (Below.refl _ _) _) hb1)
  clear ho1 hb1
  go_wp2_with fail
  refine (HP'.out _ _ HO1.out.is).mono ?_
  rintro e w2 ⟨rfl, hb2⟩
  have H24 := Lib.hid ((hb2.block w.heap.size (by omega)).trans H14.out)
  have HB2 := Lib.hid (joins HB1.out hb2)
  have hs2 : w.heap.size + 1 ≤ w2.heap.size := by have := hb2.size; omega
  clear hb2
  go_wp2_with (first
    | (refine wpList_alloc_big rfl 47 rfl (phA z32 0) zeroPh ?_)
    | (refine wpList_store_big rfl 47 (.tmp 7) (.tmp 18) rfl w2.heap.size C rfl rfl 47 _ (heap_alloc_new w2 _) 33 infoPh HSZ.out (phA_size _ _ z32_length) HONE.out w.heap.size w (belowa HB2.out _) (by omega) ?_; intro w3 hg3 ho3 hz3 hb3; have HG3 := Lib.hid hg3; have H34 := Lib.hid ((ho3 w.heap.size (by omega)).trans ((heap_alloc_old _ _ (by omega)).trans H24.out)); have HB3 := Lib.hid hb3; clear hg3 ho3 hz3 hb3)
    | (refine wpList_load_row rfl 47 (.tmp 7) rfl w2.heap.size rfl 47 C (0, 0) _ HG3.out Try.underlying47 rfl HI.out ?_)
    | (refine wpList_store_big rfl 47 (.tmp 4) (.tmp 20) rfl w.heap.size C rfl rfl 47 (phA z32 0) H34.out 33 infoPh HSZ.out (phA_size _ _ z32_length) HONE.out w.heap.size w HB3.out (by omega) ?_; intro w4 hg4 ho4 hz4 hb4; have HG4 := Lib.hid hg4; have HB4 := Lib.hid hb4; clear hg4 ho4 hz4 hb4))
  refine bodyPost_ret (v := .agg C) ?_ rfl ⟨rfl, HB4.out⟩
  exact results_cell_row Try.results93 _ _ w.heap.size 47 C (0, 0) _ rfl HG4.out Try.underlying47 rfl HI.out


end
section
open Go.RowKit

theorem load_seq {ops : Array Oper} {rest : List Oper} {op : Oper} {a : Act} {w : World} {Q : Exit → Act → World → Prop} (hgd : op.guard = none) (x : Operand) (ho : op.op = .load 47 x)
    (g o : Nat) (hx : a.eval x = .pointer (some ⟨g, o, none⟩)) (C : Array Value) (hc : w.rangeAt g o C.toList) (hs : C.size = 33)
    (h : wpList Try.prog ops Q rest (a.put op.dst (.agg C)) w) : wpList Try.prog ops Q (op :: rest) a w := by
  have := wpList_load_mid (P := Try.prog) (ops := ops) (rest := rest) (op := op) (a := a) (w := w) (Q := Q) hgd 47 x ho g o hx C.toList _ hc Try.underlying47 rfl (by rw [Array.length_toList, hs]; exact infoPh)
  rw [Array.toArray_toList] at this
  exact this h
theorem infoPd9 : (Try.prog.info? 47).map (fun i => (i.zero, i.size, i.bytes)) = some (some (.agg (phA z32 0)), 33, 264) := by kernel_rfl
/-- All sequences of n phases, in the order of their ranks. -/
def allD (n : Nat) (x : Nat) : Array Value := phC (lowD (x : Int) n)
def AllMade (n : Nat) (w : World) (e : Ending) (w' : World) : Prop := ∃ g, e = .returned (.slice (some ⟨g, 0, none⟩) (pow4' n) (pow4' n)) ∧ w.heap.size ≤ g ∧ AllAt w' g 33 (pow4' n) (allD n) (pow4' n) ∧ Below w.heap.size w w'
set_option maxRecDepth 100000 in
set_option maxHeartbeats 4000000 in
theorem sequencesWith_any (n : Nat) (hn : n ≤ 5) (w : World) : Calls Try.prog 70 #[.int .i64 n] w (AllMade n w) := by
  obtain ⟨i0, hi, hz0, hz1, hz2⟩ := info_parts infoPd9
  have HP := Lib.hid (fun (r : Nat) (hr : r < pow4' n) w => show Calls Try.prog 93 #[.int .i64 n, .int .i64 r] w (Ret w (.agg (allD n r))) from by
    have := phasesWith9 n (by omega) r hr w
    have hs := low_seq r n (by omega)
    unfold allD
    rw [phC_seq hs, lowD_length]
    exact this)
  have HSD := Lib.hid (fun x => show (allD n x).size = 33 from phC_size _)
  have HOD := Lib.hid (fun x => show (allD n x).all (·.oneCell') = true from phC_one _)
  have hsh := shl_eq' n (by omega)
  obtain ⟨hp1, hp2⟩ := pow4_le' n (by omega)
  unfold AllMade
  obtain ⟨K, hK⟩ : ∃ K, K = pow4' n := ⟨_, rfl⟩
  obtain ⟨DD, hD⟩ : ∃ D, D = allD n := ⟨_, rfl⟩
  rw [← hK] at HP hsh hp1 hp2 ⊢
  rw [← hD] at HP HSD HOD ⊢
  have HI0 := Lib.hid hi
  have HZ00 := Lib.hid hz0
  have HZ10 := Lib.hid hz1
  have HZ20 := Lib.hid hz2
  have HP2 := Lib.hid hp2
  clear hi hz0 hz1 hz2 hK hD
  go_enter Try.func70, Try.ntmps70
  go_wp2_with (at_make; refine wpList_make_full _ rfl _ _ 51 rfl w.heap.size 47 i0 (.agg (phA z32 0)) 33 Try.underlying51 HI0.out HZ00.out HZ10.out _ _ _ _ K rfl rfl hsh hsh ?b2_1 ?b3_1 (Nat.le_refl _) ?_)
  case b2_1 => rw [HZ20.out]; omega
  case b3_1 => unfold maxLen; omega
  intro w1 hown0 hgrow0
  have B1 := Lib.hid ((Below.refl w.heap.size w).grown hgrow0 (Nat.le_refl _) (fun k h => by cases h))
  have FA := Lib.hid (AllAt.start (D := DD) hown0)
  clear hown0 hgrow0
  go_wp2_with fail
  go_loopw [11] (fun i wr => ∃ k : Nat, k ≤ K ∧ i = .int .i64 k ∧ AllAt wr w.heap.size 33 K DD k ∧ Below w.heap.size w wr) (fun i _ => K - (intOf i).toNat)
  case atStart => exact ⟨0, Nat.zero_le _, rfl, FA.out, B1.out⟩
  case round =>
    obtain ⟨k, hk, rfl, hall, hbel⟩ := hrel
    have FR := Lib.hid hall
    have BR := Lib.hid hbel
    clear hall hbel
    by_cases hlt : k < K
    · have h0 : (0 : Int) ≤ (k : Int) := by omega
      have h1 : (k : Int) < (K : Int) := by omega
      have HPk := Lib.hid (HP.out k hlt)
      go_wp2_with fail
      refine (HPk.out _).mono ?_
      rintro e w5 ⟨rfl, hb⟩
      have F5 := Lib.hid (FR.out.below hb)
      have B5 := Lib.hid (joins BR.out hb)
      clear hb
      go_wp2_with ((with_reducible refine at_op (Op.store 47 (.tmp 19) (.tmp 18)) ?_); refine wpList_put_at rfl 47 (.tmp 19) (.tmp 18) rfl w.heap.size 33 K k DD rfl rfl F5.out hlt HSD.out infoPh (HOD.out k) w.heap.size w B5.out (Nat.le_refl _) ?_; intro w6 ha6 hs6 hb6)
      go_roundw
      case rel => exact ⟨k + 1, by omega, by go_num, ha6, hb6⟩
      case measure => simp [intOf]; omega
    · obtain rfl : k = K := by omega
      go_wp2_with fail
      go_returns
      exact ⟨_, rfl, Nat.le_refl _, FR.out, BR.out⟩
set_option maxHeartbeats 400000 in
theorem isCounted_any (n : Int) (w : World) : Calls Try.prog 46 #[.int .i64 n] w (Pure w (.bool (inB n 0 5))) := by
  go_enter Try.func46, Try.ntmps46
  go_wp2
  all_goals
    go_ret
    exact ⟨ret_bool (by simp only [inB]; simp; omega), rfl⟩

end
end Go.Proofs.Ytcagiecgbjnefab
