/- The program's phasesWith up to eight phases. -/
import Derived.Test.YtcagiecgbjnefaaPhs
import Derived.Test.YtcagiecgbjnefaaPcM
namespace Go.Proofs.Ytcagiecgbjnefaa
set_option maxRecDepth 100000
open Go.RowKit

set_option maxRecDepth 100000 in
set_option maxHeartbeats 1000000 in
theorem phasesWith9 (n : Nat) (hn : n ≤ 8) (r : Nat) (hr : r < pow4' n) (w : World) : Calls Try.prog 67 #[.int .i64 n, .int .i64 r] w (Ret w (.agg (phA (padL (lowD r n)) n))) := by
  have hp := (pow4_le' n hn).2
  have hok : withOk n r = true := by
    unfold withOk pow4' at *
    rw [Int.toNat_natCast, decide_eq_true (by omega), Bool.true_and, decide_eq_true_eq]
    exact ⟨by omega, by exact_mod_cast hr⟩
  have HW := iwith_any n r (by omega)
  have hwf : withF n r = lowD r n := by unfold withF; rw [hok, Int.toNat_natCast]; rfl
  rw [hok, hwf] at HW
  have hsq := low_seq r n (by omega)
  have HP : ∀ v w, IS w v (lowD r n) → Calls Try.prog 66 #[v] w (Ret w (.tuple #[.agg (phA (padL (lowD r n)) n), .bool true])) := fun v w h => by
    have := phasesOf_seq v _ w h hsq
    rwa [lowD_length] at this
  have hsz : (phA (padL (lowD r n)) (n : Int)).size = 33 := phA_size _ _ (padL_length (by rw [lowD_length]; omega))
  have hone := phA_one (padL (lowD r n)) (n : Int)
  have hi : (Try.prog.info? 50).map (·.size) = some (phA (padL (lowD r n)) (n : Int)).size := by rw [hsz]; exact infoPh
  obtain ⟨C, hC⟩ : ∃ C, C = phA (padL (lowD r n)) (n : Int) := ⟨_, rfl⟩
  obtain ⟨D, hD⟩ : ∃ D, D = lowD r n := ⟨_, rfl⟩
  rw [← hC] at HP hsz hone hi ⊢
  rw [← hD] at HP HW
  have HW' := Lib.hid HW
  have HP' := Lib.hid HP
  have HSZ := Lib.hid hsz
  have HONE := Lib.hid hone
  have HI := Lib.hid hi
  have h04 : (w.alloc (.cells (phA z32 0) 50)).heap[w.heap.size]? = some (.cells (phA z32 0) 50 (0, 0)) := heap_alloc_new w _
  have H04 := Lib.hid h04
  clear HW HP hsz hone hi hC hD hsq hwf hok hp h04
  go_enter Try.func67, Try.ntmps67
  go_wp2_with (refine wpList_alloc_big rfl 50 rfl (phA z32 0) zeroPh ?_)
  refine (HW'.out _).mono ?_
  rintro e w1 ⟨v1, rfl, ho1, hb1⟩
  have HO1 := Lib.hid ho1
  have hs1 : w.heap.size + 1 ≤ w1.heap.size := by have := hb1.size; simpa using this
  have H14 := Lib.hid ((hb1.block w.heap.size (by simp)).trans H04.out)
  have HB1 := Lib.hid (joins (belowa (Below.refl _ _) _) hb1)
  clear ho1 hb1
  go_wp2_with fail
  refine (HP'.out _ _ HO1.out.is).mono ?_
  rintro e w2 ⟨rfl, hb2⟩
  have H24 := Lib.hid ((hb2.block w.heap.size (by omega)).trans H14.out)
  have HB2 := Lib.hid (joins HB1.out hb2)
  have hs2 : w.heap.size + 1 ≤ w2.heap.size := by have := hb2.size; omega
  clear hb2
  go_wp2_with (first
    | (refine wpList_alloc_big rfl 50 rfl (phA z32 0) zeroPh ?_)
    | (refine wpList_store_big rfl 50 (.tmp 7) (.tmp 18) rfl w2.heap.size C rfl rfl 50 _ (heap_alloc_new w2 _) 33 infoPh HSZ.out (phA_size _ _ z32_length) HONE.out w.heap.size w (belowa HB2.out _) (by omega) ?_; intro w3 hg3 ho3 hz3 hb3; have HG3 := Lib.hid hg3; have H34 := Lib.hid ((ho3 w.heap.size (by omega)).trans ((heap_alloc_old _ _ (by omega)).trans H24.out)); have HB3 := Lib.hid hb3; clear hg3 ho3 hz3 hb3)
    | (refine wpList_load_row rfl 50 (.tmp 7) rfl w2.heap.size rfl 50 C (0, 0) _ HG3.out Try.underlying50 rfl HI.out ?_)
    | (refine wpList_store_big rfl 50 (.tmp 4) (.tmp 20) rfl w.heap.size C rfl rfl 50 (phA z32 0) H34.out 33 infoPh HSZ.out (phA_size _ _ z32_length) HONE.out w.heap.size w HB3.out (by omega) ?_; intro w4 hg4 ho4 hz4 hb4; have HG4 := Lib.hid hg4; have HB4 := Lib.hid hb4; clear hg4 ho4 hz4 hb4))
  refine bodyPost_ret (v := .agg C) ?_ rfl ⟨rfl, HB4.out⟩
  exact results_cell_row Try.results67 _ _ w.heap.size 50 C (0, 0) _ rfl HG4.out Try.underlying50 rfl HI.out


end Go.Proofs.Ytcagiecgbjnefaa
