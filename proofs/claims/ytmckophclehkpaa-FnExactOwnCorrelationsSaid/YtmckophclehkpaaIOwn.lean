/- The program's OwnCorrelations, PeriodicCorrelations, CrossCorrelations. -/
import Derived.Test.YtmckophclehkpaaICorr
namespace Go.Proofs.Ytmckophclehkpaa
open Go.RowKit

set_option maxRecDepth 100000 in
set_option maxHeartbeats 1000000 in
theorem iownCorr (va : Value) (l : List Int) (w : World) (hva : IS w va l) (hla : l.length ≤ 1048576) :
    Calls Try.prog 18 #[va] w (MakesGB w (ownL l) (isSeq l)) := by
  by_cases hs : isSeq l = true
  · have h32 := isSeq_len hs
    have HP := phasesOf_seq va l w hva hs
    have hsz : (phA (padL l) (l.length : Int)).size = 33 := phA_size _ _ (padL_length h32)
    have hone := phA_one (padL l) (l.length : Int)
    have hlen := phA_len (padL l) (l.length : Int) (padL_length h32)
    have hi : (Try.prog.info? 47).map (·.size) = some (phA (padL l) (l.length : Int)).size := by rw [hsz]; exact infoPh
    have HC := corr_ap (phA (padL l) l.length) (phA (padL l) l.length) hsz hsz 0 ((l.length : Int) - 1) l.length (by omega) (by omega) (by omega) (by omega) (fun u => apS vx l l (u : Int)) (fun u => apS vy l l (u : Int)) (fun k => apS_small vx vx_one l l _ h32) (fun k => apS_small vy vy_one l l _ h32)
      (fun k hk w => by rw [Int.zero_add]; exact aperiodic_any l l (k : Int) hs hs rfl (by omega) (by omega) w)
    have hd : ownL l = genG l.length (fun u => apS vx l l (u : Int)) (fun u => apS vy l l (u : Int)) := by unfold ownL; rw [hs]; rfl
    rw [← hd] at HC
    rw [hs]
    obtain ⟨C, hC⟩ : ∃ C, C = phA (padL l) (l.length : Int) := ⟨_, rfl⟩
    rw [← hC] at HP HC hsz hone hlen hi
    obtain ⟨R, hR⟩ : ∃ R, R = ownL l := ⟨_, rfl⟩
    rw [← hR] at HC ⊢
    obtain ⟨N, hN⟩ : ∃ n, n = l.length := ⟨_, rfl⟩
    rw [← hN] at hlen h32 HC
    have HP' := Lib.hid HP
    have HC' := Lib.hid HC
    have HL := Lib.hid hlen
    have HSZ := Lib.hid hsz
    have HONE := Lib.hid hone
    have HI := Lib.hid hi
    clear HP HC hlen hsz hone hi hC hR hN hd hs hva
    go_enter Try.func18, Try.ntmps18
    go_wp2_with fail
    refine (HP'.out).mono ?_
    rintro e w1 ⟨rfl, hb1⟩
    have HB1 := Lib.hid hb1
    clear hb1
    go_wp2_with (first
      | (refine wpList_alloc_big rfl 47 rfl (phA z32 0) zeroPh ?_)
      | (refine wpList_store_big rfl 47 (.tmp 4) (.tmp 9) rfl w1.heap.size C rfl rfl 47 _ (heap_alloc_new w1 _) 33 infoPh HSZ.out (phA_size _ _ z32_length) HONE.out w1.heap.size w1 (belowa (Below.refl _ _) _) (Nat.le_refl _) ?_; intro w3 hg3 ho3 hz3 hb3; have HG3 := Lib.hid hg3; have HB3 := Lib.hid (joins HB1.out hb3); clear hg3 ho3 hz3 hb3; have c32 : w3.cell? ⟨w1.heap.size, 32, none⟩ = some (.int .i64 N) := (cell_of_row w3 _ _ _ _ _ HG3.out).trans HL.out)
      | (refine wpList_load_row rfl 47 (.tmp 4) rfl w1.heap.size rfl 47 C (0, 0) _ HG3.out Try.underlying47 rfl HI.out ?_))
    refine (HC'.out _).mono ?_
    rintro e w4 ⟨v4, rfl, ho4, hb4⟩
    have HO4 := Lib.hid (ho4.mono HB3.out.size)
    have HB4 := Lib.hid (joins HB3.out hb4)
    clear ho4 hb4
    go_wp2_with fail
    go_returns
    exact ⟨_, rfl, HO4.out, HB4.out⟩
  · have hs2 : isSeq l = false := by simpa using hs
    have HP := phasesOf_not va l w hva hs2 hla
    have hd : ownL l = [] := by unfold ownL; rw [hs2]; rfl
    rw [hd, hs2]
    have HP' := Lib.hid HP
    clear HP hd hs hs2 hva
    go_enter Try.func18, Try.ntmps18
    go_wp2_with fail
    refine (HP'.out).mono ?_
    rintro e w1 ⟨rfl, hb1⟩
    have HB1 := Lib.hid hb1
    clear hb1
    go_wp2_with (first
      | (refine wpList_alloc_big rfl 47 rfl (phA z32 0) zeroPh ?_)
      | (refine wpList_store_big rfl 47 (.tmp 4) (.tmp 9) rfl w1.heap.size (phA z32 0) rfl rfl 47 _ (heap_alloc_new w1 _) 33 infoPh (phA_size _ _ z32_length) (phA_size _ _ z32_length) (phA_one _ _) w1.heap.size w1 (belowa (Below.refl _ _) _) (Nat.le_refl _) ?_; intro w3 hg3 ho3 hz3 hb3; have HB3 := Lib.hid (joins HB1.out hb3); clear hg3 ho3 hz3 hb3))
    go_returns
    exact ⟨_, rfl, OwnG.nil _ _, HB3.out⟩

set_option maxRecDepth 100000 in
set_option maxHeartbeats 1000000 in
theorem iperCorr (va : Value) (l : List Int) (w : World) (hva : IS w va l) (hla : l.length ≤ 1048576) :
    Calls Try.prog 24 #[va] w (MakesGB w (perL l) (isSeq l)) := by
  by_cases hs : isSeq l = true
  · have h32 := isSeq_len hs
    have HP := phasesOf_seq va l w hva hs
    have hsz : (phA (padL l) (l.length : Int)).size = 33 := phA_size _ _ (padL_length h32)
    have hone := phA_one (padL l) (l.length : Int)
    have hlen := phA_len (padL l) (l.length : Int) (padL_length h32)
    have hi : (Try.prog.info? 47).map (·.size) = some (phA (padL l) (l.length : Int)).size := by rw [hsz]; exact infoPh
    have HC := corr_pe (phA (padL l) l.length) (phA (padL l) l.length) hsz hsz 0 ((l.length : Int) - 1) l.length (by omega) (by omega) (by omega) (by omega) (fun u => peS vx l l (u : Int)) (fun u => peS vy l l (u : Int)) (fun k => peS_small vx vx_one l l _ h32) (fun k => peS_small vy vy_one l l _ h32)
      (fun k hk w => by rw [Int.zero_add]; exact periodic_any l l (k : Int) hs hs rfl (by omega) (by omega) (by omega) w)
    have hd : perL l = genG l.length (fun u => peS vx l l (u : Int)) (fun u => peS vy l l (u : Int)) := by unfold perL; rw [hs]; rfl
    rw [← hd] at HC
    rw [hs]
    obtain ⟨C, hC⟩ : ∃ C, C = phA (padL l) (l.length : Int) := ⟨_, rfl⟩
    rw [← hC] at HP HC hsz hone hlen hi
    obtain ⟨R, hR⟩ : ∃ R, R = perL l := ⟨_, rfl⟩
    rw [← hR] at HC ⊢
    obtain ⟨N, hN⟩ : ∃ n, n = l.length := ⟨_, rfl⟩
    rw [← hN] at hlen h32 HC
    have HP' := Lib.hid HP
    have HC' := Lib.hid HC
    have HL := Lib.hid hlen
    have HSZ := Lib.hid hsz
    have HONE := Lib.hid hone
    have HI := Lib.hid hi
    clear HP HC hlen hsz hone hi hC hR hN hd hs hva
    go_enter Try.func24, Try.ntmps24
    go_wp2_with fail
    refine (HP'.out).mono ?_
    rintro e w1 ⟨rfl, hb1⟩
    have HB1 := Lib.hid hb1
    clear hb1
    go_wp2_with (first
      | (refine wpList_alloc_big rfl 47 rfl (phA z32 0) zeroPh ?_)
      | (refine wpList_store_big rfl 47 (.tmp 4) (.tmp 9) rfl w1.heap.size C rfl rfl 47 _ (heap_alloc_new w1 _) 33 infoPh HSZ.out (phA_size _ _ z32_length) HONE.out w1.heap.size w1 (belowa (Below.refl _ _) _) (Nat.le_refl _) ?_; intro w3 hg3 ho3 hz3 hb3; have HG3 := Lib.hid hg3; have HB3 := Lib.hid (joins HB1.out hb3); clear hg3 ho3 hz3 hb3; have c32 : w3.cell? ⟨w1.heap.size, 32, none⟩ = some (.int .i64 N) := (cell_of_row w3 _ _ _ _ _ HG3.out).trans HL.out)
      | (refine wpList_load_row rfl 47 (.tmp 4) rfl w1.heap.size rfl 47 C (0, 0) _ HG3.out Try.underlying47 rfl HI.out ?_))
    refine (HC'.out _).mono ?_
    rintro e w4 ⟨v4, rfl, ho4, hb4⟩
    have HO4 := Lib.hid (ho4.mono HB3.out.size)
    have HB4 := Lib.hid (joins HB3.out hb4)
    clear ho4 hb4
    go_wp2_with fail
    go_returns
    exact ⟨_, rfl, HO4.out, HB4.out⟩
  · have hs2 : isSeq l = false := by simpa using hs
    have HP := phasesOf_not va l w hva hs2 hla
    have hd : perL l = [] := by unfold perL; rw [hs2]; rfl
    rw [hd, hs2]
    have HP' := Lib.hid HP
    clear HP hd hs hs2 hva
    go_enter Try.func24, Try.ntmps24
    go_wp2_with fail
    refine (HP'.out).mono ?_
    rintro e w1 ⟨rfl, hb1⟩
    have HB1 := Lib.hid hb1
    clear hb1
    go_wp2_with (first
      | (refine wpList_alloc_big rfl 47 rfl (phA z32 0) zeroPh ?_)
      | (refine wpList_store_big rfl 47 (.tmp 4) (.tmp 9) rfl w1.heap.size (phA z32 0) rfl rfl 47 _ (heap_alloc_new w1 _) 33 infoPh (phA_size _ _ z32_length) (phA_size _ _ z32_length) (phA_one _ _) w1.heap.size w1 (belowa (Below.refl _ _) _) (Nat.le_refl _) ?_; intro w3 hg3 ho3 hz3 hb3; have HB3 := Lib.hid (joins HB1.out hb3); clear hg3 ho3 hz3 hb3))
    go_returns
    exact ⟨_, rfl, OwnG.nil _ _, HB3.out⟩

end Go.Proofs.Ytmckophclehkpaa
