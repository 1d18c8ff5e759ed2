/- The program's shifted: each phase of another sequence in turn. -/
import Derived.Test.YtfjhocmnafdnfaaPhs
namespace Go.Proofs.Ytfjhocmnafdnfaa
set_option maxRecDepth 100000
open Go.RowKit

set_option maxRecDepth 100000 in
set_option maxHeartbeats 2000000 in
theorem shifted_any (l : List Int) (k : Int) (hl : isSeq l = true) (hk1 : -1000 ≤ k) (hk2 : k ≤ 1000) (w : World) : Calls Try.prog 113 #[.agg (phA (padL l) l.length), .int .i64 k] w (Ret w (.agg (phA (padL (gen l.length (fun (i : Nat) => l.getD (((i : Int) + k) % (l.length : Int)).toNat 0))) l.length))) := by
  have h32 := isSeq_len hl
  clear hl
  obtain ⟨N, hN⟩ : ∃ N, N = l.length := ⟨_, rfl⟩
  obtain ⟨G, hG⟩ : ∃ G : Nat → Int, G = fun (i : Nat) => l.getD (((i : Int) + k) % (l.length : Int)).toNat 0 := ⟨_, rfl⟩
  have hpl : (padL l).length = 32 := padL_length h32
  have hlen := phA_len (padL l) (l.length : Int) hpl
  have hget : ∀ i : Nat, i < l.length → (phA (padL l) (l.length : Int))[i]? = some (.int .i64 (l.getD i 0)) := fun i hi => by rw [phA_get _ _ i (by omega), pad_getD l i hi]
  obtain ⟨cs, hcs⟩ : ∃ cs, cs = phA (padL l) (l.length : Int) := ⟨_, rfl⟩
  rw [← hG, ← hcs]
  rw [← hcs] at hlen hget
  rw [← hN] at hlen h32 hget ⊢
  have HN := Lib.hid hN
  have HG := Lib.hid hG
  have HGET := Lib.hid hget
  have HLEN := Lib.hid hlen
  clear hcs hN hG hpl hget
  go_enter Try.func113, Try.ntmps113
  go_wp2_with (first
    | (refine wpList_alloc_big rfl 97 rfl (phA z32 0) zeroPh ?_; simp only [World.size_alloc, Act.put, List.setIfInBounds_toArray, List.set_cons_zero, List.set_cons_succ])
    | ((refine wpList_store_big rfl 97 (.tmp 5) (.tmp 9) rfl (w.heap.size + 1 + 1) (phA z32 N) rfl rfl 97 (phA z32 0) (by have := heap_alloc_new ((w.alloc (.cells cs 97)).alloc (.cells (phA z32 0) 97)) (.cells (phA z32 0) 97); rw [World.size_alloc, World.size_alloc] at this; exact this) 33 infoPh (phA_size _ _ z32_length) (phA_size _ _ z32_length) (phA_one _ _) w.heap.size w (by go_grown) (by omega) ?_); intro w2 hg2 ho2 hz2 hb2; have k32 : w2.cell? ⟨w.heap.size, 32, none⟩ = some (.int .i64 N) := (by rw [cell_of_row w2 w.heap.size 32 cs 97 (0, 0) ((ho2 w.heap.size (by omega)).trans (by rw [heap_alloc_old _ _ (by simp; omega)]; exact heap_alloc2_old w _ _))]; exact HLEN.out)))
  have hs0 : w2.heap[w.heap.size]? = some (.cells cs 97 (0, 0)) := (ho2 w.heap.size (by omega)).trans (by rw [heap_alloc_old _ _ (by simp; omega)]; exact heap_alloc2_old w _ _)
  have hs1 : w2.heap[w.heap.size + 1]? = some (.cells (phA z32 0) 97 (0, 0)) := (ho2 (w.heap.size + 1) (by omega)).trans (by rw [heap_alloc_old _ _ (by simp)]; exact heap_alloc2_new w _ _)
  have HS0 := Lib.hid hs0
  have HS1 := Lib.hid hs1
  have HS2 := Lib.hid hg2
  have HB2 := Lib.hid hb2
  clear hs0 hs1 hg2 ho2 hz2 hb2 k32
  go_loopw [12] (fun i wr => ∃ j : Nat, j ≤ N ∧ i = .int .i64 j ∧ wr.heap[w.heap.size]? = some (.cells cs 97 (0, 0)) ∧ wr.heap[w.heap.size + 1]? = some (.cells (phA z32 0) 97 (0, 0)) ∧ wr.heap[w.heap.size + 1 + 1]? = some (.cells (phA (padL (gen j G)) N) 97 (0, 0)) ∧ Below w.heap.size w wr) (fun i _ => N - (intOf i).toNat)
  case atStart => exact ⟨0, Nat.zero_le _, rfl, HS0.out, HS1.out, HS2.out, HB2.out⟩
  case round =>
    obtain ⟨j, hj, rfl, hb0, hb1, hbq, hbel⟩ := hrel
    have hgl : (gen j G).length = j := gen_length _ _
    have hpl2 : (padL (gen j G)).length = 32 := padL_length (by rw [hgl]; omega)
    have c32 : wr.cell? ⟨w.heap.size, 32, none⟩ = some (.int .i64 N) := by rw [cell_of_row wr _ _ _ _ _ hb0]; exact HLEN.out
    have HB := Lib.hid hbel
    by_cases hlt : j < N
    · have h0 : (0 : Int) ≤ (j : Int) := by omega
      have h1 : (j : Int) < 32 := by omega
      have h1' : (j : Int) < (N : Int) := by omega
      have hn32 : (N : Int) ≤ 32 := by omega
      obtain ⟨M, hM⟩ : ∃ M : Nat, ((j : Int) + k) % (N : Int) = (M : Int) := ⟨_, (Int.toNat_of_nonneg (Int.emod_nonneg _ (by omega))).symm⟩
      have hM2 : M < N := by have := Int.emod_lt_of_pos ((j : Int) + k) (show 0 < (N : Int) by omega); omega
      have hmod : ∀ w : World, Calls Try.prog 182 #[.int .i64 ((j : Int) + k), .int .i64 (N : Int)] w (Pure w (.int .i64 (M : Int))) := fun w => by rw [← hM]; exact modulo_any _ _ (by omega) (by omega) (by omega) (by omega) w
      have HM := Lib.hid hM
      have HMOD := Lib.hid hmod
      clear hM hmod
      have cM : wr.cell? ⟨w.heap.size, M, none⟩ = some (.int .i64 (l.getD M 0)) := by rw [cell_of_row wr _ _ _ _ _ hb0]; exact HGET.out M hM2
      have cj : wr.cell? ⟨w.heap.size + 1 + 1, j, none⟩ = some (.int .i64 0) := by rw [cell_of_row wr _ _ _ _ _ hbq, phA_get _ _ j (by omega), pad_at _ j (by omega)]
      have fj : wr.frozen? ⟨w.heap.size + 1 + 1, j, none⟩ = false := frozen_of_row wr _ _ _ _ hbq
      have hgj : G j = l.getD M 0 := by rw [HG.out]; show l.getD (((j : Int) + k) % (l.length : Int)).toNat 0 = _; rw [← HN.out, HM.out, Int.toNat_natCast]
      have hset := heap_setCell_same wr (w.heap.size + 1 + 1) j _ _ (.int .i64 (G j)) hbq
      rw [phA_set _ _ j (by omega), pad_snoc G j (by omega)] at hset
      have ho0 := heap_setCell_other wr ⟨w.heap.size + 1 + 1, j, none⟩ w.heap.size (.int .i64 (G j)) (by simp; try omega)
      have ho1 := heap_setCell_other wr ⟨w.heap.size + 1 + 1, j, none⟩ (w.heap.size + 1) (.int .i64 (G j)) (by simp; try omega)
      rw [hb0] at ho0
      rw [hb1] at ho1
      obtain ⟨x, hxd⟩ : ∃ x, x = l.getD M 0 := ⟨_, rfl⟩
      rw [← hxd] at cM hgj
      rw [hgj] at hset ho0 ho1
      have HSET := Lib.hid hset
      have HO0 := Lib.hid ho0
      have HO1 := Lib.hid ho1
      have hM3 : (M : Int) < 32 := by omega
      have hM4 : (0 : Int) ≤ (M : Int) := by omega
      clear hset ho0 ho1 hgj hxd hgl hpl2 hb0 hb1 hbq hbel hlen
      go_wp2_with (go_at_call 182; refine (HMOD.out _).mono ?_; rintro e w' ⟨rfl, rfl⟩)
      go_roundw
      case rel => exact ⟨j + 1, by omega, by go_num, HO0.out, HO1.out, HSET.out, HB.out.setCell (by simp; omega) _⟩
      case measure => simp [intOf]; omega
    · have he : j = N := by omega
      subst he
      have HB0 := Lib.hid hbq
      have HB1 := Lib.hid hb1
      have hpz : (phA (padL (gen j G)) (j : Int)).size = 33 := phA_size _ _ hpl2
      have HPZ := Lib.hid hpz
      have hinfo : (Try.prog.info? 97).map (·.size) = some (phA (padL (gen j G)) (j : Int)).size := by rw [hpz]; exact infoPh
      have HINFO := Lib.hid hinfo
      obtain ⟨C, hC⟩ : ∃ C, C = phA (padL (gen j G)) (j : Int) := ⟨_, rfl⟩
      have hC1 : C.all (·.oneCell') = true := by rw [hC]; exact phA_one _ _
      rw [← hC] at HB0 HPZ HINFO
      have HC1 := Lib.hid hC1
      have HC := Lib.hid hC
      clear hb0 hb1 hbq hpz hinfo hC hC1 hgl hpl2 hbel hlen
      go_wp2_with (first
        | (refine wpList_load_row rfl 97 (.tmp 5) rfl (w.heap.size + 1 + 1) rfl 97 C (0, 0) _ HB0.out Try.underlying97 rfl HINFO.out ?_)
        | (refine wpList_store_big rfl 97 (.tmp 4) (.tmp 28) rfl (w.heap.size + 1) C rfl rfl 97 (phA z32 0) HB1.out 33 infoPh HPZ.out (phA_size _ _ z32_length) HC1.out w.heap.size w HB.out (by omega) ?_; intro w4 hg4 ho4 hz4 hb4))
      refine bodyPost_ret (v := .agg C) ?_ rfl ⟨?_, ‹_›⟩
      · exact results_cell_row Try.results113 _ _ (w.heap.size + 1) 97 C (0, 0) _ rfl (by assumption) Try.underlying97 rfl HINFO.out
      · rw [HC.out]
end Go.Proofs.Ytfjhocmnafdnfaa
