/- The program's interleaved: two sequences in turn, as values. -/
import Derived.Test.YtodgalflngfnpaaDInterleaveOf
namespace Go.Proofs.Ytodgalflngfnpaa
set_option maxRecDepth 100000
open Go.RowKit

theorem weaveG_length (l m : List Int) : (weaveG l m).length = 2 * l.length := gen_length _ _

set_option maxRecDepth 100000 in
set_option maxHeartbeats 4000000 in
theorem weaved_any (l m : List Int) (hc : l.length = m.length ∧ l.length + m.length ≤ 32) (w : World) : Calls Try.prog 126 #[.agg (phA (padL l) l.length), .agg (phA (padL m) m.length)] w (Ret w (.tuple #[.agg (phA (padL (weaveG l m)) (weaveG l m).length), .bool true])) := by
  obtain ⟨hlm, h32⟩ := hc
  rw [weaveG_length]
  obtain ⟨N, hN⟩ : ∃ N, N = l.length := ⟨_, rfl⟩
  obtain ⟨G, hG⟩ : ∃ G : Nat → Int, G = fun (i : Nat) => if i % 2 = 0 then l.getD (i / 2) 0 else m.getD (i / 2) 0 := ⟨_, rfl⟩
  have hgoal : weaveG l m = gen (2 * N) G := by rw [hN, hG]; rfl
  have hpl : (padL l).length = 32 := padL_length (by omega)
  have hpm : (padL m).length = 32 := padL_length (by omega)
  have hlen := phA_len (padL l) (l.length : Int) hpl
  have hlenm := phA_len (padL m) (m.length : Int) hpm
  have hgetl : ∀ i : Nat, i < l.length → (phA (padL l) (l.length : Int))[i]? = some (.int .i64 (l.getD i 0)) := fun i hi => by rw [phA_get _ _ i (by omega), pad_getD l i hi]
  have hgetm : ∀ i : Nat, i < m.length → (phA (padL m) (m.length : Int))[i]? = some (.int .i64 (m.getD i 0)) := fun i hi => by rw [phA_get _ _ i (by omega), pad_getD m i hi]
  obtain ⟨cs, hcs⟩ : ∃ cs, cs = phA (padL l) (l.length : Int) := ⟨_, rfl⟩
  obtain ⟨ds, hds⟩ : ∃ ds, ds = phA (padL m) (m.length : Int) := ⟨_, rfl⟩
  rw [hgoal, ← hcs, ← hds]
  rw [← hcs] at hlen hgetl
  rw [← hds] at hlenm hgetm
  rw [← hlm] at hlenm hgetm h32
  rw [← hN] at hlen hlenm hgetl hgetm h32 ⊢
  have HG := Lib.hid hG
  have HGL := Lib.hid hgetl
  have HGM := Lib.hid hgetm
  have HLEN := Lib.hid hlen
  have HLENM := Lib.hid hlenm
  have hN16 : N ≤ 16 := by omega
  clear hcs hds hN hG hpl hpm hgoal hlm hgetl hgetm h32
  go_enter Try.func126, Try.ntmps126
  have ec : ((2 * N : Nat) : Int) = (N : Int) + (N : Int) := by omega
  rw [ec]
  clear ec
  go_wp2_with (first
    | (refine wpList_alloc_big rfl 48 rfl (phA z32 0) zeroPh ?_; simp only [World.size_alloc, Act.put, List.setIfInBounds_toArray, List.set_cons_zero, List.set_cons_succ])
    | (refine wpList_store_big rfl 48 (.tmp 6) (.tmp 27) rfl (w.heap.size + 1 + 1 + 1) (phA z32 (N + N)) rfl rfl 48 (phA z32 0) (by have := heap_alloc_new (((w.alloc (.cells cs 48)).alloc (.cells ds 48)).alloc (.cells (phA z32 0) 48)) (.cells (phA z32 0) 48); rw [World.size_alloc, World.size_alloc, World.size_alloc] at this; exact this) 33 infoPh (phA_size _ _ z32_length) (phA_size _ _ z32_length) (phA_one _ _) w.heap.size w (by go_grown) (by omega) ?_; intro w2 hg2 ho2 hz2 hb2; have k32 : w2.cell? ⟨w.heap.size, 32, none⟩ = some (.int .i64 N) := (by rw [cell_of_row w2 w.heap.size 32 cs 48 (0, 0) ((ho2 w.heap.size (by omega)).trans (by rw [heap_alloc_old _ _ (by simp; omega), heap_alloc_old _ _ (by simp; omega)]; exact heap_alloc2_old w _ _))]; exact HLEN.out)))
  have hs0 : w2.heap[w.heap.size]? = some (.cells cs 48 (0, 0)) := (ho2 w.heap.size (by omega)).trans (by rw [heap_alloc_old _ _ (by simp; omega), heap_alloc_old _ _ (by simp; omega)]; exact heap_alloc2_old w _ _)
  have hs1 : w2.heap[w.heap.size + 1]? = some (.cells ds 48 (0, 0)) := (ho2 (w.heap.size + 1) (by omega)).trans (by rw [heap_alloc_old _ _ (by simp; try omega), heap_alloc_old _ _ (by simp; try omega)]; exact heap_alloc2_new w _ _)
  have hs2 : w2.heap[w.heap.size + 1 + 1]? = some (.cells (phA z32 0) 48 (0, 0)) := (ho2 (w.heap.size + 1 + 1) (by omega)).trans (by rw [heap_alloc_old _ _ (by simp)]; have := heap_alloc_new ((w.alloc (.cells cs 48)).alloc (.cells ds 48)) (.cells (phA z32 0) 48); rw [World.size_alloc, World.size_alloc] at this; exact this)
  have HS0 := Lib.hid hs0
  have HS1 := Lib.hid hs1
  have HS2 := Lib.hid hs2
  have HS3 := Lib.hid hg2
  have HB2 := Lib.hid hb2
  clear hs0 hs1 hs2 hg2 ho2 hz2 hb2 k32
  go_loopw [30] (fun i wr => ∃ j : Nat, j ≤ N ∧ i = .int .i64 j ∧ wr.heap[w.heap.size]? = some (.cells cs 48 (0, 0)) ∧ wr.heap[w.heap.size + 1]? = some (.cells ds 48 (0, 0)) ∧ wr.heap[w.heap.size + 1 + 1]? = some (.cells (phA z32 0) 48 (0, 0)) ∧ wr.heap[w.heap.size + 1 + 1 + 1]? = some (.cells (phA (padL (gen (2 * j) G)) (N + N)) 48 (0, 0)) ∧ Below w.heap.size w wr) (fun i _ => N - (intOf i).toNat)
  case atStart => exact ⟨0, Nat.zero_le _, rfl, HS0.out, HS1.out, HS2.out, HS3.out, HB2.out⟩
  case round =>
    obtain ⟨j, hj, rfl, hb0, hbm, hb1, hbq, hbel⟩ := hrel
    have hgl : (gen (2 * j) G).length = 2 * j := gen_length _ _
    have hpl2 : (padL (gen (2 * j) G)).length = 32 := padL_length (by rw [hgl]; omega)
    have c32 : wr.cell? ⟨w.heap.size, 32, none⟩ = some (.int .i64 N) := by rw [cell_of_row wr _ _ _ _ _ hb0]; exact HLEN.out
    have HB := Lib.hid hbel
    by_cases hlt : j < N
    · have h0 : (0 : Int) ≤ (j : Int) := by omega
      have h1 : (j : Int) < 16 := by omega
      have h1' : (j : Int) < (N : Int) := by omega
      have cl : wr.cell? ⟨w.heap.size, j, none⟩ = some (.int .i64 (l.getD j 0)) := by rw [cell_of_row wr _ _ _ _ _ hb0]; exact HGL.out j hlt
      have cm : wr.cell? ⟨w.heap.size + 1, j, none⟩ = some (.int .i64 (m.getD j 0)) := by rw [cell_of_row wr _ _ _ _ _ hbm]; exact HGM.out j hlt
      have cj : wr.cell? ⟨w.heap.size + 1 + 1 + 1, 2 * j, none⟩ = some (.int .i64 0) := by rw [cell_of_row wr _ _ _ _ _ hbq, phA_get _ _ (2 * j) (by omega), pad_at _ (2 * j) (by omega)]
      have fj : wr.frozen? ⟨w.heap.size + 1 + 1 + 1, 2 * j, none⟩ = false := frozen_of_row wr _ _ _ _ hbq
      have cj1 : wr.cell? ⟨w.heap.size + 1 + 1 + 1, 2 * j + 1, none⟩ = some (.int .i64 0) := by
        rw [cell_of_row wr _ _ _ _ _ hbq, phA_get _ _ (2 * j + 1) (by omega)]
        have : (padL (gen (2 * j) G)).getD (2 * j + 1) 0 = 0 := by
          unfold padL List.getD
          rw [List.getElem?_append_right (by rw [gen_length]; omega), gen_length, List.getElem?_replicate, if_pos (by omega)]
          rfl
        rw [this]
      have fj1 : wr.frozen? ⟨w.heap.size + 1 + 1 + 1, 2 * j + 1, none⟩ = false := frozen_of_row wr _ _ _ _ hbq
      have hgj : G (2 * j) = l.getD j 0 := by
        rw [HG.out]
        show (if 2 * j % 2 = 0 then l.getD (2 * j / 2) 0 else m.getD (2 * j / 2) 0) = _
        rw [if_pos (by omega), show 2 * j / 2 = j by omega]
      have hgj1 : G (2 * j + 1) = m.getD j 0 := by
        rw [HG.out]
        show (if (2 * j + 1) % 2 = 0 then l.getD ((2 * j + 1) / 2) 0 else m.getD ((2 * j + 1) / 2) 0) = _
        rw [if_neg (by omega), show (2 * j + 1) / 2 = j by omega]
      have hset := heap_setCell_same wr (w.heap.size + 1 + 1 + 1) (2 * j) _ _ (.int .i64 (G (2 * j))) hbq
      rw [phA_set _ _ (2 * j) (by omega), pad_snoc G (2 * j) (by omega)] at hset
      have hset2 := heap_setCell_same _ (w.heap.size + 1 + 1 + 1) (2 * j + 1) _ _ (.int .i64 (G (2 * j + 1))) hset
      rw [phA_set _ _ (2 * j + 1) (by rw [padL_length (by rw [gen_length]; omega)]; omega), pad_snoc G (2 * j + 1) (by omega)] at hset2
      obtain ⟨x, hxd⟩ : ∃ x, x = l.getD j 0 := ⟨_, rfl⟩
      obtain ⟨y, hyd⟩ : ∃ y, y = m.getD j 0 := ⟨_, rfl⟩
      rw [← hxd] at cl hgj
      rw [← hyd] at cm hgj1
      rw [hgj, hgj1] at hset2
      have ho : ∀ k, k ≠ w.heap.size + 1 + 1 + 1 → ((wr.setCell ⟨w.heap.size + 1 + 1 + 1, 2 * j, none⟩ (.int .i64 x)).setCell ⟨w.heap.size + 1 + 1 + 1, 2 * j + 1, none⟩ (.int .i64 y)).heap[k]? = wr.heap[k]? := fun k hk => by
        rw [heap_setCell_other _ _ k _ hk, heap_setCell_other _ _ k _ hk]
      have HSET := Lib.hid hset2
      have HO0 := Lib.hid ((ho w.heap.size (by omega)).trans hb0)
      have HO1 := Lib.hid ((ho (w.heap.size + 1) (by omega)).trans hbm)
      have HO2 := Lib.hid ((ho (w.heap.size + 1 + 1) (by omega)).trans hb1)
      clear hset hset2 ho hgj hgj1 hxd hyd hgl hpl2 hb0 hb1 hbm hbq hbel hlen hlenm
      go_wp2_with fail
      go_roundw
      case rel => exact ⟨j + 1, by omega, by go_num, HO0.out, HO1.out, HO2.out, HSET.out, (HB.out.setCell (by simp; omega) _).setCell (by simp; omega) _⟩
      case measure => simp [intOf]; omega
    · have he : j = N := by omega
      subst he
      have HB0 := Lib.hid hbq
      have HB1 := Lib.hid hb1
      have hpz : (phA (padL (gen (2 * j) G)) ((j : Int) + j)).size = 33 := phA_size _ _ hpl2
      have HPZ := Lib.hid hpz
      have hinfo : (Try.prog.info? 48).map (·.size) = some (phA (padL (gen (2 * j) G)) ((j : Int) + j)).size := by rw [hpz]; exact infoPh
      have HINFO := Lib.hid hinfo
      obtain ⟨C, hC⟩ : ∃ C, C = phA (padL (gen (2 * j) G)) ((j : Int) + j) := ⟨_, rfl⟩
      have hC1 : C.all (·.oneCell') = true := by rw [hC]; exact phA_one _ _
      rw [← hC] at HB0 HPZ HINFO
      have HC1 := Lib.hid hC1
      have HC := Lib.hid hC
      clear hb0 hb1 hbm hbq hpz hinfo hC hC1 hgl hpl2 hbel hlen hlenm
      go_wp2_with (first
        | (refine wpList_load_row rfl 48 (.tmp 6) rfl (w.heap.size + 1 + 1 + 1) rfl 48 C (0, 0) _ HB0.out Try.underlying48 rfl HINFO.out ?_)
        | (refine wpList_store_big rfl 48 (.tmp 4) (.tmp 51) rfl (w.heap.size + 1 + 1) C rfl rfl 48 (phA z32 0) HB1.out 33 infoPh HPZ.out (phA_size _ _ z32_length) HC1.out w.heap.size w HB.out (by omega) ?_; intro w4 hg4 ho4 hz4 hb4))
      refine bodyPost_ret (v := .tuple #[.agg C, .bool true]) ?_ rfl ⟨?_, ‹_›⟩
      · rw [results_cell_tmp (p := 4) (u := 5) (ty := 48) Try.results126]
        simp [asAddr, run_loadVar_row _ (w.heap.size + 1 + 1) 48 48 _ (0, 0) _ (by assumption) Try.underlying48 rfl HINFO.out, Result.andThen]
      · rw [HC.out]

set_option maxRecDepth 100000 in
set_option maxHeartbeats 2000000 in
theorem weaved_not (l m : List Int) (hl : isSeq l = true) (hm : isSeq m = true) (hc : ¬ (l.length = m.length ∧ l.length + m.length ≤ 32)) (w : World) : Calls Try.prog 126 #[.agg (phA (padL l) l.length), .agg (phA (padL m) m.length)] w (Ret w (.tuple #[.agg (phA z32 0), .bool false])) := by
  have h32 := isSeq_len hl
  have h32m := isSeq_len hm
  clear hl hm
  have hpl : (padL l).length = 32 := padL_length h32
  have hpm : (padL m).length = 32 := padL_length h32m
  have hlen := phA_len (padL l) (l.length : Int) hpl
  have hlenm := phA_len (padL m) (m.length : Int) hpm
  obtain ⟨cs, hcs⟩ : ∃ cs, cs = phA (padL l) (l.length : Int) := ⟨_, rfl⟩
  obtain ⟨ds, hds⟩ : ∃ ds, ds = phA (padL m) (m.length : Int) := ⟨_, rfl⟩
  rw [← hcs, ← hds]
  rw [← hcs] at hlen
  rw [← hds] at hlenm
  have hinfo : (Try.prog.info? 48).map (·.size) = some (phA z32 0).size := by rw [phA_size _ _ z32_length]; exact infoPh
  have HINFO := Lib.hid hinfo
  by_cases e : l.length = m.length
  · have h33 : (32 : Int) < (l.length : Int) + (m.length : Int) := by omega
    rw [← e] at hlenm h33
    clear hcs hds hpl hpm hc hinfo e h32m
    go_enter Try.func126, Try.ntmps126
    go_wp2_with (first
      | (refine wpList_alloc_big rfl 48 rfl (phA z32 0) zeroPh ?_; simp only [World.size_alloc, Act.put, List.setIfInBounds_toArray, List.set_cons_zero, List.set_cons_succ])
      | (refine wpList_store_big rfl 48 (.tmp 4) (.tmp 21) rfl (w.heap.size + 1 + 1) (phA z32 0) rfl rfl 48 (phA z32 0) (by have := heap_alloc_new ((w.alloc (.cells cs 48)).alloc (.cells ds 48)) (.cells (phA z32 0) 48); rw [World.size_alloc, World.size_alloc] at this; exact this) 33 infoPh (phA_size _ _ z32_length) (phA_size _ _ z32_length) (phA_one _ _) w.heap.size w (by go_grown) (by omega) ?_; intro w4 hg4 ho4 hz4 hb4))
    refine bodyPost_ret (v := .tuple #[.agg (phA z32 0), .bool false]) ?_ rfl ⟨rfl, ‹_›⟩
    rw [results_cell_tmp (p := 4) (u := 5) (ty := 48) Try.results126]
    simp [asAddr, run_loadVar_row _ (w.heap.size + 1 + 1) 48 48 _ (0, 0) _ (by assumption) Try.underlying48 rfl HINFO.out, Result.andThen]
  · have hne : ((l.length : Int) == (m.length : Int)) = false := by simp; omega
    have hne2 : ((l.length : Int) != (m.length : Int)) = true := by simp; omega
    clear hcs hds hpl hpm hc hinfo e
    go_enter Try.func126, Try.ntmps126
    go_wp2_with (first
      | (refine wpList_alloc_big rfl 48 rfl (phA z32 0) zeroPh ?_; simp only [World.size_alloc, Act.put, List.setIfInBounds_toArray, List.set_cons_zero, List.set_cons_succ])
      | (refine wpList_store_big rfl 48 (.tmp 4) (.tmp 21) rfl (w.heap.size + 1 + 1) (phA z32 0) rfl rfl 48 (phA z32 0) (by have := heap_alloc_new ((w.alloc (.cells cs 48)).alloc (.cells ds 48)) (.cells (phA z32 0) 48); rw [World.size_alloc, World.size_alloc] at this; exact this) 33 infoPh (phA_size _ _ z32_length) (phA_size _ _ z32_length) (phA_one _ _) w.heap.size w (by go_grown) (by omega) ?_; intro w4 hg4 ho4 hz4 hb4))
    refine bodyPost_ret (v := .tuple #[.agg (phA z32 0), .bool false]) ?_ rfl ⟨rfl, ‹_›⟩
    rw [results_cell_tmp (p := 4) (u := 5) (ty := 48) Try.results126]
    simp [asAddr, run_loadVar_row _ (w.heap.size + 1 + 1) 48 48 _ (0, 0) _ (by assumption) Try.underlying48 rfl HINFO.out, Result.andThen]
end Go.Proofs.Ytodgalflngfnpaa
