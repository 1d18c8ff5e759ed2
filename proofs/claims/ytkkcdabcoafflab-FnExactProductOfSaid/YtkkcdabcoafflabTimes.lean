/- The program's times: the product of two sequences as values. -/
import Derived.Test.YtkkcdabcoafflabDProductOf
import Derived.StillTailTactics
namespace Go.Proofs.Ytkkcdabcoafflab
open Go.RowKit

theorem prodG_length (l m : List Int) : (prodG l m).length = l.length := gen_length _ _

set_option maxRecDepth 100000 in
set_option maxHeartbeats 2000000 in
theorem times_any (l m : List Int) (hl : isSeq l = true) (hm : isSeq m = true) (hlm : l.length = m.length) (w : World) : Calls Try.prog 50 #[.agg (phA (padL l) l.length), .agg (phA (padL m) m.length)] w (Ret w (.tuple #[.agg (phA (padL (prodG l m)) (prodG l m).length), .bool true])) := by
  rw [prodG_length]
  have h32 := isSeq_len hl
  have HALL := Lib.hid (isSeq_all hl)
  have HALM := Lib.hid (isSeq_all hm)
  clear hl hm
  obtain ⟨N, hN⟩ : ∃ N, N = l.length := ⟨_, rfl⟩
  obtain ⟨G, hG⟩ : ∃ G : Nat → Int, G = fun (i : Nat) => (l.getD i 0 + m.getD i 0) % 4 := ⟨_, rfl⟩
  have hgoal : prodG l m = gen N G := by rw [hN, hG]; rfl
  have hpl : (padL l).length = 32 := padL_length h32
  have hpm : (padL m).length = 32 := padL_length (by omega)
  have hlen := phA_len (padL l) (l.length : Int) hpl
  have hlenm := phA_len (padL m) (m.length : Int) hpm
  have hgetm : ∀ i : Nat, i < m.length → (phA (padL m) (m.length : Int))[i]? = some (.int .i64 (m.getD i 0)) := fun i hi => by rw [phA_get _ _ i (by omega), pad_getD m i hi]
  obtain ⟨cs, hcs⟩ : ∃ cs, cs = phA (padL l) (l.length : Int) := ⟨_, rfl⟩
  obtain ⟨ds, hds⟩ : ∃ ds, ds = phA (padL m) (m.length : Int) := ⟨_, rfl⟩
  rw [hgoal, ← hcs, ← hds]
  rw [← hcs] at hlen
  rw [← hds] at hlenm hgetm
  rw [← hlm] at hlenm hgetm
  rw [← hN] at hlen hlenm hgetm h32 ⊢
  have HCS := Lib.hid hcs
  have HN := Lib.hid hN
  have HG := Lib.hid hG
  have HLM := Lib.hid hlm
  have HGM := Lib.hid hgetm
  have HLENM := Lib.hid hlenm
  have HPL := Lib.hid hpl
  clear hcs hds hN hG hpl hpm hgoal hlm hgetm
  go_enter Try.func50, Try.ntmps50
  go_wp2_with (refine wpList_alloc_big rfl 54 rfl (phA z32 0) zeroPh ?_)
  go_loopw [15] (fun i wr => ∃ j : Nat, j ≤ N ∧ i = .int .i64 j ∧ wr.heap[w.heap.size]? = some (.cells (phA (padL (gen N (fun i => if i < j then G i else l.getD i 0))) N) 54 (0, 0)) ∧ wr.heap[w.heap.size + 1]? = some (.cells ds 54 (0, 0)) ∧ wr.heap[w.heap.size + 1 + 1]? = some (.cells (phA z32 0) 54 (0, 0)) ∧ Below w.heap.size w wr) (fun i _ => N - (intOf i).toNat)
  case atStart =>
    refine ⟨0, Nat.zero_le _, rfl, ?_, ?_, ?_, by go_grown⟩
    · rw [heap_alloc_old _ _ (by simp; omega), heap_alloc2_old, HCS.out]
      have e : gen N (fun i => if i < 0 then G i else l.getD i 0) = l := by
        rw [HN.out]
        refine Eq.trans (gen_ext (fun i _ => ?_)) (gen_self l)
        rw [if_neg (Nat.not_lt_zero _)]
      rw [e, HN.out]
    · rw [heap_alloc_old _ _ (by simp), heap_alloc2_new w _ _]
    · have := heap_alloc_new ((w.alloc (.cells cs 54)).alloc (.cells ds 54)) (.cells (phA z32 0) 54)
      rw [World.size_alloc, World.size_alloc] at this
      exact this
  case round =>
    obtain ⟨j, hj, rfl, hb0, hbm, hb1, hbel⟩ := hrel
    have hgl : (gen N (fun i => if i < j then G i else l.getD i 0)).length = N := gen_length _ _
    have hpl2 : (padL (gen N (fun i => if i < j then G i else l.getD i 0))).length = 32 := padL_length (by rw [hgl]; exact h32)
    have c32 : wr.cell? ⟨w.heap.size, 32, none⟩ = some (.int .i64 N) := by rw [cell_of_row wr _ _ _ _ _ hb0, phA_len _ _ hpl2]
    have HB := Lib.hid hbel
    by_cases hlt : j < N
    · have hx := allIn_getD HALL.out j (by rw [← HN.out]; exact hlt)
      have hy := allIn_getD HALM.out j (by rw [← HLM.out, ← HN.out]; exact hlt)
      have cj : wr.cell? ⟨w.heap.size, j, none⟩ = some (.int .i64 (l.getD j 0)) := by
        rw [cell_of_row wr _ _ _ _ _ hb0, phA_get _ _ j (by omega), pad_getD _ j (by rw [hgl]; exact hlt), gen_getD _ _ j hlt, if_neg (Nat.lt_irrefl _)]
      have cm : wr.cell? ⟨w.heap.size + 1, j, none⟩ = some (.int .i64 (m.getD j 0)) := by
        rw [cell_of_row wr _ _ _ _ _ hbm]
        exact HGM.out j hlt
      have fj : wr.frozen? ⟨w.heap.size, j, none⟩ = false := frozen_of_row wr _ _ _ _ hb0
      have hgj : G j = (l.getD j 0 + m.getD j 0) % 4 := by rw [HG.out]
      have hset := heap_setCell_same wr w.heap.size j _ _ (.int .i64 (G j)) hb0
      rw [phA_set _ _ j (by omega), pad_set _ j _ (by rw [hgl]; exact hlt), gen_set] at hset
      have hoth := heap_setCell_other wr ⟨w.heap.size, j, none⟩ (w.heap.size + 1 + 1) (.int .i64 (G j)) (by simp; omega)
      have hotm := heap_setCell_other wr ⟨w.heap.size, j, none⟩ (w.heap.size + 1) (.int .i64 (G j)) (by simp)
      have e2 : gen N (fun i => if i = j then G j else if i < j then G i else l.getD i 0) = gen N (fun i => if i < j + 1 then G i else l.getD i 0) := by
        apply gen_ext
        intro i _
        by_cases h1 : i = j
        · subst h1; rw [if_pos rfl, if_pos (Nat.lt_succ_self _)]
        · rw [if_neg h1]
          by_cases h2 : i < j
          · rw [if_pos h2, if_pos (Nat.lt_succ_of_lt h2)]
          · rw [if_neg h2, if_neg (by omega)]
      rw [e2] at hset
      rw [hb1] at hoth
      rw [hbm] at hotm
      obtain ⟨x, hxd⟩ : ∃ x, x = l.getD j 0 := ⟨_, rfl⟩
      obtain ⟨y, hyd⟩ : ∃ y, y = m.getD j 0 := ⟨_, rfl⟩
      rw [← hxd] at hx cj hgj
      rw [← hyd] at hy cm hgj
      have HSET := Lib.hid hset
      have HOTH := Lib.hid hoth
      have HOTM := Lib.hid hotm
      have HGJ := Lib.hid hgj
      obtain ⟨hx1, hx2⟩ := hx
      obtain ⟨hy1, hy2⟩ := hy
      have h0 : (0 : Int) ≤ (j : Int) := by omega
      have h1 : (j : Int) < 32 := by omega
      have h1' : (j : Int) < (N : Int) := by omega
      have hsum : IntKind.i64.wrap (x + y) = x + y := IntWalk.i64_in _ (by omega)
      clear hset hoth hotm hgj hxd hyd e2 hgl hpl2 hb0 hb1 hbm hbel hlen hlenm
      go_wp2_with fail
      go_still_tail 13, (by kernel_rfl)
      refine wpStill_step (fun K hK => ?_)
      go_simp
      refine ⟨_, (modulo_any _ 4 (by omega) (by omega) (by omega) (by omega) _).mono fun e w' h => ⟨h.1, h.2.symm⟩, hK _ ?_⟩
      clear hK K
      repeat still_step
      refine wpStill_nil ?_
      change wpList _ _ _ _ _ wr.drew
      go_wp2_with fail
      go_roundw
      case rel =>
        rw [HGJ.out] at HSET HOTH HOTM
        exact ⟨j + 1, by omega, by go_num, HSET.out, HOTM.out, HOTH.out, (HB.out.setCell (Nat.le_refl _) _).drew⟩
      case measure => simp [intOf]; omega
    · have he : gen N (fun i => if i < j then G i else l.getD i 0) = gen N G := gen_ext (fun i hi => by rw [if_pos (by omega)])
      rw [he] at hb0 hpl2
      have HB0 := Lib.hid hb0
      have HB1 := Lib.hid hb1
      have hpz : (phA (padL (gen N G)) (N : Int)).size = 33 := phA_size _ _ hpl2
      have HPZ := Lib.hid hpz
      have hinfo : (Try.prog.info? 54).map (·.size) = some (phA (padL (gen N G)) (N : Int)).size := by rw [hpz]; exact infoPh
      have HINFO := Lib.hid hinfo
      obtain ⟨C, hC⟩ : ∃ C, C = phA (padL (gen N G)) (N : Int) := ⟨_, rfl⟩
      have hC1 : C.all (·.oneCell') = true := by rw [hC]; exact phA_one _ _
      rw [← hC] at HB0 HPZ HINFO
      have HC1 := Lib.hid hC1
      have HC := Lib.hid hC
      clear he hb0 hb1 hbm hpz hinfo hC hC1 hgl hpl2 hbel hlen hlenm
      go_wp2_with (first
        | (refine wpList_load_row rfl 54 (.tmp 2) rfl w.heap.size rfl 54 C (0, 0) _ HB0.out Try.underlying54 rfl HINFO.out ?_)
        | (refine wpList_store_big rfl 54 (.tmp 4) (.tmp 32) rfl (w.heap.size + 1 + 1) C rfl rfl 54 (phA z32 0) HB1.out 33 infoPh HPZ.out (phA_size _ _ z32_length) HC1.out w.heap.size w HB.out (by omega) ?_; intro w4 hg4 ho4 hz4 hb4))
      refine bodyPost_ret (v := .tuple #[.agg C, .bool true]) ?_ rfl ⟨?_, ‹_›⟩
      · rw [results_cell_tmp (p := 4) (u := 5) (ty := 54) Try.results50]
        simp [asAddr, run_loadVar_row _ (w.heap.size + 1 + 1) 54 54 _ (0, 0) _ (by assumption) Try.underlying54 rfl HINFO.out, Result.andThen]
      · rw [HC.out]

set_option maxRecDepth 100000 in
set_option maxHeartbeats 2000000 in
theorem times_not (l m : List Int) (hl : isSeq l = true) (hm : isSeq m = true) (hlm : ¬ l.length = m.length) (w : World) : Calls Try.prog 50 #[.agg (phA (padL l) l.length), .agg (phA (padL m) m.length)] w (Ret w (.tuple #[.agg (phA z32 0), .bool false])) := by
  have h32 := isSeq_len hl
  have h32m := isSeq_len hm
  clear hl hm
  have hpl : (padL l).length = 32 := padL_length h32
  have hpm : (padL m).length = 32 := padL_length h32m
  have hlen := phA_len (padL l) (l.length : Int) hpl
  have hlenm := phA_len (padL m) (m.length : Int) hpm
  obtain ⟨cs, hcs⟩ : ∃ cs, cs = phA (padL l) (l.length : Int) := ⟨_, rfl⟩
  obtain ⟨ds, hds⟩ : ∃ ds, ds = phA (padL m) (m.length : Int) := ⟨_, rfl⟩
  rw [← hcs, ← hds]
  rw [← hcs] at hlen
  rw [← hds] at hlenm
  have hne : ((l.length : Int) == (m.length : Int)) = false := by simp; omega
  have hne2 : ((l.length : Int) != (m.length : Int)) = true := by simp; omega
  clear hcs hds hpl hpm hlm
  go_enter Try.func50, Try.ntmps50
  go_wp2_with (first
    | (refine wpList_alloc_big rfl 54 rfl (phA z32 0) zeroPh ?_; simp only [World.size_alloc, Act.put, List.setIfInBounds_toArray, List.set_cons_zero, List.set_cons_succ])
    | (refine wpList_store_big rfl 54 (.tmp 4) (.tmp 12) rfl (w.heap.size + 1 + 1) (phA z32 0) rfl rfl 54 (phA z32 0) (by have := heap_alloc_new ((w.alloc (.cells cs 54)).alloc (.cells ds 54)) (.cells (phA z32 0) 54); rw [World.size_alloc, World.size_alloc] at this; exact this) 33 infoPh (phA_size _ _ z32_length) (phA_size _ _ z32_length) (phA_one _ _) w.heap.size w (by go_grown) (by omega) ?_; intro w4 hg4 ho4 hz4 hb4))
  have hinfo : (Try.prog.info? 54).map (·.size) = some (phA z32 0).size := by rw [phA_size _ _ z32_length]; exact infoPh
  refine bodyPost_ret (v := .tuple #[.agg (phA z32 0), .bool false]) ?_ rfl ⟨rfl, ‹_›⟩
  rw [results_cell_tmp (p := 4) (u := 5) (ty := 54) Try.results50]
  simp [asAddr, run_loadVar_row _ (w.heap.size + 1 + 1) 54 54 _ (0, 0) _ (by assumption) Try.underlying54 rfl hinfo, Result.andThen]
end Go.Proofs.Ytkkcdabcoafflab
