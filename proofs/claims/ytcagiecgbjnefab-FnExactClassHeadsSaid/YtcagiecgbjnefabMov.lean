/- The program's turned: each phase of its own copy in turn. The program's climbed: each phase of its own copy in turn. The program's conjugate: each phase of its own copy in turn. The program's backwards: each phase of another sequence in turn. The program's TurnBy. The program's ClimbBy. The program's ConjugateOf. The program's BackwardsOf. InterleaveOf: what it returns. JoinOf: what it returns. ProductOf: what it returns. The program's joined: one sequence behind another, as values. The program's interleaved: two sequences in turn, as values. -/
import Derived.StillTailTactics
import Derived.Test.YtcagiecgbjnefabPhs
namespace Go.Proofs.Ytcagiecgbjnefab
set_option maxRecDepth 100000
section
open Go.RowKit

set_option maxRecDepth 100000 in
set_option maxHeartbeats 2000000 in
theorem turned_any (l : List Int) (k : Int) (hl : isSeq l = true) (hk1 : -1000 ≤ k) (hk2 : k ≤ 1000) (w : World) : Calls Try.prog 89 #[.agg (phA (padL l) l.length), .int .i64 k] w (Ret w (.agg (phA (padL (gen l.length (fun (i : Nat) => (l.getD i 0 + k) % 4))) l.length))) := by
  have h32 := isSeq_len hl
  have hall := isSeq_all hl
  have HALL := Lib.hid hall
  clear hall hl
  obtain ⟨N, hN⟩ : ∃ N, N = l.length := ⟨_, rfl⟩
  obtain ⟨G, hG⟩ : ∃ G : Nat → Int, G = fun (i : Nat) => (l.getD i 0 + k) % 4 := ⟨_, rfl⟩
  have hpl : (padL l).length = 32 := padL_length h32
  have hlen := phA_len (padL l) (l.length : Int) hpl
  obtain ⟨cs, hcs⟩ : ∃ cs, cs = phA (padL l) (l.length : Int) := ⟨_, rfl⟩
  have hsz : cs.size = 33 := by rw [hcs]; exact phA_size _ _ hpl
  rw [← hG, ← hcs]
  rw [← hcs] at hlen
  rw [← hN] at hlen h32 ⊢
  have HCS := Lib.hid hcs
  have HN := Lib.hid hN
  have HG := Lib.hid hG
  have HSZ := Lib.hid hsz
  have HPL := Lib.hid hpl
  clear hcs hN hG hsz hpl
  go_enter Try.func89, Try.ntmps89
  go_wp2_with (refine wpList_alloc_big rfl 47 rfl (phA z32 0) zeroPh ?_)
  go_loopw [8] (fun i wr => ∃ j : Nat, j ≤ N ∧ i = .int .i64 j ∧ wr.heap[w.heap.size]? = some (.cells (phA (padL (gen N (fun i => if i < j then G i else l.getD i 0))) N) 47 (0, 0)) ∧ wr.heap[w.heap.size + 1]? = some (.cells (phA z32 0) 47 (0, 0)) ∧ Below w.heap.size w wr) (fun i _ => N - (intOf i).toNat)
  case atStart =>
    refine ⟨0, Nat.zero_le _, rfl, ?_, ?_, by go_grown⟩
    · rw [heap_alloc2_old, HCS.out]
      have e : gen N (fun i => if i < 0 then G i else l.getD i 0) = l := by
        rw [HN.out]
        refine Eq.trans (gen_ext (fun i _ => ?_)) (gen_self l)
        rw [if_neg (Nat.not_lt_zero _)]
      rw [e, HN.out]
    · exact heap_alloc2_new w _ _
  case round =>
    obtain ⟨j, hj, rfl, hb0, hb1, hbel⟩ := hrel
    have hgl : (gen N (fun i => if i < j then G i else l.getD i 0)).length = N := gen_length _ _
    have hpl2 : (padL (gen N (fun i => if i < j then G i else l.getD i 0))).length = 32 := padL_length (by rw [hgl]; exact h32)
    have c32 : wr.cell? ⟨w.heap.size, 32, none⟩ = some (.int .i64 N) := by rw [cell_of_row wr _ _ _ _ _ hb0, phA_len _ _ hpl2]
    have HB := Lib.hid hbel
    by_cases hlt : j < N
    · have hx := allIn_getD HALL.out j (by rw [← HN.out]; exact hlt)
      have cj : wr.cell? ⟨w.heap.size, j, none⟩ = some (.int .i64 (l.getD j 0)) := by
        rw [cell_of_row wr _ _ _ _ _ hb0, phA_get _ _ j (by omega), pad_getD _ j (by rw [hgl]; exact hlt), gen_getD _ _ j hlt, if_neg (Nat.lt_irrefl _)]
      have fj : wr.frozen? ⟨w.heap.size, j, none⟩ = false := frozen_of_row wr _ _ _ _ hb0
      have hgj : G j = (l.getD j 0 + k) % 4 := by rw [HG.out]
      have hset := heap_setCell_same wr w.heap.size j _ _ (.int .i64 (G j)) hb0
      rw [phA_set _ _ j (by omega), pad_set _ j _ (by rw [hgl]; exact hlt), gen_set] at hset
      have hoth := heap_setCell_other wr ⟨w.heap.size, j, none⟩ (w.heap.size + 1) (.int .i64 (G j)) (by simp)
      have e2 : gen N (fun i => if i = j then G j else if i < j then G i else l.getD i 0) = gen N (fun i => if i < j + 1 then G i else l.getD i 0) := by
        apply gen_ext
        intro i _
        by_cases h1 : i = j
        · subst h1; rw [if_pos rfl, if_pos (Nat.lt_succ_self _)]
        · rw [if_neg h1]
          by_cases h2 : i < j
          · rw [if_pos h2, if_pos (Nat.lt_succ_of_lt h2)]
          · rw [if_neg h2, if_neg (by omega)]
      rw [e2] at hset
      rw [hb1] at hoth
      obtain ⟨x, hxd⟩ : ∃ x, x = l.getD j 0 := ⟨_, rfl⟩
      rw [← hxd] at hx cj hgj
      have HSET := Lib.hid hset
      have HOTH := Lib.hid hoth
      have HGJ := Lib.hid hgj
      obtain ⟨hx1, hx2⟩ := hx
      have h0 : (0 : Int) ≤ (j : Int) := by omega
      have h1 : (j : Int) < 32 := by omega
      have h1' : (j : Int) < (N : Int) := by omega
      clear hset hoth hgj hxd e2 hgl hpl2 hb0 hb1 hbel hlen
      go_wp2_with (go_at_call 103; refine (modulo_any _ 4 (by omega) (by omega) (by omega) (by omega) _).mono ?_; rintro e w' ⟨rfl, rfl⟩)
      go_roundw
      case rel =>
        rw [HGJ.out] at HSET HOTH
        exact ⟨j + 1, by omega, by go_num, HSET.out, HOTH.out, HB.out.setCell (Nat.le_refl _) _⟩
      case measure => simp [intOf]; omega
    · have he : gen N (fun i => if i < j then G i else l.getD i 0) = gen N G := gen_ext (fun i hi => by rw [if_pos (by omega)])
      rw [he] at hb0 hpl2
      have HB0 := Lib.hid hb0
      have HB1 := Lib.hid hb1
      have hpz : (phA (padL (gen N G)) (N : Int)).size = 33 := phA_size _ _ hpl2
      have HPZ := Lib.hid hpz
      have hinfo : (Try.prog.info? 47).map (·.size) = some (phA (padL (gen N G)) (N : Int)).size := by rw [hpz]; exact infoPh
      have HINFO := Lib.hid hinfo
      obtain ⟨C, hC⟩ : ∃ C, C = phA (padL (gen N G)) (N : Int) := ⟨_, rfl⟩
      have hC1 : C.all (·.oneCell') = true := by rw [hC]; exact phA_one _ _
      rw [← hC] at HB0 HPZ HINFO
      have HC1 := Lib.hid hC1
      have HC := Lib.hid hC
      clear he hb0 hb1 hpz hinfo hC hC1 hgl hpl2 hbel hlen
      go_wp2_with (first
        | (refine wpList_load_row rfl 47 (.tmp 2) rfl w.heap.size rfl 47 C (0, 0) _ HB0.out Try.underlying47 rfl HINFO.out ?_)
        | (refine wpList_store_big rfl 47 (.tmp 4) (.tmp 22) rfl (w.heap.size + 1) C rfl rfl 47 (phA z32 0) HB1.out 33 infoPh HPZ.out (phA_size _ _ z32_length) HC1.out w.heap.size w HB.out (by omega) ?_; intro w4 hg4 ho4 hz4 hb4))
      refine bodyPost_ret (v := .agg C) ?_ rfl ⟨?_, ‹_›⟩
      · exact results_cell_row Try.results89 _ _ (w.heap.size + 1) 47 C (0, 0) _ rfl (by assumption) Try.underlying47 rfl HINFO.out
      · rw [HC.out]
end
section
open Go.RowKit

set_option maxRecDepth 100000 in
set_option maxHeartbeats 2000000 in
theorem climbed_any (l : List Int) (k : Int) (hl : isSeq l = true) (hk1 : 0 ≤ k) (hk2 : k ≤ 3) (w : World) : Calls Try.prog 88 #[.agg (phA (padL l) l.length), .int .i64 k] w (Ret w (.agg (phA (padL (gen l.length (fun (i : Nat) => (l.getD i 0 + k * i) % 4))) l.length))) := by
  have h32 := isSeq_len hl
  have hall := isSeq_all hl
  have HALL := Lib.hid hall
  clear hall hl
  obtain ⟨N, hN⟩ : ∃ N, N = l.length := ⟨_, rfl⟩
  obtain ⟨G, hG⟩ : ∃ G : Nat → Int, G = fun (i : Nat) => (l.getD i 0 + k * i) % 4 := ⟨_, rfl⟩
  have hpl : (padL l).length = 32 := padL_length h32
  have hlen := phA_len (padL l) (l.length : Int) hpl
  obtain ⟨cs, hcs⟩ : ∃ cs, cs = phA (padL l) (l.length : Int) := ⟨_, rfl⟩
  have hsz : cs.size = 33 := by rw [hcs]; exact phA_size _ _ hpl
  rw [← hG, ← hcs]
  rw [← hcs] at hlen
  rw [← hN] at hlen h32 ⊢
  have HCS := Lib.hid hcs
  have HN := Lib.hid hN
  have HG := Lib.hid hG
  have HSZ := Lib.hid hsz
  have HPL := Lib.hid hpl
  clear hcs hN hG hsz hpl
  go_enter Try.func88, Try.ntmps88
  go_wp2_with (refine wpList_alloc_big rfl 47 rfl (phA z32 0) zeroPh ?_)
  go_loopw [8] (fun i wr => ∃ j : Nat, j ≤ N ∧ i = .int .i64 j ∧ wr.heap[w.heap.size]? = some (.cells (phA (padL (gen N (fun i => if i < j then G i else l.getD i 0))) N) 47 (0, 0)) ∧ wr.heap[w.heap.size + 1]? = some (.cells (phA z32 0) 47 (0, 0)) ∧ Below w.heap.size w wr) (fun i _ => N - (intOf i).toNat)
  case atStart =>
    refine ⟨0, Nat.zero_le _, rfl, ?_, ?_, by go_grown⟩
    · rw [heap_alloc2_old, HCS.out]
      have e : gen N (fun i => if i < 0 then G i else l.getD i 0) = l := by
        rw [HN.out]
        refine Eq.trans (gen_ext (fun i _ => ?_)) (gen_self l)
        rw [if_neg (Nat.not_lt_zero _)]
      rw [e, HN.out]
    · exact heap_alloc2_new w _ _
  case round =>
    obtain ⟨j, hj, rfl, hb0, hb1, hbel⟩ := hrel
    have hgl : (gen N (fun i => if i < j then G i else l.getD i 0)).length = N := gen_length _ _
    have hpl2 : (padL (gen N (fun i => if i < j then G i else l.getD i 0))).length = 32 := padL_length (by rw [hgl]; exact h32)
    have c32 : wr.cell? ⟨w.heap.size, 32, none⟩ = some (.int .i64 N) := by rw [cell_of_row wr _ _ _ _ _ hb0, phA_len _ _ hpl2]
    have HB := Lib.hid hbel
    by_cases hlt : j < N
    · have hx := allIn_getD HALL.out j (by rw [← HN.out]; exact hlt)
      have cj : wr.cell? ⟨w.heap.size, j, none⟩ = some (.int .i64 (l.getD j 0)) := by
        rw [cell_of_row wr _ _ _ _ _ hb0, phA_get _ _ j (by omega), pad_getD _ j (by rw [hgl]; exact hlt), gen_getD _ _ j hlt, if_neg (Nat.lt_irrefl _)]
      have fj : wr.frozen? ⟨w.heap.size, j, none⟩ = false := frozen_of_row wr _ _ _ _ hb0
      have hgj : G j = (l.getD j 0 + k * j) % 4 := by rw [HG.out]
      have hset := heap_setCell_same wr w.heap.size j _ _ (.int .i64 (G j)) hb0
      rw [phA_set _ _ j (by omega), pad_set _ j _ (by rw [hgl]; exact hlt), gen_set] at hset
      have hoth := heap_setCell_other wr ⟨w.heap.size, j, none⟩ (w.heap.size + 1) (.int .i64 (G j)) (by simp)
      have e2 : gen N (fun i => if i = j then G j else if i < j then G i else l.getD i 0) = gen N (fun i => if i < j + 1 then G i else l.getD i 0) := by
        apply gen_ext
        intro i _
        by_cases h1 : i = j
        · subst h1; rw [if_pos rfl, if_pos (Nat.lt_succ_self _)]
        · rw [if_neg h1]
          by_cases h2 : i < j
          · rw [if_pos h2, if_pos (Nat.lt_succ_of_lt h2)]
          · rw [if_neg h2, if_neg (by omega)]
      rw [e2] at hset
      rw [hb1] at hoth
      obtain ⟨x, hxd⟩ : ∃ x, x = l.getD j 0 := ⟨_, rfl⟩
      rw [← hxd] at hx cj hgj
      have HSET := Lib.hid hset
      have HOTH := Lib.hid hoth
      have HGJ := Lib.hid hgj
      obtain ⟨hx1, hx2⟩ := hx
      have h0 : (0 : Int) ≤ (j : Int) := by omega
      have h1 : (j : Int) < 32 := by omega
      have h1' : (j : Int) < (N : Int) := by omega
      have hkj1 : 0 ≤ k * (j : Int) := Int.mul_nonneg hk1 h0
      have hkj2 : k * (j : Int) ≤ 96 := by
        have := Int.mul_le_mul hk2 (show (j : Int) ≤ 32 by omega) h0 (by omega)
        omega
      clear hset hoth hgj hxd e2 hgl hpl2 hb0 hb1 hbel hlen
      go_wp2_with (go_at_call 103; refine (modulo_any _ 4 (by omega) (by omega) (by omega) (by omega) _).mono ?_; rintro e w' ⟨rfl, rfl⟩)
      go_roundw
      case rel =>
        rw [HGJ.out] at HSET HOTH
        exact ⟨j + 1, by omega, by go_num, HSET.out, HOTH.out, HB.out.setCell (Nat.le_refl _) _⟩
      case measure => simp [intOf]; omega
    · have he : gen N (fun i => if i < j then G i else l.getD i 0) = gen N G := gen_ext (fun i hi => by rw [if_pos (by omega)])
      rw [he] at hb0 hpl2
      have HB0 := Lib.hid hb0
      have HB1 := Lib.hid hb1
      have hpz : (phA (padL (gen N G)) (N : Int)).size = 33 := phA_size _ _ hpl2
      have HPZ := Lib.hid hpz
      have hinfo : (Try.prog.info? 47).map (·.size) = some (phA (padL (gen N G)) (N : Int)).size := by rw [hpz]; exact infoPh
      have HINFO := Lib.hid hinfo
      obtain ⟨C, hC⟩ : ∃ C, C = phA (padL (gen N G)) (N : Int) := ⟨_, rfl⟩
      have hC1 : C.all (·.oneCell') = true := by rw [hC]; exact phA_one _ _
      rw [← hC] at HB0 HPZ HINFO
      have HC1 := Lib.hid hC1
      have HC := Lib.hid hC
      clear he hb0 hb1 hpz hinfo hC hC1 hgl hpl2 hbel hlen
      go_wp2_with (first
        | (refine wpList_load_row rfl 47 (.tmp 2) rfl w.heap.size rfl 47 C (0, 0) _ HB0.out Try.underlying47 rfl HINFO.out ?_)
        | (refine wpList_store_big rfl 47 (.tmp 4) (.tmp 24) rfl (w.heap.size + 1) C rfl rfl 47 (phA z32 0) HB1.out 33 infoPh HPZ.out (phA_size _ _ z32_length) HC1.out w.heap.size w HB.out (by omega) ?_; intro w4 hg4 ho4 hz4 hb4))
      refine bodyPost_ret (v := .agg C) ?_ rfl ⟨?_, ‹_›⟩
      · exact results_cell_row Try.results88 _ _ (w.heap.size + 1) 47 C (0, 0) _ rfl (by assumption) Try.underlying47 rfl HINFO.out
      · rw [HC.out]
end
section
open Go.RowKit

set_option maxRecDepth 100000 in
set_option maxHeartbeats 2000000 in
theorem conjugate_any (l : List Int) (hl : isSeq l = true) (w : World) : Calls Try.prog 86 #[.agg (phA (padL l) l.length)] w (Ret w (.agg (phA (padL (gen l.length (fun (i : Nat) => (-(l.getD i 0)) % 4))) l.length))) := by
  have h32 := isSeq_len hl
  have hall := isSeq_all hl
  have HALL := Lib.hid hall
  clear hall hl
  obtain ⟨N, hN⟩ : ∃ N, N = l.length := ⟨_, rfl⟩
  obtain ⟨G, hG⟩ : ∃ G : Nat → Int, G = fun (i : Nat) => (-(l.getD i 0)) % 4 := ⟨_, rfl⟩
  have hpl : (padL l).length = 32 := padL_length h32
  have hlen := phA_len (padL l) (l.length : Int) hpl
  obtain ⟨cs, hcs⟩ : ∃ cs, cs = phA (padL l) (l.length : Int) := ⟨_, rfl⟩
  have hsz : cs.size = 33 := by rw [hcs]; exact phA_size _ _ hpl
  rw [← hG, ← hcs]
  rw [← hcs] at hlen
  rw [← hN] at hlen h32 ⊢
  have HCS := Lib.hid hcs
  have HN := Lib.hid hN
  have HG := Lib.hid hG
  have HSZ := Lib.hid hsz
  have HPL := Lib.hid hpl
  clear hcs hN hG hsz hpl
  go_enter Try.func86, Try.ntmps86
  go_wp2_with (refine wpList_alloc_big rfl 47 rfl (phA z32 0) zeroPh ?_)
  go_loopw [6] (fun i wr => ∃ j : Nat, j ≤ N ∧ i = .int .i64 j ∧ wr.heap[w.heap.size]? = some (.cells (phA (padL (gen N (fun i => if i < j then G i else l.getD i 0))) N) 47 (0, 0)) ∧ wr.heap[w.heap.size + 1]? = some (.cells (phA z32 0) 47 (0, 0)) ∧ Below w.heap.size w wr) (fun i _ => N - (intOf i).toNat)
  case atStart =>
    refine ⟨0, Nat.zero_le _, rfl, ?_, ?_, by go_grown⟩
    · rw [heap_alloc2_old, HCS.out]
      have e : gen N (fun i => if i < 0 then G i else l.getD i 0) = l := by
        rw [HN.out]
        refine Eq.trans (gen_ext (fun i _ => ?_)) (gen_self l)
        rw [if_neg (Nat.not_lt_zero _)]
      rw [e, HN.out]
    · exact heap_alloc2_new w _ _
  case round =>
    obtain ⟨j, hj, rfl, hb0, hb1, hbel⟩ := hrel
    have hgl : (gen N (fun i => if i < j then G i else l.getD i 0)).length = N := gen_length _ _
    have hpl2 : (padL (gen N (fun i => if i < j then G i else l.getD i 0))).length = 32 := padL_length (by rw [hgl]; exact h32)
    have c32 : wr.cell? ⟨w.heap.size, 32, none⟩ = some (.int .i64 N) := by rw [cell_of_row wr _ _ _ _ _ hb0, phA_len _ _ hpl2]
    have HB := Lib.hid hbel
    by_cases hlt : j < N
    · have hx := allIn_getD HALL.out j (by rw [← HN.out]; exact hlt)
      have cj : wr.cell? ⟨w.heap.size, j, none⟩ = some (.int .i64 (l.getD j 0)) := by
        rw [cell_of_row wr _ _ _ _ _ hb0, phA_get _ _ j (by omega), pad_getD _ j (by rw [hgl]; exact hlt), gen_getD _ _ j hlt, if_neg (Nat.lt_irrefl _)]
      have fj : wr.frozen? ⟨w.heap.size, j, none⟩ = false := frozen_of_row wr _ _ _ _ hb0
      have hgj : G j = (-(l.getD j 0)) % 4 := by rw [HG.out]
      have hset := heap_setCell_same wr w.heap.size j _ _ (.int .i64 (G j)) hb0
      rw [phA_set _ _ j (by omega), pad_set _ j _ (by rw [hgl]; exact hlt), gen_set] at hset
      have hoth := heap_setCell_other wr ⟨w.heap.size, j, none⟩ (w.heap.size + 1) (.int .i64 (G j)) (by simp)
      have e2 : gen N (fun i => if i = j then G j else if i < j then G i else l.getD i 0) = gen N (fun i => if i < j + 1 then G i else l.getD i 0) := by
        apply gen_ext
        intro i _
        by_cases h1 : i = j
        · subst h1; rw [if_pos rfl, if_pos (Nat.lt_succ_self _)]
        · rw [if_neg h1]
          by_cases h2 : i < j
          · rw [if_pos h2, if_pos (Nat.lt_succ_of_lt h2)]
          · rw [if_neg h2, if_neg (by omega)]
      rw [e2] at hset
      rw [hb1] at hoth
      obtain ⟨x, hxd⟩ : ∃ x, x = l.getD j 0 := ⟨_, rfl⟩
      rw [← hxd] at hx cj hgj
      have HSET := Lib.hid hset
      have HOTH := Lib.hid hoth
      have HGJ := Lib.hid hgj
      obtain ⟨hx1, hx2⟩ := hx
      have h0 : (0 : Int) ≤ (j : Int) := by omega
      have h1 : (j : Int) < 32 := by omega
      have h1' : (j : Int) < (N : Int) := by omega
      clear hset hoth hgj hxd e2 hgl hpl2 hb0 hb1 hbel hlen
      go_wp2_with (go_at_call 103; refine (modulo_any _ 4 (by omega) (by omega) (by omega) (by omega) _).mono ?_; rintro e w' ⟨rfl, rfl⟩)
      go_roundw
      case rel =>
        rw [HGJ.out] at HSET HOTH
        exact ⟨j + 1, by omega, by go_num, HSET.out, HOTH.out, HB.out.setCell (Nat.le_refl _) _⟩
      case measure => simp [intOf]; omega
    · have he : gen N (fun i => if i < j then G i else l.getD i 0) = gen N G := gen_ext (fun i hi => by rw [if_pos (by omega)])
      rw [he] at hb0 hpl2
      have HB0 := Lib.hid hb0
      have HB1 := Lib.hid hb1
      have hpz : (phA (padL (gen N G)) (N : Int)).size = 33 := phA_size _ _ hpl2
      have HPZ := Lib.hid hpz
      have hinfo : (Try.prog.info? 47).map (·.size) = some (phA (padL (gen N G)) (N : Int)).size := by rw [hpz]; exact infoPh
      have HINFO := Lib.hid hinfo
      obtain ⟨C, hC⟩ : ∃ C, C = phA (padL (gen N G)) (N : Int) := ⟨_, rfl⟩
      have hC1 : C.all (·.oneCell') = true := by rw [hC]; exact phA_one _ _
      rw [← hC] at HB0 HPZ HINFO
      have HC1 := Lib.hid hC1
      have HC := Lib.hid hC
      clear he hb0 hb1 hpz hinfo hC hC1 hgl hpl2 hbel hlen
      go_wp2_with (first
        | (refine wpList_load_row rfl 47 (.tmp 1) rfl w.heap.size rfl 47 C (0, 0) _ HB0.out Try.underlying47 rfl HINFO.out ?_)
        | (refine wpList_store_big rfl 47 (.tmp 2) (.tmp 19) rfl (w.heap.size + 1) C rfl rfl 47 (phA z32 0) HB1.out 33 infoPh HPZ.out (phA_size _ _ z32_length) HC1.out w.heap.size w HB.out (by omega) ?_; intro w4 hg4 ho4 hz4 hb4))
      refine bodyPost_ret (v := .agg C) ?_ rfl ⟨?_, ‹_›⟩
      · exact results_cell_row Try.results86 _ _ (w.heap.size + 1) 47 C (0, 0) _ rfl (by assumption) Try.underlying47 rfl HINFO.out
      · rw [HC.out]
end
section
open Go.RowKit

set_option maxRecDepth 100000 in
set_option maxHeartbeats 2000000 in
theorem backwards_any (l : List Int) (hl : isSeq l = true) (w : World) : Calls Try.prog 87 #[.agg (phA (padL l) l.length)] w (Ret w (.agg (phA (padL (gen l.length (fun (i : Nat) => l.getD (l.length - 1 - i) 0))) l.length))) := by
  have h32 := isSeq_len hl
  clear hl
  obtain ⟨N, hN⟩ : ∃ N, N = l.length := ⟨_, rfl⟩
  obtain ⟨G, hG⟩ : ∃ G : Nat → Int, G = fun (i : Nat) => l.getD (l.length - 1 - i) 0 := ⟨_, rfl⟩
  have hpl : (padL l).length = 32 := padL_length h32
  have hlen := phA_len (padL l) (l.length : Int) hpl
  have hget : ∀ i : Nat, i < l.length → (phA (padL l) (l.length : Int))[i]? = some (.int .i64 (l.getD i 0)) := fun i hi => by rw [phA_get _ _ i (by omega), pad_getD l i hi]
  obtain ⟨cs, hcs⟩ : ∃ cs, cs = phA (padL l) (l.length : Int) := ⟨_, rfl⟩
  rw [← hG, ← hcs]
  rw [← hcs] at hlen hget
  rw [← hN] at hlen h32 hget ⊢
  have HN := Lib.hid hN
  have HG := Lib.hid hG
  have HGET := Lib.hid hget
  have HLEN := Lib.hid hlen
  clear hcs hN hG hpl hget
  go_enter Try.func87, Try.ntmps87
  go_wp2_with (first
    | (refine wpList_alloc_big rfl 47 rfl (phA z32 0) zeroPh ?_; simp only [World.size_alloc, Act.put, List.setIfInBounds_toArray, List.set_cons_zero, List.set_cons_succ])
    | ((refine wpList_store_big rfl 47 (.tmp 3) (.tmp 7) rfl (w.heap.size + 1 + 1) (phA z32 N) rfl rfl 47 (phA z32 0) (by have := heap_alloc_new ((w.alloc (.cells cs 47)).alloc (.cells (phA z32 0) 47)) (.cells (phA z32 0) 47); rw [World.size_alloc, World.size_alloc] at this; exact this) 33 infoPh (phA_size _ _ z32_length) (phA_size _ _ z32_length) (phA_one _ _) w.heap.size w (by go_grown) (by omega) ?_); intro w2 hg2 ho2 hz2 hb2; have k32 : w2.cell? ⟨w.heap.size, 32, none⟩ = some (.int .i64 N) := (by rw [cell_of_row w2 w.heap.size 32 cs 47 (0, 0) ((ho2 w.heap.size (by omega)).trans (by rw [heap_alloc_old _ _ (by simp; omega)]; exact heap_alloc2_old w _ _))]; exact HLEN.out)))
  have hs0 : w2.heap[w.heap.size]? = some (.cells cs 47 (0, 0)) := (ho2 w.heap.size (by omega)).trans (by rw [heap_alloc_old _ _ (by simp; omega)]; exact heap_alloc2_old w _ _)
  have hs1 : w2.heap[w.heap.size + 1]? = some (.cells (phA z32 0) 47 (0, 0)) := (ho2 (w.heap.size + 1) (by omega)).trans (by rw [heap_alloc_old _ _ (by simp)]; exact heap_alloc2_new w _ _)
  have HS0 := Lib.hid hs0
  have HS1 := Lib.hid hs1
  have HS2 := Lib.hid hg2
  have HB2 := Lib.hid hb2
  clear hs0 hs1 hg2 ho2 hz2 hb2 k32
  go_loopw [10] (fun i wr => ∃ j : Nat, j ≤ N ∧ i = .int .i64 j ∧ wr.heap[w.heap.size]? = some (.cells cs 47 (0, 0)) ∧ wr.heap[w.heap.size + 1]? = some (.cells (phA z32 0) 47 (0, 0)) ∧ wr.heap[w.heap.size + 1 + 1]? = some (.cells (phA (padL (gen j G)) N) 47 (0, 0)) ∧ Below w.heap.size w wr) (fun i _ => N - (intOf i).toNat)
  case atStart => exact ⟨0, Nat.zero_le _, rfl, HS0.out, HS1.out, HS2.out, HB2.out⟩
  case round =>
    obtain ⟨j, hj, rfl, hb0, hb1, hbq, hbel⟩ := hrel
    have hgl : (gen j G).length = j := gen_length _ _
    have hpl2 : (padL (gen j G)).length = 32 := padL_length (by rw [hgl]; omega)
    have c32 : wr.cell? ⟨w.heap.size, 32, none⟩ = some (.int .i64 N) := by rw [cell_of_row wr _ _ _ _ _ hb0]; exact HLEN.out
    have HB := Lib.hid hbel
    by_cases hlt : j < N
    · have h0 : (0 : Int) ≤ (j : Int) := by omega
      have h1 : (j : Int) < 32 := by omega
      have h1' : (j : Int) < (N : Int) := by omega
      have hn32 : (N : Int) ≤ 32 := by omega
      obtain ⟨M, hM⟩ : ∃ M : Nat, M + j + 1 = N := ⟨N - 1 - j, by omega⟩
      have hM2 : M < N := by omega
      have hMi : (N : Int) - 1 - (j : Int) = (M : Int) := by omega
      have hMn : l.length - 1 - j = M := by rw [← HN.out]; omega
      have HMI := Lib.hid hMi
      have HMN := Lib.hid hMn
      have HM := Lib.hid hM
      clear hMi hMn hM
      have cM : wr.cell? ⟨w.heap.size, M, none⟩ = some (.int .i64 (l.getD M 0)) := by rw [cell_of_row wr _ _ _ _ _ hb0]; exact HGET.out M hM2
      have cj : wr.cell? ⟨w.heap.size + 1 + 1, j, none⟩ = some (.int .i64 0) := by rw [cell_of_row wr _ _ _ _ _ hbq, phA_get _ _ j (by omega), pad_at _ j (by omega)]
      have fj : wr.frozen? ⟨w.heap.size + 1 + 1, j, none⟩ = false := frozen_of_row wr _ _ _ _ hbq
      have hgj : G j = l.getD M 0 := by rw [HG.out]; show l.getD (l.length - 1 - j) 0 = _; rw [HMN.out]
      have hset := heap_setCell_same wr (w.heap.size + 1 + 1) j _ _ (.int .i64 (G j)) hbq
      rw [phA_set _ _ j (by omega), pad_snoc G j (by omega)] at hset
      have ho0 := heap_setCell_other wr ⟨w.heap.size + 1 + 1, j, none⟩ w.heap.size (.int .i64 (G j)) (by simp; try omega)
      have ho1 := heap_setCell_other wr ⟨w.heap.size + 1 + 1, j, none⟩ (w.heap.size + 1) (.int .i64 (G j)) (by simp; try omega)
      rw [hb0] at ho0
      rw [hb1] at ho1
      obtain ⟨x, hxd⟩ : ∃ x, x = l.getD M 0 := ⟨_, rfl⟩
      rw [← hxd] at cM hgj
      rw [hgj] at hset ho0 ho1
      have HSET := Lib.hid hset
      have HO0 := Lib.hid ho0
      have HO1 := Lib.hid ho1
      have hM3 : (M : Int) < 32 := by omega
      have hM4 : (0 : Int) ≤ (M : Int) := by omega
      clear hset ho0 ho1 hgj hxd hgl hpl2 hb0 hb1 hbq hbel hlen
      have hMi := HMI.out
      go_wp2_with fail
      try rw [HMI.out]
      go_roundw
      case rel => exact ⟨j + 1, by omega, by go_num, HO0.out, HO1.out, HSET.out, HB.out.setCell (by simp; omega) _⟩
      case measure => simp [intOf]; omega
    · have he : j = N := by omega
      subst he
      have HB0 := Lib.hid hbq
      have HB1 := Lib.hid hb1
      have hpz : (phA (padL (gen j G)) (j : Int)).size = 33 := phA_size _ _ hpl2
      have HPZ := Lib.hid hpz
      have hinfo : (Try.prog.info? 47).map (·.size) = some (phA (padL (gen j G)) (j : Int)).size := by rw [hpz]; exact infoPh
      have HINFO := Lib.hid hinfo
      obtain ⟨C, hC⟩ : ∃ C, C = phA (padL (gen j G)) (j : Int) := ⟨_, rfl⟩
      have hC1 : C.all (·.oneCell') = true := by rw [hC]; exact phA_one _ _
      rw [← hC] at HB0 HPZ HINFO
      have HC1 := Lib.hid hC1
      have HC := Lib.hid hC
      clear hb0 hb1 hbq hpz hinfo hC hC1 hgl hpl2 hbel hlen
      go_wp2_with (first
        | (refine wpList_load_row rfl 47 (.tmp 3) rfl (w.heap.size + 1 + 1) rfl 47 C (0, 0) _ HB0.out Try.underlying47 rfl HINFO.out ?_)
        | (refine wpList_store_big rfl 47 (.tmp 2) (.tmp 25) rfl (w.heap.size + 1) C rfl rfl 47 (phA z32 0) HB1.out 33 infoPh HPZ.out (phA_size _ _ z32_length) HC1.out w.heap.size w HB.out (by omega) ?_; intro w4 hg4 ho4 hz4 hb4))
      refine bodyPost_ret (v := .agg C) ?_ rfl ⟨?_, ‹_›⟩
      · exact results_cell_row Try.results87 _ _ (w.heap.size + 1) 47 C (0, 0) _ rfl (by assumption) Try.underlying47 rfl HINFO.out
      · rw [HC.out]
end
section
open Go.RowKit

def turnG (l : List Int) (k : Int) : List Int := gen l.length (fun (i : Nat) => (l.getD i 0 + k) % 4)
def turnOk (l : List Int) (k : Int) : Bool := isSeq l && decide (-1000 ≤ k ∧ k ≤ 1000)
def turnF (l : List Int) (k : Int) : List Int := if turnOk l k then turnG l k else []
theorem turnF_len (l : List Int) (k : Int) : (turnF l k).length ≤ 1048576 := by
  unfold turnF
  split
  · rename_i h
    have h1 : isSeq l = true := by unfold turnOk at h; first | exact h | (simp only [Bool.and_eq_true] at h; exact h.1)
    have := isSeq_len h1
    unfold turnG
    rw [gen_length]
    omega
  · simp
end
section
open Go.RowKit

def climbG (l : List Int) (k : Int) : List Int := gen l.length (fun (i : Nat) => (l.getD i 0 + k * i) % 4)
def climbOk (l : List Int) (k : Int) : Bool := isSeq l && decide (0 ≤ k ∧ k ≤ 3)
def climbF (l : List Int) (k : Int) : List Int := if climbOk l k then climbG l k else []
theorem climbF_len (l : List Int) (k : Int) : (climbF l k).length ≤ 1048576 := by
  unfold climbF
  split
  · rename_i h
    have h1 : isSeq l = true := by unfold climbOk at h; first | exact h | (simp only [Bool.and_eq_true] at h; exact h.1)
    have := isSeq_len h1
    unfold climbG
    rw [gen_length]
    omega
  · simp
end
section
open Go.RowKit

def barG (l : List Int) : List Int := gen l.length (fun (i : Nat) => (-(l.getD i 0)) % 4)
def barOk (l : List Int) : Bool := isSeq l
def barF (l : List Int) : List Int := if barOk l then barG l else []
theorem barF_len (l : List Int) : (barF l).length ≤ 1048576 := by
  unfold barF
  split
  · rename_i h
    have h1 : isSeq l = true := by unfold barOk at h; first | exact h | (simp only [Bool.and_eq_true] at h; exact h.1)
    have := isSeq_len h1
    unfold barG
    rw [gen_length]
    omega
  · simp
end
section
open Go.RowKit

def backG (l : List Int) : List Int := gen l.length (fun (i : Nat) => l.getD (l.length - 1 - i) 0)
def backOk (l : List Int) : Bool := isSeq l
def backF (l : List Int) : List Int := if backOk l then backG l else []
theorem backF_len (l : List Int) : (backF l).length ≤ 1048576 := by
  unfold backF
  split
  · rename_i h
    have h1 : isSeq l = true := by unfold backOk at h; first | exact h | (simp only [Bool.and_eq_true] at h; exact h.1)
    have := isSeq_len h1
    unfold backG
    rw [gen_length]
    omega
  · simp
end
section
open Go.RowKit

def weaveG (l m : List Int) : List Int := gen (2 * l.length) (fun (i : Nat) => if i % 2 = 0 then l.getD (i / 2) 0 else m.getD (i / 2) 0)
def weaveC (l m : List Int) : Bool := decide (l.length = m.length ∧ l.length + m.length ≤ 32)
def weaveOk (l m : List Int) : Bool := isSeq l && isSeq m && weaveC l m
def weaveF (l m : List Int) : List Int := if weaveOk l m then weaveG l m else []
theorem weaveG_len (l m : List Int) (hl : isSeq l = true) (hm : isSeq m = true) (h : weaveC l m = true) : (weaveG l m).length ≤ 32 := by
  have h1 := isSeq_len hl
  have h2 := isSeq_len hm
  have h3 := of_decide_eq_true h
  simp [weaveG, gen_length]
  omega
theorem weaveF_len (l m : List Int) : (weaveF l m).length ≤ 1048576 := by
  unfold weaveF
  split
  · rename_i h
    simp only [weaveOk, Bool.and_eq_true] at h
    have := weaveG_len l m h.1.1 h.1.2 h.2
    omega
  · simp
end
section
open Go.RowKit

def joinG (l m : List Int) : List Int := l ++ m
def joinC (l m : List Int) : Bool := decide (l.length + m.length ≤ 32)
def joinOk (l m : List Int) : Bool := isSeq l && isSeq m && joinC l m
def joinF (l m : List Int) : List Int := if joinOk l m then joinG l m else []
theorem joinG_len (l m : List Int) (hl : isSeq l = true) (hm : isSeq m = true) (h : joinC l m = true) : (joinG l m).length ≤ 32 := by
  have h1 := isSeq_len hl
  have h2 := isSeq_len hm
  have h3 := of_decide_eq_true h
  simp [joinG]
  omega
theorem joinF_len (l m : List Int) : (joinF l m).length ≤ 1048576 := by
  unfold joinF
  split
  · rename_i h
    simp only [joinOk, Bool.and_eq_true] at h
    have := joinG_len l m h.1.1 h.1.2 h.2
    omega
  · simp
end
section
open Go.RowKit

def prodG (l m : List Int) : List Int := gen l.length (fun (i : Nat) => (l.getD i 0 + m.getD i 0) % 4)
def prodC (l m : List Int) : Bool := decide (l.length = m.length)
def prodOk (l m : List Int) : Bool := isSeq l && isSeq m && prodC l m
def prodF (l m : List Int) : List Int := if prodOk l m then prodG l m else []
theorem prodG_len (l m : List Int) (hl : isSeq l = true) (hm : isSeq m = true) (h : prodC l m = true) : (prodG l m).length ≤ 32 := by
  have h1 := isSeq_len hl
  have h2 := isSeq_len hm
  have h3 := of_decide_eq_true h
  simp [prodG, gen_length]
  omega
theorem prodF_len (l m : List Int) : (prodF l m).length ≤ 1048576 := by
  unfold prodF
  split
  · rename_i h
    simp only [prodOk, Bool.and_eq_true] at h
    have := prodG_len l m h.1.1 h.1.2 h.2
    omega
  · simp
end
section
open Go.RowKit

/-- A copy into a row; the world behind it under a name, all other rows as they were. -/
theorem wpList_copy_keep {P : Program} {w : World} {ops : Array Oper} {rest : List Oper} {o : Oper} {a : Act} {Q : Exit → Act → World → Prop} (hgd : o.guard = none) (d s : Operand) (dT sT : TypeId)
    (ho : o.op = .call { callee := .builtin .copy, args := #[d, s], argTypes := #[dT, sT] }) (elem : TypeId) (hu : P.underlying dT = some (.slice elem)) (hsz : (P.info? elem).map (·.size) = some 1)
    (dp sp : Option Addr) (dLen dCap sLen sCap : Nat) (hd : a.eval d = .slice dp dLen dCap) (hs : a.eval s = .slice sp sLen sCap)
    (g off : Nat) (cur : Array Value) (t : TypeId) (hg : w.heap[g]? = some (.cells cur t (0, 0))) (cs : List Value) (hn : cs.length = Nat.min sLen dLen)
    (hpos : 0 < cs.length → dp = some ⟨g, off, none⟩ ∧ ∃ ad, sp = some ad ∧ ∀ j v, cs[j]? = some v → w.cell? (ad.add j) = some v)
    (hfit : off + cs.length ≤ cur.size) (h1 : ∀ v ∈ cs, v.oneCell' = true) (S : Nat) (w0 : World) (hb : Below S w0 w) (hS : S ≤ g)
    (h : ∀ w', w'.heap[g]? = some (.cells (splice cur.toList off cs).toArray t (0, 0)) → (∀ k, k ≠ g → w'.heap[k]? = w.heap[k]?) → w'.heap.size = w.heap.size → Below S w0 w' → wpList P ops Q rest (a.put o.dst (goInt cs.length)) w') :
    wpList P ops Q (o :: rest) a w := by
  by_cases h0 : cs.length = 0
  · obtain rfl : cs = [] := List.eq_nil_of_length_eq_zero h0
    refine wpList_copy_nothing hgd d s dT sT ho elem hu hsz dp sp dLen dCap sLen sCap hd hs (by simpa using hn.symm) ?_
    refine h w ?_ (fun _ _ => rfl) rfl hb
    rw [hg]
    simp [splice]
  · obtain ⟨rfl, ad, rfl, hsrc⟩ := hpos (by omega)
    refine wpList_copy_own hgd d s dT sT ho elem hu hsz g off dLen dCap ad sLen sCap hd hs cur t hg cs hn hsrc hfit h1 ?_
    exact h _ (setRow_heap w g _ _ t _ hg) (fun k hk => setRow_other w g k _ hk) (by simp) (below_setRow hb hS _)

theorem slice_l (g n : Nat) (hn : n ≤ 32) (w : World) : (Instr.sliceAt 45 (.pointer (some ⟨g, 0, none⟩)) (some (.int .i64 n)) none none).run Try.prog w = .ok (.slice (some (if 32 = n then ⟨g, 0, none⟩ else (⟨g, 0, none⟩ : Addr).add n)) (32 - n) (32 - n)) w := by
  have hu : Try.prog.underlying 45 = some (.array (Try.prog.arrayLen 45) (Try.prog.elem 45)) := by rw [lenArr, elemArr]; exact Try.underlying45
  rw [run_sliceAt_array_l w _ _ hu .i64 n (by omega) (by rw [lenArr]; omega), lenArr, elemArr]
  simp [go_sem]
theorem phA_setlen (A : List Int) (n x : Int) (h : A.length = 32) : (phA A n).setIfInBounds 32 (.int .i64 x) = phA A x := by
  apply Array.ext_getElem?
  intro j
  simp only [phA]
  rw [List.setIfInBounds_toArray]
  simp only [List.getElem?_toArray]
  rw [← List.map_set, List.set_append_right _ _ (by omega), h]
  rfl
theorem splice_join (l m : List Int) (c : Int) (h : l.length + m.length ≤ 32) : (splice (phA (padL l) c).toList l.length (m.map (Value.int .i64))).toArray = phA (padL (l ++ m)) c := by
  unfold splice phA padL
  simp only [List.length_map]
  rw [← List.map_take, ← List.map_drop, ← List.map_append, ← List.map_append]
  congr 2
  rw [List.append_assoc, List.take_left, List.drop_append, List.drop_of_length_le (by omega), List.nil_append, show l.length + m.length - l.length = m.length by omega]
  rw [List.drop_append_of_le_length (by simp; omega), List.drop_replicate, List.append_assoc, List.append_assoc, List.length_append]
  congr 4
  omega

end
section
open Go.RowKit

theorem weaveG_length (l m : List Int) : (weaveG l m).length = 2 * l.length := gen_length _ _

end
end Go.Proofs.Ytcagiecgbjnefab
