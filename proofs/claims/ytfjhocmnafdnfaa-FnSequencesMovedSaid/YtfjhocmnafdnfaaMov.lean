/- The program's turned: each phase of its own copy in turn. The program's climbed: each phase of its own copy in turn. The program's conjugate: each phase of its own copy in turn. The program's backwards: each phase of another sequence in turn. The program's TurnBy. The program's ClimbBy. The program's ConjugateOf. The program's BackwardsOf. InterleaveOf: what it returns. JoinOf: what it returns. ProductOf: what it returns. The program's joined: one sequence behind another, as values. The program's interleaved: two sequences in turn, as values. -/
import Derived.StillTailTactics
import Derived.Test.YtfjhocmnafdnfaaPhs
namespace Go.Proofs.Ytfjhocmnafdnfaa
set_option maxRecDepth 100000
section
open Go.RowKit

set_option maxRecDepth 100000 in
set_option maxHeartbeats 2000000 in
theorem turned_any (l : List Int) (k : Int) (hl : isSeq l = true) (hk1 : -1000 ≤ k) (hk2 : k ≤ 1000) (w : World) : Calls Try.prog 109 #[.agg (phA (padL l) l.length), .int .i64 k] w (Ret w (.agg (phA (padL (gen l.length (fun (i : Nat) => (l.getD i 0 + k) % 4))) l.length))) := by
  have h32 := isSeq_len hl
  have hall := isSeq_all hl
  have HALL := Lib.hid hall
  clear hall hl
  obtain ⟨N, hN⟩ : ∃ N, N = l.length := ⟨_, rfl⟩
  obtain ⟨G, hG⟩ : ∃ G : Nat → Int, G = fun (i : Nat) => (l.getD i 0 + k) % 4 := ⟨_, rfl⟩
  have hpl : (padL l).length = 32 := padL_length h32
  have hlen := phA_len (padL l) (l.length : Int) hpl
  obtain ⟨cs, hcs⟩ : ∃ cs, cs = phA (padL l) (l.length : Int) := ⟨_, rfl⟩
  have hsz : cs.size = 33 := by rw [hcs]; exact phA_size _ _ hpl
  rw [← hG, ← hcs]
  rw [← hcs] at hlen
  rw [← hN] at hlen h32 ⊢
  have HCS := Lib.hid hcs
  have HN := Lib.hid hN
  have HG := Lib.hid hG
  have HSZ := Lib.hid hsz
  have HPL := Lib.hid hpl
  clear hcs hN hG hsz hpl
  go_enter Try.func109, Try.ntmps109
  go_wp2_with (refine wpList_alloc_big rfl 97 rfl (phA z32 0) zeroPh ?_)
  go_loopw [8] (fun i wr => ∃ j : Nat, j ≤ N ∧ i = .int .i64 j ∧ wr.heap[w.heap.size]? = some (.cells (phA (padL (gen N (fun i => if i < j then G i else l.getD i 0))) N) 97 (0, 0)) ∧ wr.heap[w.heap.size + 1]? = some (.cells (phA z32 0) 97 (0, 0)) ∧ Below w.heap.size w wr) (fun i _ => N - (intOf i).toNat)
  case atStart =>
    refine ⟨0, Nat.zero_le _, rfl, ?_, ?_, by go_grown⟩
    · rw [heap_alloc2_old, HCS.out]
      have e : gen N (fun i => if i < 0 then G i else l.getD i 0) = l := by
        rw [HN.out]
        refine Eq.trans (gen_ext (fun i _ => ?_)) (gen_self l)
        rw [if_neg (Nat.not_lt_zero _)]
      rw [e, HN.out]
    · exact heap_alloc2_new w _ _
  case round =>
    obtain ⟨j, hj, rfl, hb0, hb1, hbel⟩ := hrel
    have hgl : (gen N (fun i => if i < j then G i else l.getD i 0)).length = N := gen_length _ _
    have hpl2 : (padL (gen N (fun i => if i < j then G i else l.getD i 0))).length = 32 := padL_length (by rw [hgl]; exact h32)
    have c32 : wr.cell? ⟨w.heap.size, 32, none⟩ = some (.int .i64 N) := by rw [cell_of_row wr _ _ _ _ _ hb0, phA_len _ _ hpl2]
    have HB := Lib.hid hbel
    by_cases hlt : j < N
    · have hx := allIn_getD HALL.out j (by rw [← HN.out]; exact hlt)
      have cj : wr.cell? ⟨w.heap.size, j, none⟩ = some (.int .i64 (l.getD j 0)) := by
        rw [cell_of_row wr _ _ _ _ _ hb0, phA_get _ _ j (by omega), pad_getD _ j (by rw [hgl]; exact hlt), gen_getD _ _ j hlt, if_neg (Nat.lt_irrefl _)]
      have fj : wr.frozen? ⟨w.heap.size, j, none⟩ = false := frozen_of_row wr _ _ _ _ hb0
      have hgj : G j = (l.getD j 0 + k) % 4 := by rw [HG.out]
      have hset := heap_setCell_same wr w.heap.size j _ _ (.int .i64 (G j)) hb0
      rw [phA_set _ _ j (by omega), pad_set _ j _ (by rw [hgl]; exact hlt), gen_set] at hset
      have hoth := heap_setCell_other wr ⟨w.heap.size, j, none⟩ (w.heap.size + 1) (.int .i64 (G j)) (by simp)
      have e2 : gen N (fun i => if i = j then G j else if i < j then G i else l.getD i 0) = gen N (fun i => if i < j + 1 then G i else l.getD i 0) := by
        apply gen_ext
        intro i _
        by_cases h1 : i = j
        · subst h1; rw [if_pos rfl, if_pos (Nat.lt_succ_self _)]
        · rw [if_neg h1]
          by_cases h2 : i < j
          · rw [if_pos h2, if_pos (Nat.lt_succ_of_lt h2)]
          · rw [if_neg h2, if_neg (by omega)]
      rw [e2] at hset
      rw [hb1] at hoth
      obtain ⟨x, hxd⟩ : ∃ x, x = l.getD j 0 := ⟨_, rfl⟩
      rw [← hxd] at hx cj hgj
      have HSET := Lib.hid hset
      have HOTH := Lib.hid hoth
      have HGJ := Lib.hid hgj
      obtain ⟨hx1, hx2⟩ := hx
      have h0 : (0 : Int) ≤ (j : Int) := by omega
      have h1 : (j : Int) < 32 := by omega
      have h1' : (j : Int) < (N : Int) := by omega
      clear hset hoth hgj hxd e2 hgl hpl2 hb0 hb1 hbel hlen
      go_wp2_with (go_at_call 182; refine (modulo_any _ 4 (by omega) (by omega) (by omega) (by omega) _).mono ?_; rintro e w' ⟨rfl, rfl⟩)
      go_roundw
      case rel =>
        rw [HGJ.out] at HSET HOTH
        exact ⟨j + 1, by omega, by go_num, HSET.out, HOTH.out, HB.out.setCell (Nat.le_refl _) _⟩
      case measure => simp [intOf]; omega
    · have he : gen N (fun i => if i < j then G i else l.getD i 0) = gen N G := gen_ext (fun i hi => by rw [if_pos (by omega)])
      rw [he] at hb0 hpl2
      have HB0 := Lib.hid hb0
      have HB1 := Lib.hid hb1
      have hpz : (phA (padL (gen N G)) (N : Int)).size = 33 := phA_size _ _ hpl2
      have HPZ := Lib.hid hpz
      have hinfo : (Try.prog.info? 97).map (·.size) = some (phA (padL (gen N G)) (N : Int)).size := by rw [hpz]; exact infoPh
      have HINFO := Lib.hid hinfo
      obtain ⟨C, hC⟩ : ∃ C, C = phA (padL (gen N G)) (N : Int) := ⟨_, rfl⟩
      have hC1 : C.all (·.oneCell') = true := by rw [hC]; exact phA_one _ _
      rw [← hC] at HB0 HPZ HINFO
      have HC1 := Lib.hid hC1
      have HC := Lib.hid hC
      clear he hb0 hb1 hpz hinfo hC hC1 hgl hpl2 hbel hlen
      go_wp2_with (first
        | (refine wpList_load_row rfl 97 (.tmp 2) rfl w.heap.size rfl 97 C (0, 0) _ HB0.out Try.underlying97 rfl HINFO.out ?_)
        | (refine wpList_store_big rfl 97 (.tmp 4) (.tmp 22) rfl (w.heap.size + 1) C rfl rfl 97 (phA z32 0) HB1.out 33 infoPh HPZ.out (phA_size _ _ z32_length) HC1.out w.heap.size w HB.out (by omega) ?_; intro w4 hg4 ho4 hz4 hb4))
      refine bodyPost_ret (v := .agg C) ?_ rfl ⟨?_, ‹_›⟩
      · exact results_cell_row Try.results109 _ _ (w.heap.size + 1) 97 C (0, 0) _ rfl (by assumption) Try.underlying97 rfl HINFO.out
      · rw [HC.out]
end
section
open Go.RowKit

set_option maxRecDepth 100000 in
set_option maxHeartbeats 2000000 in
theorem climbed_any (l : List Int) (k : Int) (hl : isSeq l = true) (hk1 : 0 ≤ k) (hk2 : k ≤ 3) (w : World) : Calls Try.prog 121 #[.agg (phA (padL l) l.length), .int .i64 k] w (Ret w (.agg (phA (padL (gen l.length (fun (i : Nat) => (l.getD i 0 + k * i) % 4))) l.length))) := by
  have h32 := isSeq_len hl
  have hall := isSeq_all hl
  have HALL := Lib.hid hall
  clear hall hl
  obtain ⟨N, hN⟩ : ∃ N, N = l.length := ⟨_, rfl⟩
  obtain ⟨G, hG⟩ : ∃ G : Nat → Int, G = fun (i : Nat) => (l.getD i 0 + k * i) % 4 := ⟨_, rfl⟩
  have hpl : (padL l).length = 32 := padL_length h32
  have hlen := phA_len (padL l) (l.length : Int) hpl
  obtain ⟨cs, hcs⟩ : ∃ cs, cs = phA (padL l) (l.length : Int) := ⟨_, rfl⟩
  have hsz : cs.size = 33 := by rw [hcs]; exact phA_size _ _ hpl
  rw [← hG, ← hcs]
  rw [← hcs] at hlen
  rw [← hN] at hlen h32 ⊢
  have HCS := Lib.hid hcs
  have HN := Lib.hid hN
  have HG := Lib.hid hG
  have HSZ := Lib.hid hsz
  have HPL := Lib.hid hpl
  clear hcs hN hG hsz hpl
  go_enter Try.func121, Try.ntmps121
  go_wp2_with (refine wpList_alloc_big rfl 97 rfl (phA z32 0) zeroPh ?_)
  go_loopw [8] (fun i wr => ∃ j : Nat, j ≤ N ∧ i = .int .i64 j ∧ wr.heap[w.heap.size]? = some (.cells (phA (padL (gen N (fun i => if i < j then G i else l.getD i 0))) N) 97 (0, 0)) ∧ wr.heap[w.heap.size + 1]? = some (.cells (phA z32 0) 97 (0, 0)) ∧ Below w.heap.size w wr) (fun i _ => N - (intOf i).toNat)
  case atStart =>
    refine ⟨0, Nat.zero_le _, rfl, ?_, ?_, by go_grown⟩
    · rw [heap_alloc2_old, HCS.out]
      have e : gen N (fun i => if i < 0 then G i else l.getD i 0) = l := by
        rw [HN.out]
        refine Eq.trans (gen_ext (fun i _ => ?_)) (gen_self l)
        rw [if_neg (Nat.not_lt_zero _)]
      rw [e, HN.out]
    · exact heap_alloc2_new w _ _
  case round =>
    obtain ⟨j, hj, rfl, hb0, hb1, hbel⟩ := hrel
    have hgl : (gen N (fun i => if i < j then G i else l.getD i 0)).length = N := gen_length _ _
    have hpl2 : (padL (gen N (fun i => if i < j then G i else l.getD i 0))).length = 32 := padL_length (by rw [hgl]; exact h32)
    have c32 : wr.cell? ⟨w.heap.size, 32, none⟩ = some (.int .i64 N) := by rw [cell_of_row wr _ _ _ _ _ hb0, phA_len _ _ hpl2]
    have HB := Lib.hid hbel
    by_cases hlt : j < N
    · have hx := allIn_getD HALL.out j (by rw [← HN.out]; exact hlt)
      have cj : wr.cell? ⟨w.heap.size, j, none⟩ = some (.int .i64 (l.getD j 0)) := by
        rw [cell_of_row wr _ _ _ _ _ hb0, phA_get _ _ j (by omega), pad_getD _ j (by rw [hgl]; exact hlt), gen_getD _ _ j hlt, if_neg (Nat.lt_irrefl _)]
      have fj : wr.frozen? ⟨w.heap.size, j, none⟩ = false := frozen_of_row wr _ _ _ _ hb0
      have hgj : G j = (l.getD j 0 + k * j) % 4 := by rw [HG.out]
      have hset := heap_setCell_same wr w.heap.size j _ _ (.int .i64 (G j)) hb0
      rw [phA_set _ _ j (by omega), pad_set _ j _ (by rw [hgl]; exact hlt), gen_set] at hset
      have hoth := heap_setCell_other wr ⟨w.heap.size, j, none⟩ (w.heap.size + 1) (.int .i64 (G j)) (by simp)
      have e2 : gen N (fun i => if i = j then G j else if i < j then G i else l.getD i 0) = gen N (fun i => if i < j + 1 then G i else l.getD i 0) := by
        apply gen_ext
        intro i _
        by_cases h1 : i = j
        · subst h1; rw [if_pos rfl, if_pos (Nat.lt_succ_self _)]
        · rw [if_neg h1]
          by_cases h2 : i < j
          · rw [if_pos h2, if_pos (Nat.lt_succ_of_lt h2)]
          · rw [if_neg h2, if_neg (by omega)]
      rw [e2] at hset
      rw [hb1] at hoth
      obtain ⟨x, hxd⟩ : ∃ x, x = l.getD j 0 := ⟨_, rfl⟩
      rw [← hxd] at hx cj hgj
      have HSET := Lib.hid hset
      have HOTH := Lib.hid hoth
      have HGJ := Lib.hid hgj
      obtain ⟨hx1, hx2⟩ := hx
      have h0 : (0 : Int) ≤ (j : Int) := by omega
      have h1 : (j : Int) < 32 := by omega
      have h1' : (j : Int) < (N : Int) := by omega
      have hkj1 : 0 ≤ k * (j : Int) := Int.mul_nonneg hk1 h0
      have hkj2 : k * (j : Int) ≤ 96 := by
        have := Int.mul_le_mul hk2 (show (j : Int) ≤ 32 by omega) h0 (by omega)
        omega
      clear hset hoth hgj hxd e2 hgl hpl2 hb0 hb1 hbel hlen
      go_wp2_with (go_at_call 182; refine (modulo_any _ 4 (by omega) (by omega) (by omega) (by omega) _).mono ?_; rintro e w' ⟨rfl, rfl⟩)
      go_roundw
      case rel =>
        rw [HGJ.out] at HSET HOTH
        exact ⟨j + 1, by omega, by go_num, HSET.out, HOTH.out, HB.out.setCell (Nat.le_refl _) _⟩
      case measure => simp [intOf]; omega
    · have he : gen N (fun i => if i < j then G i else l.getD i 0) = gen N G := gen_ext (fun i hi => by rw [if_pos (by omega)])
      rw [he] at hb0 hpl2
      have HB0 := Lib.hid hb0
      have HB1 := Lib.hid hb1
      have hpz : (phA (padL (gen N G)) (N : Int)).size = 33 := phA_size _ _ hpl2
      have HPZ := Lib.hid hpz
      have hinfo : (Try.prog.info? 97).map (·.size) = some (phA (padL (gen N G)) (N : Int)).size := by rw [hpz]; exact infoPh
      have HINFO := Lib.hid hinfo
      obtain ⟨C, hC⟩ : ∃ C, C = phA (padL (gen N G)) (N : Int) := ⟨_, rfl⟩
      have hC1 : C.all (·.oneCell') = true := by rw [hC]; exact phA_one _ _
      rw [← hC] at HB0 HPZ HINFO
      have HC1 := Lib.hid hC1
      have HC := Lib.hid hC
      clear he hb0 hb1 hpz hinfo hC hC1 hgl hpl2 hbel hlen
      go_wp2_with (first
        | (refine wpList_load_row rfl 97 (.tmp 2) rfl w.heap.size rfl 97 C (0, 0) _ HB0.out Try.underlying97 rfl HINFO.out ?_)
        | (refine wpList_store_big rfl 97 (.tmp 4) (.tmp 24) rfl (w.heap.size + 1) C rfl rfl 97 (phA z32 0) HB1.out 33 infoPh HPZ.out (phA_size _ _ z32_length) HC1.out w.heap.size w HB.out (by omega) ?_; intro w4 hg4 ho4 hz4 hb4))
      refine bodyPost_ret (v := .agg C) ?_ rfl ⟨?_, ‹_›⟩
      · exact results_cell_row Try.results121 _ _ (w.heap.size + 1) 97 C (0, 0) _ rfl (by assumption) Try.underlying97 rfl HINFO.out
      · rw [HC.out]
end
section
open Go.RowKit

set_option maxRecDepth 100000 in
set_option maxHeartbeats 2000000 in
theorem conjugate_any (l : List Int) (hl : isSeq l = true) (w : World) : Calls Try.prog 116 #[.agg (phA (padL l) l.length)] w (Ret w (.agg (phA (padL (gen l.length (fun (i : Nat) => (-(l.getD i 0)) % 4))) l.length))) := by
  have h32 := isSeq_len hl
  have hall := isSeq_all hl
  have HALL := Lib.hid hall
  clear hall hl
  obtain ⟨N, hN⟩ : ∃ N, N = l.length := ⟨_, rfl⟩
  obtain ⟨G, hG⟩ : ∃ G : Nat → Int, G = fun (i : Nat) => (-(l.getD i 0)) % 4 := ⟨_, rfl⟩
  have hpl : (padL l).length = 32 := padL_length h32
  have hlen := phA_len (padL l) (l.length : Int) hpl
  obtain ⟨cs, hcs⟩ : ∃ cs, cs = phA (padL l) (l.length : Int) := ⟨_, rfl⟩
  have hsz : cs.size = 33 := by rw [hcs]; exact phA_size _ _ hpl
  rw [← hG, ← hcs]
  rw [← hcs] at hlen
  rw [← hN] at hlen h32 ⊢
  have HCS := Lib.hid hcs
  have HN := Lib.hid hN
  have HG := Lib.hid hG
  have HSZ := Lib.hid hsz
  have HPL := Lib.hid hpl
  clear hcs hN hG hsz hpl
  go_enter Try.func116, Try.ntmps116
  go_wp2_with (refine wpList_alloc_big rfl 97 rfl (phA z32 0) zeroPh ?_)
  go_loopw [6] (fun i wr => ∃ j : Nat, j ≤ N ∧ i = .int .i64 j ∧ wr.heap[w.heap.size]? = some (.cells (phA (padL (gen N (fun i => if i < j then G i else l.getD i 0))) N) 97 (0, 0)) ∧ wr.heap[w.heap.size + 1]? = some (.cells (phA z32 0) 97 (0, 0)) ∧ Below w.heap.size w wr) (fun i _ => N - (intOf i).toNat)
  case atStart =>
    refine ⟨0, Nat.zero_le _, rfl, ?_, ?_, by go_grown⟩
    · rw [heap_alloc2_old, HCS.out]
      have e : gen N (fun i => if i < 0 then G i else l.getD i 0) = l := by
        rw [HN.out]
        refine Eq.trans (gen_ext (fun i _ => ?_)) (gen_self l)
        rw [if_neg (Nat.not_lt_zero _)]
      rw [e, HN.out]
    · exact heap_alloc2_new w _ _
  case round =>
    obtain ⟨j, hj, rfl, hb0, hb1, hbel⟩ := hrel
    have hgl : (gen N (fun i => if i < j then G i else l.getD i 0)).length = N := gen_length _ _
    have hpl2 : (padL (gen N (fun i => if i < j then G i else l.getD i 0))).length = 32 := padL_length (by rw [hgl]; exact h32)
    have c32 : wr.cell? ⟨w.heap.size, 32, none⟩ = some (.int .i64 N) := by rw [cell_of_row wr _ _ _ _ _ hb0, phA_len _ _ hpl2]
    have HB := Lib.hid hbel
    by_cases hlt : j < N
    · have hx := allIn_getD HALL.out j (by rw [← HN.out]; exact hlt)
      have cj : wr.cell? ⟨w.heap.size, j, none⟩ = some (.int .i64 (l.getD j 0)) := by
        rw [cell_of_row wr _ _ _ _ _ hb0, phA_get _ _ j (by omega), pad_getD _ j (by rw [hgl]; exact hlt), gen_getD _ _ j hlt, if_neg (Nat.lt_irrefl _)]
      have fj : wr.frozen? ⟨w.heap.size, j, none⟩ = false := frozen_of_row wr _ _ _ _ hb0
      have hgj : G j = (-(l.getD j 0)) % 4 := by rw [HG.out]
      have hset := heap_setCell_same wr w.heap.size j _ _ (.int .i64 (G j)) hb0
      rw [phA_set _ _ j (by omega), pad_set _ j _ (by rw [hgl]; exact hlt), gen_set] at hset
      have hoth := heap_setCell_other wr ⟨w.heap.size, j, none⟩ (w.heap.size + 1) (.int .i64 (G j)) (by simp)
      have e2 : gen N (fun i => if i = j then G j else if i < j then G i else l.getD i 0) = gen N (fun i => if i < j + 1 then G i else l.getD i 0) := by
        apply gen_ext
        intro i _
        by_cases h1 : i = j
        · subst h1; rw [if_pos rfl, if_pos (Nat.lt_succ_self _)]
        · rw [if_neg h1]
          by_cases h2 : i < j
          · rw [if_pos h2, if_pos (Nat.lt_succ_of_lt h2)]
          · rw [if_neg h2, if_neg (by omega)]
      rw [e2] at hset
      rw [hb1] at hoth
      obtain ⟨x, hxd⟩ : ∃ x, x = l.getD j 0 := ⟨_, rfl⟩
      rw [← hxd] at hx cj hgj
      have HSET := Lib.hid hset
      have HOTH := Lib.hid hoth
      have HGJ := Lib.hid hgj
      obtain ⟨hx1, hx2⟩ := hx
      have h0 : (0 : Int) ≤ (j : Int) := by omega
      have h1 : (j : Int) < 32 := by omega
      have h1' : (j : Int) < (N : Int) := by omega
      clear hset hoth hgj hxd e2 hgl hpl2 hb0 hb1 hbel hlen
      go_wp2_with (go_at_call 182; refine (modulo_any _ 4 (by omega) (by omega) (by omega) (by omega) _).mono ?_; rintro e w' ⟨rfl, rfl⟩)
      go_roundw
      case rel =>
        rw [HGJ.out] at HSET HOTH
        exact ⟨j + 1, by omega, by go_num, HSET.out, HOTH.out, HB.out.setCell (Nat.le_refl _) _⟩
      case measure => simp [intOf]; omega
    · have he : gen N (fun i => if i < j then G i else l.getD i 0) = gen N G := gen_ext (fun i hi => by rw [if_pos (by omega)])
      rw [he] at hb0 hpl2
      have HB0 := Lib.hid hb0
      have HB1 := Lib.hid hb1
      have hpz : (phA (padL (gen N G)) (N : Int)).size = 33 := phA_size _ _ hpl2
      have HPZ := Lib.hid hpz
      have hinfo : (Try.prog.info? 97).map (·.size) = some (phA (padL (gen N G)) (N : Int)).size := by rw [hpz]; exact infoPh
      have HINFO := Lib.hid hinfo
      obtain ⟨C, hC⟩ : ∃ C, C = phA (padL (gen N G)) (N : Int) := ⟨_, rfl⟩
      have hC1 : C.all (·.oneCell') = true := by rw [hC]; exact phA_one _ _
      rw [← hC] at HB0 HPZ HINFO
      have HC1 := Lib.hid hC1
      have HC := Lib.hid hC
      clear he hb0 hb1 hpz hinfo hC hC1 hgl hpl2 hbel hlen
      go_wp2_with (first
        | (refine wpList_load_row rfl 97 (.tmp 1) rfl w.heap.size rfl 97 C (0, 0) _ HB0.out Try.underlying97 rfl HINFO.out ?_)
        | (refine wpList_store_big rfl 97 (.tmp 2) (.tmp 19) rfl (w.heap.size + 1) C rfl rfl 97 (phA z32 0) HB1.out 33 infoPh HPZ.out (phA_size _ _ z32_length) HC1.out w.heap.size w HB.out (by omega) ?_; intro w4 hg4 ho4 hz4 hb4))
      refine bodyPost_ret (v := .agg C) ?_ rfl ⟨?_, ‹_›⟩
      · exact results_cell_row Try.results116 _ _ (w.heap.size + 1) 97 C (0, 0) _ rfl (by assumption) Try.underlying97 rfl HINFO.out
      · rw [HC.out]
end
section
open Go.RowKit

set_option maxRecDepth 100000 in
set_option maxHeartbeats 2000000 in
theorem backwards_any (l : List Int) (hl : isSeq l = true) (w : World) : Calls Try.prog 117 #[.agg (phA (padL l) l.length)] w (Ret w (.agg (phA (padL (gen l.length (fun (i : Nat) => l.getD (l.length - 1 - i) 0))) l.length))) := by
  have h32 := isSeq_len hl
  clear hl
  obtain ⟨N, hN⟩ : ∃ N, N = l.length := ⟨_, rfl⟩
  obtain ⟨G, hG⟩ : ∃ G : Nat → Int, G = fun (i : Nat) => l.getD (l.length - 1 - i) 0 := ⟨_, rfl⟩
  have hpl : (padL l).length = 32 := padL_length h32
  have hlen := phA_len (padL l) (l.length : Int) hpl
  have hget : ∀ i : Nat, i < l.length → (phA (padL l) (l.length : Int))[i]? = some (.int .i64 (l.getD i 0)) := fun i hi => by rw [phA_get _ _ i (by omega), pad_getD l i hi]
  obtain ⟨cs, hcs⟩ : ∃ cs, cs = phA (padL l) (l.length : Int) := ⟨_, rfl⟩
  rw [← hG, ← hcs]
  rw [← hcs] at hlen hget
  rw [← hN] at hlen h32 hget ⊢
  have HN := Lib.hid hN
  have HG := Lib.hid hG
  have HGET := Lib.hid hget
  have HLEN := Lib.hid hlen
  clear hcs hN hG hpl hget
  go_enter Try.func117, Try.ntmps117
  go_wp2_with (first
    | (refine wpList_alloc_big rfl 97 rfl (phA z32 0) zeroPh ?_; simp only [World.size_alloc, Act.put, List.setIfInBounds_toArray, List.set_cons_zero, List.set_cons_succ])
    | ((refine wpList_store_big rfl 97 (.tmp 3) (.tmp 7) rfl (w.heap.size + 1 + 1) (phA z32 N) rfl rfl 97 (phA z32 0) (by have := heap_alloc_new ((w.alloc (.cells cs 97)).alloc (.cells (phA z32 0) 97)) (.cells (phA z32 0) 97); rw [World.size_alloc, World.size_alloc] at this; exact this) 33 infoPh (phA_size _ _ z32_length) (phA_size _ _ z32_length) (phA_one _ _) w.heap.size w (by go_grown) (by omega) ?_); intro w2 hg2 ho2 hz2 hb2; have k32 : w2.cell? ⟨w.heap.size, 32, none⟩ = some (.int .i64 N) := (by rw [cell_of_row w2 w.heap.size 32 cs 97 (0, 0) ((ho2 w.heap.size (by omega)).trans (by rw [heap_alloc_old _ _ (by simp; omega)]; exact heap_alloc2_old w _ _))]; exact HLEN.out)))
  have hs0 : w2.heap[w.heap.size]? = some (.cells cs 97 (0, 0)) := (ho2 w.heap.size (by omega)).trans (by rw [heap_alloc_old _ _ (by simp; omega)]; exact heap_alloc2_old w _ _)
  have hs1 : w2.heap[w.heap.size + 1]? = some (.cells (phA z32 0) 97 (0, 0)) := (ho2 (w.heap.size + 1) (by omega)).trans (by rw [heap_alloc_old _ _ (by simp)]; exact heap_alloc2_new w _ _)
  have HS0 := Lib.hid hs0
  have HS1 := Lib.hid hs1
  have HS2 := Lib.hid hg2
  have HB2 := Lib.hid hb2
  clear hs0 hs1 hg2 ho2 hz2 hb2 k32
  go_loopw [10] (fun i wr => ∃ j : Nat, j ≤ N ∧ i = .int .i64 j ∧ wr.heap[w.heap.size]? = some (.cells cs 97 (0, 0)) ∧ wr.heap[w.heap.size + 1]? = some (.cells (phA z32 0) 97 (0, 0)) ∧ wr.heap[w.heap.size + 1 + 1]? = some (.cells (phA (padL (gen j G)) N) 97 (0, 0)) ∧ Below w.heap.size w wr) (fun i _ => N - (intOf i).toNat)
  case atStart => exact ⟨0, Nat.zero_le _, rfl, HS0.out, HS1.out, HS2.out, HB2.out⟩
  case round =>
    obtain ⟨j, hj, rfl, hb0, hb1, hbq, hbel⟩ := hrel
    have hgl : (gen j G).length = j := gen_length _ _
    have hpl2 : (padL (gen j G)).length = 32 := padL_length (by rw [hgl]; omega)
    have c32 : wr.cell? ⟨w.heap.size, 32, none⟩ = some (.int .i64 N) := by rw [cell_of_row wr _ _ _ _ _ hb0]; exact HLEN.out
    have HB := Lib.hid hbel
    by_cases hlt : j < N
    · have h0 : (0 : Int) ≤ (j : Int) := by omega
      have h1 : (j : Int) < 32 := by omega
      have h1' : (j : Int) < (N : Int) := by omega
      have hn32 : (N : Int) ≤ 32 := by omega
      obtain ⟨M, hM⟩ : ∃ M : Nat, M + j + 1 = N := ⟨N - 1 - j, by omega⟩
      have hM2 : M < N := by omega
      have hMi : (N : Int) - 1 - (j : Int) = (M : Int) := by omega
      have hMn : l.length - 1 - j = M := by rw [← HN.out]; omega
      have HMI := Lib.hid hMi
      have HMN := Lib.hid hMn
      have HM := Lib.hid hM
      clear hMi hMn hM
      have cM : wr.cell? ⟨w.heap.size, M, none⟩ = some (.int .i64 (l.getD M 0)) := by rw [cell_of_row wr _ _ _ _ _ hb0]; exact HGET.out M hM2
      have cj : wr.cell? ⟨w.heap.size + 1 + 1, j, none⟩ = some (.int .i64 0) := by rw [cell_of_row wr _ _ _ _ _ hbq, phA_get _ _ j (by omega), pad_at _ j (by omega)]
      have fj : wr.frozen? ⟨w.heap.size + 1 + 1, j, none⟩ = false := frozen_of_row wr _ _ _ _ hbq
      have hgj : G j = l.getD M 0 := by rw [HG.out]; show l.getD (l.length - 1 - j) 0 = _; rw [HMN.out]
      have hset := heap_setCell_same wr (w.heap.size + 1 + 1) j _ _ (.int .i64 (G j)) hbq
      rw [phA_set _ _ j (by omega), pad_snoc G j (by omega)] at hset
      have ho0 := heap_setCell_other wr ⟨w.heap.size + 1 + 1, j, none⟩ w.heap.size (.int .i64 (G j)) (by simp; try omega)
      have ho1 := heap_setCell_other wr ⟨w.heap.size + 1 + 1, j, none⟩ (w.heap.size + 1) (.int .i64 (G j)) (by simp; try omega)
      rw [hb0] at ho0
      rw [hb1] at ho1
      obtain ⟨x, hxd⟩ : ∃ x, x = l.getD M 0 := ⟨_, rfl⟩
      rw [← hxd] at cM hgj
      rw [hgj] at hset ho0 ho1
      have HSET := Lib.hid hset
      have HO0 := Lib.hid ho0
      have HO1 := Lib.hid ho1
      have hM3 : (M : Int) < 32 := by omega
      have hM4 : (0 : Int) ≤ (M : Int) := by omega
      clear hset ho0 ho1 hgj hxd hgl hpl2 hb0 hb1 hbq hbel hlen
      have hMi := HMI.out
      go_wp2_with fail
      try rw [HMI.out]
      go_roundw
      case rel => exact ⟨j + 1, by omega, by go_num, HO0.out, HO1.out, HSET.out, HB.out.setCell (by simp; omega) _⟩
      case measure => simp [intOf]; omega
    · have he : j = N := by omega
      subst he
      have HB0 := Lib.hid hbq
      have HB1 := Lib.hid hb1
      have hpz : (phA (padL (gen j G)) (j : Int)).size = 33 := phA_size _ _ hpl2
      have HPZ := Lib.hid hpz
      have hinfo : (Try.prog.info? 97).map (·.size) = some (phA (padL (gen j G)) (j : Int)).size := by rw [hpz]; exact infoPh
      have HINFO := Lib.hid hinfo
      obtain ⟨C, hC⟩ : ∃ C, C = phA (padL (gen j G)) (j : Int) := ⟨_, rfl⟩
      have hC1 : C.all (·.oneCell') = true := by rw [hC]; exact phA_one _ _
      rw [← hC] at HB0 HPZ HINFO
      have HC1 := Lib.hid hC1
      have HC := Lib.hid hC
      clear hb0 hb1 hbq hpz hinfo hC hC1 hgl hpl2 hbel hlen
      go_wp2_with (first
        | (refine wpList_load_row rfl 97 (.tmp 3) rfl (w.heap.size + 1 + 1) rfl 97 C (0, 0) _ HB0.out Try.underlying97 rfl HINFO.out ?_)
        | (refine wpList_store_big rfl 97 (.tmp 2) (.tmp 25) rfl (w.heap.size + 1) C rfl rfl 97 (phA z32 0) HB1.out 33 infoPh HPZ.out (phA_size _ _ z32_length) HC1.out w.heap.size w HB.out (by omega) ?_; intro w4 hg4 ho4 hz4 hb4))
      refine bodyPost_ret (v := .agg C) ?_ rfl ⟨?_, ‹_›⟩
      · exact results_cell_row Try.results117 _ _ (w.heap.size + 1) 97 C (0, 0) _ rfl (by assumption) Try.underlying97 rfl HINFO.out
      · rw [HC.out]
end
section
open Go.RowKit

def turnG (l : List Int) (k : Int) : List Int := gen l.length (fun (i : Nat) => (l.getD i 0 + k) % 4)
def turnOk (l : List Int) (k : Int) : Bool := isSeq l && decide (-1000 ≤ k ∧ k ≤ 1000)
def turnF (l : List Int) (k : Int) : List Int := if turnOk l k then turnG l k else []
theorem turnF_len (l : List Int) (k : Int) : (turnF l k).length ≤ 1048576 := by
  unfold turnF
  split
  · rename_i h
    have h1 : isSeq l = true := by unfold turnOk at h; first | exact h | (simp only [Bool.and_eq_true] at h; exact h.1)
    have := isSeq_len h1
    unfold turnG
    rw [gen_length]
    omega
  · simp
end
section
open Go.RowKit

def climbG (l : List Int) (k : Int) : List Int := gen l.length (fun (i : Nat) => (l.getD i 0 + k * i) % 4)
def climbOk (l : List Int) (k : Int) : Bool := isSeq l && decide (0 ≤ k ∧ k ≤ 3)
def climbF (l : List Int) (k : Int) : List Int := if climbOk l k then climbG l k else []
theorem climbF_len (l : List Int) (k : Int) : (climbF l k).length ≤ 1048576 := by
  unfold climbF
  split
  · rename_i h
    have h1 : isSeq l = true := by unfold climbOk at h; first | exact h | (simp only [Bool.and_eq_true] at h; exact h.1)
    have := isSeq_len h1
    unfold climbG
    rw [gen_length]
    omega
  · simp
end
section
open Go.RowKit

def barG (l : List Int) : List Int := gen l.length (fun (i : Nat) => (-(l.getD i 0)) % 4)
def barOk (l : List Int) : Bool := isSeq l
def barF (l : List Int) : List Int := if barOk l then barG l else []
theorem barF_len (l : List Int) : (barF l).length ≤ 1048576 := by
  unfold barF
  split
  · rename_i h
    have h1 : isSeq l = true := by unfold barOk at h; first | exact h | (simp only [Bool.and_eq_true] at h; exact h.1)
    have := isSeq_len h1
    unfold barG
    rw [gen_length]
    omega
  · simp
end
section
open Go.RowKit

def backG (l : List Int) : List Int := gen l.length (fun (i : Nat) => l.getD (l.length - 1 - i) 0)
def backOk (l : List Int) : Bool := isSeq l
def backF (l : List Int) : List Int := if backOk l then backG l else []
theorem backF_len (l : List Int) : (backF l).length ≤ 1048576 := by
  unfold backF
  split
  · rename_i h
    have h1 : isSeq l = true := by unfold backOk at h; first | exact h | (simp only [Bool.and_eq_true] at h; exact h.1)
    have := isSeq_len h1
    unfold backG
    rw [gen_length]
    omega
  · simp
end
section
open Go.RowKit

def weaveG (l m : List Int) : List Int := gen (2 * l.length) (fun (i : Nat) => if i % 2 = 0 then l.getD (i / 2) 0 else m.getD (i / 2) 0)
def weaveC (l m : List Int) : Bool := decide (l.length = m.length ∧ l.length + m.length ≤ 32)
def weaveOk (l m : List Int) : Bool := isSeq l && isSeq m && weaveC l m
def weaveF (l m : List Int) : List Int := if weaveOk l m then weaveG l m else []
theorem weaveG_len (l m : List Int) (hl : isSeq l = true) (hm : isSeq m = true) (h : weaveC l m = true) : (weaveG l m).length ≤ 32 := by
  have h1 := isSeq_len hl
  have h2 := isSeq_len hm
  have h3 := of_decide_eq_true h
  simp [weaveG, gen_length]
  omega
theorem weaveF_len (l m : List Int) : (weaveF l m).length ≤ 1048576 := by
  unfold weaveF
  split
  · rename_i h
    simp only [weaveOk, Bool.and_eq_true] at h
    have := weaveG_len l m h.1.1 h.1.2 h.2
    omega
  · simp
end
section
open Go.RowKit

def joinG (l m : List Int) : List Int := l ++ m
def joinC (l m : List Int) : Bool := decide (l.length + m.length ≤ 32)
def joinOk (l m : List Int) : Bool := isSeq l && isSeq m && joinC l m
def joinF (l m : List Int) : List Int := if joinOk l m then joinG l m else []
theorem joinG_len (l m : List Int) (hl : isSeq l = true) (hm : isSeq m = true) (h : joinC l m = true) : (joinG l m).length ≤ 32 := by
  have h1 := isSeq_len hl
  have h2 := isSeq_len hm
  have h3 := of_decide_eq_true h
  simp [joinG]
  omega
theorem joinF_len (l m : List Int) : (joinF l m).length ≤ 1048576 := by
  unfold joinF
  split
  · rename_i h
    simp only [joinOk, Bool.and_eq_true] at h
    have := joinG_len l m h.1.1 h.1.2 h.2
    omega
  · simp
end
section
open Go.RowKit

def prodG (l m : List Int) : List Int := gen l.length (fun (i : Nat) => (l.getD i 0 + m.getD i 0) % 4)
def prodC (l m : List Int) : Bool := decide (l.length = m.length)
def prodOk (l m : List Int) : Bool := isSeq l && isSeq m && prodC l m
def prodF (l m : List Int) : List Int := if prodOk l m then prodG l m else []
theorem prodG_len (l m : List Int) (hl : isSeq l = true) (hm : isSeq m = true) (h : prodC l m = true) : (prodG l m).length ≤ 32 := by
  have h1 := isSeq_len hl
  have h2 := isSeq_len hm
  have h3 := of_decide_eq_true h
  simp [prodG, gen_length]
  omega
theorem prodF_len (l m : List Int) : (prodF l m).length ≤ 1048576 := by
  unfold prodF
  split
  · rename_i h
    simp only [prodOk, Bool.and_eq_true] at h
    have := prodG_len l m h.1.1 h.1.2 h.2
    omega
  · simp
end
section
open Go.RowKit

/-- A copy into a row; the world behind it under a name, all other rows as they were. -/
theorem wpList_copy_keep {P : Program} {w : World} {ops : Array Oper} {rest : List Oper} {o : Oper} {a : Act} {Q : Exit → Act → World → Prop} (hgd : o.guard = none) (d s : Operand) (dT sT : TypeId)
    (ho : o.op = .call { callee := .builtin .copy, args := #[d, s], argTypes := #[dT, sT] }) (elem : TypeId) (hu : P.underlying dT = some (.slice elem)) (hsz : (P.info? elem).map (·.size) = some 1)
    (dp sp : Option Addr) (dLen dCap sLen sCap : Nat) (hd : a.eval d = .slice dp dLen dCap) (hs : a.eval s = .slice sp sLen sCap)
    (g off : Nat) (cur : Array Value) (t : TypeId) (hg : w.heap[g]? = some (.cells cur t (0, 0))) (cs : List Value) (hn : cs.length = Nat.min sLen dLen)
    (hpos : 0 < cs.length → dp = some ⟨g, off, none⟩ ∧ ∃ ad, sp = some ad ∧ ∀ j v, cs[j]? = some v → w.cell? (ad.add j) = some v)
    (hfit : off + cs.length ≤ cur.size) (h1 : ∀ v ∈ cs, v.oneCell' = true) (S : Nat) (w0 : World) (hb : Below S w0 w) (hS : S ≤ g)
    (h : ∀ w', w'.heap[g]? = some (.cells (splice cur.toList off cs).toArray t (0, 0)) → (∀ k, k ≠ g → w'.heap[k]? = w.heap[k]?) → w'.heap.size = w.heap.size → Below S w0 w' → wpList P ops Q rest (a.put o.dst (goInt cs.length)) w') :
    wpList P ops Q (o :: rest) a w := by
  by_cases h0 : cs.length = 0
  · obtain rfl : cs = [] := List.eq_nil_of_length_eq_zero h0
    refine wpList_copy_nothing hgd d s dT sT ho elem hu hsz dp sp dLen dCap sLen sCap hd hs (by simpa using hn.symm) ?_
    refine h w ?_ (fun _ _ => rfl) rfl hb
    rw [hg]
    simp [splice]
  · obtain ⟨rfl, ad, rfl, hsrc⟩ := hpos (by omega)
    refine wpList_copy_own hgd d s dT sT ho elem hu hsz g off dLen dCap ad sLen sCap hd hs cur t hg cs hn hsrc hfit h1 ?_
    exact h _ (setRow_heap w g _ _ t _ hg) (fun k hk => setRow_other w g k _ hk) (by simp) (below_setRow hb hS _)

theorem slice_l (g n : Nat) (hn : n ≤ 32) (w : World) : (Instr.sliceAt 95 (.pointer (some ⟨g, 0, none⟩)) (some (.int .i64 n)) none none).run Try.prog w = .ok (.slice (some (if 32 = n then ⟨g, 0, none⟩ else (⟨g, 0, none⟩ : Addr).add n)) (32 - n) (32 - n)) w := by
  have hu : Try.prog.underlying 95 = some (.array (Try.prog.arrayLen 95) (Try.prog.elem 95)) := by rw [lenArr, elemArr]; exact Try.underlying95
  rw [run_sliceAt_array_l w _ _ hu .i64 n (by omega) (by rw [lenArr]; omega), lenArr, elemArr]
  simp [go_sem]
theorem phA_setlen (A : List Int) (n x : Int) (h : A.length = 32) : (phA A n).setIfInBounds 32 (.int .i64 x) = phA A x := by
  apply Array.ext_getElem?
  intro j
  simp only [phA]
  rw [List.setIfInBounds_toArray]
  simp only [List.getElem?_toArray]
  rw [← List.map_set, List.set_append_right _ _ (by omega), h]
  rfl
theorem splice_join (l m : List Int) (c : Int) (h : l.length + m.length ≤ 32) : (splice (phA (padL l) c).toList l.length (m.map (Value.int .i64))).toArray = phA (padL (l ++ m)) c := by
  unfold splice phA padL
  simp only [List.length_map]
  rw [← List.map_take, ← List.map_drop, ← List.map_append, ← List.map_append]
  congr 2
  rw [List.append_assoc, List.take_left, List.drop_append, List.drop_of_length_le (by omega), List.nil_append, show l.length + m.length - l.length = m.length by omega]
  rw [List.drop_append_of_le_length (by simp; omega), List.drop_replicate, List.append_assoc, List.append_assoc, List.length_append]
  congr 4
  omega

set_option maxRecDepth 100000 in
set_option maxHeartbeats 4000000 in
theorem joined_any (l m : List Int) (hc : l.length + m.length ≤ 32) (w : World) : Calls Try.prog 168 #[.agg (phA (padL l) l.length), .agg (phA (padL m) m.length)] w (Ret w (.tuple #[.agg (phA (padL (joinG l m)) (joinG l m).length), .bool true])) := by
  have hjl : ((joinG l m).length : Int) = (l.length : Int) + (m.length : Int) := by simp [joinG]
  rw [hjl]
  have hpl : (padL l).length = 32 := padL_length (by omega)
  have hpm : (padL m).length = 32 := padL_length (by omega)
  have hpj : (padL (joinG l m)).length = 32 := padL_length (by simp [joinG]; omega)
  have hlen := phA_len (padL l) (l.length : Int) hpl
  have hlenm := phA_len (padL m) (m.length : Int) hpm
  have hsrc : ∀ (j : Nat) (v : Value), (m.map (Value.int .i64))[j]? = some v → (phA (padL m) (m.length : Int))[j]? = some v := by
    intro j v hj
    have hjl : j < m.length := by have := (List.getElem?_eq_some_iff.1 hj).1; simpa using this
    rw [phA_get _ _ j (by omega), pad_getD m j hjl, ← hj]
    simp [List.getD, hjl]
  have hsplice := splice_join l m (l.length : Int) hc
  have hszc : (phA (padL l) (l.length : Int)).size = 33 := phA_size _ _ hpl
  obtain ⟨cs, hcs⟩ : ∃ cs, cs = phA (padL l) (l.length : Int) := ⟨_, rfl⟩
  obtain ⟨ds, hds⟩ : ∃ ds, ds = phA (padL m) (m.length : Int) := ⟨_, rfl⟩
  rw [← hcs, ← hds]
  rw [← hcs] at hlen hsplice hszc
  rw [← hds] at hlenm hsrc
  obtain ⟨J, hJ⟩ : ∃ J, J = joinG l m := ⟨_, rfl⟩
  rw [show l ++ m = J from hJ.symm] at hsplice
  rw [← hJ] at hpj ⊢
  obtain ⟨L, hL⟩ : ∃ L, L = m.map (Value.int .i64) := ⟨_, rfl⟩
  have hLn : L.length = m.length := by rw [hL, List.length_map]
  have hL1 : ∀ v ∈ L, v.oneCell' = true := by
    intro v hv
    rw [hL] at hv
    simp only [List.mem_map] at hv
    obtain ⟨x, _, rfl⟩ := hv
    rfl
  rw [← hL] at hsrc hsplice
  obtain ⟨n, hn⟩ : ∃ n, n = l.length := ⟨_, rfl⟩
  obtain ⟨k, hk⟩ : ∃ k, k = m.length := ⟨_, rfl⟩
  rw [← hn] at hlen hsplice hc ⊢
  rw [← hk] at hlenm hc hLn ⊢
  obtain ⟨AD, hAD⟩ : ∃ AD, AD = (if 32 = n then ⟨w.heap.size, 0, none⟩ else (⟨w.heap.size, 0, none⟩ : Addr).add n) := ⟨_, rfl⟩
  have hsl := slice_l w.heap.size n (by omega)
  rw [← hAD] at hsl
  have hsl2 := slice_h (w.heap.size + 1) k (by omega)
  have hAD2 : 0 < k → some AD = some ⟨w.heap.size, n, none⟩ := fun h => by rw [hAD, if_neg (by omega), Addr.add_lit, Nat.zero_add]
  have hi1 : (Try.prog.info? 3).map (·.size) = some 1 := by kernel_rfl
  have HI1 := Lib.hid hi1
  have HSRC := Lib.hid hsrc
  have HSPL := Lib.hid hsplice
  have HSZC := Lib.hid hszc
  have HPJ := Lib.hid hpj
  have HLN := Lib.hid hLn
  have HL1 := Lib.hid hL1
  have HAD2 := Lib.hid hAD2
  have HLEN := Lib.hid hlen
  have HLENM := Lib.hid hlenm
  have hnk : (n : Int) + (k : Int) ≤ 32 := by omega
  clear hpl hpm hjl hcs hds hJ hL hn hk hi1 hsrc hsplice hszc hpj hLn hL1 hAD hAD2
  go_enter Try.func168, Try.ntmps168
  go_wp2_with (refine wpList_alloc_big rfl 97 rfl (phA z32 0) zeroPh ?_; simp only [World.size_alloc, Act.put, List.setIfInBounds_toArray, List.set_cons_zero, List.set_cons_succ])
  obtain ⟨W, hW⟩ : ∃ W, W = ((w.alloc (.cells cs 97)).alloc (.cells ds 97)).alloc (.cells (phA z32 0) 97) := ⟨_, rfl⟩
  have hs0 : W.heap[w.heap.size]? = some (.cells cs 97 (0, 0)) := by rw [hW, heap_alloc_old _ _ (by simp; omega)]; exact heap_alloc2_old w _ _
  have hs1 : W.heap[w.heap.size + 1]? = some (.cells ds 97 (0, 0)) := by rw [hW, heap_alloc_old _ _ (by simp)]; exact heap_alloc2_new w _ _
  have hs2 : W.heap[w.heap.size + 1 + 1]? = some (.cells (phA z32 0) 97 (0, 0)) := by
    rw [hW]
    have := heap_alloc_new ((w.alloc (.cells cs 97)).alloc (.cells ds 97)) (.cells (phA z32 0) 97)
    rw [World.size_alloc, World.size_alloc] at this
    exact this
  have hBW : Below w.heap.size w W := by rw [hW]; go_grown
  have cn : W.cell? ⟨w.heap.size, 32, none⟩ = some (.int .i64 n) := by rw [cell_of_row W _ _ _ _ _ hs0]; exact HLEN.out
  have ck : W.cell? ⟨w.heap.size + 1, 32, none⟩ = some (.int .i64 k) := by rw [cell_of_row W _ _ _ _ _ hs1]; exact HLENM.out
  rw [← hW]
  have HS0 := Lib.hid hs0
  have HS1 := Lib.hid hs1
  have HS2 := Lib.hid hs2
  clear hW hs0 hs1 hs2 hlen hlenm
  go_wp2_with fail
  go_still_tail 8, (by kernel_rfl)
  change wpList _ _ _ _ _ W.drew
  refine wpList_copy_keep rfl (.tmp 16) (.tmp 20) 24 24 rfl 3 Try.underlying24 HI1.out _ _ _ _ _ _ rfl rfl w.heap.size n cs 97 HS0.out L (by rw [HLN.out]; exact (Nat.min_eq_left (by omega)).symm) (fun h => ⟨HAD2.out (by rw [← HLN.out]; exact h), _, rfl, fun j v hj => by rw [Addr.add_lit, Nat.zero_add]; exact (cell_of_row W.drew (w.heap.size + 1) j ds 97 (0, 0) HS1.out).trans (HSRC.out j v hj)⟩) (by rw [HLN.out, HSZC.out]; omega) HL1.out w.heap.size w hBW.drew (Nat.le_refl _) ?_
  intro w3 hg3 ho3 hz3 hb3
  rw [HSPL.out] at hg3
  have c3 : w3.cell? ⟨w.heap.size, 32, none⟩ = some (.int .i64 n) := by rw [cell_of_row w3 _ _ _ _ _ hg3]; exact phA_len _ _ HPJ.out
  have k3 : w3.cell? ⟨w.heap.size + 1, 32, none⟩ = some (.int .i64 k) := by rw [cell_of_row w3 _ _ _ _ _ ((ho3 (w.heap.size + 1) (by omega)).trans HS1.out)]; exact HLENM.out
  have f3 : w3.frozen? ⟨w.heap.size, 32, none⟩ = false := frozen_of_row w3 _ _ _ _ hg3
  have hset := heap_setCell_same w3 w.heap.size 32 _ _ (.int .i64 ((n : Int) + k)) hg3
  rw [phA_setlen _ _ _ HPJ.out] at hset
  have hoth := (heap_setCell_other w3 ⟨w.heap.size, 32, none⟩ (w.heap.size + 1 + 1) (.int .i64 ((n : Int) + k)) (by simp; omega)).trans ((ho3 (w.heap.size + 1 + 1) (by omega)).trans HS2.out)
  have hB4 := hb3.setCell (p := ⟨w.heap.size, 32, none⟩) (Nat.le_refl _) (.int .i64 ((n : Int) + k))
  have hpz : (phA (padL J) ((n : Int) + k)).size = 33 := phA_size _ _ HPJ.out
  have hinfo : (Try.prog.info? 97).map (·.size) = some (phA (padL J) ((n : Int) + k)).size := by rw [hpz]; exact infoPh
  obtain ⟨C, hC⟩ : ∃ C, C = phA (padL J) ((n : Int) + k) := ⟨_, rfl⟩
  have hC1 : C.all (·.oneCell') = true := by rw [hC]; exact phA_one _ _
  rw [← hC] at hset hpz hinfo
  have HSET := Lib.hid hset
  have HOTH := Lib.hid hoth
  have HB4 := Lib.hid hB4
  have HPZ := Lib.hid hpz
  have HINFO := Lib.hid hinfo
  have HC1 := Lib.hid hC1
  have HC := Lib.hid hC
  have h0n : (0 : Int) ≤ (n : Int) := by omega
  have h0k : (0 : Int) ≤ (k : Int) := by omega
  clear hg3 ho3 hz3 hset hoth hB4 hpz hinfo hC hC1 cn ck
  go_wp2_with (first
    | (refine wpList_load_row rfl 97 (.tmp 2) rfl w.heap.size rfl 97 C (0, 0) _ HSET.out Try.underlying97 rfl HINFO.out ?_)
    | (refine wpList_store_big rfl 97 (.tmp 4) (.tmp 28) rfl (w.heap.size + 1 + 1) C rfl rfl 97 (phA z32 0) HOTH.out 33 infoPh HPZ.out (phA_size _ _ z32_length) HC1.out w.heap.size w HB4.out (by omega) ?_; intro w4 hg4 ho4 hz4 hb4))
  refine bodyPost_ret (v := .tuple #[.agg C, .bool true]) ?_ rfl ⟨?_, ‹_›⟩
  · rw [results_cell_tmp (p := 4) (u := 5) (ty := 97) Try.results168]
    simp [asAddr, run_loadVar_row _ (w.heap.size + 1 + 1) 97 97 _ (0, 0) _ (by assumption) Try.underlying97 rfl HINFO.out, Result.andThen]
  · rw [HC.out]

set_option maxRecDepth 100000 in
set_option maxHeartbeats 2000000 in
theorem joined_not (l m : List Int) (hl : isSeq l = true) (hm : isSeq m = true) (hc : ¬ l.length + m.length ≤ 32) (w : World) : Calls Try.prog 168 #[.agg (phA (padL l) l.length), .agg (phA (padL m) m.length)] w (Ret w (.tuple #[.agg (phA z32 0), .bool false])) := by
  have h32 := isSeq_len hl
  have h32m := isSeq_len hm
  clear hl hm
  have hpl : (padL l).length = 32 := padL_length h32
  have hpm : (padL m).length = 32 := padL_length h32m
  have hlen := phA_len (padL l) (l.length : Int) hpl
  have hlenm := phA_len (padL m) (m.length : Int) hpm
  obtain ⟨cs, hcs⟩ : ∃ cs, cs = phA (padL l) (l.length : Int) := ⟨_, rfl⟩
  obtain ⟨ds, hds⟩ : ∃ ds, ds = phA (padL m) (m.length : Int) := ⟨_, rfl⟩
  rw [← hcs, ← hds]
  rw [← hcs] at hlen
  rw [← hds] at hlenm
  have hinfo : (Try.prog.info? 97).map (·.size) = some (phA z32 0).size := by rw [phA_size _ _ z32_length]; exact infoPh
  have HINFO := Lib.hid hinfo
  have h33 : (32 : Int) < (l.length : Int) + (m.length : Int) := by omega
  clear hcs hds hpl hpm hc hinfo
  go_enter Try.func168, Try.ntmps168
  go_wp2_with (first
    | (refine wpList_alloc_big rfl 97 rfl (phA z32 0) zeroPh ?_; simp only [World.size_alloc, Act.put, List.setIfInBounds_toArray, List.set_cons_zero, List.set_cons_succ])
    | (refine wpList_store_big rfl 97 (.tmp 4) (.tmp 12) rfl (w.heap.size + 1 + 1) (phA z32 0) rfl rfl 97 (phA z32 0) (by have := heap_alloc_new ((w.alloc (.cells cs 97)).alloc (.cells ds 97)) (.cells (phA z32 0) 97); rw [World.size_alloc, World.size_alloc] at this; exact this) 33 infoPh (phA_size _ _ z32_length) (phA_size _ _ z32_length) (phA_one _ _) w.heap.size w (by go_grown) (by omega) ?_; intro w4 hg4 ho4 hz4 hb4))
  refine bodyPost_ret (v := .tuple #[.agg (phA z32 0), .bool false]) ?_ rfl ⟨rfl, ‹_›⟩
  rw [results_cell_tmp (p := 4) (u := 5) (ty := 97) Try.results168]
  simp [asAddr, run_loadVar_row _ (w.heap.size + 1 + 1) 97 97 _ (0, 0) _ (by assumption) Try.underlying97 rfl HINFO.out, Result.andThen]
end
section
open Go.RowKit

theorem weaveG_length (l m : List Int) : (weaveG l m).length = 2 * l.length := gen_length _ _

set_option maxRecDepth 100000 in
set_option maxHeartbeats 4000000 in
theorem weaved_any (l m : List Int) (hc : l.length = m.length ∧ l.length + m.length ≤ 32) (w : World) : Calls Try.prog 163 #[.agg (phA (padL l) l.length), .agg (phA (padL m) m.length)] w (Ret w (.tuple #[.agg (phA (padL (weaveG l m)) (weaveG l m).length), .bool true])) := by
  obtain ⟨hlm, h32⟩ := hc
  rw [weaveG_length]
  obtain ⟨N, hN⟩ : ∃ N, N = l.length := ⟨_, rfl⟩
  obtain ⟨G, hG⟩ : ∃ G : Nat → Int, G = fun (i : Nat) => if i % 2 = 0 then l.getD (i / 2) 0 else m.getD (i / 2) 0 := ⟨_, rfl⟩
  have hgoal : weaveG l m = gen (2 * N) G := by rw [hN, hG]; rfl
  have hpl : (padL l).length = 32 := padL_length (by omega)
  have hpm : (padL m).length = 32 := padL_length (by omega)
  have hlen := phA_len (padL l) (l.length : Int) hpl
  have hlenm := phA_len (padL m) (m.length : Int) hpm
  have hgetl : ∀ i : Nat, i < l.length → (phA (padL l) (l.length : Int))[i]? = some (.int .i64 (l.getD i 0)) := fun i hi => by rw [phA_get _ _ i (by omega), pad_getD l i hi]
  have hgetm : ∀ i : Nat, i < m.length → (phA (padL m) (m.length : Int))[i]? = some (.int .i64 (m.getD i 0)) := fun i hi => by rw [phA_get _ _ i (by omega), pad_getD m i hi]
  obtain ⟨cs, hcs⟩ : ∃ cs, cs = phA (padL l) (l.length : Int) := ⟨_, rfl⟩
  obtain ⟨ds, hds⟩ : ∃ ds, ds = phA (padL m) (m.length : Int) := ⟨_, rfl⟩
  rw [hgoal, ← hcs, ← hds]
  rw [← hcs] at hlen hgetl
  rw [← hds] at hlenm hgetm
  rw [← hlm] at hlenm hgetm h32
  rw [← hN] at hlen hlenm hgetl hgetm h32 ⊢
  have HG := Lib.hid hG
  have HGL := Lib.hid hgetl
  have HGM := Lib.hid hgetm
  have HLEN := Lib.hid hlen
  have HLENM := Lib.hid hlenm
  have hN16 : N ≤ 16 := by omega
  clear hcs hds hN hG hpl hpm hgoal hlm hgetl hgetm h32
  go_enter Try.func163, Try.ntmps163
  have ec : ((2 * N : Nat) : Int) = (N : Int) + (N : Int) := by omega
  rw [ec]
  clear ec
  go_wp2_with (first
    | (refine wpList_alloc_big rfl 97 rfl (phA z32 0) zeroPh ?_; simp only [World.size_alloc, Act.put, List.setIfInBounds_toArray, List.set_cons_zero, List.set_cons_succ])
    | (refine wpList_store_big rfl 97 (.tmp 6) (.tmp 27) rfl (w.heap.size + 1 + 1 + 1) (phA z32 (N + N)) rfl rfl 97 (phA z32 0) (by have := heap_alloc_new (((w.alloc (.cells cs 97)).alloc (.cells ds 97)).alloc (.cells (phA z32 0) 97)) (.cells (phA z32 0) 97); rw [World.size_alloc, World.size_alloc, World.size_alloc] at this; exact this) 33 infoPh (phA_size _ _ z32_length) (phA_size _ _ z32_length) (phA_one _ _) w.heap.size w (by go_grown) (by omega) ?_; intro w2 hg2 ho2 hz2 hb2; have k32 : w2.cell? ⟨w.heap.size, 32, none⟩ = some (.int .i64 N) := (by rw [cell_of_row w2 w.heap.size 32 cs 97 (0, 0) ((ho2 w.heap.size (by omega)).trans (by rw [heap_alloc_old _ _ (by simp; omega), heap_alloc_old _ _ (by simp; omega)]; exact heap_alloc2_old w _ _))]; exact HLEN.out)))
  have hs0 : w2.heap[w.heap.size]? = some (.cells cs 97 (0, 0)) := (ho2 w.heap.size (by omega)).trans (by rw [heap_alloc_old _ _ (by simp; omega), heap_alloc_old _ _ (by simp; omega)]; exact heap_alloc2_old w _ _)
  have hs1 : w2.heap[w.heap.size + 1]? = some (.cells ds 97 (0, 0)) := (ho2 (w.heap.size + 1) (by omega)).trans (by rw [heap_alloc_old _ _ (by simp; try omega), heap_alloc_old _ _ (by simp; try omega)]; exact heap_alloc2_new w _ _)
  have hs2 : w2.heap[w.heap.size + 1 + 1]? = some (.cells (phA z32 0) 97 (0, 0)) := (ho2 (w.heap.size + 1 + 1) (by omega)).trans (by rw [heap_alloc_old _ _ (by simp)]; have := heap_alloc_new ((w.alloc (.cells cs 97)).alloc (.cells ds 97)) (.cells (phA z32 0) 97); rw [World.size_alloc, World.size_alloc] at this; exact this)
  have HS0 := Lib.hid hs0
  have HS1 := Lib.hid hs1
  have HS2 := Lib.hid hs2
  have HS3 := Lib.hid hg2
  have HB2 := Lib.hid hb2
  clear hs0 hs1 hs2 hg2 ho2 hz2 hb2 k32
  go_loopw [30] (fun i wr => ∃ j : Nat, j ≤ N ∧ i = .int .i64 j ∧ wr.heap[w.heap.size]? = some (.cells cs 97 (0, 0)) ∧ wr.heap[w.heap.size + 1]? = some (.cells ds 97 (0, 0)) ∧ wr.heap[w.heap.size + 1 + 1]? = some (.cells (phA z32 0) 97 (0, 0)) ∧ wr.heap[w.heap.size + 1 + 1 + 1]? = some (.cells (phA (padL (gen (2 * j) G)) (N + N)) 97 (0, 0)) ∧ Below w.heap.size w wr) (fun i _ => N - (intOf i).toNat)
  case atStart => exact ⟨0, Nat.zero_le _, rfl, HS0.out, HS1.out, HS2.out, HS3.out, HB2.out⟩
  case round =>
    obtain ⟨j, hj, rfl, hb0, hbm, hb1, hbq, hbel⟩ := hrel
    have hgl : (gen (2 * j) G).length = 2 * j := gen_length _ _
    have hpl2 : (padL (gen (2 * j) G)).length = 32 := padL_length (by rw [hgl]; omega)
    have c32 : wr.cell? ⟨w.heap.size, 32, none⟩ = some (.int .i64 N) := by rw [cell_of_row wr _ _ _ _ _ hb0]; exact HLEN.out
    have HB := Lib.hid hbel
    by_cases hlt : j < N
    · have h0 : (0 : Int) ≤ (j : Int) := by omega
      have h1 : (j : Int) < 16 := by omega
      have h1' : (j : Int) < (N : Int) := by omega
      have cl : wr.cell? ⟨w.heap.size, j, none⟩ = some (.int .i64 (l.getD j 0)) := by rw [cell_of_row wr _ _ _ _ _ hb0]; exact HGL.out j hlt
      have cm : wr.cell? ⟨w.heap.size + 1, j, none⟩ = some (.int .i64 (m.getD j 0)) := by rw [cell_of_row wr _ _ _ _ _ hbm]; exact HGM.out j hlt
      have cj : wr.cell? ⟨w.heap.size + 1 + 1 + 1, 2 * j, none⟩ = some (.int .i64 0) := by rw [cell_of_row wr _ _ _ _ _ hbq, phA_get _ _ (2 * j) (by omega), pad_at _ (2 * j) (by omega)]
      have fj : wr.frozen? ⟨w.heap.size + 1 + 1 + 1, 2 * j, none⟩ = false := frozen_of_row wr _ _ _ _ hbq
      have cj1 : wr.cell? ⟨w.heap.size + 1 + 1 + 1, 2 * j + 1, none⟩ = some (.int .i64 0) := by
        rw [cell_of_row wr _ _ _ _ _ hbq, phA_get _ _ (2 * j + 1) (by omega)]
        have : (padL (gen (2 * j) G)).getD (2 * j + 1) 0 = 0 := by
          unfold padL List.getD
          rw [List.getElem?_append_right (by rw [gen_length]; omega), gen_length, List.getElem?_replicate, if_pos (by omega)]
          rfl
        rw [this]
      have fj1 : wr.frozen? ⟨w.heap.size + 1 + 1 + 1, 2 * j + 1, none⟩ = false := frozen_of_row wr _ _ _ _ hbq
      have hgj : G (2 * j) = l.getD j 0 := by
        rw [HG.out]
        show (if 2 * j % 2 = 0 then l.getD (2 * j / 2) 0 else m.getD (2 * j / 2) 0) = _
        rw [if_pos (by omega), show 2 * j / 2 = j by omega]
      have hgj1 : G (2 * j + 1) = m.getD j 0 := by
        rw [HG.out]
        show (if (2 * j + 1) % 2 = 0 then l.getD ((2 * j + 1) / 2) 0 else m.getD ((2 * j + 1) / 2) 0) = _
        rw [if_neg (by omega), show (2 * j + 1) / 2 = j by omega]
      have hset := heap_setCell_same wr (w.heap.size + 1 + 1 + 1) (2 * j) _ _ (.int .i64 (G (2 * j))) hbq
      rw [phA_set _ _ (2 * j) (by omega), pad_snoc G (2 * j) (by omega)] at hset
      have hset2 := heap_setCell_same _ (w.heap.size + 1 + 1 + 1) (2 * j + 1) _ _ (.int .i64 (G (2 * j + 1))) hset
      rw [phA_set _ _ (2 * j + 1) (by rw [padL_length (by rw [gen_length]; omega)]; omega), pad_snoc G (2 * j + 1) (by omega)] at hset2
      obtain ⟨x, hxd⟩ : ∃ x, x = l.getD j 0 := ⟨_, rfl⟩
      obtain ⟨y, hyd⟩ : ∃ y, y = m.getD j 0 := ⟨_, rfl⟩
      rw [← hxd] at cl hgj
      rw [← hyd] at cm hgj1
      rw [hgj, hgj1] at hset2
      have ho : ∀ k, k ≠ w.heap.size + 1 + 1 + 1 → ((wr.setCell ⟨w.heap.size + 1 + 1 + 1, 2 * j, none⟩ (.int .i64 x)).setCell ⟨w.heap.size + 1 + 1 + 1, 2 * j + 1, none⟩ (.int .i64 y)).heap[k]? = wr.heap[k]? := fun k hk => by
        rw [heap_setCell_other _ _ k _ hk, heap_setCell_other _ _ k _ hk]
      have HSET := Lib.hid hset2
      have HO0 := Lib.hid ((ho w.heap.size (by omega)).trans hb0)
      have HO1 := Lib.hid ((ho (w.heap.size + 1) (by omega)).trans hbm)
      have HO2 := Lib.hid ((ho (w.heap.size + 1 + 1) (by omega)).trans hb1)
      clear hset hset2 ho hgj hgj1 hxd hyd hgl hpl2 hb0 hb1 hbm hbq hbel hlen hlenm
      go_wp2_with fail
      go_roundw
      case rel => exact ⟨j + 1, by omega, by go_num, HO0.out, HO1.out, HO2.out, HSET.out, (HB.out.setCell (by simp; omega) _).setCell (by simp; omega) _⟩
      case measure => simp [intOf]; omega
    · have he : j = N := by omega
      subst he
      have HB0 := Lib.hid hbq
      have HB1 := Lib.hid hb1
      have hpz : (phA (padL (gen (2 * j) G)) ((j : Int) + j)).size = 33 := phA_size _ _ hpl2
      have HPZ := Lib.hid hpz
      have hinfo : (Try.prog.info? 97).map (·.size) = some (phA (padL (gen (2 * j) G)) ((j : Int) + j)).size := by rw [hpz]; exact infoPh
      have HINFO := Lib.hid hinfo
      obtain ⟨C, hC⟩ : ∃ C, C = phA (padL (gen (2 * j) G)) ((j : Int) + j) := ⟨_, rfl⟩
      have hC1 : C.all (·.oneCell') = true := by rw [hC]; exact phA_one _ _
      rw [← hC] at HB0 HPZ HINFO
      have HC1 := Lib.hid hC1
      have HC := Lib.hid hC
      clear hb0 hb1 hbm hbq hpz hinfo hC hC1 hgl hpl2 hbel hlen hlenm
      go_wp2_with (first
        | (refine wpList_load_row rfl 97 (.tmp 6) rfl (w.heap.size + 1 + 1 + 1) rfl 97 C (0, 0) _ HB0.out Try.underlying97 rfl HINFO.out ?_)
        | (refine wpList_store_big rfl 97 (.tmp 4) (.tmp 51) rfl (w.heap.size + 1 + 1) C rfl rfl 97 (phA z32 0) HB1.out 33 infoPh HPZ.out (phA_size _ _ z32_length) HC1.out w.heap.size w HB.out (by omega) ?_; intro w4 hg4 ho4 hz4 hb4))
      refine bodyPost_ret (v := .tuple #[.agg C, .bool true]) ?_ rfl ⟨?_, ‹_›⟩
      · rw [results_cell_tmp (p := 4) (u := 5) (ty := 97) Try.results163]
        simp [asAddr, run_loadVar_row _ (w.heap.size + 1 + 1) 97 97 _ (0, 0) _ (by assumption) Try.underlying97 rfl HINFO.out, Result.andThen]
      · rw [HC.out]

set_option maxRecDepth 100000 in
set_option maxHeartbeats 2000000 in
theorem weaved_not (l m : List Int) (hl : isSeq l = true) (hm : isSeq m = true) (hc : ¬ (l.length = m.length ∧ l.length + m.length ≤ 32)) (w : World) : Calls Try.prog 163 #[.agg (phA (padL l) l.length), .agg (phA (padL m) m.length)] w (Ret w (.tuple #[.agg (phA z32 0), .bool false])) := by
  have h32 := isSeq_len hl
  have h32m := isSeq_len hm
  clear hl hm
  have hpl : (padL l).length = 32 := padL_length h32
  have hpm : (padL m).length = 32 := padL_length h32m
  have hlen := phA_len (padL l) (l.length : Int) hpl
  have hlenm := phA_len (padL m) (m.length : Int) hpm
  obtain ⟨cs, hcs⟩ : ∃ cs, cs = phA (padL l) (l.length : Int) := ⟨_, rfl⟩
  obtain ⟨ds, hds⟩ : ∃ ds, ds = phA (padL m) (m.length : Int) := ⟨_, rfl⟩
  rw [← hcs, ← hds]
  rw [← hcs] at hlen
  rw [← hds] at hlenm
  have hinfo : (Try.prog.info? 97).map (·.size) = some (phA z32 0).size := by rw [phA_size _ _ z32_length]; exact infoPh
  have HINFO := Lib.hid hinfo
  by_cases e : l.length = m.length
  · have h33 : (32 : Int) < (l.length : Int) + (m.length : Int) := by omega
    rw [← e] at hlenm h33
    clear hcs hds hpl hpm hc hinfo e h32m
    go_enter Try.func163, Try.ntmps163
    go_wp2_with (first
      | (refine wpList_alloc_big rfl 97 rfl (phA z32 0) zeroPh ?_; simp only [World.size_alloc, Act.put, List.setIfInBounds_toArray, List.set_cons_zero, List.set_cons_succ])
      | (refine wpList_store_big rfl 97 (.tmp 4) (.tmp 21) rfl (w.heap.size + 1 + 1) (phA z32 0) rfl rfl 97 (phA z32 0) (by have := heap_alloc_new ((w.alloc (.cells cs 97)).alloc (.cells ds 97)) (.cells (phA z32 0) 97); rw [World.size_alloc, World.size_alloc] at this; exact this) 33 infoPh (phA_size _ _ z32_length) (phA_size _ _ z32_length) (phA_one _ _) w.heap.size w (by go_grown) (by omega) ?_; intro w4 hg4 ho4 hz4 hb4))
    refine bodyPost_ret (v := .tuple #[.agg (phA z32 0), .bool false]) ?_ rfl ⟨rfl, ‹_›⟩
    rw [results_cell_tmp (p := 4) (u := 5) (ty := 97) Try.results163]
    simp [asAddr, run_loadVar_row _ (w.heap.size + 1 + 1) 97 97 _ (0, 0) _ (by assumption) Try.underlying97 rfl HINFO.out, Result.andThen]
  · have hne : ((l.length : Int) == (m.length : Int)) = false := by simp; omega
    have hne2 : ((l.length : Int) != (m.length : Int)) = true := by simp; omega
    clear hcs hds hpl hpm hc hinfo e
    go_enter Try.func163, Try.ntmps163
    go_wp2_with (first
      | (refine wpList_alloc_big rfl 97 rfl (phA z32 0) zeroPh ?_; simp only [World.size_alloc, Act.put, List.setIfInBounds_toArray, List.set_cons_zero, List.set_cons_succ])
      | (refine wpList_store_big rfl 97 (.tmp 4) (.tmp 21) rfl (w.heap.size + 1 + 1) (phA z32 0) rfl rfl 97 (phA z32 0) (by have := heap_alloc_new ((w.alloc (.cells cs 97)).alloc (.cells ds 97)) (.cells (phA z32 0) 97); rw [World.size_alloc, World.size_alloc] at this; exact this) 33 infoPh (phA_size _ _ z32_length) (phA_size _ _ z32_length) (phA_one _ _) w.heap.size w (by go_grown) (by omega) ?_; intro w4 hg4 ho4 hz4 hb4))
    refine bodyPost_ret (v := .tuple #[.agg (phA z32 0), .bool false]) ?_ rfl ⟨rfl, ‹_›⟩
    rw [results_cell_tmp (p := 4) (u := 5) (ty := 97) Try.results163]
    simp [asAddr, run_loadVar_row _ (w.heap.size + 1 + 1) 97 97 _ (0, 0) _ (by assumption) Try.underlying97 rfl HINFO.out, Result.andThen]
end
end Go.Proofs.Ytfjhocmnafdnfaa
