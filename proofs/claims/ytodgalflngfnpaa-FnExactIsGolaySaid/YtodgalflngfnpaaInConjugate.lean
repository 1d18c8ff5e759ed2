/- The program's conjugate: each phase of its own copy in turn. -/
import Derived.Test.YtodgalflngfnpaaGen
namespace Go.Proofs.Ytodgalflngfnpaa
set_option maxRecDepth 100000
open Go.RowKit

set_option maxRecDepth 100000 in
set_option maxHeartbeats 2000000 in
theorem conjugate_any (l : List Int) (hl : isSeq l = true) (w : World) : Calls Try.prog 128 #[.agg (phA (padL l) l.length)] w (Ret w (.agg (phA (padL (gen l.length (fun (i : Nat) => (-(l.getD i 0)) % 4))) l.length))) := by
  have h32 := isSeq_len hl
  have hall := isSeq_all hl
  have HALL := Lib.hid hall
  clear hall hl
  obtain ⟨N, hN⟩ : ∃ N, N = l.length := ⟨_, rfl⟩
  obtain ⟨G, hG⟩ : ∃ G : Nat → Int, G = fun (i : Nat) => (-(l.getD i 0)) % 4 := ⟨_, rfl⟩
  have hpl : (padL l).length = 32 := padL_length h32
  have hlen := phA_len (padL l) (l.length : Int) hpl
  obtain ⟨cs, hcs⟩ : ∃ cs, cs = phA (padL l) (l.length : Int) := ⟨_, rfl⟩
  have hsz : cs.size = 33 := by rw [hcs]; exact phA_size _ _ hpl
  rw [← hG, ← hcs]
  rw [← hcs] at hlen
  rw [← hN] at hlen h32 ⊢
  have HCS := Lib.hid hcs
  have HN := Lib.hid hN
  have HG := Lib.hid hG
  have HSZ := Lib.hid hsz
  have HPL := Lib.hid hpl
  clear hcs hN hG hsz hpl
  go_enter Try.func128, Try.ntmps128
  go_wp2_with (refine wpList_alloc_big rfl 48 rfl (phA z32 0) zeroPh ?_)
  go_loopw [6] (fun i wr => ∃ j : Nat, j ≤ N ∧ i = .int .i64 j ∧ wr.heap[w.heap.size]? = some (.cells (phA (padL (gen N (fun i => if i < j then G i else l.getD i 0))) N) 48 (0, 0)) ∧ wr.heap[w.heap.size + 1]? = some (.cells (phA z32 0) 48 (0, 0)) ∧ Below w.heap.size w wr) (fun i _ => N - (intOf i).toNat)
  case atStart =>
    refine ⟨0, Nat.zero_le _, rfl, ?_, ?_, by go_grown⟩
    · rw [heap_alloc2_old, HCS.out]
      have e : gen N (fun i => if i < 0 then G i else l.getD i 0) = l := by
        rw [HN.out]
        refine Eq.trans (gen_ext (fun i _ => ?_)) (gen_self l)
        rw [if_neg (Nat.not_lt_zero _)]
      rw [e, HN.out]
    · exact heap_alloc2_new w _ _
  case round =>
    obtain ⟨j, hj, rfl, hb0, hb1, hbel⟩ := hrel
    have hgl : (gen N (fun i => if i < j then G i else l.getD i 0)).length = N := gen_length _ _
    have hpl2 : (padL (gen N (fun i => if i < j then G i else l.getD i 0))).length = 32 := padL_length (by rw [hgl]; exact h32)
    have c32 : wr.cell? ⟨w.heap.size, 32, none⟩ = some (.int .i64 N) := by rw [cell_of_row wr _ _ _ _ _ hb0, phA_len _ _ hpl2]
    have HB := Lib.hid hbel
    by_cases hlt : j < N
    · have hx := allIn_getD HALL.out j (by rw [← HN.out]; exact hlt)
      have cj : wr.cell? ⟨w.heap.size, j, none⟩ = some (.int .i64 (l.getD j 0)) := by
        rw [cell_of_row wr _ _ _ _ _ hb0, phA_get _ _ j (by omega), pad_getD _ j (by rw [hgl]; exact hlt), gen_getD _ _ j hlt, if_neg (Nat.lt_irrefl _)]
      have fj : wr.frozen? ⟨w.heap.size, j, none⟩ = false := frozen_of_row wr _ _ _ _ hb0
      have hgj : G j = (-(l.getD j 0)) % 4 := by rw [HG.out]
      have hset := heap_setCell_same wr w.heap.size j _ _ (.int .i64 (G j)) hb0
      rw [phA_set _ _ j (by omega), pad_set _ j _ (by rw [hgl]; exact hlt), gen_set] at hset
      have hoth := heap_setCell_other wr ⟨w.heap.size, j, none⟩ (w.heap.size + 1) (.int .i64 (G j)) (by simp)
      have e2 : gen N (fun i => if i = j then G j else if i < j then G i else l.getD i 0) = gen N (fun i => if i < j + 1 then G i else l.getD i 0) := by
        apply gen_ext
        intro i _
        by_cases h1 : i = j
        · subst h1; rw [if_pos rfl, if_pos (Nat.lt_succ_self _)]
        · rw [if_neg h1]
          by_cases h2 : i < j
          · rw [if_pos h2, if_pos (Nat.lt_succ_of_lt h2)]
          · rw [if_neg h2, if_neg (by omega)]
      rw [e2] at hset
      rw [hb1] at hoth
      obtain ⟨x, hxd⟩ : ∃ x, x = l.getD j 0 := ⟨_, rfl⟩
      rw [← hxd] at hx cj hgj
      have HSET := Lib.hid hset
      have HOTH := Lib.hid hoth
      have HGJ := Lib.hid hgj
      obtain ⟨hx1, hx2⟩ := hx
      have h0 : (0 : Int) ≤ (j : Int) := by omega
      have h1 : (j : Int) < 32 := by omega
      have h1' : (j : Int) < (N : Int) := by omega
      clear hset hoth hgj hxd e2 hgl hpl2 hb0 hb1 hbel hlen
      go_wp2_with (go_at_call 98; refine (modulo_any _ 4 (by omega) (by omega) (by omega) (by omega) _).mono ?_; rintro e w' ⟨rfl, rfl⟩)
      go_roundw
      case rel =>
        rw [HGJ.out] at HSET HOTH
        exact ⟨j + 1, by omega, by go_num, HSET.out, HOTH.out, HB.out.setCell (Nat.le_refl _) _⟩
      case measure => simp [intOf]; omega
    · have he : gen N (fun i => if i < j then G i else l.getD i 0) = gen N G := gen_ext (fun i hi => by rw [if_pos (by omega)])
      rw [he] at hb0 hpl2
      have HB0 := Lib.hid hb0
      have HB1 := Lib.hid hb1
      have hpz : (phA (padL (gen N G)) (N : Int)).size = 33 := phA_size _ _ hpl2
      have HPZ := Lib.hid hpz
      have hinfo : (Try.prog.info? 48).map (·.size) = some (phA (padL (gen N G)) (N : Int)).size := by rw [hpz]; exact infoPh
      have HINFO := Lib.hid hinfo
      obtain ⟨C, hC⟩ : ∃ C, C = phA (padL (gen N G)) (N : Int) := ⟨_, rfl⟩
      have hC1 : C.all (·.oneCell') = true := by rw [hC]; exact phA_one _ _
      rw [← hC] at HB0 HPZ HINFO
      have HC1 := Lib.hid hC1
      have HC := Lib.hid hC
      clear he hb0 hb1 hpz hinfo hC hC1 hgl hpl2 hbel hlen
      go_wp2_with (first
        | (refine wpList_load_row rfl 48 (.tmp 1) rfl w.heap.size rfl 48 C (0, 0) _ HB0.out Try.underlying48 rfl HINFO.out ?_)
        | (refine wpList_store_big rfl 48 (.tmp 2) (.tmp 19) rfl (w.heap.size + 1) C rfl rfl 48 (phA z32 0) HB1.out 33 infoPh HPZ.out (phA_size _ _ z32_length) HC1.out w.heap.size w HB.out (by omega) ?_; intro w4 hg4 ho4 hz4 hb4))
      refine bodyPost_ret (v := .agg C) ?_ rfl ⟨?_, ‹_›⟩
      · exact results_cell_row Try.results128 _ _ (w.heap.size + 1) 48 C (0, 0) _ rfl (by assumption) Try.underlying48 rfl HINFO.out
      · rw [HC.out]
end Go.Proofs.Ytodgalflngfnpaa
