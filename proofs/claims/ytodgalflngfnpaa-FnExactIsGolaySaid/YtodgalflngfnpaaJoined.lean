/- The program's joined: one sequence behind another, as values. -/
import Derived.Test.YtodgalflngfnpaaDJoinOf
import Derived.StillTailTactics
namespace Go.Proofs.Ytodgalflngfnpaa
set_option maxRecDepth 100000
open Go.RowKit

/-- A copy into a row; the world behind it under a name, all other rows as they were. -/
theorem wpList_copy_keep {P : Program} {w : World} {ops : Array Oper} {rest : List Oper} {o : Oper} {a : Act} {Q : Exit → Act → World → Prop} (hgd : o.guard = none) (d s : Operand) (dT sT : TypeId)
    (ho : o.op = .call { callee := .builtin .copy, args := #[d, s], argTypes := #[dT, sT] }) (elem : TypeId) (hu : P.underlying dT = some (.slice elem)) (hsz : (P.info? elem).map (·.size) = some 1)
    (dp sp : Option Addr) (dLen dCap sLen sCap : Nat) (hd : a.eval d = .slice dp dLen dCap) (hs : a.eval s = .slice sp sLen sCap)
    (g off : Nat) (cur : Array Value) (t : TypeId) (hg : w.heap[g]? = some (.cells cur t (0, 0))) (cs : List Value) (hn : cs.length = Nat.min sLen dLen)
    (hpos : 0 < cs.length → dp = some ⟨g, off, none⟩ ∧ ∃ ad, sp = some ad ∧ ∀ j v, cs[j]? = some v → w.cell? (ad.add j) = some v)
    (hfit : off + cs.length ≤ cur.size) (h1 : ∀ v ∈ cs, v.oneCell' = true) (S : Nat) (w0 : World) (hb : Below S w0 w) (hS : S ≤ g)
    (h : ∀ w', w'.heap[g]? = some (.cells (splice cur.toList off cs).toArray t (0, 0)) → (∀ k, k ≠ g → w'.heap[k]? = w.heap[k]?) → w'.heap.size = w.heap.size → Below S w0 w' → wpList P ops Q rest (a.put o.dst (goInt cs.length)) w') :
    wpList P ops Q (o :: rest) a w := by
  by_cases h0 : cs.length = 0
  · obtain rfl : cs = [] := List.eq_nil_of_length_eq_zero h0
    refine wpList_copy_nothing hgd d s dT sT ho elem hu hsz dp sp dLen dCap sLen sCap hd hs (by simpa using hn.symm) ?_
    refine h w ?_ (fun _ _ => rfl) rfl hb
    rw [hg]
    simp [splice]
  · obtain ⟨rfl, ad, rfl, hsrc⟩ := hpos (by omega)
    refine wpList_copy_own hgd d s dT sT ho elem hu hsz g off dLen dCap ad sLen sCap hd hs cur t hg cs hn hsrc hfit h1 ?_
    exact h _ (setRow_heap w g _ _ t _ hg) (fun k hk => setRow_other w g k _ hk) (by simp) (below_setRow hb hS _)

theorem slice_l (g n : Nat) (hn : n ≤ 32) (w : World) : (Instr.sliceAt 46 (.pointer (some ⟨g, 0, none⟩)) (some (.int .i64 n)) none none).run Try.prog w = .ok (.slice (some (if 32 = n then ⟨g, 0, none⟩ else (⟨g, 0, none⟩ : Addr).add n)) (32 - n) (32 - n)) w := by
  have hu : Try.prog.underlying 46 = some (.array (Try.prog.arrayLen 46) (Try.prog.elem 46)) := by rw [lenArr, elemArr]; exact Try.underlying46
  rw [run_sliceAt_array_l w _ _ hu .i64 n (by omega) (by rw [lenArr]; omega), lenArr, elemArr]
  simp [go_sem]
theorem phA_setlen (A : List Int) (n x : Int) (h : A.length = 32) : (phA A n).setIfInBounds 32 (.int .i64 x) = phA A x := by
  apply Array.ext_getElem?
  intro j
  simp only [phA]
  rw [List.setIfInBounds_toArray]
  simp only [List.getElem?_toArray]
  rw [← List.map_set, List.set_append_right _ _ (by omega), h]
  rfl
theorem splice_join (l m : List Int) (c : Int) (h : l.length + m.length ≤ 32) : (splice (phA (padL l) c).toList l.length (m.map (Value.int .i64))).toArray = phA (padL (l ++ m)) c := by
  unfold splice phA padL
  simp only [List.length_map]
  rw [← List.map_take, ← List.map_drop, ← List.map_append, ← List.map_append]
  congr 2
  rw [List.append_assoc, List.take_left, List.drop_append, List.drop_of_length_le (by omega), List.nil_append, show l.length + m.length - l.length = m.length by omega]
  rw [List.drop_append_of_le_length (by simp; omega), List.drop_replicate, List.append_assoc, List.append_assoc, List.length_append]
  congr 4
  omega

set_option maxRecDepth 100000 in
set_option maxHeartbeats 4000000 in
theorem joined_any (l m : List Int) (hc : l.length + m.length ≤ 32) (w : World) : Calls Try.prog 123 #[.agg (phA (padL l) l.length), .agg (phA (padL m) m.length)] w (Ret w (.tuple #[.agg (phA (padL (joinG l m)) (joinG l m).length), .bool true])) := by
  have hjl : ((joinG l m).length : Int) = (l.length : Int) + (m.length : Int) := by simp [joinG]
  rw [hjl]
  have hpl : (padL l).length = 32 := padL_length (by omega)
  have hpm : (padL m).length = 32 := padL_length (by omega)
  have hpj : (padL (joinG l m)).length = 32 := padL_length (by simp [joinG]; omega)
  have hlen := phA_len (padL l) (l.length : Int) hpl
  have hlenm := phA_len (padL m) (m.length : Int) hpm
  have hsrc : ∀ (j : Nat) (v : Value), (m.map (Value.int .i64))[j]? = some v → (phA (padL m) (m.length : Int))[j]? = some v := by
    intro j v hj
    have hjl : j < m.length := by have := (List.getElem?_eq_some_iff.1 hj).1; simpa using this
    rw [phA_get _ _ j (by omega), pad_getD m j hjl, ← hj]
    simp [List.getD, hjl]
  have hsplice := splice_join l m (l.length : Int) hc
  have hszc : (phA (padL l) (l.length : Int)).size = 33 := phA_size _ _ hpl
  obtain ⟨cs, hcs⟩ : ∃ cs, cs = phA (padL l) (l.length : Int) := ⟨_, rfl⟩
  obtain ⟨ds, hds⟩ : ∃ ds, ds = phA (padL m) (m.length : Int) := ⟨_, rfl⟩
  rw [← hcs, ← hds]
  rw [← hcs] at hlen hsplice hszc
  rw [← hds] at hlenm hsrc
  obtain ⟨J, hJ⟩ : ∃ J, J = joinG l m := ⟨_, rfl⟩
  rw [show l ++ m = J from hJ.symm] at hsplice
  rw [← hJ] at hpj ⊢
  obtain ⟨L, hL⟩ : ∃ L, L = m.map (Value.int .i64) := ⟨_, rfl⟩
  have hLn : L.length = m.length := by rw [hL, List.length_map]
  have hL1 : ∀ v ∈ L, v.oneCell' = true := by
    intro v hv
    rw [hL] at hv
    simp only [List.mem_map] at hv
    obtain ⟨x, _, rfl⟩ := hv
    rfl
  rw [← hL] at hsrc hsplice
  obtain ⟨n, hn⟩ : ∃ n, n = l.length := ⟨_, rfl⟩
  obtain ⟨k, hk⟩ : ∃ k, k = m.length := ⟨_, rfl⟩
  rw [← hn] at hlen hsplice hc ⊢
  rw [← hk] at hlenm hc hLn ⊢
  obtain ⟨AD, hAD⟩ : ∃ AD, AD = (if 32 = n then ⟨w.heap.size, 0, none⟩ else (⟨w.heap.size, 0, none⟩ : Addr).add n) := ⟨_, rfl⟩
  have hsl := slice_l w.heap.size n (by omega)
  rw [← hAD] at hsl
  have hsl2 := slice_h (w.heap.size + 1) k (by omega)
  have hAD2 : 0 < k → some AD = some ⟨w.heap.size, n, none⟩ := fun h => by rw [hAD, if_neg (by omega), Addr.add_lit, Nat.zero_add]
  have hi1 : (Try.prog.info? 3).map (·.size) = some 1 := by kernel_rfl
  have HI1 := Lib.hid hi1
  have HSRC := Lib.hid hsrc
  have HSPL := Lib.hid hsplice
  have HSZC := Lib.hid hszc
  have HPJ := Lib.hid hpj
  have HLN := Lib.hid hLn
  have HL1 := Lib.hid hL1
  have HAD2 := Lib.hid hAD2
  have HLEN := Lib.hid hlen
  have HLENM := Lib.hid hlenm
  have hnk : (n : Int) + (k : Int) ≤ 32 := by omega
  clear hpl hpm hjl hcs hds hJ hL hn hk hi1 hsrc hsplice hszc hpj hLn hL1 hAD hAD2
  go_enter Try.func123, Try.ntmps123
  go_wp2_with (refine wpList_alloc_big rfl 48 rfl (phA z32 0) zeroPh ?_; simp only [World.size_alloc, Act.put, List.setIfInBounds_toArray, List.set_cons_zero, List.set_cons_succ])
  obtain ⟨W, hW⟩ : ∃ W, W = ((w.alloc (.cells cs 48)).alloc (.cells ds 48)).alloc (.cells (phA z32 0) 48) := ⟨_, rfl⟩
  have hs0 : W.heap[w.heap.size]? = some (.cells cs 48 (0, 0)) := by rw [hW, heap_alloc_old _ _ (by simp; omega)]; exact heap_alloc2_old w _ _
  have hs1 : W.heap[w.heap.size + 1]? = some (.cells ds 48 (0, 0)) := by rw [hW, heap_alloc_old _ _ (by simp)]; exact heap_alloc2_new w _ _
  have hs2 : W.heap[w.heap.size + 1 + 1]? = some (.cells (phA z32 0) 48 (0, 0)) := by
    rw [hW]
    have := heap_alloc_new ((w.alloc (.cells cs 48)).alloc (.cells ds 48)) (.cells (phA z32 0) 48)
    rw [World.size_alloc, World.size_alloc] at this
    exact this
  have hBW : Below w.heap.size w W := by rw [hW]; go_grown
  have cn : W.cell? ⟨w.heap.size, 32, none⟩ = some (.int .i64 n) := by rw [cell_of_row W _ _ _ _ _ hs0]; exact HLEN.out
  have ck : W.cell? ⟨w.heap.size + 1, 32, none⟩ = some (.int .i64 k) := by rw [cell_of_row W _ _ _ _ _ hs1]; exact HLENM.out
  rw [← hW]
  have HS0 := Lib.hid hs0
  have HS1 := Lib.hid hs1
  have HS2 := Lib.hid hs2
  clear hW hs0 hs1 hs2 hlen hlenm
  go_wp2_with fail
  go_still_tail 8, (by kernel_rfl)
  change wpList _ _ _ _ _ W.drew
  refine wpList_copy_keep rfl (.tmp 16) (.tmp 20) 22 22 rfl 3 Try.underlying22 HI1.out _ _ _ _ _ _ rfl rfl w.heap.size n cs 48 HS0.out L (by rw [HLN.out]; exact (Nat.min_eq_left (by omega)).symm) (fun h => ⟨HAD2.out (by rw [← HLN.out]; exact h), _, rfl, fun j v hj => by rw [Addr.add_lit, Nat.zero_add]; exact (cell_of_row W.drew (w.heap.size + 1) j ds 48 (0, 0) HS1.out).trans (HSRC.out j v hj)⟩) (by rw [HLN.out, HSZC.out]; omega) HL1.out w.heap.size w hBW.drew (Nat.le_refl _) ?_
  intro w3 hg3 ho3 hz3 hb3
  rw [HSPL.out] at hg3
  have c3 : w3.cell? ⟨w.heap.size, 32, none⟩ = some (.int .i64 n) := by rw [cell_of_row w3 _ _ _ _ _ hg3]; exact phA_len _ _ HPJ.out
  have k3 : w3.cell? ⟨w.heap.size + 1, 32, none⟩ = some (.int .i64 k) := by rw [cell_of_row w3 _ _ _ _ _ ((ho3 (w.heap.size + 1) (by omega)).trans HS1.out)]; exact HLENM.out
  have f3 : w3.frozen? ⟨w.heap.size, 32, none⟩ = false := frozen_of_row w3 _ _ _ _ hg3
  have hset := heap_setCell_same w3 w.heap.size 32 _ _ (.int .i64 ((n : Int) + k)) hg3
  rw [phA_setlen _ _ _ HPJ.out] at hset
  have hoth := (heap_setCell_other w3 ⟨w.heap.size, 32, none⟩ (w.heap.size + 1 + 1) (.int .i64 ((n : Int) + k)) (by simp; omega)).trans ((ho3 (w.heap.size + 1 + 1) (by omega)).trans HS2.out)
  have hB4 := hb3.setCell (p := ⟨w.heap.size, 32, none⟩) (Nat.le_refl _) (.int .i64 ((n : Int) + k))
  have hpz : (phA (padL J) ((n : Int) + k)).size = 33 := phA_size _ _ HPJ.out
  have hinfo : (Try.prog.info? 48).map (·.size) = some (phA (padL J) ((n : Int) + k)).size := by rw [hpz]; exact infoPh
  obtain ⟨C, hC⟩ : ∃ C, C = phA (padL J) ((n : Int) + k) := ⟨_, rfl⟩
  have hC1 : C.all (·.oneCell') = true := by rw [hC]; exact phA_one _ _
  rw [← hC] at hset hpz hinfo
  have HSET := Lib.hid hset
  have HOTH := Lib.hid hoth
  have HB4 := Lib.hid hB4
  have HPZ := Lib.hid hpz
  have HINFO := Lib.hid hinfo
  have HC1 := Lib.hid hC1
  have HC := Lib.hid hC
  have h0n : (0 : Int) ≤ (n : Int) := by omega
  have h0k : (0 : Int) ≤ (k : Int) := by omega
  clear hg3 ho3 hz3 hset hoth hB4 hpz hinfo hC hC1 cn ck
  go_wp2_with (first
    | (refine wpList_load_row rfl 48 (.tmp 2) rfl w.heap.size rfl 48 C (0, 0) _ HSET.out Try.underlying48 rfl HINFO.out ?_)
    | (refine wpList_store_big rfl 48 (.tmp 4) (.tmp 28) rfl (w.heap.size + 1 + 1) C rfl rfl 48 (phA z32 0) HOTH.out 33 infoPh HPZ.out (phA_size _ _ z32_length) HC1.out w.heap.size w HB4.out (by omega) ?_; intro w4 hg4 ho4 hz4 hb4))
  refine bodyPost_ret (v := .tuple #[.agg C, .bool true]) ?_ rfl ⟨?_, ‹_›⟩
  · rw [results_cell_tmp (p := 4) (u := 5) (ty := 48) Try.results123]
    simp [asAddr, run_loadVar_row _ (w.heap.size + 1 + 1) 48 48 _ (0, 0) _ (by assumption) Try.underlying48 rfl HINFO.out, Result.andThen]
  · rw [HC.out]

set_option maxRecDepth 100000 in
set_option maxHeartbeats 2000000 in
theorem joined_not (l m : List Int) (hl : isSeq l = true) (hm : isSeq m = true) (hc : ¬ l.length + m.length ≤ 32) (w : World) : Calls Try.prog 123 #[.agg (phA (padL l) l.length), .agg (phA (padL m) m.length)] w (Ret w (.tuple #[.agg (phA z32 0), .bool false])) := by
  have h32 := isSeq_len hl
  have h32m := isSeq_len hm
  clear hl hm
  have hpl : (padL l).length = 32 := padL_length h32
  have hpm : (padL m).length = 32 := padL_length h32m
  have hlen := phA_len (padL l) (l.length : Int) hpl
  have hlenm := phA_len (padL m) (m.length : Int) hpm
  obtain ⟨cs, hcs⟩ : ∃ cs, cs = phA (padL l) (l.length : Int) := ⟨_, rfl⟩
  obtain ⟨ds, hds⟩ : ∃ ds, ds = phA (padL m) (m.length : Int) := ⟨_, rfl⟩
  rw [← hcs, ← hds]
  rw [← hcs] at hlen
  rw [← hds] at hlenm
  have hinfo : (Try.prog.info? 48).map (·.size) = some (phA z32 0).size := by rw [phA_size _ _ z32_length]; exact infoPh
  have HINFO := Lib.hid hinfo
  have h33 : (32 : Int) < (l.length : Int) + (m.length : Int) := by omega
  clear hcs hds hpl hpm hc hinfo
  go_enter Try.func123, Try.ntmps123
  go_wp2_with (first
    | (refine wpList_alloc_big rfl 48 rfl (phA z32 0) zeroPh ?_; simp only [World.size_alloc, Act.put, List.setIfInBounds_toArray, List.set_cons_zero, List.set_cons_succ])
    | (refine wpList_store_big rfl 48 (.tmp 4) (.tmp 12) rfl (w.heap.size + 1 + 1) (phA z32 0) rfl rfl 48 (phA z32 0) (by have := heap_alloc_new ((w.alloc (.cells cs 48)).alloc (.cells ds 48)) (.cells (phA z32 0) 48); rw [World.size_alloc, World.size_alloc] at this; exact this) 33 infoPh (phA_size _ _ z32_length) (phA_size _ _ z32_length) (phA_one _ _) w.heap.size w (by go_grown) (by omega) ?_; intro w4 hg4 ho4 hz4 hb4))
  refine bodyPost_ret (v := .tuple #[.agg (phA z32 0), .bool false]) ?_ rfl ⟨rfl, ‹_›⟩
  rw [results_cell_tmp (p := 4) (u := 5) (ty := 48) Try.results123]
  simp [asAddr, run_loadVar_row _ (w.heap.size + 1 + 1) 48 48 _ (0, 0) _ (by assumption) Try.underlying48 rfl HINFO.out, Result.andThen]
end Go.Proofs.Ytodgalflngfnpaa
