/- The program's phasesWith and barkersOf. -/
import Derived.Test.YtmckophclehkpabIEn
import Derived.Test.YtmckophclehkpabPairA
import Derived.Test.YtmckophclehkpabBarM
import Derived.Test.YtmckophclehkpabRowB
import Derived.Great.BuildSlice
namespace Go.Proofs.Ytmckophclehkpab
open Go.RowKit

set_option maxRecDepth 100000 in
set_option maxHeartbeats 1000000 in
theorem phasesWith_any (n : Nat) (hn : n ≤ 6) (r : Nat) (hr : r < pow4 n) (w : World) : Calls Try.prog 54 #[.int .i64 n, .int .i64 r] w (Ret w (.agg (phA (padL (lowD r n)) n))) := by
  have hp := (pow4_le n hn).2
  have hok : withOk n r = true := by
    unfold withOk pow4 at *
    rw [Int.toNat_natCast, decide_eq_true (by omega), Bool.true_and, decide_eq_true_eq]
    exact ⟨by omega, by exact_mod_cast hr⟩
  have HW := iwith_any n r (by omega)
  have hwf : withF n r = lowD r n := by unfold withF; rw [hok, Int.toNat_natCast]; rfl
  rw [hok, hwf] at HW
  have hsq := lowD_seq r n (by omega)
  have HP : ∀ v w, IS w v (lowD r n) → Calls Try.prog 31 #[v] w (Ret w (.tuple #[.agg (phA (padL (lowD r n)) n), .bool true])) := fun v w h => by
    have := phasesOf_seq v _ w h hsq
    rwa [lowD_length] at this
  have hsz : (phA (padL (lowD r n)) (n : Int)).size = 33 := phA_size _ _ (padL_length (by rw [lowD_length]; omega))
  have hone := phA_one (padL (lowD r n)) (n : Int)
  have hi : (Try.prog.info? 43).map (·.size) = some (phA (padL (lowD r n)) (n : Int)).size := by rw [hsz]; exact infoPh
  obtain ⟨C, hC⟩ : ∃ C, C = phA (padL (lowD r n)) (n : Int) := ⟨_, rfl⟩
  obtain ⟨D, hD⟩ : ∃ D, D = lowD r n := ⟨_, rfl⟩
  rw [← hC] at HP hsz hone hi ⊢
  rw [← hD] at HP HW
  have HW' := Lib.hid HW
  have HP' := Lib.hid HP
  have HSZ := Lib.hid hsz
  have HONE := Lib.hid hone
  have HI := Lib.hid hi
  have h04 : (w.alloc (.cells (phA z32 0) 43)).heap[w.heap.size]? = some (.cells (phA z32 0) 43 (0, 0)) := heap_alloc_new w _
  have H04 := Lib.hid h04
  clear HW HP hsz hone hi hC hD hsq hwf hok hp h04
  go_enter Try.func54, Try.ntmps54
  go_wp2_with (refine wpList_alloc_big rfl 43 rfl (phA z32 0) zeroPh ?_)
  refine (HW'.out _).mono ?_
  rintro e w1 ⟨v1, rfl, ho1, hb1⟩
  have HO1 := Lib.hid ho1
  have hs1 : w.heap.size + 1 ≤ w1.heap.size := by have := hb1.size; simpa using this
  have H14 := Lib.hid ((hb1.block w.heap.size (by simp)).trans H04.out)
  have HB1 := Lib.hid (joins (belowa (Below.refl _ _) _) hb1)
  clear ho1 hb1
  go_wp2_with fail
  refine (HP'.out _ _ HO1.out.is).mono ?_
  rintro e w2 ⟨rfl, hb2⟩
  have H24 := Lib.hid ((hb2.block w.heap.size (by omega)).trans H14.out)
  have HB2 := Lib.hid (joins HB1.out hb2)
  have hs2 : w.heap.size + 1 ≤ w2.heap.size := by have := hb2.size; omega
  clear hb2
  go_wp2_with (first
    | (refine wpList_alloc_big rfl 43 rfl (phA z32 0) zeroPh ?_)
    | (refine wpList_store_big rfl 43 (.tmp 7) (.tmp 18) rfl w2.heap.size C rfl rfl 43 _ (heap_alloc_new w2 _) 33 infoPh HSZ.out (phA_size _ _ z32_length) HONE.out w.heap.size w (belowa HB2.out _) (by omega) ?_; intro w3 hg3 ho3 hz3 hb3; have HG3 := Lib.hid hg3; have H34 := Lib.hid ((ho3 w.heap.size (by omega)).trans ((heap_alloc_old _ _ (by omega)).trans H24.out)); have HB3 := Lib.hid hb3; clear hg3 ho3 hz3 hb3)
    | (refine wpList_load_row rfl 43 (.tmp 7) rfl w2.heap.size rfl 43 C (0, 0) _ HG3.out Try.underlying43 rfl HI.out ?_)
    | (refine wpList_store_big rfl 43 (.tmp 4) (.tmp 20) rfl w.heap.size C rfl rfl 43 (phA z32 0) H34.out 33 infoPh HSZ.out (phA_size _ _ z32_length) HONE.out w.heap.size w HB3.out (by omega) ?_; intro w4 hg4 ho4 hz4 hb4; have HG4 := Lib.hid hg4; have HB4 := Lib.hid hb4; clear hg4 ho4 hz4 hb4))
  refine bodyPost_ret (v := .agg C) ?_ rfl ⟨rfl, HB4.out⟩
  exact results_cell_row Try.results54 _ _ w.heap.size 43 C (0, 0) _ rfl HG4.out Try.underlying43 rfl HI.out

theorem infoP : (Try.prog.info? 43).map (fun i => (i.zero, i.size, i.bytes)) = some (some (.agg (phA z32 0)), 33, 264) := by kernel_rfl
theorem fill_one (C : Array Value) (h : C.size = 33) (cells : Array Value) (hc : cells.size = 33) : Instr.fill (fun i => some (i * 33, 33)) cells [(0, .agg C)] = some C := by
  have := Great.fill_whole (s := 33) (by omega) [.agg C] cells (by intro v hv; simp at hv; subst hv; simpa [Value.cells] using h) (by simp [hc])
  simpa [Value.cells] using this
theorem fill_hf (i0 : TypeInfo) (h : i0.size = 33) (C : Array Value) (hC : C.size = 33) : Instr.fill (fun i => some (i * i0.size, i0.size)) ((Array.range (1 * i0.size)).map ((Value.agg (phA z32 0)).cells[· % (Value.agg (phA z32 0)).cells.size]!)) [(0, .agg C)] = some C := by
  rw [h]
  refine fill_one C hC _ ?_
  rw [Array.size_map, Array.size_range]
theorem parts_one (a : Act) (k : Tmp) : ((#[(0, Operand.tmp k)] : Array (Nat × Operand)).map fun (i, x) => (i, a.eval x)).toList = [(0, a.eval (.tmp k))] := by simp
theorem news_row (w : World) (C : Array Value) (t : TypeId) : ∀ j u, C.toList[j]? = some u → (w.alloc (.cells C t)).cell? ((⟨w.heap.size, 0, none⟩ : Addr).add j) = some u := by
  intro j u hj
  rw [Addr.add_lit, Nat.zero_add, cell_of_row _ _ _ _ _ _ (heap_alloc_new w _)]
  simpa using hj
/-- The cells of the sequences of these ranks, side by side. -/
def rankCells (n : Nat) (rs : List Nat) : List Value := rs.flatMap (fun r : Nat => (phA (padL (lowD (r : Int) n)) n).toList)
/-- A call that makes a row of sequences of its own. -/
def MakesP (w : World) (n : Nat) (rs : List Nat) (e : Ending) (w' : World) : Prop := ∃ v, e = .returned v ∧ w'.ownsRow w.heap.size 43 33 v rs.length (rankCells n rs) ∧ Below w.heap.size w w'

set_option maxRecDepth 100000 in
set_option maxHeartbeats 2000000 in
theorem barkersOf_any (N : Nat) (hN : N ≤ 6) (w : World) : Calls Try.prog 42 #[.int .i64 N] w (MakesP w N (barH N)) := by
  obtain ⟨i0, hi, hz0, hz1, hz2⟩ := info_parts infoP
  have HW : ∀ k : Nat, k < pow4 N → ∀ w, Calls Try.prog 54 #[.int .i64 N, .int .i64 k] w (Ret w (.agg (phA (padL (lowD k N)) N))) := fun k hk w => phasesWith_any N hN k hk w
  have HB : ∀ k : Nat, ∀ w, Calls Try.prog 38 #[.agg (phA (padL (lowD k N)) N)] w (Ret w (.bool (barB (lowD k N)))) := fun k w => by
    have := isBarker_any (lowD k N) (lowD_seq k N (by omega)) w
    rwa [lowD_length] at this
  have hst : ∀ k, barL N (k + 1) = if barB (lowD (k : Int) N) then barL N k ++ [k] else barL N k := fun k => rfl
  obtain ⟨B, hB⟩ : ∃ B : Nat → Bool, B = fun k : Nat => barB (lowD k N) := ⟨_, rfl⟩
  obtain ⟨D, hD⟩ : ∃ D : Nat → Array Value, D = fun k : Nat => phA (padL (lowD k N)) N := ⟨_, rfl⟩
  have hsz : ∀ k, (D k).size = 33 := fun k => by rw [hD]; exact phA_size _ _ (padL_length (by rw [lowD_length]; omega))
  have hone : ∀ k, (D k).all (·.oneCell') = true := fun k => by rw [hD]; exact phA_one _ _
  have HW2 : ∀ k : Nat, k < pow4 N → ∀ w, Calls Try.prog 54 #[.int .i64 N, .int .i64 k] w (Ret w (.agg (D k))) := fun k hk w => by rw [hD]; exact HW k hk w
  have HB2 : ∀ k : Nat, ∀ w, Calls Try.prog 38 #[.agg (D k)] w (Ret w (.bool (B k))) := fun k w => by rw [hB, hD]; exact HB k w
  have hst2 : ∀ k, barL N (k + 1) = if B k then barL N k ++ [k] else barL N k := fun k => by rw [hB]; exact hst k
  have hrc : ∀ rs k, rankCells N (rs ++ [k]) = rankCells N rs ++ (D k).toList := fun rs k => by rw [hD]; simp [rankCells]
  have hp := pow4_le N hN
  have hsh := shl_eq N hN
  have hlen := barL_len N
  unfold barH
  obtain ⟨K, hK⟩ : ∃ K, K = pow4 N := ⟨_, rfl⟩
  rw [← hK] at HW2 hp hsh ⊢
  obtain ⟨hp1, hp2⟩ := hp
  have HI := Lib.hid hi
  have HZ0 := Lib.hid hz0
  have HZ1 := Lib.hid hz1
  have HZ2 := Lib.hid hz2
  have HW' := Lib.hid HW2
  have HB' := Lib.hid HB2
  have HST := Lib.hid hst2
  have HLEN := Lib.hid hlen
  have HSZ := Lib.hid hsz
  have HONE := Lib.hid hone
  have HRC := Lib.hid hrc
  clear HW HW2 HB HB2 hst hst2 hB hD hK hlen hsz hone hrc hi hz0 hz1 hz2
  go_enter Try.func42, Try.ntmps42
  go_wp2_with fail
  rw [hsh]
  go_loopw [9, 3] (fun i c wr => ∃ k : Nat, k ≤ K ∧ i = .int .i64 k ∧ wr.ownsRow w.heap.size 43 33 c (barL N k).length (rankCells N (barL N k)) ∧ Below w.heap.size w wr) (fun i _ _ => K - (intOf i).toNat)
  case atStart => exact ⟨0, Nat.zero_le _, rfl, World.ownsRow_nil _ _ _ _, Below.refl _ _⟩
  case round =>
    obtain ⟨k, hk, rfl, hown, hbel⟩ := hrel
    have HBEL := Lib.hid hbel
    have HOWN := Lib.hid hown
    clear hbel hown
    by_cases hlt : k < K
    · have h0 : (0 : Int) ≤ (k : Int) := by omega
      have h1 : (k : Int) < (K : Int) := by omega
      have HWk := Lib.hid (HW'.out k hlt)
      have HBk := Lib.hid (HB'.out k)
      have hs := HST.out k
      have hl := HLEN.out k
      have hr := HRC.out (barL N k) k
      have HSk := Lib.hid (HSZ.out k)
      have HOk := Lib.hid (HONE.out k)
      obtain ⟨C, hC⟩ : ∃ C, C = D k := ⟨_, rfl⟩
      obtain ⟨Lk, hLk⟩ : ∃ L, L = barL N k := ⟨_, rfl⟩
      obtain ⟨c, hc⟩ : ∃ c, c = B k := ⟨_, rfl⟩
      rw [← hC] at HWk HBk HSk HOk hr
      rw [← hLk] at hs hl HOWN hr
      rw [← hc] at hs HBk
      have HS := Lib.hid hs
      have HR := Lib.hid hr
      have hI1 : (Try.prog.info? 43).map (·.size) = some C.size := by rw [HSk.out]; exact infoPh
      have HI1 := Lib.hid hI1
      have hone2 : ∀ u ∈ C.toList, u.oneCell' = true := fun u hu => by
        have := Array.all_eq_true_iff_forall_mem.1 HOk.out u (by simpa using hu)
        exact this
      have HONE2 := Lib.hid hone2
      clear hs hLk hc hC hr hI1 hone2
      go_wp2_with fail
      refine (HWk.out _).mono ?_
      rintro e w2 ⟨rfl, hb2⟩
      have HO2 := Lib.hid (rowBelow HOWN.out hb2)
      have HBEL2 := Lib.hid (joins HBEL.out hb2)
      clear hb2
      go_wp2_with (first
        | (refine wpList_alloc_big rfl 43 rfl (phA z32 0) zeroPh ?_)
        | (refine wpList_store_big rfl 43 (.tmp 5) (.tmp 14) rfl w2.heap.size C rfl rfl 43 _ (heap_alloc_new w2 _) 33 infoPh HSk.out (phA_size _ _ z32_length) HOk.out w2.heap.size w2 (belowa (Below.refl _ _) _) (Nat.le_refl _) ?_; intro w3 hg3 ho3 hz3 hb3; have HG3 := Lib.hid hg3; have HO3 := Lib.hid (rowBelow HO2.out hb3); have HBEL3 := Lib.hid (joins HBEL2.out hb3); clear hg3 ho3 hz3 hb3)
        | (refine wpList_load_row rfl 43 (.tmp 5) rfl w2.heap.size rfl 43 C (0, 0) _ HG3.out Try.underlying43 rfl HI1.out ?_))
      refine (HBk.out _).mono ?_
      rintro e w4 ⟨rfl, hb4⟩
      have HG4 := Lib.hid ((hb4.block w2.heap.size (Array.getElem?_eq_some_iff.1 HG3.out).1).trans HG3.out)
      have HO4 := Lib.hid (rowBelow HO3.out hb4)
      have HBEL4 := Lib.hid (joins HBEL3.out hb4)
      clear hb4
      cases c with
      | true =>
        go_wp2_with (first
          | (refine wpList_load_row rfl 43 (.tmp 5) rfl w2.heap.size rfl 43 C (0, 0) _ HG4.out Try.underlying43 rfl HI1.out ?_)
          | (refine wpList_buildSlice rfl 51 43 1 #[(0, .tmp 18)] rfl C i0 (.agg (phA z32 0)) Try.underlying51 HI.out HZ0.out (by rw [HZ1.out]; decide) (by rw [HZ1.out]; decide) (by rw [parts_one]; exact fill_hf i0 HZ1.out C HSk.out) ?_)
          | (at_builtin; refine wpList_append_own _ rfl (.tmp 17) (.tmp 19) 51 rfl w.heap.size 43 i0 (.agg (phA z32 0)) 33 264 Try.underlying51 HI.out HZ0.out HZ1.out HZ2.out (phA_size _ _ z32_length) (by decide) _ Lk.length (rankCells N Lk) rfl (HO4.out.alloc _) ⟨w4.heap.size, 0, none⟩ 1 1 C.toList rfl (by simp [HSk.out]) (news_row w4 C _) HONE2.out (by unfold maxLen; omega) (by omega) (by have := HBEL4.out.size; simp; omega) ?_; intro v5 w5 ho5 hg5 _))
        have HB5 := Lib.hid ((belowa HBEL4.out (.cells C 43)).grown hg5 (by have := HBEL4.out.size; simp; omega) (fun k hk => (HO4.out.lt k hk).1))
        have HO5 := Lib.hid ho5
        clear ho5 hg5
        go_wp2_with fail
        go_roundw
        case rel => exact ⟨k + 1, by omega, by go_num, by have := HO5.out; rw [← HR.out] at this; rw [HS.out]; simpa using this, HB5.out⟩
        case measure => simp [intOf]; omega
      | false =>
        go_wp2_with fail
        go_roundw
        case rel => exact ⟨k + 1, by omega, by go_num, by rw [HS.out]; simpa using HO4.out, HBEL4.out⟩
        case measure => simp [intOf]; omega
    · have he : k = K := by omega
      subst he
      go_wp2_with fail
      go_returns
      exact ⟨_, rfl, HOWN.out, HBEL.out⟩
end Go.Proofs.Ytmckophclehkpab
