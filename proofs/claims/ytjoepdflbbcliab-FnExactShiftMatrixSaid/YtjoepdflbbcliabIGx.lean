/- The program's ShiftMatrix. -/
import Derived.Test.YtjoepdflbbcliabIGw
import Derived.Test.YtjoepdflbbcliabIGl
import Derived.Test.YtjoepdflbbcliabApp
import Derived.Test.YtjoepdflbbcliabQShifted
namespace Go.Proofs.Ytjoepdflbbcliab
set_option maxRecDepth 100000
open Go.RowKit

theorem infoArr32 : (Try.prog.info? 70).map (·.size) = some 32 := by kernel_rfl
theorem run_field_at (C : Array Value) (w : World) : (Instr.field 72 (.agg C) 0).run Try.prog w = .ok (.agg (C.extract 0 32)) w := by
  have hi : ∃ i, Try.prog.info? 70 = some i ∧ i.size = 32 := by
    have h := infoArr32
    cases e : Try.prog.info? 70 with
    | none => rw [e] at h; cases h
    | some i => rw [e] at h; exact ⟨i, rfl, by simpa using h⟩
  obtain ⟨i, hi, hs⟩ := hi
  unfold Instr.field
  simp [Sem.run_bind, run_underlying Try.underlying72, part, isAgg, run_underlying Try.underlying70, asAgg, sizeOf, typeInfo, hi, hs]
theorem run_index_at (E : Array Value) (j : Nat) (hj : j < 32) (x : Value) (hx : E[j]? = some x) (w : World) : (Instr.index 70 (.agg E) (.int .i64 j)).run Try.prog w = .ok x w := by
  have hi : ∃ i, Try.prog.info? 3 = some i ∧ i.size = 1 := by
    have h : (Try.prog.info? 3).map (·.size) = some 1 := by kernel_rfl
    cases e : Try.prog.info? 3 with
    | none => rw [e] at h; cases h
    | some i => rw [e] at h; exact ⟨i, rfl, by simpa using h⟩
  obtain ⟨i, hi, hs⟩ := hi
  have h1 : (0 : Int) ≤ (j : Int) ∧ (j : Int) < 32 := by omega
  unfold Instr.index
  simp [Sem.run_bind, run_underlying Try.underlying70, part, isAgg, run_underlying Try.underlying3, asIntOf, sizeOf, typeInfo, hi, hs, h1, hx, hj]
set_option maxRecDepth 100000 in
set_option maxHeartbeats 2000000 in
theorem matrix1_any (s : List Int) (hs : isSeq s = true) (g1 : Nat) (w : World) (hg : w.heap[g1]? = some (.cells (phA (padL s) s.length) 72 (0, 0))) (i j : Nat) (hi : i < s.length) (hj : j < s.length) :
    Calls Try.prog 60 #[.int .i64 i, .int .i64 j, .pointer (some ⟨g1, 0, none⟩)] w (Ret w (.int .i64 ((shiftG s i).getD j 0))) := by
  have h32 := isSeq_len hs
  have HSH := Lib.hid (fun w' => shifted_any s (i : Int) hs (by omega) (by omega) w')
  have hsg : gen s.length (fun (q : Nat) => s.getD (((q : Int) + (i : Int)) % (s.length : Int)).toNat 0) = shiftG s (i : Int) := rfl
  rw [hsg] at HSH
  have hll : (shiftG s (i : Int)).length = s.length := gen_length _ _
  have hD : (phA (padL (shiftG s (i : Int))) (s.length : Int))[j]? = some (.int .i64 ((shiftG s (i : Int)).getD j 0)) := by
    rw [phA_get _ _ j (by rw [padL_length (by rw [hll]; exact h32)]; omega), pad_getD _ j (by rw [hll]; exact hj)]
  have IC := Lib.hid (show (Try.prog.info? 72).map (·.size) = some (phA (padL s) (s.length : Int)).size by rw [phA_size _ _ (padL_length h32)]; exact infoPh)
  have hDs : (phA (padL (shiftG s (i : Int))) (s.length : Int)).size = 33 := phA_size _ _ (padL_length (by rw [hll]; exact h32))
  obtain ⟨D, hDd⟩ : ∃ D, D = phA (padL (shiftG s (i : Int))) (s.length : Int) := ⟨_, rfl⟩
  rw [← hDd] at HSH hD hDs
  obtain ⟨C, hC⟩ : ∃ D, D = phA (padL s) (s.length : Int) := ⟨_, rfl⟩
  rw [← hC] at HSH IC hg
  obtain ⟨x, hx⟩ : ∃ x, x = (shiftG s (i : Int)).getD j 0 := ⟨_, rfl⟩
  rw [← hx] at hD ⊢
  have HG := Lib.hid hg
  have h0 : (0 : Int) ≤ (j : Int) := by omega
  have h1 : (j : Int) < 32 := by omega
  clear hDd hC hg hx hsg hll hs
  go_enter Try.func60, Try.ntmps60
  go_wp2_with (refine wpList_load_row rfl 72 (.tmp 2) rfl g1 rfl 72 C (0, 0) _ HG.out Try.underlying72 rfl IC.out ?_)
  refine (HSH.out _).mono ?_
  rintro e w1 ⟨rfl, hb⟩
  have hfld := run_field_at D
  have hidx := fun w => run_index_at D.pop j (by omega) (.int .i64 x) (by rw [Array.getElem?_pop, if_pos (by omega)]; exact hD) w
  go_wp2_with fail
  go_returns
  exact ⟨rfl, hb⟩

set_option maxRecDepth 100000 in
set_option maxHeartbeats 4000000 in
theorem ishiftMatrix (va : Value) (s : List Int) (w : World) (hva : IS w va s) (hla : s.length ≤ 1048576) :
    Calls Try.prog 32 #[va] w (MakesRB w (smA s) (sideS s)) := by
  have HP := Lib.hid (phasesOf_any va s w hva hla)
  have SC := Lib.hid (phC_size s)
  have OC := Lib.hid (phC_one s)
  obtain ⟨pa, ca, rfl⟩ := hva.sl
  cases hs : isSeq s with
  | false =>
    have h1 : sideS s = false := by unfold sideS; rw [hs]; rfl
    have h2 : smA s = [] := by unfold smA; rw [h1]; rfl
    rw [hs] at HP
    rw [h1, h2]
    obtain ⟨C, hC⟩ : ∃ C, C = phC s := ⟨_, rfl⟩
    rw [← hC] at HP SC OC
    clear hva hs h1 h2 hC
    go_enter Try.func32, Try.ntmps32
    go_wp2_with fail
    refine (HP.out).mono ?_
    rintro e w1 ⟨rfl, hb⟩
    have B1 := Lib.hid hb
    clear hb
    go_wp2_with (first
      | (refine wpList_alloc_big rfl 72 rfl (phA z32 0) zeroPh ?_)
      | (refine wpList_store_big rfl 72 (.tmp 4) (.tmp 9) rfl w1.heap.size C rfl rfl 72 _ (heap_alloc_new w1 _) 33 infoPh SC.out (phA_size _ _ z32_length) OC.out w1.heap.size w1 (belowa (Below.refl _ _) _) (Nat.le_refl _) ?_; intro w2 hg2 ho2 hz2 hb2; have B2 := Lib.hid (joins B1.out hb2); clear hg2 ho2 hz2 hb2))
    go_returns
    exact ⟨_, rfl, OwnR.nil _ _, B2.out⟩
  | true =>
    rw [hs] at HP
    rw [phC_seq hs] at HP SC OC
    have h32 := isSeq_len hs
    have HLEN := Lib.hid (phA_len (padL s) (s.length : Int) (padL_length h32))
    obtain ⟨D, L, q, hL, hq, HGW, HLI⟩ : ∃ (D : Array Value) (L : List (List Int)) (q : Bool), smA s = L ∧ sideS s = q ∧
        (∀ (w' : World) (g1 : Nat), w'.heap[g1]? = some (.cells (phA (padL s) s.length) 72 (0, 0)) →
          Calls Try.prog 48 #[.int .i64 s.length, .int .i64 s.length, .func (.func 60) #[] #[.pointer (some ⟨g1, 0, none⟩)]] w' (Ret w' (.agg D))) ∧
        (∀ w', Calls Try.prog 50 #[.agg D] w' (MakesRB w' L q)) := by
      cases hsd : sideB s.length with
      | false =>
        have h1 : sideS s = false := by unfold sideS; rw [hsd]; simp
        refine ⟨grA G0 0 0, [], false, by unfold smA; rw [h1]; rfl, h1, fun w' g1 _ => gridWith_no _ _ _ w' (by rw [hsd]; rfl), fun w' => ?_⟩
        have h := grLists_any 0 0 (fun _ _ => 0) (by omega) (by omega) w'
        rw [GV_zero] at h
        exact h
      | true =>
        have hn := sideB_in hsd
        have h1 : sideS s = true := by unfold sideS; rw [hs, hsd]; rfl
        have hb : ∀ i j, i < s.length → j < s.length → 0 ≤ (shiftG s (i : Int)).getD j 0 ∧ (shiftG s (i : Int)).getD j 0 ≤ 3 := fun i j hi hj => by
          unfold shiftG
          rw [gen_getD _ _ _ hj]
          exact allIn_getD (isSeq_all hs) _ (by
            have h1 := Int.emod_nonneg ((j : Int) + (i : Int)) (show (s.length : Int) ≠ 0 by omega)
            have h2 := Int.emod_lt_of_pos ((j : Int) + (i : Int)) (show 0 < (s.length : Int) by omega)
            omega)
        refine ⟨grA (GV s.length s.length (fun i j => (shiftG s (i : Int)).getD j 0)) s.length s.length, genR s.length (fun i => gen s.length (fun j => (shiftG s (i : Int)).getD j 0)), true, ?_, h1, fun w' g1 e1 => ?_, fun w' => ?_⟩
        · unfold smA
          rw [h1, if_pos rfl]
          unfold smL
          refine genR_ext (fun i _ => ?_)
          have e : (shiftG s (i : Int)).length = s.length := gen_length _ _
          have := gen_self (shiftG s (i : Int))
          rw [e] at this
          exact this.symm
        · have h := gridWith_matrix s.length s.length (fun i j => (shiftG s (i : Int)).getD j 0) hn hn (fun i j hi hj => by have := hb i j hi hj; omega) _ w' (fun w'' hb' i j hi hj => matrix1_any s hs g1 w'' (rowB e1 hb') i j hi hj)
          rw [GV_ext (fun i j hi hj => show (shiftG s (i : Int)).getD j 0 % 4 = (shiftG s (i : Int)).getD j 0 by have := hb i j hi hj; omega)] at h
          exact h
        · have h := grLists_any s.length s.length (fun i j => (shiftG s (i : Int)).getD j 0) hn.2 (fun _ => hn) w'
          rw [decide_eq_true hn.1] at h
          exact h
    rw [hL, hq]
    have HG := Lib.hid HGW
    have HLS := Lib.hid HLI
    obtain ⟨C, hC⟩ : ∃ C, C = phA (padL s) (s.length : Int) := ⟨_, rfl⟩
    rw [← hC] at HP SC OC HLEN
    simp only [← hC] at HG
    clear hva hs HGW HLI hL hq hC
    go_enter Try.func32, Try.ntmps32
    go_wp2_with fail
    refine (HP.out).mono ?_
    rintro e w1 ⟨rfl, hb⟩
    have B1 := Lib.hid hb
    clear hb
    go_wp2_with (first
      | (refine wpList_alloc_big rfl 72 rfl (phA z32 0) zeroPh ?_)
      | (refine wpList_store_big rfl 72 (.tmp 4) (.tmp 9) rfl w1.heap.size C rfl rfl 72 _ (heap_alloc_new w1 _) 33 infoPh SC.out (phA_size _ _ z32_length) OC.out w1.heap.size w1 (belowa (Below.refl _ _) _) (Nat.le_refl _) ?_; intro w2 hg2 ho2 hz2 hb2; have R2 := Lib.hid hg2; have B2 := Lib.hid (joins B1.out hb2); have c32 := rowC R2.out HLEN.out; clear hg2 ho2 hz2 hb2))
    refine (HG.out w2 w1.heap.size R2.out).mono ?_
    rintro e w3 ⟨rfl, hb⟩
    have B3 := Lib.hid (joins B2.out hb)
    clear hb
    go_wp2_with fail
    refine (HLS.out _).mono ?_
    rintro e w4 ⟨v4, rfl, ho, hb⟩
    have HO := Lib.hid (ho.mono B3.out.size)
    have B4 := Lib.hid (joins B3.out hb)
    clear ho hb
    go_wp2_with fail
    go_returns
    exact ⟨_, rfl, HO.out, B4.out⟩
end Go.Proofs.Ytjoepdflbbcliab
