/- The program's isPerfect of sequences, and IsPerfect. -/
import Derived.Test.YtjoepdflbbcliaaPer
import Derived.Test.YtjoepdflbbcliaaPfM
namespace Go.Proofs.Ytjoepdflbbcliaa
set_option maxRecDepth 100000
open Go.RowKit

set_option maxRecDepth 100000 in
set_option maxHeartbeats 2000000 in
theorem isPerfect_any (l : List Int) (hs : isSeq l = true) (w : World) :
    Calls Try.prog 36 #[.agg (phA (padL l) l.length)] w (Ret w (.bool (pfB l))) := by
  have h32 := isSeq_len hs
  have HA := Lib.hid (fun (u : Nat) (hu : u < l.length) w' => periodic_any l l (u : Int) hs hs rfl (by omega) (by omega) (by omega) w')
  have hi : (Try.prog.info? 47).map (·.size) = some (phA (padL l) (l.length : Int)).size := by rw [phA_size _ _ (padL_length h32)]; exact infoPh
  have hl := phA_len (padL l) (l.length : Int) (padL_length h32)
  have HNO := Lib.hid (fun (k : Nat) (hk : 1 ≤ k) (hl : k < l.length) (h : pfZ l k = false) => pfTo_no l hk hl h)
  have HNX := Lib.hid (fun (k : Nat) (h : pfTo l k = true) (hz : pfZ l k = true) => pfTo_next l h hz)
  have HT1 := Lib.hid (pfTo_one l)
  have HYES := Lib.hid (fun (h1 : 1 ≤ l.length) (h : pfTo l l.length = true) => show pfB l = true by unfold pfB; rw [h, decide_eq_true h1]; rfl)
  have HNIL := Lib.hid (fun (h1 : l.length = 0) => show pfB l = false by unfold pfB; rw [decide_eq_false (by omega)]; rfl)
  have HZ := Lib.hid (fun (k : Nat) (w : World) (t : TypeId) => show (binOp .neq t (.complex .f32 (f32of (peS vx l l (k : Int))) (f32of (peS vy l l (k : Int)))) (.complex .f32 0 0)).run Try.prog w = .ok (.bool (!(pfZ l k))) w from by
    have hx := peS_small vx vx_one l l (k : Int) h32
    have hy := peS_small vy vy_one l l (k : Int) h32
    exact run_neqz w t _ _ ⟨by omega, by omega⟩ ⟨by omega, by omega⟩)
  obtain ⟨C, hC⟩ : ∃ C, C = phA (padL l) (l.length : Int) := ⟨_, rfl⟩
  rw [← hC] at HA hi hl ⊢
  obtain ⟨B, hB⟩ : ∃ B, B = pfB l := ⟨_, rfl⟩
  rw [← hB] at HNO HYES HNIL ⊢
  obtain ⟨N, hN⟩ : ∃ N, N = l.length := ⟨_, rfl⟩
  rw [← hN] at HA HNO HYES HNIL hl h32
  have HI := Lib.hid hi
  have HL := Lib.hid hl
  clear hC hB hN hs hi hl
  go_enter Try.func36, Try.ntmps36
  go_wp2_with fail
  go_loopw [3] (fun i wr => ∃ k : Nat, 1 ≤ k ∧ (k ≤ N ∨ N = 0) ∧ i = .int .i64 (k : Int) ∧ pfTo l k = true ∧ wr.heap[w.heap.size]? = some (.cells C 47 (0, 0)) ∧ Below w.heap.size w wr) (fun i _ => N - (intOf i).toNat)
  case atStart => exact ⟨1, Nat.le_refl _, by omega, rfl, HT1.out, heap_alloc_new w _, by go_grown⟩
  case round =>
    obtain ⟨k, hk1, hk, rfl, hpf, hb0, hbel⟩ := hrel
    have c32 : wr.cell? ⟨w.heap.size, 32, none⟩ = some (.int .i64 N) := by rw [cell_of_row wr _ _ _ _ _ hb0]; exact HL.out
    have HB0 := Lib.hid hb0
    have HBEL := Lib.hid hbel
    have HPF := Lib.hid hpf
    clear hb0 hbel hpf
    by_cases hlt : k < N
    · have h0 : (0 : Int) ≤ (k : Int) := by omega
      have h1 : (k : Int) < (N : Int) := by omega
      have HAk := Lib.hid (HA.out k hlt)
      have hz := HZ.out k
      have hno := HNO.out k hk1 hlt
      have hnx := HNX.out k HPF.out
      obtain ⟨x, hx⟩ : ∃ x, x = f32of (peS vx l l (k : Int)) := ⟨_, rfl⟩
      obtain ⟨y, hy⟩ : ∃ y, y = f32of (peS vy l l (k : Int)) := ⟨_, rfl⟩
      obtain ⟨q, hq⟩ : ∃ q, q = pfZ l k := ⟨_, rfl⟩
      rw [← hx, ← hy] at HAk hz
      rw [← hq] at hz hno hnx
      have HN0 := Lib.hid hno
      have HNX1 := Lib.hid hnx
      clear hno hnx hx hy hq
      cases q with
      | true =>
        go_wp2_with (refine wpList_load_row rfl 47 (.tmp 1) rfl w.heap.size rfl 47 C (0, 0) _ HB0.out Try.underlying47 rfl HI.out ?_)
        refine (HAk.out _).mono ?_
        rintro e w2 ⟨rfl, hb2⟩
        have HB2 := Lib.hid ((hb2.block w.heap.size (Array.getElem?_eq_some_iff.1 HB0.out).1).trans HB0.out)
        have HBEL2 := Lib.hid (joins HBEL.out hb2)
        clear hb2
        go_wp2_with fail
        go_roundw
        case rel => exact ⟨k + 1, by omega, by omega, by go_num, HNX1.out (by trivial), HB2.out, HBEL2.out⟩
        case measure => simp [intOf]; omega
      | false =>
        have HN2 := Lib.hid (HN0.out rfl)
        go_wp2_with (refine wpList_load_row rfl 47 (.tmp 1) rfl w.heap.size rfl 47 C (0, 0) _ HB0.out Try.underlying47 rfl HI.out ?_)
        refine (HAk.out _).mono ?_
        rintro e w2 ⟨rfl, hb2⟩
        have HBEL2 := Lib.hid (joins HBEL.out hb2)
        clear hb2
        go_wp2_with fail
        go_returns
        exact ⟨ret_bool HN2.out.symm, HBEL2.out⟩
    · have h1 : (N : Int) ≤ (k : Int) := by omega
      by_cases hN0 : N = 0
      · have HYS := Lib.hid (HNIL.out hN0)
        have h2 : (N : Int) < 1 := by omega
        clear hN0 hk hlt
        go_wp2_with fail
        go_returns
        exact ⟨ret_bool (by rw [HYS.out]; exact decide_eq_false (by omega)), HBEL.out⟩
      · obtain rfl : k = N := by omega
        have HYS := Lib.hid (HYES.out hk1 HPF.out)
        have h2 : (1 : Int) ≤ (k : Int) := by omega
        clear hN0 hk hlt h1 hk1
        go_wp2_with fail
        go_returns
        exact ⟨ret_bool HYS.out.symm, HBEL.out⟩

set_option maxRecDepth 100000 in
set_option maxHeartbeats 1000000 in
theorem iisPerfect (va : Value) (a : List Int) (w : World) (hva : IS w va a) (hla : a.length ≤ 1048576) :
    Calls Try.prog 12 #[va] w (Ret w (.tuple #[.bool (pfOk a), .bool (isSeq a)])) := by
  have HPR := fun w h => phasesOf_any va a w h hla
  have hsa := phC_size a
  have hoa := phC_one a
  have hia : (Try.prog.info? 47).map (·.size) = some (phC a).size := by rw [hsa]; exact infoPh
  have HAP : ∀ w, Calls Try.prog 36 #[.agg (phC a)] w (Ret w (.bool (pfOk a))) := fun w => by
    unfold pfOk
    cases h : isSeq a with
    | true => rw [phC_seq h]; exact isPerfect_any a h w
    | false =>
      have := isPerfect_any [] rfl w
      unfold phC sqz
      rw [h]
      exact this
  obtain ⟨CA, hCA⟩ : ∃ C, C = phC a := ⟨_, rfl⟩
  rw [← hCA] at HPR hsa hoa hia HAP
  obtain ⟨X, hX⟩ : ∃ f, f = pfOk a := ⟨_, rfl⟩
  rw [← hX] at HAP ⊢
  obtain ⟨sa, hsq⟩ : ∃ s, s = isSeq a := ⟨_, rfl⟩
  rw [← hsq] at HPR ⊢
  have HPR' := Lib.hid HPR
  have HSA := Lib.hid hsa
  have HOA := Lib.hid hoa
  have HIA := Lib.hid hia
  have HAP' := Lib.hid HAP
  clear HPR hsa hoa hia HAP hCA hX hsq hla
  go_enter Try.func12, Try.ntmps12
  go_wp2_with fail
  refine (HPR'.out _ hva).mono ?_
  rintro e w1 ⟨rfl, hb1⟩
  go_wp2_with (first
    | (refine wpList_alloc_big rfl 47 rfl (phA z32 0) zeroPh ?_)
    | (refine wpList_store_big rfl 47 (.tmp 4) (.tmp 9) rfl w1.heap.size CA rfl rfl 47 _ (heap_alloc_new w1 _) 33 infoPh HSA.out (phA_size _ _ z32_length) HOA.out w1.heap.size w1 (belowa (Below.refl _ _) _) (Nat.le_refl _) ?_; intro w2 hg2 ho2 hz2 hb2; have HG2 := Lib.hid hg2; have HB2 := Lib.hid (joins hb1 hb2); clear hg2 ho2 hz2 hb2)
    | (refine wpList_load_row rfl 47 (.tmp 4) rfl w1.heap.size rfl 47 CA (0, 0) _ HG2.out Try.underlying47 rfl HIA.out ?_))
  refine (HAP'.out _).mono ?_
  rintro e w3 ⟨rfl, hb3⟩
  have hB3 := joins HB2.out hb3
  go_wp2_with fail
  go_returns
  exact ⟨rfl, hB3⟩
end Go.Proofs.Ytjoepdflbbcliaa
