/- The model's pePerfect and IsPerfect. -/
import Derived.Test.YtjoepdflbbcliaaSRo
import Derived.Test.YtjoepdflbbcliaaPfM
namespace Go.Proofs.Ytjoepdflbbcliaa
set_option maxRecDepth 100000
open Go.RowKit

set_option maxHeartbeats 1000000 in
theorem pePerfect_any (va : Value) (l : List Int) (w : World) (hva : IS w va l) (hs : isSeq l = true) :
    Calls Try.prog 34 #[va] w (Ret w (.bool (pfB l))) := by
  have h32 := isSeq_len hs
  obtain ⟨p, cap, rfl⟩ := hva.slice
  have HA := Lib.hid (fun (u : Nat) (hu : u < l.length) w' (h : IS w' (.slice p l.length cap) l) => crRound_any _ _ l l (u : Int) w' h h hs hs rfl (by omega) (by omega) (by omega))
  have HV := Lib.hid hva
  have HNO := Lib.hid (fun (k : Nat) (hk : 1 ≤ k) (hl : k < l.length) (h : pfZ l k = false) => pfTo_no l hk hl h)
  have HNX := Lib.hid (fun (k : Nat) (h : pfTo l k = true) (hz : pfZ l k = true) => pfTo_next l h hz)
  have HT1 := Lib.hid (pfTo_one l)
  have HYES := Lib.hid (fun (h1 : 1 ≤ l.length) (h : pfTo l l.length = true) => show pfB l = true by unfold pfB; rw [h, decide_eq_true h1]; rfl)
  have HNIL := Lib.hid (fun (h1 : l.length = 0) => show pfB l = false by unfold pfB; rw [decide_eq_false (by omega)]; rfl)
  have HZ := Lib.hid (fun k => show pfZ l k = (decide (peS vx l l (k : Int) = 0) && decide (peS vy l l (k : Int) = 0)) from rfl)
  obtain ⟨X, hX⟩ : ∃ f, f = fun k : Nat => peS vx l l (k : Int) := ⟨_, rfl⟩
  obtain ⟨Y, hY⟩ : ∃ f, f = fun k : Nat => peS vy l l (k : Int) := ⟨_, rfl⟩
  have HX := Lib.hid hX
  have HY := Lib.hid hY
  obtain ⟨B, hB⟩ : ∃ B, B = pfB l := ⟨_, rfl⟩
  rw [← hB] at HNO HYES HNIL ⊢
  obtain ⟨N, hN⟩ : ∃ N, N = l.length := ⟨_, rfl⟩
  rw [← hN] at HA HNO HYES HNIL HV h32 ⊢
  clear hX hY hB hN hva hs
  by_cases hN0 : N = 0
  · subst hN0
    rw [HNIL.out rfl]
    go_enter Try.func34, Try.ntmps34
    go_wp2
    go_loop [3] (fun i => i = .int .i64 1) (fun _ => 0)
    case atStart => rfl
    case round =>
      subst hrel
      go_wp2
      go_returns
      exact ⟨rfl, by go_grown⟩
  have hN1 : 1 ≤ N := by omega
  have hNp : (0 : Int) < (N : Int) := by omega
  go_enter Try.func34, Try.ntmps34
  go_wp2_with fail
  go_loopw [3] (fun i wr => ∃ k : Nat, 1 ≤ k ∧ k ≤ N ∧ i = .int .i64 (k : Int) ∧ pfTo l k = true ∧ Below w.heap.size w wr) (fun i _ => N - (intOf i).toNat)
  case atStart => exact ⟨1, Nat.le_refl _, hN1, rfl, HT1.out, by go_grown⟩
  case round =>
    obtain ⟨k, hk1, hk, rfl, hpf, hbel⟩ := hrel
    have HBEL := Lib.hid hbel
    have HPF := Lib.hid hpf
    clear hbel hpf
    by_cases hlt : k < N
    · have h0 : (0 : Int) ≤ (k : Int) := by omega
      have h1 : (k : Int) < (N : Int) := by omega
      have HAk := Lib.hid (HA.out k hlt)
      have hz := HZ.out k
      have hno := HNO.out k hk1 hlt
      have hnx := HNX.out k HPF.out
      obtain ⟨x, hx⟩ : ∃ x, x = peS vx l l (k : Int) := ⟨_, rfl⟩
      obtain ⟨y, hy⟩ : ∃ y, y = peS vy l l (k : Int) := ⟨_, rfl⟩
      rw [← hx, ← hy] at HAk hz
      rw [hz] at hno hnx
      have HN0 := Lib.hid hno
      have HNX1 := Lib.hid hnx
      clear hz hno hnx hx hy
      by_cases hc : x = 0 ∧ y = 0
      · obtain ⟨rfl, rfl⟩ := hc
        go_wp2_with fail
        refine (HAk.out _ (HV.out.below HBEL.out)).mono ?_
        rintro e w2 ⟨rfl, hb2⟩
        have HB2 := Lib.hid (joins HBEL.out hb2)
        clear hb2
        go_wp2_with fail
        go_roundw
        case rel => exact ⟨k + 1, by omega, by omega, by go_num, HNX1.out rfl, HB2.out⟩
        case measure => simp [intOf]; omega
      · have hno2 := HN0.out (by by_cases a : x = 0 <;> by_cases b : y = 0 <;> simp [a, b] at hc ⊢)
        rw [hno2]
        clear hno2
        by_cases a : x = 0
        · have b : ¬ y = 0 := fun b => hc ⟨a, b⟩
          subst a
          clear hc
          go_wp2_with fail
          refine (HAk.out _ (HV.out.below HBEL.out)).mono ?_
          rintro e w2 ⟨rfl, hb2⟩
          have HB2 := Lib.hid (joins HBEL.out hb2)
          clear hb2
          go_wp2_with fail
          go_returns
          exact ⟨rfl, HB2.out⟩
        · clear hc
          go_wp2_with fail
          refine (HAk.out _ (HV.out.below HBEL.out)).mono ?_
          rintro e w2 ⟨rfl, hb2⟩
          have HB2 := Lib.hid (joins HBEL.out hb2)
          clear hb2
          go_wp2_with fail
          go_returns
          exact ⟨rfl, HB2.out⟩
    · obtain rfl : k = N := by omega
      have hy := HYES.out hN1 HPF.out
      have h0 : 0 < k := hN1
      clear hN1 hk1
      have HYS := Lib.hid hy
      clear hy
      go_wp2_with fail
      go_returns
      exact ⟨ret_bool HYS.out.symm, HBEL.out⟩

set_option maxHeartbeats 1000000 in
theorem sisPerfect (va : Value) (a : List Int) (w : World) (hva : IS w va a) (hla : a.length ≤ 1048576) :
    Calls Try.prog 10 #[va] w (Ret w (.tuple #[.bool (pfOk a), .bool (isSeq a)])) := by
  have HI := phIs_any _ a _ hva hla
  have HC : isSeq a = true → ∀ w', IS w' va a → Calls Try.prog 34 #[va] w' (Ret w' (.bool (pfB a))) := fun h0 w' h => pePerfect_any va a w' h h0
  unfold pfOk
  obtain ⟨X, hX⟩ : ∃ f, f = pfB a := ⟨_, rfl⟩
  rw [← hX] at HC ⊢
  obtain ⟨sa, hsq⟩ : ∃ s, s = isSeq a := ⟨_, rfl⟩
  rw [← hsq] at HC HI ⊢
  have HI' := Lib.hid HI
  have HC' := Lib.hid HC
  have HV := Lib.hid hva
  clear HI HC hX hsq hla hva
  cases sa with
  | true =>
    rw [if_pos rfl]
    go_enter Try.func10, Try.ntmps10
    go_wp2_with fail
    refine (HI'.out).mono ?_
    rintro e w1 ⟨rfl, hb1⟩
    have HB1 := Lib.hid hb1
    clear hb1
    go_wp2_with fail
    refine (HC'.out (by trivial) _ (HV.out.below HB1.out)).mono ?_
    rintro e w2 ⟨rfl, hb2⟩
    have hB2 := joins HB1.out hb2
    go_wp2_with fail
    go_returns
    exact ⟨rfl, hB2⟩
  | false =>
    rw [if_neg (by decide)]
    go_enter Try.func10, Try.ntmps10
    go_wp2_with fail
    refine (HI'.out).mono ?_
    rintro e w1 ⟨rfl, hb1⟩
    go_wp2_with fail
    go_returns
    exact ⟨rfl, hb1⟩
end Go.Proofs.Ytjoepdflbbcliaa
