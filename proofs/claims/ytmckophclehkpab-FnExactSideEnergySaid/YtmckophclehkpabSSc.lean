/- The model's SideEnergy, PeakSide and IsBarker. -/
import Derived.Test.YtmckophclehkpabSEn
namespace Go.Proofs.Ytmckophclehkpab
open Go.RowKit

set_option maxHeartbeats 1000000 in
theorem ssideEnergy (va : Value) (a : List Int) (w : World) (hva : IS w va a) (hla : a.length ≤ 1048576) :
    Calls Try.prog 10 #[va] w (Ret w (.tuple #[.int .i64 (if isSeq a then sideE a else 0), .bool (isSeq a)])) := by
  have HI := phIs_any _ a _ hva hla
  have HC : isSeq a = true → ∀ w', IS w' va a → Calls Try.prog 30 #[va] w' (Ret w' (.int .i64 (sideE a))) := fun h0 w' h => crEnergy_any va a w' h h0
  obtain ⟨X, hX⟩ : ∃ f, f = sideE a := ⟨_, rfl⟩
  rw [← hX] at HC ⊢
  obtain ⟨sa, hsq⟩ : ∃ s, s = isSeq a := ⟨_, rfl⟩
  rw [← hsq] at HC HI ⊢
  have HI' := Lib.hid HI
  have HC' := Lib.hid HC
  have HV := Lib.hid hva
  clear HI HC hX hsq hla hva
  cases sa with
  | true =>
    rw [if_pos rfl]
    go_enter Try.func10, Try.ntmps10
    go_wp2_with fail
    refine (HI'.out).mono ?_
    rintro e w1 ⟨rfl, hb1⟩
    have HB1 := Lib.hid hb1
    clear hb1
    go_wp2_with fail
    refine (HC'.out (by trivial) _ (HV.out.below HB1.out)).mono ?_
    rintro e w2 ⟨rfl, hb2⟩
    have hB2 := joins HB1.out hb2
    go_wp2_with fail
    go_returns
    exact ⟨rfl, hB2⟩
  | false =>
    rw [if_neg (by decide)]
    go_enter Try.func10, Try.ntmps10
    go_wp2_with fail
    refine (HI'.out).mono ?_
    rintro e w1 ⟨rfl, hb1⟩
    go_wp2_with fail
    go_returns
    exact ⟨rfl, hb1⟩

set_option maxHeartbeats 1000000 in
theorem speakSide (va : Value) (a : List Int) (w : World) (hva : IS w va a) (hla : a.length ≤ 1048576) :
    Calls Try.prog 17 #[va] w (Ret w (.tuple #[.int .i64 (if isSeq a then peakS a else 0), .bool (isSeq a)])) := by
  have HI := phIs_any _ a _ hva hla
  have HC : isSeq a = true → ∀ w', IS w' va a → Calls Try.prog 35 #[va] w' (Ret w' (.int .i64 (peakS a))) := fun h0 w' h => crPeak_any va a w' h h0
  obtain ⟨X, hX⟩ : ∃ f, f = peakS a := ⟨_, rfl⟩
  rw [← hX] at HC ⊢
  obtain ⟨sa, hsq⟩ : ∃ s, s = isSeq a := ⟨_, rfl⟩
  rw [← hsq] at HC HI ⊢
  have HI' := Lib.hid HI
  have HC' := Lib.hid HC
  have HV := Lib.hid hva
  clear HI HC hX hsq hla hva
  cases sa with
  | true =>
    rw [if_pos rfl]
    go_enter Try.func17, Try.ntmps17
    go_wp2_with fail
    refine (HI'.out).mono ?_
    rintro e w1 ⟨rfl, hb1⟩
    have HB1 := Lib.hid hb1
    clear hb1
    go_wp2_with fail
    refine (HC'.out (by trivial) _ (HV.out.below HB1.out)).mono ?_
    rintro e w2 ⟨rfl, hb2⟩
    have hB2 := joins HB1.out hb2
    go_wp2_with fail
    go_returns
    exact ⟨rfl, hB2⟩
  | false =>
    rw [if_neg (by decide)]
    go_enter Try.func17, Try.ntmps17
    go_wp2_with fail
    refine (HI'.out).mono ?_
    rintro e w1 ⟨rfl, hb1⟩
    go_wp2_with fail
    go_returns
    exact ⟨rfl, hb1⟩

set_option maxHeartbeats 1000000 in
theorem sisBarker (va : Value) (a : List Int) (w : World) (hva : IS w va a) (hla : a.length ≤ 1048576) :
    Calls Try.prog 19 #[va] w (Ret w (.tuple #[.bool (if isSeq a then barB a else false), .bool (isSeq a)])) := by
  have HI := phIs_any _ a _ hva hla
  have HC : isSeq a = true → ∀ w', IS w' va a → Calls Try.prog 37 #[va] w' (Ret w' (.bool (barB a))) := fun h0 w' h => crBarker_any va a w' h h0
  obtain ⟨X, hX⟩ : ∃ f, f = barB a := ⟨_, rfl⟩
  rw [← hX] at HC ⊢
  obtain ⟨sa, hsq⟩ : ∃ s, s = isSeq a := ⟨_, rfl⟩
  rw [← hsq] at HC HI ⊢
  have HI' := Lib.hid HI
  have HC' := Lib.hid HC
  have HV := Lib.hid hva
  clear HI HC hX hsq hla hva
  cases sa with
  | true =>
    rw [if_pos rfl]
    go_enter Try.func19, Try.ntmps19
    go_wp2_with fail
    refine (HI'.out).mono ?_
    rintro e w1 ⟨rfl, hb1⟩
    have HB1 := Lib.hid hb1
    clear hb1
    go_wp2_with fail
    refine (HC'.out (by trivial) _ (HV.out.below HB1.out)).mono ?_
    rintro e w2 ⟨rfl, hb2⟩
    have hB2 := joins HB1.out hb2
    go_wp2_with fail
    go_returns
    exact ⟨rfl, hB2⟩
  | false =>
    rw [if_neg (by decide)]
    go_enter Try.func19, Try.ntmps19
    go_wp2_with fail
    refine (HI'.out).mono ?_
    rintro e w1 ⟨rfl, hb1⟩
    go_wp2_with fail
    go_returns
    exact ⟨rfl, hb1⟩
end Go.Proofs.Ytmckophclehkpab
