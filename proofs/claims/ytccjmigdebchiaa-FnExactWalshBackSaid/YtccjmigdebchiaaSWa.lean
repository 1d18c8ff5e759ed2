/- The model's tfWalsh. -/
import Derived.Test.YtccjmigdebchiaaSTf
import Derived.Test.YtccjmigdebchiaaWaM
namespace Go.Proofs.Ytccjmigdebchiaa
set_option maxRecDepth 100000
open Go.RowKit

set_option maxRecDepth 100000 in
set_option maxHeartbeats 2000000 in
theorem tfWalsh_any (v : Value) (l : List (Int × Int)) (w : World) (hv : IG w v l) : Calls Try.prog 36 #[v] w (Ret w (.bool (waOk0 l))) := by
  have HW := Lib.hid (tfWhole_any v l w hv)
  have HI := Lib.hid (l1In_any (l.length : Int) 1 32)
  have hdef : waOk0 l = (waZ l.length && goodL l) := rfl
  have hm : l.length ≤ maxLen := by
    rcases hv with ⟨rfl, _⟩ | ⟨_, _, _, _, _, hm, _⟩
    · exact Nat.zero_le _
    · exact hm
  have hm2 := maxLen_val
  obtain ⟨a, cap, rfl⟩ := hv.slice
  obtain ⟨q, hq⟩ : ∃ q, q = goodL l := ⟨_, rfl⟩
  rw [← hq] at hdef HW
  rw [hdef]
  obtain ⟨n, hn⟩ : ∃ n, n = l.length := ⟨_, rfl⟩
  rw [← hn] at HW HI hm ⊢
  have hn3 : (n : Int) ≤ 9223372036854775807 := by omega
  clear hv hdef hq hn
  by_cases hin : 1 ≤ n ∧ n ≤ 32
  · rw [show inB (n : Int) 1 32 = true by simp [inB]; omega] at HI
    have hz := andV_zero n hin.1 hin.2
    by_cases h0 : andV n = 0
    · rw [decide_eq_true h0] at hz
      rw [← hz, Bool.true_and]
      have hb0 : (bits .and .i64 (n : Int) ((n : Int) - 1) != 0) = false := by
        rw [show bits .and .i64 (n : Int) ((n : Int) - 1) = 0 from h0]; rfl
      obtain ⟨hin1, hin2⟩ := hin
      clear hz hm hm2 h0
      go_enter Try.func36, Try.ntmps36
      go_wp2_with fail
      refine (HI.out _).mono ?_
      rintro e w1 ⟨rfl, rfl⟩
      go_wp2_with fail
      refine (HW.out).mono ?_
      rintro e w2 ⟨rfl, hb⟩
      have HB := Lib.hid hb
      clear hb
      cases q with
      | true =>
        rw [if_pos rfl]
        go_wp2_with fail
        go_returns
        exact ⟨rfl, HB.out⟩
      | false =>
        rw [if_neg Bool.false_ne_true]
        go_wp2_with fail
        go_returns
        exact ⟨rfl, HB.out⟩
    · rw [decide_eq_false h0] at hz
      rw [← hz, Bool.false_and]
      have hb0 : (bits .and .i64 (n : Int) ((n : Int) - 1) != 0) = true := by
        have h1 : bits .and .i64 (n : Int) ((n : Int) - 1) ≠ 0 := h0
        simpa using h1
      obtain ⟨hin1, hin2⟩ := hin
      clear hz hm hm2 h0
      go_enter Try.func36, Try.ntmps36
      go_wp2_with fail
      refine (HI.out _).mono ?_
      rintro e w1 ⟨rfl, rfl⟩
      go_wp2_with fail
      go_returns
      exact ⟨rfl, Below.refl _ _⟩
  · rw [show inB (n : Int) 1 32 = false by simp [inB]; omega] at HI
    rw [show waZ (n : Int) = false from decide_eq_false (by omega), Bool.false_and]
    clear hin hm hm2
    go_enter Try.func36, Try.ntmps36
    go_wp2_with fail
    refine (HI.out _).mono ?_
    rintro e w1 ⟨rfl, rfl⟩
    go_wp2_with fail
    go_returns
    exact ⟨rfl, Below.refl _ _⟩
end Go.Proofs.Ytccjmigdebchiaa
