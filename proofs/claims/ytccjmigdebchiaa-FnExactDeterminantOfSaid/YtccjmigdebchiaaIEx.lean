/- The program's excess, ExcessOf, InnerOf. -/
import Derived.Test.YtccjmigdebchiaaIHd
import Derived.Test.YtccjmigdebchiaaSHaF
import Derived.Test.YtccjmigdebchiaaSMaE
import Derived.Test.YtccjmigdebchiaaZg
namespace Go.Proofs.Ytccjmigdebchiaa
set_option maxRecDepth 100000
open Go.RowKit

set_option maxHeartbeats 1000000 in
theorem gaussOfW_any (a b : Int) (h1 : -64 ≤ a ∧ a ≤ 64) (h2 : -64 ≤ b ∧ b ≤ 64) (w : World) : Calls Try.prog 28 #[.complex .f32 (f32of a) (f32of b)] w (Ret w (.agg #[.int .i64 a, .int .i64 b])) := by
  have ha := fun w => run_convert_float_int (P := Try.prog) w 73 3 .f32 .i64 (f32of a) a rfl Try.underlying3 (f32_backw a h1)
  have hb := fun w => run_convert_float_int (P := Try.prog) w 73 3 .f32 .i64 (f32of b) b rfl Try.underlying3 (f32_backw b h2)
  obtain ⟨fa, hfa⟩ : ∃ fa, fa = f32of a := ⟨_, rfl⟩
  obtain ⟨fb, hfb⟩ : ∃ fb, fb = f32of b := ⟨_, rfl⟩
  rw [← hfa] at ha ⊢
  rw [← hfb] at hb ⊢
  clear hfa hfb h1 h2
  go_enter Try.func28, Try.ntmps28
  go_wp2
  go_returns
  exact ⟨rfl, by go_grown⟩
def exI (f : Int → Int) (M : Nat → Nat → Int) (i k : Nat) : Int := sumN (fun j => f (M i j)) k
def exO (f : Int → Int) (M : Nat → Nat → Int) (n k : Nat) : Int := sumN (fun i => exI f M i n) k
theorem exI_small (f : Int → Int) (hf : ∀ x, -1 ≤ f x ∧ f x ≤ 1) (M : Nat → Nat → Int) (i k : Nat) : -(k : Int) ≤ exI f M i k ∧ exI f M i k ≤ k := sumN_bound _ (fun _ => hf _) k
theorem exO_small (f : Int → Int) (hf : ∀ x, -1 ≤ f x ∧ f x ≤ 1) (M : Nat → Nat → Int) (n k : Nat) (hn : n ≤ 8) (hk : k ≤ n) : -(8 * k : Int) ≤ exO f M n k ∧ exO f M n k ≤ 8 * k := by
  have := sumN_le (fun i => exI f M i n) 8 n (fun i _ => by have := exI_small f hf M i n; omega) k hk
  exact this
theorem exO_exA {m : List (List Int)} (hm : maOk m = true) (f : Int → Int) : exO f (atM m) m.length m.length = exA f m := by
  unfold exA
  rw [hm, if_pos rfl]
  unfold exO exS
  refine sumN_ext _ _ _ (fun i hi => ?_)
  unfold exI exT
  have h := sumF_gen f (fun j => (m.getD i []).getD j 0) (m.getD i []).length
  rw [gen_self, maOk_sq hm i hi] at h
  rw [h]
  rfl
theorem exO_mf (m : List (List Int)) (f : Int → Int) : exO f (atM m) (mfN m) (mfN m) = exA f m := by
  cases hm : maOk m with
  | true => rw [show mfN m = m.length by unfold mfN; rw [hm]; rfl]; exact exO_exA hm f
  | false => rw [show mfN m = 0 by unfold mfN; rw [hm]; rfl]; unfold exA; rw [hm]; rfl
theorem maRow_inB' (m : List (List Int)) (i : Int) : inB i 0 ((mfN m : Nat) - 1 : Int) = maRow m i := by
  unfold maRow mfN
  cases h : maOk m with
  | true => simp
  | false =>
    rw [Bool.false_and]
    unfold inB
    simp
    omega
theorem maRow_parts' {m : List (List Int)} {i : Int} (h : maRow m i = true) : maOk m = true ∧ 0 ≤ i ∧ i.toNat < m.length := by
  unfold maRow inB at h
  simp only [Bool.and_eq_true, decide_eq_true_eq] at h
  exact ⟨h.1, h.2.1, by omega⟩
end Go.Proofs.Ytccjmigdebchiaa
