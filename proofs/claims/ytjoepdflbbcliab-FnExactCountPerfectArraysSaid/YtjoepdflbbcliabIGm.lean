/- The program's isArray, hasPlace, around of arrays. -/
import Derived.Test.YtjoepdflbbcliabIGf
import Derived.Test.YtjoepdflbbcliabIPl
import Derived.Deep.QuietTactic
import Derived.BigQuiet
namespace Go.Proofs.Ytjoepdflbbcliab
set_option maxRecDepth 100000
open Go.RowKit

set_option maxHeartbeats 1000000 in
theorem grIs_any (V : Nat → Int) (n m : Nat) (w : World) : Calls Try.prog 45 #[.agg (grA V n m)] w (Ret w (.bool (decide (1 ≤ n)))) := by
  have HL := Lib.hid (grA_rows V n m)
  obtain ⟨C, hC⟩ : ∃ C, C = grA V n m := ⟨_, rfl⟩
  rw [← hC] at HL ⊢
  clear hC
  go_enter Try.func45, Try.ntmps45
  go_wp2_with (refine wpList_box_row rfl 53 (.tmp 0) rfl C rfl ?_; intro w1 hr1 hb1 hz1; have c1 := rowC hr1 HL.out; clear hz1 hr1)
  go_returns
  exact ⟨ret_bool (by simp; omega), hb1⟩
def placeB (p : Int) (n : Nat) : Bool := decide (0 ≤ p ∧ p < n)
set_option maxHeartbeats 1000000 in
theorem grPlace_any (V : Nat → Int) (n m : Nat) (u v : Int) (w : World) : Calls Try.prog 40 #[.agg (grA V n m), .int .i64 u, .int .i64 v] w (Ret w (.bool (placeB u n && placeB v m))) := by
  have HL := Lib.hid (grA_rows V n m)
  have HM := Lib.hid (grA_cols V n m)
  have H1 := Lib.hid (isPlace_any u n)
  have H2 := Lib.hid (isPlace_any v m)
  obtain ⟨C, hC⟩ : ∃ C, C = grA V n m := ⟨_, rfl⟩
  rw [← hC] at HL HM ⊢
  rw [show decide (0 ≤ u ∧ u < (n : Int)) = placeB u n from rfl] at H1
  rw [show decide (0 ≤ v ∧ v < (m : Int)) = placeB v m from rfl] at H2
  clear hC
  cases hq : placeB u n with
  | false =>
    rw [hq] at H1
    rw [Bool.false_and]
    go_enter Try.func40, Try.ntmps40
    go_wp2_with (refine wpList_box_row rfl 53 (.tmp 0) rfl C rfl ?_; intro w1 hr1 hb1 hz1; have c1 := rowC hr1 HL.out; have c2 := rowC hr1 HM.out; clear hz1 hr1)
    refine (H1.out _).mono ?_
    rintro e w2 ⟨rfl, rfl⟩
    go_wp2_with fail
    go_returns
    exact ⟨rfl, hb1⟩
  | true =>
    rw [hq] at H1
    rw [Bool.true_and]
    go_enter Try.func40, Try.ntmps40
    go_wp2_with (refine wpList_box_row rfl 53 (.tmp 0) rfl C rfl ?_; intro w1 hr1 hb1 hz1; have c1 := rowC hr1 HL.out; have c2 := rowC hr1 HM.out; clear hz1 hr1)
    refine (H1.out _).mono ?_
    rintro e w2 ⟨rfl, rfl⟩
    go_wp2_with fail
    refine (H2.out _).mono ?_
    rintro e w2 ⟨rfl, rfl⟩
    go_wp2_with fail
    go_returns
    exact ⟨rfl, hb1⟩
set_option maxRecDepth 100000 in
set_option maxHeartbeats 2000000 in
theorem around_any (n m : Nat) (M : Nat → Nat → Int) (i j : Int) (hn : 1 ≤ n ∧ n ≤ 8) (hm : 1 ≤ m ∧ m ≤ 8) (hi : -1000 ≤ i ∧ i ≤ 1000) (hj : -1000 ≤ j ∧ j ≤ 1000) (w : World) :
    Calls Try.prog 67 #[.agg (grA (GV n m M) n m), .int .i64 i, .int .i64 j] w (Ret w (.int .i64 (M (i % n).toNat (j % m).toNat))) := by
  have HL := Lib.hid (grA_rows (GV n m M) n m)
  have HM := Lib.hid (grA_cols (GV n m M) n m)
  have H1 := Lib.hid (fun w => modulo_any i n (by omega) (by omega) (by omega) (by omega) w)
  have H2 := Lib.hid (fun w => modulo_any j m (by omega) (by omega) (by omega) (by omega) w)
  have e1 : ((i % (n : Int)).toNat : Int) = i % n := Int.toNat_of_nonneg (Int.emod_nonneg _ (by omega))
  have e2 : ((j % (m : Int)).toNat : Int) = j % m := Int.toNat_of_nonneg (Int.emod_nonneg _ (by omega))
  have l1 : i % (n : Int) < n := Int.emod_lt_of_pos _ (by omega)
  have l2 : j % (m : Int) < m := Int.emod_lt_of_pos _ (by omega)
  obtain ⟨a, ha⟩ : ∃ a, a = (i % (n : Int)).toNat := ⟨_, rfl⟩
  obtain ⟨b, hb⟩ : ∃ b, b = (j % (m : Int)).toNat := ⟨_, rfl⟩
  rw [← ha] at e1 ⊢
  rw [← hb] at e2 ⊢
  have HG := Lib.hid (grA_get (GV n m M) n m (a * 8 + b) (by omega))
  rw [GV_at n m M a b (by omega) (by omega) (by omega)] at HG
  obtain ⟨C, hC⟩ : ∃ C, C = grA (GV n m M) n m := ⟨_, rfl⟩
  rw [← hC] at HL HM HG ⊢
  obtain ⟨x, hx⟩ : ∃ x, x = M a b := ⟨_, rfl⟩
  rw [← hx] at HG ⊢
  rw [← e1] at H1
  rw [← e2] at H2
  have h0a : (0 : Int) ≤ (a : Int) := by omega
  have h1a : (a : Int) < 8 := by omega
  have h0b : (0 : Int) ≤ (b : Int) := by omega
  have h1b : (b : Int) < 8 := by omega
  clear hC hx ha hb e1 e2 l1 l2 hi hj
  go_enter Try.func67, Try.ntmps67
  go_wp2_with (refine wpList_box_row rfl 53 (.tmp 0) rfl C rfl ?_; intro w1 hr1 hb1 hz1; have c1 := rowC hr1 HL.out; have c2 := rowC hr1 HM.out; have c3 := rowC hr1 HG.out; clear hz1 hr1)
  go_quiet (first | ((with_reducible refine (H1.out _).mono ?_); exact fun _ _ h => ⟨h.1, _, h.2.symm⟩) | ((with_reducible refine (H2.out _).mono ?_); exact fun _ _ h => ⟨h.1, _, h.2.symm⟩))
  go_wp2_with fail
  go_returns
  exact ⟨rfl, belowN hb1 _⟩
end Go.Proofs.Ytjoepdflbbcliab
