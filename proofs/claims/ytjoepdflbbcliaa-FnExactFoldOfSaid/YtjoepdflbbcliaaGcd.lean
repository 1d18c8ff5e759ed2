/- Greatest common divisors: the model's and the program's. -/
import Derived.Test.YtjoepdflbbcliaaPhs
namespace Go.Proofs.Ytjoepdflbbcliaa
set_option maxRecDepth 100000
open Go.RowKit

theorem gcd_step (a b : Nat) : Nat.gcd b (a % b) = Nat.gcd a b := by rw [Nat.gcd_comm a b, Nat.gcd_rec b a, Nat.gcd_comm]
theorem tmod_cast (a b : Nat) : (a : Int).tmod (b : Int) = ((a % b : Nat) : Int) := by
  rw [Int.tmod_eq_emod_of_nonneg (by omega)]
  exact (Int.natCast_emod a b).symm
set_option maxHeartbeats 1000000 in
theorem crGcd_any (a b : Nat) (ha : a ≤ 1000000000) (hb : b ≤ 1000000000) (w : World) : Calls Try.prog 49 #[.int .i64 a, .int .i64 b] w (Ret w (.int .i64 (Nat.gcd a b : Nat))) := by
  obtain ⟨g, hg⟩ : ∃ g, g = Nat.gcd a b := ⟨_, rfl⟩
  rw [← hg]
  have HG := Lib.hid hg
  clear hg
  go_enter Try.func49, Try.ntmps49
  go_wp2_with fail
  go_loopw [0, 1] (fun u v wr => ∃ x y : Nat, x ≤ 1000000000 ∧ y ≤ 1000000000 ∧ u = .int .i64 x ∧ v = .int .i64 y ∧ Nat.gcd x y = g ∧ Below w.heap.size w wr) (fun _ v _ => (intOf v).toNat)
  case atStart => exact ⟨a, b, ha, hb, rfl, rfl, HG.out.symm, Below.refl _ _⟩
  case round =>
    obtain ⟨x, y, hx, hy, rfl, rfl, hgcd, hbel⟩ := hrel
    have HBEL := Lib.hid hbel
    have HGC := Lib.hid hgcd
    clear hbel hgcd
    by_cases hlt : 0 < y
    · have h1 : (0 : Int) < (y : Int) := by omega
      have h0 : (0 : Int) ≤ (x : Int) := by omega
      have h2 : (y : Int) ≠ 0 := by omega
      obtain ⟨z, hz⟩ : ∃ z, z = x % y := ⟨_, rfl⟩
      have hzl : z < y := by rw [hz]; exact Nat.mod_lt _ hlt
      have hz2 : (x : Int).tmod (y : Int) = (z : Int) := by rw [hz]; exact tmod_cast x y
      have hz3 : (x : Int) % (y : Int) = (z : Int) := by rw [hz]; exact (Int.natCast_emod x y).symm
      have HS := Lib.hid (gcd_step x y)
      rw [← hz] at HS
      clear hz
      go_wp2_with fail
      go_region
      all_goals
        go_wp2_with fail
        go_roundw
        case rel => exact ⟨y, z, hy, by omega, rfl, rfl, HS.out.trans HGC.out, belowN HBEL.out 1⟩
        case measure => simp [intOf]; omega
    · have hy0 : y = 0 := by omega
      subst hy0
      go_wp2_with fail
      go_returns
      exact ⟨ret_int (by have := HGC.out; rw [Nat.gcd_zero_right] at this; rw [this]), HBEL.out⟩

set_option maxHeartbeats 1000000 in
theorem commonDivisor_any (a b : Nat) (ha : a ≤ 1000000000) (hb : b ≤ 1000000000) (w : World) : Calls Try.prog 63 #[.int .i64 a, .int .i64 b] w (Ret w (.int .i64 (Nat.gcd a b : Nat))) := by
  obtain ⟨g, hg⟩ : ∃ g, g = Nat.gcd a b := ⟨_, rfl⟩
  rw [← hg]
  have HG := Lib.hid hg
  clear hg
  go_enter Try.func63, Try.ntmps63
  go_wp2_with fail
  go_loopw [0, 1] (fun u v wr => ∃ x y : Nat, x ≤ 1000000000 ∧ y ≤ 1000000000 ∧ u = .int .i64 x ∧ v = .int .i64 y ∧ Nat.gcd x y = g ∧ Below w.heap.size w wr) (fun _ v _ => (intOf v).toNat)
  case atStart => exact ⟨a, b, ha, hb, rfl, rfl, HG.out.symm, Below.refl _ _⟩
  case round =>
    obtain ⟨x, y, hx, hy, rfl, rfl, hgcd, hbel⟩ := hrel
    have HBEL := Lib.hid hbel
    have HGC := Lib.hid hgcd
    clear hbel hgcd
    by_cases hlt : 0 < y
    · have h1 : (0 : Int) < (y : Int) := by omega
      have h0 : (0 : Int) ≤ (x : Int) := by omega
      have h2 : (y : Int) ≠ 0 := by omega
      obtain ⟨z, hz⟩ : ∃ z, z = x % y := ⟨_, rfl⟩
      have hzl : z < y := by rw [hz]; exact Nat.mod_lt _ hlt
      have hz2 : (x : Int).tmod (y : Int) = (z : Int) := by rw [hz]; exact tmod_cast x y
      have hz3 : (x : Int) % (y : Int) = (z : Int) := by rw [hz]; exact (Int.natCast_emod x y).symm
      have HS := Lib.hid (gcd_step x y)
      rw [← hz] at HS
      clear hz
      go_wp2_with fail
      go_region
      all_goals
        go_wp2_with fail
        go_roundw
        case rel => exact ⟨y, z, hy, by omega, rfl, rfl, HS.out.trans HGC.out, belowN HBEL.out 1⟩
        case measure => simp [intOf]; omega
    · have hy0 : y = 0 := by omega
      subst hy0
      go_wp2_with fail
      go_returns
      exact ⟨ret_int (by have := HGC.out; rw [Nat.gcd_zero_right] at this; rw [this]), HBEL.out⟩
end Go.Proofs.Ytjoepdflbbcliaa
