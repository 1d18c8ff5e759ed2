/- Lists by their index; numbers modulo another. -/
import Derived.Test.YtodgalflngfnpaaPh
namespace Go.Proofs.Ytodgalflngfnpaa
set_option maxRecDepth 100000
open Go.RowKit

def gen (n : Nat) (g : Nat → Int) : List Int := (List.range n).map g
theorem gen_length (n : Nat) (g : Nat → Int) : (gen n g).length = n := by simp [gen]
theorem gen_zero (g : Nat → Int) : gen 0 g = [] := rfl
theorem gen_succ (n : Nat) (g : Nat → Int) : gen (n + 1) g = gen n g ++ [g n] := by simp [gen, List.range_succ]
theorem gen_getElem? (n : Nat) (g : Nat → Int) (i : Nat) (h : i < n) : (gen n g)[i]? = some (g i) := by simp [gen, h]
theorem gen_getD (n : Nat) (g : Nat → Int) (i : Nat) (h : i < n) : (gen n g).getD i 0 = g i := by simp [List.getD, gen_getElem? n g i h]
theorem gen_ext {n : Nat} {g h : Nat → Int} (e : ∀ i, i < n → g i = h i) : gen n g = gen n h := by
  unfold gen
  apply List.map_congr_left
  intro i hi
  exact e i (List.mem_range.1 hi)
theorem gen_self (l : List Int) : gen l.length (fun i => l.getD i 0) = l := by
  apply List.ext_getElem?
  intro i
  by_cases h : i < l.length
  · rw [gen_getElem? _ _ _ h]; simp [List.getD, h]
  · rw [List.getElem?_eq_none (by rw [gen_length]; omega), List.getElem?_eq_none (by omega)]
theorem gen_set (n : Nat) (g : Nat → Int) (j : Nat) (x : Int) : (gen n g).set j x = gen n (fun i => if i = j then x else g i) := by
  apply List.ext_getElem?
  intro i
  by_cases h : i < n
  · rw [gen_getElem? _ _ _ h, List.getElem?_set]
    by_cases e : j = i
    · subst e; simp [gen_length, h]
    · rw [if_neg e, gen_getElem? _ _ _ h, if_neg (fun e' => e e'.symm)]
  · rw [List.getElem?_eq_none (by rw [List.length_set, gen_length]; omega), List.getElem?_eq_none (by rw [gen_length]; omega)]
theorem pad_set (l : List Int) (j : Nat) (x : Int) (h : j < l.length) : (padL l).set j x = padL (l.set j x) := by
  unfold padL
  rw [List.set_append_left _ _ h, List.length_set]
theorem pad_getD (l : List Int) (j : Nat) (h : j < l.length) : (padL l).getD j 0 = l.getD j 0 := by simp [padL, List.getD, List.getElem?_append, h]
theorem pad_snoc (g : Nat → Int) (j : Nat) (h : j < 32) : (padL (gen j g)).set j (g j) = padL (gen (j + 1) g) := by
  unfold padL
  rw [List.set_append_right _ _ (by simp [gen_length]), gen_length, gen_length, Nat.sub_self, gen_succ]
  rw [show 32 - j = (32 - (j + 1)) + 1 by omega, List.replicate_succ, List.set_cons_zero, List.append_assoc]
  rfl
theorem pad_at (g : Nat → Int) (j : Nat) (h : j < 32) : (padL (gen j g)).getD j 0 = 0 := by
  unfold padL List.getD
  rw [List.getElem?_append_right (by simp [gen_length]), gen_length, Nat.sub_self, List.getElem?_replicate, if_pos (by omega)]
  rfl
theorem pad_take (l : List Int) : (padL l).take l.length = l := by simp [padL]

/-! ### modulo of the program, phMod of the model -/
theorem tmod_facts (n m : Int) (hm : 1 ≤ m) (hn : n < 0) : n.tmod m ≤ 0 ∧ -m < n.tmod m ∧ (n.tmod m < 0 → n.tmod m + m = n % m) ∧ (¬ n.tmod m < 0 → n.tmod m = n % m) := by
  have h := Int.tmod_eq_emod (a := n) (b := m)
  have h1 := Int.emod_nonneg n (show m ≠ 0 by omega)
  have h2 := Int.emod_lt_of_pos n (show 0 < m by omega)
  by_cases hd : m ∣ n
  · have h0 : n % m = 0 := Int.emod_eq_zero_of_dvd hd
    rw [if_pos (Or.inr hd)] at h
    omega
  · rw [if_neg (by omega)] at h
    have h3 : n % m ≠ 0 := fun e => hd (Int.dvd_of_emod_eq_zero e)
    have h4 : (m.natAbs : Int) = m := by omega
    omega
theorem tmod_emod' (a n : Int) (hn : 0 < n) : a.tmod n % n = a % n := by
  have h := Int.tmod_eq_emod (a := a) (b := n)
  have h4 : (n.natAbs : Int) = n := by omega
  rw [h]
  split
  · simp
  · rw [h4, Int.sub_emod_right, Int.emod_emod]
set_option maxHeartbeats 400000 in
theorem modulo_any (n m : Int) (hm : 1 ≤ m) (hm2 : m ≤ 1000) (h1 : -1000000000 ≤ n) (h2 : n ≤ 1000000000) (w : World) : Calls Try.prog 98 #[.int .i64 n, .int .i64 m] w (Pure w (.int .i64 (n % m))) := by
  by_cases hn : 0 ≤ n
  · have hr1 := Int.emod_nonneg n (show m ≠ 0 by omega)
    have hr2 := Int.emod_lt_of_pos n (show 0 < m by omega)
    go_enter Try.func98, Try.ntmps98
    go_wp2
    go_returns
    exact ⟨rfl, rfl⟩
  · have hf := tmod_facts n m hm (by omega)
    have HF := Lib.hid hf
    obtain ⟨hf1, hf2, -, -⟩ := hf
    by_cases ht : n.tmod m < 0
    · go_enter Try.func98, Try.ntmps98
      go_wp2
      go_returns
      exact ⟨ret_int (HF.out.2.2.1 ht), rfl⟩
    · have ht2 : 0 ≤ n.tmod m := by omega
      clear ht
      go_enter Try.func98, Try.ntmps98
      go_wp2
      go_returns
      exact ⟨ret_int (HF.out.2.2.2 (by omega)), rfl⟩
theorem emod_twice (k : Int) : k.tmod 4 % 4 = k % 4 := by
  have h := Int.tmod_eq_emod (a := k) (b := 4)
  split at h <;> omega
set_option maxHeartbeats 400000 in
theorem phMod_any (k : Int) (h1 : -1000000000 ≤ k) (h2 : k ≤ 1000000000) (w : World) : Calls Try.prog 92 #[.int .i64 k] w (Pure w (.int .i64 (k % 4))) := by
  by_cases hk : 0 ≤ k
  · go_enter Try.func92, Try.ntmps92
    go_wp2
    go_returns
    exact ⟨ret_int (by omega), rfl⟩
  · have hb1 : -4 < k.tmod 4 := by have := tmod_facts k 4 (by omega) (by omega); omega
    have hb2 : k.tmod 4 ≤ 0 := by have := tmod_facts k 4 (by omega) (by omega); omega
    go_enter Try.func92, Try.ntmps92
    go_wp2
    go_returns
    exact ⟨ret_int (emod_twice k), rfl⟩
end Go.Proofs.Ytodgalflngfnpaa
