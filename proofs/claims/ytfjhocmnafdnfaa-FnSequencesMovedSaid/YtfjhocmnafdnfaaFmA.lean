/- What the laws of several functions need of turned, shifted, climbed and mirrored sequences, and of their sums. -/
import Derived.Test.YtfjhocmnafdnfaaMov
import Derived.Test.YtfjhocmnafdnfaaDShiftBy
import Derived.Test.YtfjhocmnafdnfaaCors
namespace Go.Proofs.Ytfjhocmnafdnfaa

set_option maxRecDepth 100000
theorem seq_at {l : List Int} (h : isSeq l = true) (i : Nat) (hi : i < l.length) : 0 ≤ l.getD i 0 ∧ l.getD i 0 ≤ 3 := allIn_getD (isSeq_all h) i hi
theorem gen_is {l : List Int} {g : Nat → Int} (h : ∀ i, i < l.length → g i = l.getD i 0) : gen l.length g = l := (gen_ext h).trans (gen_self l)
theorem gen_map (l : List Int) (f : Int → Int) : gen l.length (fun i => f (l.getD i 0)) = l.map f := by
  apply List.ext_getElem
  · rw [gen_length, List.length_map]
  · intro i h1 h2
    have h3 : i < l.length := by rw [gen_length] at h1; exact h1
    have h4 := gen_getElem? l.length (fun i => f (l.getD i 0)) i h3
    rw [List.getElem?_eq_getElem h1] at h4
    injection h4 with h4
    rw [h4, List.getElem_map]
    simp [List.getD, h3]
theorem turnG_len (l : List Int) (k : Int) : (turnG l k).length = l.length := gen_length _ _
theorem shiftG_len (l : List Int) (k : Int) : (shiftG l k).length = l.length := gen_length _ _
theorem climbG_len (l : List Int) (k : Int) : (climbG l k).length = l.length := gen_length _ _
theorem barG_len (l : List Int) : (barG l).length = l.length := gen_length _ _
theorem backG_len (l : List Int) : (backG l).length = l.length := gen_length _ _
theorem seq_gen {n : Nat} {g : Nat → Int} (hn : n ≤ 32) (hg : ∀ i, i < n → 0 ≤ g i ∧ g i ≤ 3) : isSeq (gen n g) = true := by
  refine isSeq_of (by rw [gen_length]; exact hn) ?_
  unfold allIn
  refine List.all_eq_true.2 (fun z hz => ?_)
  unfold gen at hz
  obtain ⟨i, hi, rfl⟩ := List.mem_map.1 hz
  have := hg i (List.mem_range.1 hi)
  simp [inB, this]
theorem seq_turnG {s : List Int} (h : isSeq s = true) (k : Int) : isSeq (turnG s k) = true := seq_gen (isSeq_len h) (fun i _ => by omega)
theorem seq_climbG {s : List Int} (h : isSeq s = true) (k : Int) : isSeq (climbG s k) = true := seq_gen (isSeq_len h) (fun i _ => by omega)
theorem seq_barG {s : List Int} (h : isSeq s = true) : isSeq (barG s) = true := seq_gen (isSeq_len h) (fun i _ => by omega)
theorem seq_backG {s : List Int} (h : isSeq s = true) : isSeq (backG s) = true := seq_gen (isSeq_len h) (fun i hi => seq_at h _ (by omega))
theorem seq_shiftG {s : List Int} (h : isSeq s = true) (k : Int) : isSeq (shiftG s k) = true :=
  seq_gen (isSeq_len h) (fun i hi => seq_at h _ (by
    have h1 : 0 ≤ ((i : Int) + k) % (s.length : Int) := Int.emod_nonneg _ (by omega)
    have h2 : ((i : Int) + k) % (s.length : Int) < s.length := Int.emod_lt_of_pos _ (by omega)
    omega))
theorem turn_back {s : List Int} (h : isSeq s = true) (k : Int) : turnG (turnG s k) (-k) = s := by
  unfold turnG
  rw [gen_length]
  exact gen_is (fun i hi => by rw [gen_getD _ _ _ hi]; have := seq_at h i hi; omega)
theorem climb_back {s : List Int} (h : isSeq s = true) (k : Int) : climbG (climbG s k) ((4 - k) % 4) = s := by
  unfold climbG
  rw [gen_length]
  refine gen_is (fun i hi => ?_)
  rw [gen_getD _ _ _ hi]
  have h1 := seq_at h i hi
  have h2 : ((4 - k) % 4 * (i : Int)) % 4 = (-(k * (i : Int))) % 4 := by
    rw [Int.mul_emod, Int.emod_emod, ← Int.mul_emod, show (4 - k) * (i : Int) = -(k * i) + 4 * i from by rw [Int.sub_mul]; omega]
    omega
  generalize (4 - k) % 4 * (i : Int) = x at h2 ⊢
  generalize k * (i : Int) = y at h2 ⊢
  omega
theorem bar_bar {s : List Int} (h : isSeq s = true) : barG (barG s) = s := by
  unfold barG
  rw [gen_length]
  exact gen_is (fun i hi => by rw [gen_getD _ _ _ hi]; have := seq_at h i hi; omega)
theorem back_back (s : List Int) : backG (backG s) = s := by
  unfold backG
  rw [gen_length]
  exact gen_is (fun i hi => by rw [gen_getD _ _ _ (by omega)]; congr 1; omega)
theorem shift_back (s : List Int) (k : Int) : shiftG (shiftG s k) (-k) = s := by
  unfold shiftG
  rw [gen_length]
  refine gen_is (fun i hi => ?_)
  have hn : (0 : Int) < s.length := by omega
  have h1 : 0 ≤ ((i : Int) + -k) % (s.length : Int) := Int.emod_nonneg _ (by omega)
  have h2 : ((i : Int) + -k) % (s.length : Int) < s.length := Int.emod_lt_of_pos _ hn
  rw [gen_getD _ _ _ (by omega), Int.toNat_of_nonneg h1, Int.emod_add_emod, show (i : Int) + -k + k = i from by omega, Int.emod_eq_of_lt (by omega) (by omega), Int.toNat_natCast]
theorem shiftG_is (s : List Int) (k : Int) : shiftG s k = s.drop (k % (s.length : Int)).toNat ++ s.take (k % (s.length : Int)).toNat := by
  by_cases hn : s.length = 0
  · have : s = [] := List.length_eq_zero_iff.1 hn
    subst this
    simp [shiftG, gen]
  have h1 : 0 ≤ k % (s.length : Int) := Int.emod_nonneg _ (by omega)
  have h2 : k % (s.length : Int) < s.length := Int.emod_lt_of_pos _ (by omega)
  obtain ⟨r, hr⟩ : ∃ r : Nat, (r : Int) = k % (s.length : Int) := ⟨(k % (s.length : Int)).toNat, Int.toNat_of_nonneg h1⟩
  rw [← hr, Int.toNat_natCast]
  have hrn : r < s.length := by omega
  apply List.ext_getElem
  · rw [shiftG_len, List.length_append, List.length_drop, List.length_take]; omega
  · intro i i1 i2
    have hi : i < s.length := by rw [shiftG_len] at i1; exact i1
    have h4 := gen_getElem? s.length (fun (i : Nat) => s.getD (((i : Int) + k) % (s.length : Int)).toNat 0) i hi
    have h5 : (shiftG s k)[i]? = some (s.getD (((i : Int) + k) % (s.length : Int)).toNat 0) := h4
    rw [List.getElem?_eq_getElem i1] at h5
    injection h5 with h5
    rw [h5]
    have h6 : ((i : Int) + k) % (s.length : Int) = ((i : Int) + r) % (s.length : Int) := by rw [hr, Int.add_emod_emod]
    rw [h6]
    by_cases hlt : i + r < s.length
    · rw [show ((i : Int) + r) = ((i + r : Nat) : Int) from by omega, Int.emod_eq_of_lt (by omega) (by omega), Int.toNat_natCast, List.getElem_append_left (by rw [List.length_drop]; omega), List.getElem_drop]
      simp [List.getD, hlt, Nat.add_comm r i]
    · have h7 : ((i : Int) + r) % (s.length : Int) = ((i + r - s.length : Nat) : Int) := by
        rw [show ((i : Int) + r) = ((i + r - s.length : Nat) : Int) + s.length from by omega, Int.add_emod_right, Int.emod_eq_of_lt (by omega) (by omega)]
      rw [h7, Int.toNat_natCast, List.getElem_append_right (by rw [List.length_drop]; omega), List.getElem_take]
      simp only [List.length_drop]
      have h8 : i + r - s.length < s.length := by omega
      have h9 : i - (s.length - r) = i + r - s.length := by omega
      simp [List.getD, h8, h9]
theorem sum_shiftG (f : Int → Int) (s : List Int) (k : Int) : sumF f (shiftG s k) = sumF f s := by
  rw [shiftG_is, sumF_append]
  have h := sumF_append f (s.take (k % (s.length : Int)).toNat) (s.drop (k % (s.length : Int)).toNat)
  rw [List.take_append_drop] at h
  omega
theorem vxy_add (x k : Int) (h : 0 ≤ x ∧ x ≤ 3) : vx ((x + k) % 4) = vx x * vx (k % 4) - vy x * vy (k % 4) ∧ vy ((x + k) % 4) = vx x * vy (k % 4) + vy x * vx (k % 4) := by
  obtain ⟨r, hr⟩ : ∃ r, r = k % 4 := ⟨_, rfl⟩
  have e : (x + k) % 4 = (x + r) % 4 := by omega
  rw [e, ← hr]
  have h1 : r = 0 ∨ r = 1 ∨ r = 2 ∨ r = 3 := by omega
  have h2 : x = 0 ∨ x = 1 ∨ x = 2 ∨ x = 3 := by omega
  clear hr e h
  rcases h1 with rfl | rfl | rfl | rfl <;> rcases h2 with rfl | rfl | rfl | rfl <;> exact ⟨rfl, rfl⟩
theorem vxy_neg (x : Int) (h : 0 ≤ x ∧ x ≤ 3) : vx ((-x) % 4) = vx x ∧ vy ((-x) % 4) = -(vy x) := by
  have h2 : x = 0 ∨ x = 1 ∨ x = 2 ∨ x = 3 := by omega
  clear h
  rcases h2 with rfl | rfl | rfl | rfl <;> exact ⟨rfl, rfl⟩
theorem allIn_cons {x : Int} {t : List Int} {lo hi : Int} (h : allIn (x :: t) lo hi = true) : (lo ≤ x ∧ x ≤ hi) ∧ allIn t lo hi = true := by
  unfold allIn at h ⊢
  rw [List.all_cons, Bool.and_eq_true] at h
  refine ⟨?_, h.2⟩
  simpa [inB] using h.1
theorem sum_turnG {s : List Int} (h : isSeq s = true) (k : Int) : sumF vx (turnG s k) = sumF vx s * vx (k % 4) - sumF vy s * vy (k % 4) ∧ sumF vy (turnG s k) = sumF vx s * vy (k % 4) + sumF vy s * vx (k % 4) := by
  have h0 := isSeq_all h
  unfold turnG
  rw [gen_map s (fun x => (x + k) % 4)]
  clear h
  induction s with
  | nil => simp [sumF]
  | cons x t ih =>
    obtain ⟨hx, ht⟩ := allIn_cons h0
    obtain ⟨i1, i2⟩ := ih ht
    obtain ⟨e1, e2⟩ := vxy_add x k hx
    simp only [List.map_cons, sumF, i1, i2, e1, e2, Int.add_mul]
    constructor <;> omega
theorem sum_barG {s : List Int} (h : isSeq s = true) : sumF vx (barG s) = sumF vx s ∧ sumF vy (barG s) = -(sumF vy s) := by
  have h0 := isSeq_all h
  unfold barG
  rw [gen_map s (fun x => (-x) % 4)]
  clear h
  induction s with
  | nil => simp [sumF]
  | cons x t ih =>
    obtain ⟨hx, ht⟩ := allIn_cons h0
    obtain ⟨i1, i2⟩ := ih ht
    obtain ⟨e1, e2⟩ := vxy_neg x hx
    simp only [List.map_cons, sumF, i1, i2, e1, e2]
    refine ⟨trivial, ?_⟩
    omega
theorem turnOk_parts {s : List Int} {k : Int} (h : turnOk s k = true) : isSeq s = true ∧ -1000 ≤ k ∧ k ≤ 1000 := by
  simp [turnOk] at h
  exact ⟨h.1, h.2.1, h.2.2⟩
theorem turned_back {s : List Int} {k : Int} (h : turnOk s k = true) : turnF (turnF s k) (-k) = s ∧ turnOk (turnF s k) (-k) = true := by
  obtain ⟨h1, h2, h3⟩ := turnOk_parts h
  have e : turnF s k = turnG s k := if_pos h
  have h4 : turnOk (turnG s k) (-k) = true := by simp [turnOk, seq_turnG h1 k]; omega
  rw [e]
  exact ⟨(if_pos h4).trans (turn_back h1 k), h4⟩
theorem shifted_back {s : List Int} {k : Int} (h : turnOk s k = true) : shiftF (shiftF s k) (-k) = s ∧ shiftOk (shiftF s k) (-k) = true := by
  obtain ⟨h1, h2, h3⟩ := turnOk_parts h
  have e : shiftF s k = shiftG s k := if_pos h
  have h4 : shiftOk (shiftG s k) (-k) = true := by simp [shiftOk, seq_shiftG h1 k]; omega
  rw [e]
  exact ⟨(if_pos h4).trans (shift_back s k), h4⟩
theorem barred_back {s : List Int} (h : isSeq s = true) : barF (barF s) = s ∧ barOk (barF s) = true := by
  have e : barF s = barG s := if_pos h
  rw [e]
  exact ⟨(if_pos (seq_barG h)).trans (bar_bar h), seq_barG h⟩
theorem mirrored_back {s : List Int} (h : isSeq s = true) : backF (backF s) = s ∧ backOk (backF s) = true := by
  have e : backF s = backG s := if_pos h
  rw [e]
  exact ⟨(if_pos (seq_backG h)).trans (back_back s), seq_backG h⟩
theorem sum_shiftF {s : List Int} {k : Int} (h : turnOk s k = true) : sumX (shiftF s k) = sumX s ∧ sumY (shiftF s k) = sumY s ∧ isSeq (shiftF s k) = true := by
  obtain ⟨h1, h2, h3⟩ := turnOk_parts h
  have e : shiftF s k = shiftG s k := if_pos h
  have h4 := seq_shiftG h1 k
  rw [e]
  exact ⟨by unfold sumX; rw [if_pos h4, if_pos h1, sum_shiftG], by unfold sumY; rw [if_pos h4, if_pos h1, sum_shiftG], h4⟩
theorem sum_turnF {s : List Int} {k : Int} (h : turnOk s k = true) : sumX (turnF s k) = sumX s * vx (k % 4) - sumY s * vy (k % 4) ∧ sumY (turnF s k) = sumX s * vy (k % 4) + sumY s * vx (k % 4) ∧ isSeq (turnF s k) = true := by
  obtain ⟨h1, h2, h3⟩ := turnOk_parts h
  have e : turnF s k = turnG s k := if_pos h
  have h4 := seq_turnG h1 k
  obtain ⟨h5, h6⟩ := sum_turnG h1 k
  rw [e]
  unfold sumX sumY
  rw [if_pos h4, if_pos h1, if_pos h4, if_pos h1]
  exact ⟨h5, h6, h4⟩
theorem sum_barF {s : List Int} (h : isSeq s = true) : sumX (barF s) = sumX s ∧ sumY (barF s) = -(sumY s) ∧ isSeq (barF s) = true := by
  have e : barF s = barG s := if_pos h
  obtain ⟨h5, h6⟩ := sum_barG h
  rw [e]
  unfold sumX sumY
  rw [if_pos (seq_barG h), if_pos h, if_pos (seq_barG h), if_pos h]
  exact ⟨h5, h6, seq_barG h⟩
theorem sumXY_small (s : List Int) : -32 ≤ sumX s ∧ sumX s ≤ 32 ∧ -32 ≤ sumY s ∧ sumY s ≤ 32 := by
  unfold sumX sumY
  by_cases h : isSeq s = true
  · rw [if_pos h, if_pos h]
    have h1 := sumF_bound vx (fun x => by unfold vx; split <;> (try split) <;> omega) s
    have h2 := sumF_bound vy (fun x => by unfold vy; split <;> (try split) <;> omega) s
    have := isSeq_len h
    omega
  · rw [if_neg h, if_neg h]; omega
theorem climbOk_parts {s : List Int} {k : Int} (h : climbOk s k = true) : isSeq s = true ∧ 0 ≤ k ∧ k ≤ 3 := by
  simp [climbOk] at h
  exact ⟨h.1, h.2.1, h.2.2⟩
theorem climbed_back {s : List Int} {k : Int} (h : climbOk s k = true) : climbF (climbF s k) ((4 - k) % 4) = s ∧ climbOk (climbF s k) ((4 - k) % 4) = true := by
  obtain ⟨h1, h2, h3⟩ := climbOk_parts h
  have e : climbF s k = climbG s k := if_pos h
  have h4 : climbOk (climbG s k) ((4 - k) % 4) = true := by simp [climbOk, seq_climbG h1 k]; omega
  rw [e]
  exact ⟨(if_pos h4).trans (climb_back h1 k), h4⟩
theorem climbOk_two (s : List Int) : climbOk s 2 = isSeq s := by simp [climbOk]
theorem vxy_small (k : Int) : (-1 ≤ vx k ∧ vx k ≤ 1) ∧ -1 ≤ vy k ∧ vy k ≤ 1 := by
  unfold vx vy
  constructor <;> (split <;> (try split) <;> omega)
end Go.Proofs.Ytfjhocmnafdnfaa
