/- SequenceWith: the model's and the program's. -/
import Derived.Test.YtcagiecgbjnefabKit
namespace Go.Proofs.Ytcagiecgbjnefab
set_option maxRecDepth 100000
open Go.RowKit

/-- The m low digits of r in the base 4, the greatest first. -/
def lowD (r : Int) : Nat → List Int
  | 0 => []
  | m + 1 => ((r / 4 ^ m) % 4) :: lowD r m
theorem lowD_length (r : Int) (m : Nat) : (lowD r m).length = m := by induction m with | zero => rfl | succ m ih => simp [lowD, ih]
def withOk (n r : Int) : Bool := decide (0 ≤ n ∧ n ≤ 15) && decide (0 ≤ r ∧ r < 4 ^ n.toNat)
def withF (n r : Int) : List Int := if withOk n r then lowD r n.toNat else []

theorem bound_eq (N : Nat) (h : N ≤ 15) : wrap64 (wrap64 (2 ^ (2 * N)) - 1) = 4 ^ N - 1 := by
  have h' : ∀ j : Nat, j < 16 → wrap64 (wrap64 (2 ^ (2 * j)) - 1) = 4 ^ j - 1 := by decide +kernel
  exact h' N (by omega)
theorem withOk_nat (N : Nat) (r : Int) (h : N ≤ 15) : withOk N r = inB r 0 (4 ^ N - 1) := by
  unfold withOk inB
  have h1 : (0 ≤ (N : Int) ∧ (N : Int) ≤ 15) := by omega
  rw [decide_eq_true h1, Bool.true_and, Int.toNat_natCast, Bool.eq_iff_iff]
  simp
  omega
theorem withOk_bad (n r : Int) (h : ¬ (0 ≤ n ∧ n ≤ 15)) : withOk n r = false := by unfold withOk; rw [decide_eq_false h]; rfl
theorem low_set (r : Int) (N m : Nat) (h : m < N) : ((List.replicate (N - m) (0 : Int) ++ lowD r m).map (Value.int .i64)).set (N - m - 1) (.int .i64 (r / 4 ^ m % 4)) = (List.replicate (N - (m + 1)) (0 : Int) ++ lowD r (m + 1)).map (Value.int .i64) := by
  rw [← List.map_set]
  congr 1
  rw [show N - m = (N - (m + 1)) + 1 by omega, List.replicate_succ', List.append_assoc, Nat.add_sub_cancel]
  rw [List.set_append_right _ _ (by simp), List.length_replicate, Nat.sub_self]
  rfl
theorem low_at (r : Int) (N m : Nat) (h : m < N) : ((List.replicate (N - m) (0 : Int) ++ lowD r m).map (Value.int .i64))[N - m - 1]? = some (.int .i64 0) := by
  rw [List.getElem?_map, List.getElem?_append_left (by simp; omega), List.getElem?_replicate, if_pos (by omega)]
  rfl
theorem div_pow (r : Int) (m : Nat) : r / 4 ^ m / 4 = r / 4 ^ (m + 1) := by
  rw [Int.pow_succ, Int.ediv_ediv_of_nonneg (Int.pow_nonneg (by omega))]
theorem low_len (r : Int) (N m : Nat) (h : m ≤ N) : (List.replicate (N - m) (0 : Int) ++ lowD r m).length = N := by simp [lowD_length]; omega

set_option maxHeartbeats 400000 in
theorem phWith_any (N : Nat) (hN : N ≤ 15) (r : Int) (hr : 0 ≤ r) (hr2 : r ≤ 9223372036854775807) (w : World) : Calls Try.prog 69 #[.int .i64 N, .int .i64 r] w (Makes w (lowD r N)) := by
  obtain ⟨i0, hi, hz0, hz1, hz2⟩ := info_parts infoInt
  go_enter Try.func69, Try.ntmps69
  go_wp2_with (at_make; refine wpList_make_full _ rfl _ _ 22 rfl w.heap.size 3 i0 (.int .i64 0) 1 Try.underlying22 hi hz0 hz1 _ _ _ _ N rfl rfl rfl rfl ?b2 ?b3 (Nat.le_refl _) ?_)
  case b2 => rw [hz2]; omega
  case b3 => unfold maxLen; omega
  intro w0 hown0 hgrow0
  rw [made_zeros] at hown0
  have HO0 := Lib.hid hown0
  have HG0 := Lib.hid hgrow0
  clear hown0 hgrow0
  go_wp2_with fail
  go_loopw [6, 1] (fun i q wr => ∃ m : Nat, m ≤ N ∧ i = .int .i64 ((N : Int) - m - 1) ∧ q = .int .i64 (r / 4 ^ m) ∧ wr.ownsRow w.heap.size 3 1 (.slice (some ⟨w.heap.size, 0, none⟩) N N) N ((List.replicate (N - m) (0 : Int) ++ lowD r m).map (Value.int .i64)) ∧ Below w.heap.size w wr) (fun i _ _ => ((intOf i) + 1).toNat)
  case atStart => exact ⟨0, Nat.zero_le _, by go_num, by simp, by simpa [lowD] using HO0.out, (Below.refl _ _).grown HG0.out (Nat.le_refl _) (fun k h => by cases h)⟩
  case round =>
    obtain ⟨m, hm, rfl, rfl, hown, hbel⟩ := hrel
    by_cases hlt : m < N
    · have hq0 : 0 ≤ r / 4 ^ m := Int.ediv_nonneg hr (Int.pow_nonneg (by omega))
      have hq1 : r / 4 ^ m ≤ 9223372036854775807 := Int.le_trans (Int.ediv_le_self _ hr) hr2
      have HD := Lib.hid (div_pow r m)
      have HL := Lib.hid (low_set r N m hlt)
      obtain ⟨j, hj⟩ : ∃ j : Nat, N = j + m + 1 := ⟨N - m - 1, by omega⟩
      have hji : (N : Int) - m - 1 = (j : Int) := by omega
      have hjn : N - m - 1 = j := by omega
      have c1 : wr.cell? ⟨w.heap.size, j, none⟩ = some (.int .i64 0) := by
        rw [hown.cellAt j (by omega), ← hjn]
        exact low_at r N m hlt
      have c2 := hown.frozenAt j
      rw [hji]
      rw [hjn] at HL
      obtain ⟨q, hq⟩ : ∃ q, q = r / 4 ^ m := ⟨_, rfl⟩
      rw [← hq] at hq0 hq1 HD HL ⊢
      have HO := Lib.hid hown
      have HB := Lib.hid hbel
      have HJ := Lib.hid hj
      have h1 : (j : Int) < (N : Int) := by omega
      clear hown hbel hq hji hjn hj
      go_wp2_with fail
      go_roundw
      case rel =>
        have hs := HO.out.stored j (.int .i64 (q % 4))
        rw [HL.out] at hs
        have := HJ.out
        exact ⟨m + 1, by omega, by go_num, by rw [HD.out], hs.1, HB.out.setCell (Nat.le_refl _) _⟩
      case measure => simp [intOf]
    · have he : m = N := by omega
      subst he
      have HO := Lib.hid hown
      have HB := Lib.hid hbel
      clear hown hbel
      have hneg : (m : Int) - m - 1 = -1 := by omega
      rw [hneg]
      clear hneg
      go_wp2_with fail
      go_returns
      refine ⟨_, rfl, ?_, HB.out⟩
      have := HO.out
      rw [Nat.sub_self] at this
      simpa [Own, lowD_length] using this

theorem withOk_true {N : Nat} {r : Int} (hN : N ≤ 15) (h : withOk N r = true) : 0 ≤ r ∧ r ≤ 1073741824 := by
  rw [withOk_nat N r hN] at h
  have h' : ∀ j : Nat, j < 16 → (4 : Int) ^ j ≤ 1073741824 := by decide
  have := h' N (by omega)
  simp [inB] at h
  omega
theorem not_range (n : Int) (h : ¬ (0 ≤ n ∧ n ≤ 15)) : inB n 0 15 = false := by simp [inB]; omega

theorem big_rest (N : Nat) (r : Int) (hN : N ≤ 15) (hr : 0 ≤ r) : (0 < r / 4 ^ N) ↔ withOk N r = false := by
  have hp : (0 : Int) < 4 ^ N := Int.pow_pos (by omega)
  rw [withOk_nat N r hN]
  simp [inB, hr]
  constructor
  · intro h
    have := (Int.le_ediv_iff_mul_le hp).1 (show (1 : Int) ≤ r / 4 ^ N by omega)
    omega
  · intro h
    have := (Int.le_ediv_iff_mul_le (a := 1) (b := r) hp).2 (by omega)
    omega

set_option maxHeartbeats 1000000 in
theorem iwith_any (n r : Int) (hr2 : r ≤ 9223372036854775807) (w : World) : Calls Try.prog 115 #[.int .i64 n, .int .i64 r] w (MakesB w (withF n r) (withOk n r)) := by
  obtain ⟨i0, hi, hz0, hz1, hz2⟩ := info_parts infoInt
  by_cases hn : 0 ≤ n ∧ n ≤ 15
  · by_cases hr : 0 ≤ r
    · obtain ⟨N, rfl⟩ := Int.eq_ofNat_of_zero_le hn.1
      have hN : N ≤ 15 := by omega
      clear hn
      go_enter Try.func115, Try.ntmps115
      go_wp2_with (at_make; refine wpList_make_full _ rfl _ _ 22 rfl w.heap.size 3 i0 (.int .i64 0) 1 Try.underlying22 hi hz0 hz1 _ _ _ _ N rfl rfl rfl rfl ?b2 ?b3 (Nat.le_refl _) ?_)
      case b2 => rw [hz2]; omega
      case b3 => unfold maxLen; omega
      intro w0 hown0 hgrow0
      rw [made_zeros] at hown0
      have HO0 := Lib.hid hown0
      have HG0 := Lib.hid hgrow0
      clear hown0 hgrow0
      go_wp2_with fail
      go_loopw [7, 1] (fun i q wr => ∃ m : Nat, m ≤ N ∧ i = .int .i64 ((N : Int) - m - 1) ∧ q = .int .i64 (r / 4 ^ m) ∧ wr.ownsRow w.heap.size 3 1 (.slice (some ⟨w.heap.size, 0, none⟩) N N) N ((List.replicate (N - m) (0 : Int) ++ lowD r m).map (Value.int .i64)) ∧ Below w.heap.size w wr) (fun i _ _ => ((intOf i) + 1).toNat)
      case atStart => exact ⟨0, Nat.zero_le _, by go_num, by simp, by simpa [lowD] using HO0.out, (Below.refl _ _).grown HG0.out (Nat.le_refl _) (fun k h => by cases h)⟩
      case round =>
        obtain ⟨m, hm, rfl, rfl, hown, hbel⟩ := hrel
        have hq0 : 0 ≤ r / 4 ^ m := Int.ediv_nonneg hr (Int.pow_nonneg (by omega))
        have hq1 : r / 4 ^ m ≤ 9223372036854775807 := Int.le_trans (Int.ediv_le_self _ hr) hr2
        by_cases hlt : m < N
        · have HD := Lib.hid (div_pow r m)
          have HL := Lib.hid (low_set r N m hlt)
          obtain ⟨j, hj⟩ : ∃ j : Nat, N = j + m + 1 := ⟨N - m - 1, by omega⟩
          have hji : (N : Int) - m - 1 = (j : Int) := by omega
          have hjn : N - m - 1 = j := by omega
          have c1 : wr.cell? ⟨w.heap.size, j, none⟩ = some (.int .i64 0) := by
            rw [hown.cellAt j (by omega), ← hjn]
            exact low_at r N m hlt
          have c2 := hown.frozenAt j
          rw [hji]
          rw [hjn] at HL
          obtain ⟨q, hq⟩ : ∃ q, q = r / 4 ^ m := ⟨_, rfl⟩
          rw [← hq] at hq0 hq1 HD HL ⊢
          have HO := Lib.hid hown
          have HB := Lib.hid hbel
          have HJ := Lib.hid hj
          have h1 : (j : Int) < (N : Int) := by omega
          clear hown hbel hq hji hjn hj
          go_wp2_with fail
          go_roundw
          case rel =>
            have hs := HO.out.stored j (.int .i64 (q % 4))
            rw [HL.out] at hs
            have := HJ.out
            exact ⟨m + 1, by omega, by go_num, by rw [HD.out], hs.1, HB.out.setCell (Nat.le_refl _) _⟩
          case measure => simp [intOf]
        · have he : m = N := by omega
          subst he
          have HO := Lib.hid hown
          have HB := Lib.hid hbel
          clear hown hbel
          have hneg : (m : Int) - m - 1 = -1 := by omega
          rw [hneg]
          clear hneg
          have hbig := big_rest m r hN hr
          obtain ⟨q, hq⟩ : ∃ q, q = r / 4 ^ m := ⟨_, rfl⟩
          rw [← hq] at hq0 hq1 hbig ⊢
          clear hq
          by_cases hpos : 0 < q
          · have ho := hbig.1 hpos
            have ef : withF m r = [] := by simp [withF, ho]
            have EF := Lib.hid ef
            have EO := Lib.hid ho
            clear hbig ho ef
            go_wp2_with fail
            go_returns
            rw [EF.out, EO.out]
            exact ⟨_, rfl, World.ownsRow_nil _ _ _ _, HB.out⟩
          · have ho : withOk m r = true := by
              cases hh : withOk m r with
              | true => rfl
              | false => exact absurd (hbig.2 hh) hpos
            have ef : withF m r = lowD r m := by simp [withF, ho]
            have EF := Lib.hid ef
            have EO := Lib.hid ho
            clear hbig ho ef
            go_wp2_with fail
            go_returns
            rw [EF.out, EO.out]
            refine ⟨_, rfl, ?_, HB.out⟩
            have := HO.out
            rw [Nat.sub_self] at this
            simpa [Own, lowD_length] using this
    · have hr' : r < 0 := by omega
      have ho : withOk n r = false := by simp [withOk]; omega
      have ef : withF n r = [] := by simp [withF, ho]
      obtain ⟨h1, h2⟩ := hn
      rw [ef, ho]
      clear ef ho hr
      go_enter Try.func115, Try.ntmps115
      go_wp2_with fail
      go_returns
      exact ⟨_, rfl, World.ownsRow_nil _ _ _ _, by go_grown⟩
  · have ho := withOk_bad n r hn
    have ef : withF n r = [] := by simp [withF, ho]
    rw [ef, ho]
    clear ef ho
    by_cases h0 : n < 0
    · clear hn
      go_enter Try.func115, Try.ntmps115
      go_wp2_with fail
      go_returns
      exact ⟨_, rfl, World.ownsRow_nil _ _ _ _, by go_grown⟩
    · have h1 : 0 ≤ n := by omega
      have h2 : 15 < n := by omega
      clear hn h0
      go_enter Try.func115, Try.ntmps115
      go_wp2_with fail
      go_returns
      exact ⟨_, rfl, World.ownsRow_nil _ _ _ _, by go_grown⟩
theorem withF_len (n r : Int) : (withF n r).length ≤ 1048576 := by
  unfold withF
  split
  · rename_i h
    rw [lowD_length]
    simp [withOk] at h
    omega
  · simp
end Go.Proofs.Ytcagiecgbjnefab
