/- ParseSequence: the model's. -/
import Derived.Test.YtkkcdabcoafflabIParse
import Derived.Test.YtkkcdabcoafflabPush
namespace Go.Proofs.Ytkkcdabcoafflab
open Go.RowKit

theorem phLetters_any (w : World) : Calls Try.prog 66 #[] w (Pure w (.string ⟨#[43, 105, 45, 106]⟩)) := by
  go_enter Try.func66, Try.ntmps66
  go_wp2
  go_returns
  exact ⟨rfl, rfl⟩
/-- How far the search for a letter goes. -/
def upto (b : UInt8) : Nat := if code b < 0 then 4 else (code b).toNat
theorem Own.drew {w : World} {B : Nat} {v : Value} {l : List Int} (h : Own w B v l) : Own w.drew B v l := h
theorem neq_hit (a b : UInt8) (h : b = a) : ((a.toNat : Int) != (b.toNat : Int)) = false := by subst h; simp
theorem neq_miss (a b : UInt8) (h : b ≠ a) : ((a.toNat : Int) != (b.toNat : Int)) = true := by
  rw [bne_iff_ne]
  intro e
  apply h
  apply UInt8.toNat_inj.1
  omega
theorem code_0 {b : UInt8} : code b = 0 ↔ b = 43 := by
  unfold code
  constructor
  · intro h; (repeat' split at h) <;> first | assumption | omega
  · rintro rfl; rfl
theorem code_1 {b : UInt8} : code b = 1 ↔ b = 105 := by
  unfold code
  constructor
  · intro h; (repeat' split at h) <;> first | assumption | omega
  · rintro rfl; rfl
theorem code_2 {b : UInt8} : code b = 2 ↔ b = 45 := by
  unfold code
  constructor
  · intro h; (repeat' split at h) <;> first | assumption | omega
  · rintro rfl; rfl
theorem code_3 {b : UInt8} : code b = 3 ↔ b = 106 := by
  unfold code
  constructor
  · intro h; (repeat' split at h) <;> first | assumption | omega
  · rintro rfl; rfl
theorem upto_next (b : UInt8) (j : Nat) (hj : j ≤ upto b) (hj4 : j < 4) (h : code b ≠ j) : j + 1 ≤ upto b := by
  unfold upto at *
  split at hj <;> (split <;> omega)
theorem upto_all (b : UInt8) (h : 4 ≤ upto b) : code b < 0 := by
  have := code_range b
  unfold upto at h
  split at h <;> omega
theorem code_taken (t : ByteArray) (k : Nat) (hk : k < t.size) : (codes t).take (k + 1) = (codes t).take k ++ [(codes t).getD k 0] := by
  rw [List.take_succ_eq_append_getElem (by rw [codes_length]; exact hk)]
  simp [List.getD, codes_length, hk]

set_option maxHeartbeats 8000000 in
theorem phParse_any (t : ByteArray) (ht : t.size ≤ 1048576) (w : World) : Calls Try.prog 52 #[.string t] w (MakesB w (parseL t) (parseB t)) := by
  by_cases h0 : t = ⟨#[48]⟩
  · subst h0
    go_enter Try.func52, Try.ntmps52
    go_wp2_with fail
    go_returns
    exact ⟨_, rfl, World.ownsRow_nil _ _ _ _, by go_grown⟩
  · have e0 := not_zero t h0
    by_cases h12 : 1 ≤ t.size ∧ t.size ≤ 32
    · obtain ⟨h1, h2⟩ := h12
      have hin : inB t.size 1 32 = true := by simp [inB]; omega
      go_enter Try.func52, Try.ntmps52
      go_wp2_with fail
      refine (l1In_any _ _ _ _).mono ?_
      rintro e w1 ⟨rfl, rfl⟩
      rw [hin]
      go_wp2_with fail
      go_loopw [5, 4] (fun i o wr => ∃ k : Nat, k ≤ t.size ∧ i = .int .i64 k ∧ (∀ j, j < k → 0 ≤ (codes t).getD j 0) ∧ Own wr w.heap.size o ((codes t).take k) ∧ Below w.heap.size w wr) (fun i _ _ => t.size - (intOf i).toNat)
      case atStart => exact ⟨0, Nat.zero_le _, rfl, fun j h => absurd h (Nat.not_lt_zero _), World.ownsRow_nil _ _ _ _, Below.refl _ _⟩
      case round =>
        obtain ⟨k, hk, rfl, hall, hown, hbel⟩ := hrel
        have HA := Lib.hid hall
        clear hall
        by_cases hlt : k < t.size
        · have h3 : (0 : Int) ≤ (k : Int) := by omega
          have h4 : (k : Int) < (t.size : Int) := by omega
          have hi2 : (t.size : Int) ≤ 32 := by omega
          have hca := codes_at t k hlt
          have HT := Lib.hid (code_taken t k hlt)
          have HU := Lib.hid (show upto (t[k]'hlt) ≤ 4 by unfold upto; have := code_range (t[k]'hlt); split <;> omega)
          go_wp2_with fail
          go_loopw [6] (fun q wr2 => ∃ j : Nat, j ≤ upto (t[k]'hlt) ∧ q = .int .i64 j ∧ Own wr2 w.heap.size u4 ((codes t).take k) ∧ Below w.heap.size w wr2) (fun q _ => 4 - (intOf q).toNat)
          case atStart => exact ⟨0, Nat.zero_le _, rfl, hown, hbel⟩
          case round =>
            clear hown hbel
            obtain ⟨j, hj, rfl, hown, hbel⟩ := hrel
            have hj4 : j = 0 ∨ j = 1 ∨ j = 2 ∨ j = 3 ∨ j = 4 := by have := HU.out; omega
            have HJ := Lib.hid hj
            have HO := Lib.hid hown
            have HB := Lib.hid hbel
            clear hown hbel hj
            rcases hj4 with rfl | rfl | rfl | rfl | rfl
            · by_cases hc : t[k]'hlt = 43
              · have hd := neq_hit ((ByteArray.mk #[43, 105, 45, 106])[0]'(by decide)) (t[k]'hlt) hc
                have hx := code_0.2 hc
                rw [hca] at hx
                have HX := Lib.hid hx
                rw [show ((0 : Nat) : Int) = 0 from rfl]
                clear hc hca hx
                go_wp2_with fail
                go_region_with (go_at_call 66; refine (phLetters_any _).mono ?_; rintro e w' ⟨rfl, rfl⟩)
                all_goals
                  go_wp2_with (first
                    | (at_builtin; refine wpList_push rfl _ _ rfl w.heap.size _ ((codes t).take k) rfl (HO.out.drew.alloc _) wr.heap.size 1 0 rfl (by simp) (by rw [List.length_take, codes_length]; omega) w.heap.size w (belowN (HB.out.alloc HB.out.size _) 1) (Nat.le_refl _) (by have := HB.out.size; simp; omega) (by have := HB.out.size; simp; omega) ?_; intro v2 w2 ho2 hb2))
                  go_roundw
                  case rel =>
                    refine ⟨k + 1, by omega, by go_num, fun j hj => ?_, by rw [HT.out, HX.out]; assumption, by assumption⟩
                    by_cases hjk : j < k
                    · exact HA.out j hjk
                    · rw [show j = k by omega, HX.out]; omega
                  case measure => simp [intOf]; omega
              · have hd := neq_miss ((ByteArray.mk #[43, 105, 45, 106])[0]'(by decide)) (t[k]'hlt) hc
                have HN := Lib.hid (upto_next _ 0 HJ.out (by omega) (fun e => hc (code_0.1 e)))
                rw [show ((0 : Nat) : Int) = 0 from rfl]
                clear hc hca
                go_wp2_with fail
                go_region_with (go_at_call 66; refine (phLetters_any _).mono ?_; rintro e w' ⟨rfl, rfl⟩)
                all_goals
                  go_wp2_with fail
                  go_roundw
                  case rel => exact ⟨1, HN.out, by go_num, HO.out.drew, belowN HB.out 1⟩
                  case measure => simp [intOf]
            · by_cases hc : t[k]'hlt = 105
              · have hd := neq_hit ((ByteArray.mk #[43, 105, 45, 106])[1]'(by decide)) (t[k]'hlt) hc
                have hx := code_1.2 hc
                rw [hca] at hx
                have HX := Lib.hid hx
                rw [show ((1 : Nat) : Int) = 1 from rfl]
                clear hc hca hx
                go_wp2_with fail
                go_region_with (go_at_call 66; refine (phLetters_any _).mono ?_; rintro e w' ⟨rfl, rfl⟩)
                all_goals
                  go_wp2_with (first
                    | (at_builtin; refine wpList_push rfl _ _ rfl w.heap.size _ ((codes t).take k) rfl (HO.out.drew.alloc _) wr.heap.size 1 1 rfl (by simp) (by rw [List.length_take, codes_length]; omega) w.heap.size w (belowN (HB.out.alloc HB.out.size _) 1) (Nat.le_refl _) (by have := HB.out.size; simp; omega) (by have := HB.out.size; simp; omega) ?_; intro v2 w2 ho2 hb2))
                  go_roundw
                  case rel =>
                    refine ⟨k + 1, by omega, by go_num, fun j hj => ?_, by rw [HT.out, HX.out]; assumption, by assumption⟩
                    by_cases hjk : j < k
                    · exact HA.out j hjk
                    · rw [show j = k by omega, HX.out]; omega
                  case measure => simp [intOf]; omega
              · have hd := neq_miss ((ByteArray.mk #[43, 105, 45, 106])[1]'(by decide)) (t[k]'hlt) hc
                have HN := Lib.hid (upto_next _ 1 HJ.out (by omega) (fun e => hc (code_1.1 e)))
                rw [show ((1 : Nat) : Int) = 1 from rfl]
                clear hc hca
                go_wp2_with fail
                go_region_with (go_at_call 66; refine (phLetters_any _).mono ?_; rintro e w' ⟨rfl, rfl⟩)
                all_goals
                  go_wp2_with fail
                  go_roundw
                  case rel => exact ⟨2, HN.out, by go_num, HO.out.drew, belowN HB.out 1⟩
                  case measure => simp [intOf]
            · by_cases hc : t[k]'hlt = 45
              · have hd := neq_hit ((ByteArray.mk #[43, 105, 45, 106])[2]'(by decide)) (t[k]'hlt) hc
                have hx := code_2.2 hc
                rw [hca] at hx
                have HX := Lib.hid hx
                rw [show ((2 : Nat) : Int) = 2 from rfl]
                clear hc hca hx
                go_wp2_with fail
                go_region_with (go_at_call 66; refine (phLetters_any _).mono ?_; rintro e w' ⟨rfl, rfl⟩)
                all_goals
                  go_wp2_with (first
                    | (at_builtin; refine wpList_push rfl _ _ rfl w.heap.size _ ((codes t).take k) rfl (HO.out.drew.alloc _) wr.heap.size 1 2 rfl (by simp) (by rw [List.length_take, codes_length]; omega) w.heap.size w (belowN (HB.out.alloc HB.out.size _) 1) (Nat.le_refl _) (by have := HB.out.size; simp; omega) (by have := HB.out.size; simp; omega) ?_; intro v2 w2 ho2 hb2))
                  go_roundw
                  case rel =>
                    refine ⟨k + 1, by omega, by go_num, fun j hj => ?_, by rw [HT.out, HX.out]; assumption, by assumption⟩
                    by_cases hjk : j < k
                    · exact HA.out j hjk
                    · rw [show j = k by omega, HX.out]; omega
                  case measure => simp [intOf]; omega
              · have hd := neq_miss ((ByteArray.mk #[43, 105, 45, 106])[2]'(by decide)) (t[k]'hlt) hc
                have HN := Lib.hid (upto_next _ 2 HJ.out (by omega) (fun e => hc (code_2.1 e)))
                rw [show ((2 : Nat) : Int) = 2 from rfl]
                clear hc hca
                go_wp2_with fail
                go_region_with (go_at_call 66; refine (phLetters_any _).mono ?_; rintro e w' ⟨rfl, rfl⟩)
                all_goals
                  go_wp2_with fail
                  go_roundw
                  case rel => exact ⟨3, HN.out, by go_num, HO.out.drew, belowN HB.out 1⟩
                  case measure => simp [intOf]
            · by_cases hc : t[k]'hlt = 106
              · have hd := neq_hit ((ByteArray.mk #[43, 105, 45, 106])[3]'(by decide)) (t[k]'hlt) hc
                have hx := code_3.2 hc
                rw [hca] at hx
                have HX := Lib.hid hx
                rw [show ((3 : Nat) : Int) = 3 from rfl]
                clear hc hca hx
                go_wp2_with fail
                go_region_with (go_at_call 66; refine (phLetters_any _).mono ?_; rintro e w' ⟨rfl, rfl⟩)
                all_goals
                  go_wp2_with (first
                    | (at_builtin; refine wpList_push rfl _ _ rfl w.heap.size _ ((codes t).take k) rfl (HO.out.drew.alloc _) wr.heap.size 1 3 rfl (by simp) (by rw [List.length_take, codes_length]; omega) w.heap.size w (belowN (HB.out.alloc HB.out.size _) 1) (Nat.le_refl _) (by have := HB.out.size; simp; omega) (by have := HB.out.size; simp; omega) ?_; intro v2 w2 ho2 hb2))
                  go_roundw
                  case rel =>
                    refine ⟨k + 1, by omega, by go_num, fun j hj => ?_, by rw [HT.out, HX.out]; assumption, by assumption⟩
                    by_cases hjk : j < k
                    · exact HA.out j hjk
                    · rw [show j = k by omega, HX.out]; omega
                  case measure => simp [intOf]; omega
              · have hd := neq_miss ((ByteArray.mk #[43, 105, 45, 106])[3]'(by decide)) (t[k]'hlt) hc
                have HN := Lib.hid (upto_next _ 3 HJ.out (by omega) (fun e => hc (code_3.1 e)))
                rw [show ((3 : Nat) : Int) = 3 from rfl]
                clear hc hca
                go_wp2_with fail
                go_region_with (go_at_call 66; refine (phLetters_any _).mono ?_; rintro e w' ⟨rfl, rfl⟩)
                all_goals
                  go_wp2_with fail
                  go_roundw
                  case rel => exact ⟨4, HN.out, by go_num, HO.out.drew, belowN HB.out 1⟩
                  case measure => simp [intOf]
            · have hneg := upto_all _ HJ.out
              rw [hca] at hneg
              have HP := Lib.hid (parse_none h0 k hlt hneg)
              rw [show ((4 : Nat) : Int) = 4 from rfl]
              clear hca hneg
              go_wp2_with fail
              go_region
              all_goals
                go_wp2_with fail
                go_returns
                rw [parse_bad h0 HP.out, HP.out]
                exact ⟨_, rfl, World.ownsRow_nil _ _ _ _, belowN HB.out 1⟩
        · have he : k = t.size := by omega
          subst he
          have HP := Lib.hid (parse_all (by omega) h2 HA.out)
          have HO := Lib.hid hown
          have HB := Lib.hid hbel
          clear hown hbel
          go_wp2_with fail
          go_returns
          rw [parse_good h0 HP.out, HP.out]
          refine ⟨_, rfl, ?_, HB.out⟩
          have := HO.out
          rw [List.take_of_length_le (by rw [codes_length]; exact Nat.le_refl _)] at this
          exact this
    · have hp := parse_size h0 h12
      have hin : inB t.size 1 32 = false := by simp [inB]; omega
      rw [parse_bad h0 hp, hp]
      go_enter Try.func52, Try.ntmps52
      go_wp2_with fail
      refine (l1In_any _ _ _ _).mono ?_
      rintro e w1 ⟨rfl, rfl⟩
      rw [hin]
      go_wp2_with fail
      go_returns
      exact ⟨_, rfl, World.ownsRow_nil _ _ _ _, by go_grown⟩
set_option maxHeartbeats 1000000 in
theorem sparse (t : ByteArray) (ht : t.size ≤ 1048576) (w : World) : Calls Try.prog 29 #[.string t] w (MakesB w (parseL t) (parseB t)) := by
  go_enter Try.func29, Try.ntmps29
  go_wp2_with fail
  refine (phParse_any t ht _).mono ?_
  rintro e w1 ⟨v, rfl, ho, hb⟩
  go_wp2_with fail
  go_returns
  exact ⟨_, rfl, ho, hb⟩
theorem parseL_len (t : ByteArray) : (parseL t).length ≤ 1048576 := by
  unfold parseL
  split
  · simp
  · split
    · rename_i h0 h
      rw [codes_length]
      by_cases hh : 1 ≤ t.size ∧ t.size ≤ 32
      · omega
      · rw [parse_size h0 hh] at h; cases h
    · simp
end Go.Proofs.Ytkkcdabcoafflab
