/- ParseSequence: the program's. -/
import Derived.Test.YtkkcdabcoafflabIdx
namespace Go.Proofs.Ytkkcdabcoafflab
open Go.RowKit

/-- Its bytes are letters. -/
def codes (t : ByteArray) : List Int := t.data.toList.map code
def parseB (t : ByteArray) : Bool := decide (t = ⟨#[48]⟩) || (decide (1 ≤ t.size ∧ t.size ≤ 32) && (codes t).all (fun k => decide (0 ≤ k)))
def parseL (t : ByteArray) : List Int := if t = ⟨#[48]⟩ then [] else if parseB t then codes t else []

theorem not_zero (t : ByteArray) (h : t ≠ ⟨#[48]⟩) : (t.toList == [48]) = false := by
  rw [ByteArray.toList_eq, beq_eq_false_iff_ne]
  intro e
  apply h
  apply ByteArray.ext
  rw [← Array.toList_inj]
  exact e
theorem isEmpty_of (t : ByteArray) (h : t.size = 0) : t.toList.isEmpty = true := by
  rw [ByteArray.toList_eq, List.isEmpty_iff, ← List.length_eq_zero_iff, Array.length_toList]
  exact h
theorem isEmpty_not (t : ByteArray) (h : t.size ≠ 0) : t.toList.isEmpty = false := by
  rw [ByteArray.toList_eq, List.isEmpty_eq_false_iff]
  intro e
  apply h
  have := congrArg List.length e
  rw [Array.length_toList] at this
  exact this
theorem codes_length (t : ByteArray) : (codes t).length = t.size := by unfold codes; rw [List.length_map, Array.length_toList]; rfl
theorem codes_at (t : ByteArray) (k : Nat) (h : k < t.size) : code (t[k]'h) = (codes t).getD k 0 := by
  have hl := codes_length t
  rw [List.getD_eq_getElem?_getD, List.getElem?_eq_getElem (by omega), Option.getD_some]
  unfold codes
  rw [List.getElem_map, Array.getElem_toList]
  rfl
theorem codes_set (c : List Int) (n k : Nat) (hn : c.length = n) (hk : k < n) : ((c.take k ++ List.replicate (n - k) (0 : Int)).map (Value.int .i64)).set k (.int .i64 (c.getD k 0)) = (c.take (k + 1) ++ List.replicate (n - (k + 1)) (0 : Int)).map (Value.int .i64) :=
  set_copy c n hn.symm k (by omega)
theorem codes_zero (c : List Int) (n k : Nat) (hn : c.length = n) (hk : k < n) : ((c.take k ++ List.replicate (n - k) (0 : Int)).map (Value.int .i64))[k]? = some (.int .i64 0) := by
  subst hn
  exact copy_at c k hk
theorem parse_bad {t : ByteArray} (h0 : t ≠ ⟨#[48]⟩) (h : parseB t = false) : parseL t = [] := by unfold parseL; rw [if_neg h0, h]; rfl
theorem parse_good {t : ByteArray} (h0 : t ≠ ⟨#[48]⟩) (h : parseB t = true) : parseL t = codes t := by unfold parseL; rw [if_neg h0, h]; rfl
theorem parse_size {t : ByteArray} (h0 : t ≠ ⟨#[48]⟩) (h : ¬ (1 ≤ t.size ∧ t.size ≤ 32)) : parseB t = false := by unfold parseB; rw [decide_eq_false h0, decide_eq_false h]; rfl
theorem parse_none {t : ByteArray} (h0 : t ≠ ⟨#[48]⟩) (k : Nat) (hk : k < t.size) (h : (codes t).getD k 0 < 0) : parseB t = false := by
  have hl := codes_length t
  unfold parseB
  rw [decide_eq_false h0, Bool.false_or, Bool.and_eq_false_iff]
  right
  rw [List.all_eq_false]
  refine ⟨(codes t)[k], List.getElem_mem (by omega), ?_⟩
  have : (codes t).getD k 0 = (codes t)[k] := by simp [List.getD, hl, hk]
  simp; omega
theorem parse_all {t : ByteArray} (h1 : 1 ≤ t.size) (h2 : t.size ≤ 32) (h : ∀ k, k < t.size → 0 ≤ (codes t).getD k 0) : parseB t = true := by
  have hl := codes_length t
  unfold parseB
  rw [decide_eq_true (show 1 ≤ t.size ∧ t.size ≤ 32 from ⟨h1, h2⟩), Bool.true_and, Bool.or_eq_true]
  right
  rw [List.all_eq_true]
  intro x hx
  obtain ⟨k, hk, rfl⟩ := List.mem_iff_getElem.1 hx
  have := h k (by omega)
  have e : (codes t).getD k 0 = (codes t)[k] := by simp [List.getD, hk]
  simp; omega

set_option maxHeartbeats 1000000 in
theorem iparse (t : ByteArray) (ht : t.size ≤ 1048576) (w : World) : Calls Try.prog 30 #[.string t] w (MakesB w (parseL t) (parseB t)) := by
  by_cases h0 : t = ⟨#[48]⟩
  · subst h0
    go_enter Try.func30, Try.ntmps30
    go_wp2_with fail
    go_returns
    exact ⟨_, rfl, World.ownsRow_nil _ _ _ _, by go_grown⟩
  · have e0 := not_zero t h0
    by_cases h1 : t.size = 0
    · have e1 := isEmpty_of t h1
      have hp := parse_size h0 (by omega)
      rw [parse_bad h0 hp, hp]
      go_enter Try.func30, Try.ntmps30
      go_wp2_with fail
      go_returns
      exact ⟨_, rfl, World.ownsRow_nil _ _ _ _, by go_grown⟩
    · by_cases h2 : t.size ≤ 32
      · obtain ⟨i0, hi, hz0, hz1, hz2⟩ := info_parts infoInt
        have e1 := isEmpty_not t h1
        have hi2 : (t.size : Int) ≤ 32 := by omega
        go_enter Try.func30, Try.ntmps30
        go_wp2_with (at_make; refine wpList_make_full _ rfl _ _ 22 rfl w.heap.size 3 i0 (.int .i64 0) 1 Try.underlying22 hi hz0 hz1 _ _ _ _ t.size rfl rfl rfl rfl ?b2 ?b3 (Nat.le_refl _) ?_)
        case b2 => rw [hz2]; omega
        case b3 => unfold maxLen; omega
        intro w0 hown0 hgrow0
        rw [made_zeros] at hown0
        have HO0 := Lib.hid hown0
        have HG0 := Lib.hid hgrow0
        clear hown0 hgrow0
        go_wp2_with fail
        go_loopw [21] (fun i wr => ∃ k : Nat, k ≤ t.size ∧ i = .int .i64 k ∧ (∀ j, j < k → 0 ≤ (codes t).getD j 0) ∧ wr.ownsRow w.heap.size 3 1 (.slice (some ⟨w.heap.size, 0, none⟩) t.size t.size) t.size (((codes t).take k ++ List.replicate (t.size - k) (0 : Int)).map (Value.int .i64)) ∧ Below w.heap.size w wr) (fun i _ => t.size - (intOf i).toNat)
        case atStart => exact ⟨0, Nat.zero_le _, rfl, fun j h => absurd h (Nat.not_lt_zero _), by simpa using HO0.out, (Below.refl _ _).grown HG0.out (Nat.le_refl _) (fun k h => by cases h)⟩
        case round =>
          obtain ⟨k, hk, rfl, hall, hown, hbel⟩ := hrel
          have HA := Lib.hid hall
          have HO := Lib.hid hown
          have HB := Lib.hid hbel
          clear hall
          by_cases hlt : k < t.size
          · have h3 : (0 : Int) ≤ (k : Int) := by omega
            have h4 : (k : Int) < (t.size : Int) := by omega
            have c2 : wr.cell? ⟨w.heap.size, k, none⟩ = some (.int .i64 0) := by
              rw [hown.cellAt k (by omega)]
              exact codes_zero (codes t) t.size k (codes_length t) hlt
            have c3 := hown.frozenAt k
            have hst := (HO.out.stored k (.int .i64 ((codes t).getD k 0))).1
            rw [codes_set (codes t) t.size k (codes_length t) hlt] at hst
            clear hown hbel
            have hca := codes_at t k hlt
            go_wp2_with fail
            refine (idx_any _ _).mono ?_
            rintro e w2 ⟨rfl, rfl⟩
            rw [hca]
            have hnone := parse_none h0 k hlt
            have hX := code_range (t[k]'hlt)
            rw [hca] at hX
            obtain ⟨x, hx⟩ : ∃ x, x = (codes t).getD k 0 := ⟨_, rfl⟩
            rw [← hx] at hst hnone hX ⊢
            have HX := Lib.hid hx
            have HT := Lib.hid hst
            clear hx hst hca
            by_cases hneg : x < 0
            · have hp := hnone hneg
              have HP := Lib.hid hp
              clear hnone hp
              go_wp2_with fail
              go_returns
              rw [parse_bad h0 HP.out, HP.out]
              exact ⟨_, rfl, World.ownsRow_nil _ _ _ _, HB.out⟩
            · have hx0 : 0 ≤ x := by omega
              clear hnone hneg
              go_wp2_with fail
              go_roundw
              case rel =>
                refine ⟨k + 1, by omega, by go_num, fun j hj => ?_, HT.out, HB.out.setCell (Nat.le_refl _) _⟩
                by_cases hjk : j < k
                · exact HA.out j hjk
                · rw [show j = k by omega, ← HX.out]; exact hx0
              case measure => simp [intOf]; omega
          · have he : k = t.size := by omega
            subst he
            have hp := parse_all (by omega) h2 HA.out
            have HP := Lib.hid hp
            clear hown hbel hp
            go_wp2_with fail
            go_returns
            rw [parse_good h0 HP.out, HP.out]
            refine ⟨.slice (some ⟨w.heap.size, 0, none⟩) t.size t.size, rfl, ?_, HB.out⟩
            have := HO.out
            rw [List.take_of_length_le (by rw [codes_length]; exact Nat.le_refl _), Nat.sub_self] at this
            unfold Own
            rw [codes_length]
            simpa using this
      · have hp := parse_size h0 (by omega)
        have e1 := isEmpty_not t h1
        have hi2 : (32 : Int) < (t.size : Int) := by omega
        rw [parse_bad h0 hp, hp]
        go_enter Try.func30, Try.ntmps30
        go_wp2_with fail
        go_returns
        exact ⟨_, rfl, World.ownsRow_nil _ _ _ _, by go_grown⟩
end Go.Proofs.Ytkkcdabcoafflab
