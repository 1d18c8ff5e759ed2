/- Which lists are sequences: the model's phIs, the program's IsSequence. -/
import Derived.Test.YtodgalflngfnpaaLawKit
namespace Go.Proofs.Ytodgalflngfnpaa
set_option maxRecDepth 100000
open Go.RowKit

/-- A call that turns nothing. -/
def Pure (w : World) (v : Value) (e : Ending) (w' : World) : Prop := e = .returned v ∧ w = w'
def inB (n lo hi : Int) : Bool := decide (lo ≤ n) && decide (n ≤ hi)
def allIn (l : List Int) (lo hi : Int) : Bool := l.all (fun n => inB n lo hi)
def isSeq (l : List Int) : Bool := decide (l.length ≤ 32) && allIn l 0 3

theorem allIn_take_succ (l : List Int) (lo hi : Int) (k : Nat) (h : k < l.length) (h1 : allIn (l.take k) lo hi = true) (h2 : inB (l.getD k 0) lo hi = true) : allIn (l.take (k + 1)) lo hi = true := by
  unfold allIn at *
  rw [List.take_succ_eq_append_getElem h, List.all_append, h1]
  simpa [List.getD, h] using h2
theorem allIn_false (l : List Int) (lo hi : Int) (k : Nat) (h : k < l.length) (h2 : inB (l.getD k 0) lo hi = false) : allIn l lo hi = false := by
  unfold allIn
  rw [List.all_eq_false]
  exact ⟨l[k], List.getElem_mem h, by simpa [List.getD, h] using h2⟩
theorem allIn_mem {l : List Int} {lo hi : Int} (h : allIn l lo hi = true) : ∀ z ∈ l, lo ≤ z ∧ z ≤ hi := by
  intro z hz
  have := List.all_eq_true.1 h z hz
  simpa [inB] using this
theorem allIn_getD {l : List Int} {lo hi : Int} (h : allIn l lo hi = true) (k : Nat) (hk : k < l.length) : lo ≤ l.getD k 0 ∧ l.getD k 0 ≤ hi := by
  have := allIn_mem h l[k] (List.getElem_mem hk)
  simpa [List.getD, hk] using this
theorem isSeq_len {l : List Int} (h : isSeq l = true) : l.length ≤ 32 := by simp [isSeq] at h; exact h.1
theorem isSeq_all {l : List Int} (h : isSeq l = true) : allIn l 0 3 = true := by simp [isSeq] at h; exact h.2
theorem isSeq_of {l : List Int} (h1 : l.length ≤ 32) (h2 : allIn l 0 3 = true) : isSeq l = true := by simp [isSeq, h1, h2]

set_option maxHeartbeats 400000 in
theorem l1In_any (n lo hi : Int) (w : World) : Calls Try.prog 60 #[.int .i64 n, .int .i64 lo, .int .i64 hi] w (Pure w (.bool (inB n lo hi))) := by
  go_enter Try.func60, Try.ntmps60
  go_wp2
  all_goals
    go_ret
    exact ⟨ret_bool (by simp only [inB]; simp; omega), rfl⟩

set_option maxHeartbeats 400000 in
theorem l1All_any (v : Value) (l : List Int) (lo hi : Int) (w : World) (hv : IS w v l) : Calls Try.prog 77 #[v, .int .i64 lo, .int .i64 hi] w (Ret w (.bool (allIn l lo hi))) := by
  rcases hv with ⟨rfl, a, cap, rfl⟩ | ⟨hn, b, off, cap, rfl, hm, hc⟩
  · go_enter Try.func77, Try.ntmps77
    go_wp2_with fail
    go_loop [11] (fun i => i = .int .i64 0) (fun _ => 0)
    case atStart => rfl
    case round =>
      subst hrel
      go_wp2_with fail
      go_returns
      exact ⟨rfl, by go_grown⟩
  · have hm2 := maxLen_val
    have hm3 : l.length ≤ 9223372036854775807 := by omega
    have HC := Lib.hid hc
    clear hm hm2 hn hc
    go_enter Try.func77, Try.ntmps77
    go_wp2_with fail
    go_loop [11] (fun i => ∃ k : Nat, k ≤ l.length ∧ i = .int .i64 k ∧ allIn (l.take k) lo hi = true) (fun i => l.length - (intOf i).toNat)
    case atStart => exact ⟨0, Nat.zero_le _, rfl, by simp [allIn]⟩
    case round =>
      obtain ⟨k, hk, rfl, hall⟩ := hrel
      have HA := Lib.hid hall
      clear hall
      by_cases hlt : k < l.length
      · have c1 := HC.out k hlt
        obtain ⟨x, hx⟩ : ∃ x, x = l.getD k 0 := ⟨_, rfl⟩
        rw [← hx] at c1
        have HX := Lib.hid hx
        clear hx
        have h0 : (0 : Int) ≤ (k : Int) := by omega
        have h1 : (k : Int) < (l.length : Int) := by omega
        by_cases hp : inB x lo hi = true
        · go_wp2_with (go_at_call 60; refine (l1In_any _ _ _ _).mono ?_; rintro e w' ⟨rfl, rfl⟩)
          go_round
          case rel => exact ⟨k + 1, by omega, by go_num, allIn_take_succ l lo hi k hlt HA.out (by rw [← HX.out]; exact hp)⟩
          case measure => simp [intOf]; omega
        · have hp2 : inB x lo hi = false := by simpa using hp
          clear hp
          go_wp2_with (go_at_call 60; refine (l1In_any _ _ _ _).mono ?_; rintro e w' ⟨rfl, rfl⟩)
          go_returns
          exact ⟨ret_bool (by rw [allIn_false l lo hi k hlt (by rw [← HX.out]; exact hp2)]), by go_grown⟩
      · have hh := HA.out
        rw [List.take_of_length_le (by omega)] at hh
        have HA2 := Lib.hid hh
        clear hh
        go_wp2_with fail
        go_returns
        exact ⟨ret_bool HA2.out.symm, by go_grown⟩

set_option maxHeartbeats 400000 in
theorem phIs_any (v : Value) (l : List Int) (w : World) (hv : IS w v l) (hl : l.length ≤ 1048576) : Calls Try.prog 90 #[v] w (Ret w (.bool (isSeq l))) := by
  have hvv := hv
  have : ∃ a cap, v = .slice a l.length cap := by rcases hv with ⟨rfl, a, cap, rfl⟩ | ⟨_, b, off, cap, rfl, _⟩ <;> exact ⟨_, _, rfl⟩
  obtain ⟨a, cap, rfl⟩ := this
  by_cases h : l.length ≤ 32
  · go_enter Try.func90, Try.ntmps90
    go_wp2_with (go_at_call 77; refine (l1All_any _ l _ _ _ hvv).mono ?_; rintro e w' ⟨rfl, hb⟩)
    go_returns
    exact ⟨ret_bool (by simp [isSeq, h]), ‹_›⟩
  · go_enter Try.func90, Try.ntmps90
    go_wp2_with fail
    go_returns
    exact ⟨ret_bool (by simp [isSeq, h]), by go_grown⟩

/-! ### the program's IsSequence -/
set_option maxHeartbeats 400000 in
theorem isSequence_any (v : Value) (l : List Int) (w : World) (hv : IS w v l) (hl : l.length ≤ 1048576) : Calls Try.prog 103 #[v] w (Ret w (.bool (isSeq l))) := by
  rcases hv with ⟨rfl, a, cap, rfl⟩ | ⟨hn, b, off, cap, rfl, hm, hc⟩
  · go_enter Try.func103, Try.ntmps103
    go_wp2_with fail
    go_loop [10] (fun i => i = .int .i64 0) (fun _ => 0)
    case atStart => rfl
    case round =>
      subst hrel
      go_wp2_with fail
      go_returns
      exact ⟨rfl, by go_grown⟩
  · have HC := Lib.hid hc
    clear hm hn hc
    by_cases h32 : l.length ≤ 32
    · go_enter Try.func103, Try.ntmps103
      go_wp2_with fail
      go_loop [10] (fun i => ∃ k : Nat, k ≤ l.length ∧ i = .int .i64 k ∧ allIn (l.take k) 0 3 = true) (fun i => l.length - (intOf i).toNat)
      case atStart => exact ⟨0, Nat.zero_le _, rfl, by simp [allIn]⟩
      case round =>
        obtain ⟨k, hk, rfl, hall⟩ := hrel
        have HA := Lib.hid hall
        clear hall
        by_cases hlt : k < l.length
        · have c1 := HC.out k hlt
          obtain ⟨x, hx⟩ : ∃ x, x = l.getD k 0 := ⟨_, rfl⟩
          rw [← hx] at c1
          have HX := Lib.hid hx
          clear hx
          have h0 : (0 : Int) ≤ (k : Int) := by omega
          have h1 : (k : Int) < (l.length : Int) := by omega
          by_cases hp : 0 ≤ x ∧ x ≤ 3
          · obtain ⟨p1, p2⟩ := hp
            go_wp2_with fail
            go_round
            case rel => exact ⟨k + 1, by omega, by go_num, allIn_take_succ l 0 3 k hlt HA.out (by rw [← HX.out]; simp [inB]; omega)⟩
            case measure => simp [intOf]; omega
          · by_cases hx0 : x < 0
            · go_wp2_with fail
              go_returns
              exact ⟨ret_bool (by unfold isSeq; rw [allIn_false l 0 3 k hlt (by rw [← HX.out]; simp [inB]; omega)]; simp), by go_grown⟩
            · have hx1 : 3 < x := by omega
              have hx2 : 0 ≤ x := by omega
              go_wp2_with fail
              go_returns
              exact ⟨ret_bool (by unfold isSeq; rw [allIn_false l 0 3 k hlt (by rw [← HX.out]; simp [inB]; omega)]; simp), by go_grown⟩
        · have hh := HA.out
          rw [List.take_of_length_le (by omega)] at hh
          have HA2 := Lib.hid hh
          clear hh
          go_wp2_with fail
          go_returns
          exact ⟨ret_bool (isSeq_of h32 HA2.out).symm, by go_grown⟩
    · go_enter Try.func103, Try.ntmps103
      go_wp2_with fail
      go_returns
      exact ⟨ret_bool (by simp [isSeq, h32]), by go_grown⟩
end Go.Proofs.Ytodgalflngfnpaa
