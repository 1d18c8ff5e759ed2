/- The program's sequences of standard form: bits, the phase at a place, orders. -/
import Derived.Test.YtoehehaeanepmaaIFit
import Derived.Test.YtoehehaeanepmaaOrM
import Derived.Test.YtoehehaeanepmaaSStG
import Derived.Deep.QuietTactic
import Derived.BigQuiet
namespace Go.Proofs.Ytoehehaeanepmaa
set_option maxRecDepth 100000
open Go.RowKit

theorem and_one : ∀ j : Nat, j < 33 → bits .and .i64 (j : Int) 1 = ((j % 2 : Nat) : Int) := by decide
theorem bit_and (x k : Nat) (hx : x ≤ 32) : bits .and .i64 ((x : Int) / 2 ^ k) 1 = bitI x (k : Int) := by
  have h : ((x : Int) / 2 ^ k) = ((x / 2 ^ k : Nat) : Int) := by push_cast; rfl
  have hle : x / 2 ^ k ≤ x := Nat.div_le_self _ _
  unfold bitI
  rw [Int.toNat_natCast, h, and_one _ (by omega)]
  rfl
set_option maxHeartbeats 400000 in
theorem bitOf_any (x k : Nat) (hx : x ≤ 32) (hk : k ≤ 8) (w : World) : Calls Try.prog 65 #[.int .i64 x, .int .i64 k] w (Pure w (.int .i64 (bitI x (k : Int)))) := by
  have h0 : (0 : Int) ≤ (x : Int) := by omega
  have h1 : (x : Int) ≤ 32 := by omega
  have h2 : (0 : Int) ≤ (k : Int) := by omega
  have h3 : (k : Int) ≤ 8 := by omega
  have hb := Lib.hid (bit_and x k hx)
  go_enter Try.func65, Try.ntmps65
  go_wp2_with fail
  go_returns
  exact ⟨by rw [← hb.out]; rfl, rfl⟩

/-- The cells of an order, phases and a start. -/
def stC (va vb : Value) (c : Int) : Array Value := #[va, vb, .int .i64 c]
/-! ### orders -/
theorem cover_len : ∀ (m : Nat) (l : List Int), (∀ k : Nat, k < m → (k : Int) ∈ l) → m ≤ l.length
  | 0, _, _ => Nat.zero_le _
  | m + 1, l, h => by
    have hm := h m (by omega)
    have hl : (l.erase (m : Int)).length = l.length - 1 := List.length_erase_of_mem hm
    have hp : 0 < l.length := List.length_pos_of_mem hm
    have ih := cover_len m (l.erase (m : Int)) (fun k hk => (List.mem_erase_of_ne (by omega)).2 (h k (by omega)))
    omega
theorem within_len : ∀ (m : Nat) (l : List Int), l.Nodup → (∀ x ∈ l, 0 ≤ x ∧ x < m) → l.length ≤ m
  | 0, l, _, h => by
    cases l with
    | nil => simp
    | cons a t => have := h a (by simp); omega
  | m + 1, l, hn, h => by
    by_cases hm : (m : Int) ∈ l
    · have hl : (l.erase (m : Int)).length = l.length - 1 := List.length_erase_of_mem hm
      have ih := within_len m (l.erase (m : Int)) (hn.erase _) (fun x hx => by
        have h1 := h x (List.mem_of_mem_erase hx)
        have h2 : x ≠ (m : Int) := fun e => by subst e; exact hn.not_mem_erase hx
        omega)
      omega
    · have ih := within_len m l hn (fun x hx => by
        have h1 := h x hx
        have h2 : x ≠ (m : Int) := fun e => hm (e ▸ hx)
        omega)
      omega
theorem orOk_of {o : List Int} (h : 1 ≤ o.length ∧ o.length ≤ 5) (hn : o.Nodup) (hw : ∀ x ∈ o, 0 ≤ x ∧ x < o.length) : orOk o = true := orOk_yes h fun k hk => decide_eq_true (by
  refine Classical.byContradiction fun hc => ?_
  have := within_len o.length ((k : Int) :: o) (List.nodup_cons.2 ⟨hc, hn⟩) (fun x hx => by
    rcases List.mem_cons.1 hx with rfl | hx
    · omega
    · exact hw x hx)
  simp at this
  omega)
theorem orOk_out {o : List Int} (t : Nat) (ht : t < o.length) (h : ¬ (0 ≤ o.getD t 0 ∧ o.getD t 0 < o.length)) : orOk o = false := by
  cases hc : orOk o with
  | false => rfl
  | true => exact absurd (orOk_at hc t ht) h
theorem orOk_dup {o : List Int} (t : Nat) (ht : t < o.length) (h : o.getD t 0 ∈ o.take t) : orOk o = false := by
  cases hc : orOk o with
  | false => rfl
  | true =>
    have hall := (orOk_parts hc).2.1
    have hsplit : o = o.take t ++ o.getD t 0 :: o.drop (t + 1) := by
      have e : o.getD t 0 = o[t] := by simp [List.getD, ht]
      rw [e, List.getElem_cons_drop, List.take_append_drop]
    have := cover_len o.length (o.take t ++ o.drop (t + 1)) (fun k hk => by
      have hm : (k : Int) ∈ o := of_decide_eq_true (hall k hk)
      rw [hsplit, List.mem_append, List.mem_cons] at hm
      rcases hm with hm | hm | hm
      · exact List.mem_append_left _ hm
      · rw [hm]; exact List.mem_append_left _ h
      · exact List.mem_append_right _ hm)
    simp at this
    omega
theorem take_next {o : List Int} {t : Nat} (ht : t < o.length) : o.take (t + 1) = o.take t ++ [o.getD t 0] := by
  rw [List.take_succ_eq_append_getElem ht]
  simp [List.getD, ht]
/-- Which of 0..4 have been seen. -/
def seenC (l : List Int) : Array Value := #[.bool (hasB l 0), .bool (hasB l 1), .bool (hasB l 2), .bool (hasB l 3), .bool (hasB l 4)]
theorem seenC_get (l : List Int) (k : Nat) (hk : k < 5) : (seenC l)[k]? = some (.bool (hasB l (k : Int))) := by
  rcases (show k = 0 ∨ k = 1 ∨ k = 2 ∨ k = 3 ∨ k = 4 by omega) with rfl | rfl | rfl | rfl | rfl <;> rfl
theorem hasB_snoc (l : List Int) (x n : Int) : hasB (l ++ [x]) n = (hasB l n || decide (n = x)) := by simp [hasB, Bool.decide_or]
theorem seenC_set (l : List Int) (k : Nat) (hk : k < 5) : (seenC l).setIfInBounds k (.bool true) = seenC (l ++ [(k : Int)]) := by
  rcases (show k = 0 ∨ k = 1 ∨ k = 2 ∨ k = 3 ∨ k = 4 by omega) with rfl | rfl | rfl | rfl | rfl <;> simp [seenC, hasB_snoc]

end Go.Proofs.Ytoehehaeanepmaa
