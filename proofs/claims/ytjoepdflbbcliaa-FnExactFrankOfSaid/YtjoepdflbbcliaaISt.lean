/- The program's sequences of standard form: bits, the phase at a place, orders. -/
import Derived.Test.YtjoepdflbbcliaaIFit
import Derived.Test.YtjoepdflbbcliaaOrM
import Derived.Test.YtjoepdflbbcliaaSStG
import Derived.Deep.QuietTactic
import Derived.BigQuiet
namespace Go.Proofs.Ytjoepdflbbcliaa
set_option maxRecDepth 100000
open Go.RowKit

theorem and_one : ∀ j : Nat, j < 33 → bits .and .i64 (j : Int) 1 = ((j % 2 : Nat) : Int) := by decide
theorem bit_and (x k : Nat) (hx : x ≤ 32) : bits .and .i64 ((x : Int) / 2 ^ k) 1 = bitI x (k : Int) := by
  have h : ((x : Int) / 2 ^ k) = ((x / 2 ^ k : Nat) : Int) := by push_cast; rfl
  have hle : x / 2 ^ k ≤ x := Nat.div_le_self _ _
  unfold bitI
  rw [Int.toNat_natCast, h, and_one _ (by omega)]
  rfl
/-- The cells of an order, phases and a start. -/
def stC (va vb : Value) (c : Int) : Array Value := #[va, vb, .int .i64 c]
/-! ### orders -/
theorem cover_len : ∀ (m : Nat) (l : List Int), (∀ k : Nat, k < m → (k : Int) ∈ l) → m ≤ l.length
  | 0, _, _ => Nat.zero_le _
  | m + 1, l, h => by
    have hm := h m (by omega)
    have hl : (l.erase (m : Int)).length = l.length - 1 := List.length_erase_of_mem hm
    have hp : 0 < l.length := List.length_pos_of_mem hm
    have ih := cover_len m (l.erase (m : Int)) (fun k hk => (List.mem_erase_of_ne (by omega)).2 (h k (by omega)))
    omega
theorem within_len : ∀ (m : Nat) (l : List Int), l.Nodup → (∀ x ∈ l, 0 ≤ x ∧ x < m) → l.length ≤ m
  | 0, l, _, h => by
    cases l with
    | nil => simp
    | cons a t => have := h a (by simp); omega
  | m + 1, l, hn, h => by
    by_cases hm : (m : Int) ∈ l
    · have hl : (l.erase (m : Int)).length = l.length - 1 := List.length_erase_of_mem hm
      have ih := within_len m (l.erase (m : Int)) (hn.erase _) (fun x hx => by
        have h1 := h x (List.mem_of_mem_erase hx)
        have h2 : x ≠ (m : Int) := fun e => by subst e; exact hn.not_mem_erase hx
        omega)
      omega
    · have ih := within_len m l hn (fun x hx => by
        have h1 := h x hx
        have h2 : x ≠ (m : Int) := fun e => hm (e ▸ hx)
        omega)
      omega
theorem orOk_of {o : List Int} (h : 1 ≤ o.length ∧ o.length ≤ 5) (hn : o.Nodup) (hw : ∀ x ∈ o, 0 ≤ x ∧ x < o.length) : orOk o = true := orOk_yes h fun k hk => decide_eq_true (by
  refine Classical.byContradiction fun hc => ?_
  have := within_len o.length ((k : Int) :: o) (List.nodup_cons.2 ⟨hc, hn⟩) (fun x hx => by
    rcases List.mem_cons.1 hx with rfl | hx
    · omega
    · exact hw x hx)
  simp at this
  omega)
theorem orOk_out {o : List Int} (t : Nat) (ht : t < o.length) (h : ¬ (0 ≤ o.getD t 0 ∧ o.getD t 0 < o.length)) : orOk o = false := by
  cases hc : orOk o with
  | false => rfl
  | true => exact absurd (orOk_at hc t ht) h
theorem orOk_dup {o : List Int} (t : Nat) (ht : t < o.length) (h : o.getD t 0 ∈ o.take t) : orOk o = false := by
  cases hc : orOk o with
  | false => rfl
  | true =>
    have hall := (orOk_parts hc).2.1
    have hsplit : o = o.take t ++ o.getD t 0 :: o.drop (t + 1) := by
      have e : o.getD t 0 = o[t] := by simp [List.getD, ht]
      rw [e, List.getElem_cons_drop, List.take_append_drop]
    have := cover_len o.length (o.take t ++ o.drop (t + 1)) (fun k hk => by
      have hm : (k : Int) ∈ o := of_decide_eq_true (hall k hk)
      rw [hsplit, List.mem_append, List.mem_cons] at hm
      rcases hm with hm | hm | hm
      · exact List.mem_append_left _ hm
      · rw [hm]; exact List.mem_append_left _ h
      · exact List.mem_append_right _ hm)
    simp at this
    omega
theorem take_next {o : List Int} {t : Nat} (ht : t < o.length) : o.take (t + 1) = o.take t ++ [o.getD t 0] := by
  rw [List.take_succ_eq_append_getElem ht]
  simp [List.getD, ht]
/-- Which of 0..4 have been seen. -/
def seenC (l : List Int) : Array Value := #[.bool (hasB l 0), .bool (hasB l 1), .bool (hasB l 2), .bool (hasB l 3), .bool (hasB l 4)]
theorem seenC_get (l : List Int) (k : Nat) (hk : k < 5) : (seenC l)[k]? = some (.bool (hasB l (k : Int))) := by
  rcases (show k = 0 ∨ k = 1 ∨ k = 2 ∨ k = 3 ∨ k = 4 by omega) with rfl | rfl | rfl | rfl | rfl <;> rfl
theorem hasB_snoc (l : List Int) (x n : Int) : hasB (l ++ [x]) n = (hasB l n || decide (n = x)) := by simp [hasB, Bool.decide_or]
theorem seenC_set (l : List Int) (k : Nat) (hk : k < 5) : (seenC l).setIfInBounds k (.bool true) = seenC (l ++ [(k : Int)]) := by
  rcases (show k = 0 ∨ k = 1 ∨ k = 2 ∨ k = 3 ∨ k = 4 by omega) with rfl | rfl | rfl | rfl | rfl <;> simp [seenC, hasB_snoc]

set_option maxHeartbeats 2000000 in
theorem isOrder_any (va : Value) (o : List Int) (w : World) (hva : IS w va o) (hl : o.length ≤ 1048576) : Calls Try.prog 47 #[va] w (Ret w (.bool (orOk o))) := by
  obtain ⟨a, cap, hveq⟩ : ∃ a cap, va = .slice a o.length cap := by rcases hva with ⟨rfl, a, cap, rfl⟩ | ⟨_, b, off, cap, rfl, _⟩ <;> exact ⟨_, _, rfl⟩
  subst hveq
  have HVA := Lib.hid hva
  obtain ⟨M, hMd⟩ : ∃ M, M = o.length := ⟨_, rfl⟩
  rw [← hMd] at HVA hl ⊢
  have HMD := Lib.hid hMd
  clear hva hMd
  have B0 := Lib.hid (Below.refl w.heap.size w)
  by_cases hM1 : M < 1
  · go_enter Try.func47, Try.ntmps47
    have h1 : (M : Int) < 1 := by omega
    go_wp2_with fail
    go_returns
    exact ⟨by rw [orOk_len_no (by rw [← HMD.out]; omega)]; rfl, B0.out⟩
  by_cases hM5 : 5 < M
  · have h1 : ¬ (M : Int) < 1 := by omega
    have h2 : (5 : Int) < (M : Int) := by omega
    go_enter Try.func47, Try.ntmps47
    go_wp2_with fail
    go_returns
    exact ⟨by rw [orOk_len_no (by rw [← HMD.out]; omega)]; rfl, B0.out⟩
  have hx1 : ¬ (M : Int) < 1 := by omega
  have hx2 : ¬ (5 : Int) < (M : Int) := by omega
  go_enter Try.func47, Try.ntmps47
  go_wp2_with ((with_reducible refine at_op (d := some 4) (Op.alloc 78) ?_); refine wpList_alloc_row rfl 78 rfl (seenC []) (run_zero_is (by kernel_rfl)) ?_; intro w1 hr hb hz; have R1 := Lib.hid hr; have B1 := Lib.hid (joins B0.out hb); clear hr hb hz)
  go_loopw [17, 6] (fun i _ wr => ∃ t : Nat, t ≤ M ∧ i = .int .i64 t ∧ wr.heap[w.heap.size]? = some (.cells (seenC (o.take t)) 78 (0, 0)) ∧ Below w.heap.size w wr ∧ (o.take t).Nodup ∧ ∀ x ∈ o.take t, 0 ≤ x ∧ x < M) (fun i _ _ => M - (intOf i).toNat)
  case atStart => exact ⟨0, Nat.zero_le _, rfl, R1.out, B1.out, by simp, by simp⟩
  case round =>
    obtain ⟨t, ht, rfl, hrow, hbel, hnd, hwi⟩ := hrel
    have HR := Lib.hid hrow
    have HB := Lib.hid hbel
    have HN := Lib.hid hnd
    have HW := Lib.hid hwi
    clear hrow hbel hnd hwi
    by_cases htl : t < M
    · have hkp : t < o.length := by rw [← HMD.out]; exact htl
      rcases HVA.out.below HB.out with ⟨h0, _⟩ | ⟨_, b, off, capb, hveq, _, hc⟩
      · rw [h0] at hkp; exact absurd hkp (Nat.not_lt_zero _)
      simp only [Value.slice.injEq] at hveq
      obtain ⟨rfl, hnn, rfl⟩ := hveq
      clear hnn
      have c1 := hc t hkp
      clear hc
      obtain ⟨x, hx⟩ : ∃ x, x = o.getD t 0 := ⟨_, rfl⟩
      rw [← hx] at c1
      have HX := Lib.hid hx
      clear hx
      have h0 : (0 : Int) ≤ (t : Int) := by omega
      have h1 : (t : Int) < (M : Int) := by omega
      by_cases hx0 : x < 0
      · go_wp2_with fail
        go_returns
        exact ⟨by rw [orOk_out t (by rw [← HMD.out]; exact htl) (by rw [← HX.out]; omega)]; rfl, HB.out⟩
      by_cases hxM : (M : Int) ≤ x
      · go_wp2_with fail
        go_returns
        exact ⟨by rw [orOk_out t (by rw [← HMD.out]; exact htl) (by rw [← HX.out, ← HMD.out]; omega)]; rfl, HB.out⟩
      obtain ⟨x, rfl⟩ := Int.eq_ofNat_of_zero_le (show 0 ≤ x by omega)
      have hx3 : (0 : Int) ≤ (x : Int) := by omega
      have hx5 : (x : Int) < 5 := by omega
      have cs := rowC HR.out (seenC_get (o.take t) x (by omega))
      have fs : wr.frozen? ⟨w.heap.size, x, none⟩ = false := frozen_of_row wr _ _ _ _ HR.out
      cases hs : hasB (o.take t) (x : Int) with
      | true =>
        rw [hs] at cs
        have HS := Lib.hid hs
        clear hs
        go_wp2_with fail
        go_returns
        exact ⟨by rw [orOk_dup t (by rw [← HMD.out]; exact htl) (by rw [← HX.out]; exact of_decide_eq_true HS.out)]; rfl, HB.out⟩
      | false =>
        rw [hs] at cs
        have hset := heap_setCell_same wr w.heap.size x _ _ (.bool true) HR.out
        rw [seenC_set _ x (by omega), HX.out, ← take_next hkp] at hset
        have HSET := Lib.hid hset
        have hns : (x : Int) ∉ o.take t := of_decide_eq_false hs
        have HNS := Lib.hid hns
        clear hs hset hns
        go_wp2_with fail
        go_roundw
        case rel =>
          refine ⟨t + 1, by omega, by go_num, HSET.out, HB.out.setCell (Nat.le_refl _) _, ?_, ?_⟩
          · rw [take_next (by rw [← HMD.out]; exact htl), ← HX.out, List.nodup_append]
            refine ⟨HN.out, by simp, fun y hy z hz e => ?_⟩
            simp at hz
            subst e hz
            exact HNS.out hy
          · rw [take_next (by rw [← HMD.out]; exact htl), ← HX.out]
            intro y hy
            rcases List.mem_append.1 hy with hy | hy
            · exact HW.out y hy
            · simp at hy; omega
        case measure => simp [intOf]; omega
    · have hte : t = M := by omega
      subst hte
      have h1 : ¬ (t : Int) < (t : Int) := by omega
      have hn := HN.out
      have hw := HW.out
      rw [List.take_of_length_le (by rw [← HMD.out]; omega)] at hn hw
      have HOK := Lib.hid (orOk_of (by rw [← HMD.out]; omega) hn (by rw [← HMD.out]; exact hw))
      clear hn hw
      go_wp2_with fail
      go_returns
      exact ⟨by rw [HOK.out]; rfl, HB.out⟩
end Go.Proofs.Ytjoepdflbbcliaa
