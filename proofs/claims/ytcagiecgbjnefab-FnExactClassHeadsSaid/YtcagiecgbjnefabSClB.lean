/- The model's clMoves, l1Same, MoveBetween, KeepersOf, CountFixed, SizesOf. -/
import Derived.Test.YtcagiecgbjnefabClN
import Derived.Test.YtcagiecgbjnefabSClA
import Derived.Test.YtcagiecgbjnefabSOwn
import Derived.Test.YtcagiecgbjnefabSEn
import Derived.Test.YtcagiecgbjnefabWith
namespace Go.Proofs.Ytcagiecgbjnefab
set_option maxRecDepth 100000
open Go.RowKit

theorem own_four9 (w : World) (a b c d : Int) (B : Nat) (hB : B ≤ w.heap.size) : Own (w.alloc (.cells #[.int .i64 a, .int .i64 b, .int .i64 c, .int .i64 d] 3)) B (.slice (some ⟨w.heap.size, 0, none⟩) 4 4) [a, b, c, d] := by
  refine ⟨rfl, Or.inr ⟨w.heap.size, 4, #[.int .i64 a, .int .i64 b, .int .i64 c, .int .i64 d], rfl, hB, heap_alloc_new w _, by simp, by unfold maxLen; omega, by simp, by simp⟩⟩
theorem cell_two_one (w : World) (o : Obj) (v : Value) (T : TypeId) : ((w.alloc o).alloc (.cells #[v] T)).cell? ⟨w.heap.size + 1, 0, none⟩ = some v := by
  have h : ((w.alloc o).alloc (.cells #[v] T)).cell? ⟨(w.alloc o).heap.size, 0, none⟩ = some v := by rw [cell_of_row _ _ _ _ _ _ (heap_alloc_new _ _)]; rfl
  rwa [World.size_alloc] at h
def mvR (k : Nat) : List (List Int) := (List.range k).map mvI
theorem mvR_len (k : Nat) : (mvR k).length = k := by simp [mvR]
theorem mvR_succ (k : Nat) : mvR (k + 1) = mvR k ++ [[(k : Int) / 16, (k : Int) / 4 % 4, (k : Int) / 2 % 2, (k : Int) % 2]] := by unfold mvR; rw [List.range_succ, List.map_append]; rfl
theorem mvR_at (k i : Nat) (h : i < k) : (mvR k).getD i [] = mvI i := by unfold mvR; simp [List.getD, h]
set_option maxRecDepth 100000 in
set_option maxHeartbeats 1000000 in
theorem clMoves_any (w : World) : Calls Try.prog 60 #[] w (MakesR w (mvR 64)) := by
  go_enter Try.func60, Try.ntmps60
  go_wp2_with fail
  go_loopw [2, 1] (fun x o wr => ∃ k : Nat, k ≤ 64 ∧ x = .int .i64 k ∧ OwnR wr w.heap.size o (mvR k) ∧ Below w.heap.size w wr) (fun x _ _ => 64 - (intOf x).toNat)
  case atStart => exact ⟨0, Nat.zero_le _, rfl, OwnR.nil _ _, Below.refl _ _⟩
  case round =>
    obtain ⟨k, hk, rfl, hown, hbel⟩ := hrel
    have HB := Lib.hid hbel
    have HO := Lib.hid hown
    clear hown hbel
    by_cases hlt : k < 64
    · have h0 : (0 : Int) ≤ (k : Int) := by omega
      have h1 : (k : Int) < 64 := by omega
      have HS := Lib.hid (mvR_succ k)
      have HGL := Lib.hid (show (mvR k).length ≤ 1048576 by rw [mvR_len]; omega)
      go_wp2_with (at_builtin; refine wpList_pushR rfl _ _ rfl w.heap.size _ (mvR k) rfl wr HO.out (belowa (belowa (Below.refl _ _) _) _) (wr.heap.size + 1) 1 (.slice (some ⟨wr.heap.size, 0, none⟩) 4 4) [(k : Int) / 16, (k : Int) / 4 % 4, (k : Int) / 2 % 2, (k : Int) % 2] rfl (cell_two_one _ _ _ _) ((own_four9 wr _ _ _ _ wr.heap.size (Nat.le_refl _)).alloc _) HGL.out w.heap.size w (belowa (belowa HB.out _) _) (Nat.le_refl _) HB.out.size (by have := HB.out.size; simp; omega) ?_; intro v4 w4 ho4 hb4)
      go_roundw
      case rel => exact ⟨k + 1, by omega, by go_num, by rw [HS.out]; assumption, by assumption⟩
      case measure => simp [intOf]; omega
    · obtain rfl : k = 64 := by omega
      go_wp2_with fail
      go_returns
      exact ⟨_, rfl, HO.out, HB.out⟩

theorem same_next {l m : List Int} {k : Nat} (h : ∀ j, j < k → l.getD j 0 = m.getD j 0) (hk : l.getD k 0 = m.getD k 0) : ∀ j, j < k + 1 → l.getD j 0 = m.getD j 0 := fun j hj => by
  rcases Nat.lt_succ_iff_lt_or_eq.1 hj with h1 | h1
  · exact h j h1
  · rw [h1]; exact hk
theorem same_all {l m : List Int} (hl : l.length = m.length) (h : ∀ j, j < l.length → l.getD j 0 = m.getD j 0) : l = m := by
  rw [← gen_self l, ← gen_self m, ← hl]
  exact gen_ext h
set_option maxRecDepth 100000 in
set_option maxHeartbeats 1000000 in
theorem l1Same_any (va vb : Value) (l m : List Int) (w : World) (hva : IS w va l) (hvb : IS w vb m) (hl : l.length ≤ 1048576) (hm : m.length ≤ 1048576) : Calls Try.prog 42 #[va, vb] w (Ret w (.bool (decide (l = m)))) := by
  by_cases hlen : l.length = m.length
  · rcases hva with ⟨rfl, a, cap, rfl⟩ | ⟨hn, b, off, cap, rfl, hmx, hc⟩
    · have hm0 : m = [] := List.length_eq_zero_iff.1 hlen.symm
      subst hm0
      obtain ⟨a2, cap2, rfl⟩ := hvb.shape
      clear hvb hlen hl hm
      go_enter Try.func42, Try.ntmps42
      go_wp2_with fail
      go_loop [13] (fun i => i = .int .i64 0) (fun _ => 0)
      case atStart => rfl
      case round =>
        subst hrel
        go_wp2_with fail
        go_returns
        exact ⟨rfl, by go_grown⟩
    · rcases hvb with ⟨rfl, _⟩ | ⟨hn2, b2, off2, cap2, rfl, hmx2, hc2⟩
      · exact absurd (List.length_eq_zero_iff.1 hlen) hn
      have HLN := Lib.hid hlen
      obtain ⟨N, hN⟩ : ∃ N, N = l.length := ⟨_, rfl⟩
      rw [← hlen] at hc2 ⊢
      rw [← hN] at hc hc2 hl ⊢
      have HN := Lib.hid hN
      have HC := Lib.hid hc
      have HC2 := Lib.hid hc2
      clear hn hmx hc hn2 hmx2 hc2 hlen hN hm
      go_enter Try.func42, Try.ntmps42
      go_wp2_with fail
      go_loopw [13] (fun i wr => ∃ k : Nat, k ≤ N ∧ i = .int .i64 k ∧ (∀ j, j < k → l.getD j 0 = m.getD j 0) ∧ Below w.heap.size w wr) (fun i _ => N - (intOf i).toNat)
      case atStart => exact ⟨0, Nat.zero_le _, rfl, fun j h => absurd h (Nat.not_lt_zero _), Below.refl _ _⟩
      case round =>
        obtain ⟨k, hk, rfl, hsame, hbel⟩ := hrel
        have HB := Lib.hid hbel
        have HSM := Lib.hid hsame
        clear hsame
        by_cases hlt : k < N
        · have c1 := keepc HB.out (HC.out k hlt)
          have c2 := keepc HB.out (HC2.out k hlt)
          have HNX := Lib.hid (fun h => same_next HSM.out (k := k) h)
          have HNE := Lib.hid (fun (h : l.getD k 0 ≠ m.getD k 0) => show decide (l = m) = false from decide_eq_false (fun e => h (by rw [e])))
          obtain ⟨x, hx⟩ : ∃ x, x = l.getD k 0 := ⟨_, rfl⟩
          obtain ⟨y, hy⟩ : ∃ x, x = m.getD k 0 := ⟨_, rfl⟩
          rw [← hx] at c1 HNX HNE
          rw [← hy] at c2 HNX HNE
          have h0 : (0 : Int) ≤ (k : Int) := by omega
          have h1 : (k : Int) < (N : Int) := by omega
          clear hx hy hbel
          by_cases hxy : x = y
          · subst hxy
            go_wp2_with fail
            go_region
            all_goals
              go_wp2_with fail
              go_roundw
              case rel => exact ⟨k + 1, by omega, by go_num, HNX.out (by trivial), by first | exact HB.out | exact belowN HB.out 1⟩
              case measure => simp [intOf]; omega
          · have hne : (x != y) = true := by simpa using hxy
            have hd := HNE.out hxy
            rw [hd]
            go_wp2_with fail
            go_region
            all_goals
              go_wp2_with fail
              go_returns
              exact ⟨rfl, by first | exact HB.out | exact belowN HB.out 1⟩
        · obtain rfl : k = N := by omega
          have hd : decide (l = m) = true := decide_eq_true (same_all HLN.out (by rw [← HN.out]; exact HSM.out))
          go_wp2_with fail
          go_returns
          exact ⟨ret_bool hd.symm, by first | exact HB.out | exact belowN HB.out 1⟩
  · have hd : decide (l = m) = false := decide_eq_false (fun e => hlen (by rw [e]))
    rw [hd]
    obtain ⟨a1, c1, rfl⟩ := hva.shape
    obtain ⟨a2, c2, rfl⟩ := hvb.shape
    have hne : (((l.length : Int)) != (m.length : Int)) = true := by simpa using (show ((l.length : Int)) ≠ (m.length : Int) by omega)
    obtain ⟨n1, hn1⟩ : ∃ n, n = l.length := ⟨_, rfl⟩
    obtain ⟨n2, hn2⟩ : ∃ n, n = m.length := ⟨_, rfl⟩
    rw [← hn1, ← hn2] at hne ⊢
    clear hva hvb hd hlen hn1 hn2 hl hm
    go_enter Try.func42, Try.ntmps42
    go_wp2_with fail
    go_returns
    exact ⟨rfl, by go_grown⟩
theorem OwnR.rowAt {w : World} {B g n cap : Nat} {ll : List (List Int)} (h : OwnR w B (.slice (some ⟨g, 0, none⟩) n cap) ll) (hn : n = ll.length) (i : Nat) (hi : i < ll.length) :
    ∃ u, w.cell? ⟨g, i, none⟩ = some u ∧ Own w B u (ll.getD i []) := by
  subst hn
  obtain ⟨rs, h, hr, -⟩ := h
  refine ⟨rs.getD i (.slice none 0 0), ?_, hr.own i hi⟩
  rw [h.cellAt i (by omega)]
  have : i < rs.length := by rw [hr.len]; exact hi
  simp [List.getD, this]
theorem apply_at (l : List Int) (hl : isSeq l = true) (k : Nat) (hk : k < 64) (v vm : Value) (w : World) (hv : IS w v l) (hvm : IS w vm (mvI k)) : Calls Try.prog 61 #[v, vm] w (Makes w (clX k l)) :=
  clApply_any v vm l (mvI k) w hv hvm (mvI_ok k hk) hl

end Go.Proofs.Ytcagiecgbjnefab
