/- Sequences compared by rank: slices.Compare, cmp.Compare, byRank. -/
import Derived.Test.YtcagiecgbjnefabClR
import Derived.Test.YtcagiecgbjnefabClE
import Derived.Shelf.SlSortCmp.NoneTotal
import Derived.Shelf.Lay
namespace Go.Proofs.Ytcagiecgbjnefab
set_option maxRecDepth 100000
open Go.RowKit

set_option maxHeartbeats 1000000 in
theorem cmpInt_any (a b : Int) (w : World) : Calls Try.prog 114 #[.int .i64 a, .int .i64 b] w (Pure w (.int .i64 (if a < b then -1 else if b < a then 1 else 0))) := by
  by_cases h1 : a < b
  · rw [if_pos h1]
    go_enter Try.func114, Try.ntmps114
    go_wp2
    go_returns
    exact ⟨rfl, rfl⟩
  · rw [if_neg h1]
    by_cases h2 : b < a
    · rw [if_pos h2]
      go_enter Try.func114, Try.ntmps114
      go_wp2
      go_returns
      exact ⟨rfl, rfl⟩
    · rw [if_neg h2]
      go_enter Try.func114, Try.ntmps114
      go_wp2
      go_returns
      exact ⟨rfl, rfl⟩
theorem cmpI_drop (x y : List Int) (hl : x.length = y.length) (k : Nat) (hk : k < x.length) : cmpI (x.drop k) (y.drop k) = if x.getD k 0 < y.getD k 0 then -1 else if y.getD k 0 < x.getD k 0 then 1 else cmpI (x.drop (k + 1)) (y.drop (k + 1)) := by
  rw [List.drop_eq_getElem_cons hk, List.drop_eq_getElem_cons (show k < y.length by omega)]
  simp [cmpI, List.getD, hk, show k < y.length by omega]
set_option maxRecDepth 100000 in
set_option maxHeartbeats 1000000 in
theorem compare_any (g1 g2 : Nat) (x y : List Int) (hx : x.length = 32) (hy : y.length = 32) (w : World) (h1 : ∀ i, i < 32 → w.cell? ⟨g1, i, none⟩ = some (.int .i64 (x.getD i 0))) (h2 : ∀ i, i < 32 → w.cell? ⟨g2, i, none⟩ = some (.int .i64 (y.getD i 0))) :
    Calls Try.prog 92 #[.slice (some ⟨g1, 0, none⟩) 32 32, .slice (some ⟨g2, 0, none⟩) 32 32] w (Pure w (.int .i64 (cmpI x y))) := by
  have H1 := Lib.hid h1
  have H2 := Lib.hid h2
  have HD := Lib.hid (cmpI_drop x y (by omega))
  have HE := Lib.hid (show cmpI (x.drop 32) (y.drop 32) = 0 from by rw [List.drop_eq_nil_of_le (by omega), List.drop_eq_nil_of_le (by omega)]; rfl)
  have H0 := Lib.hid (show cmpI (x.drop 0) (y.drop 0) = cmpI x y from rfl)
  have HX := Lib.hid hx
  clear h1 h2 hx hy
  obtain ⟨c, hc⟩ : ∃ c, c = cmpI x y := ⟨_, rfl⟩
  rw [← hc] at H0 ⊢
  clear hc
  go_enter Try.func92, Try.ntmps92
  go_wp2_with fail
  go_loop [11] (fun i => ∃ k : Nat, k ≤ 32 ∧ i = .int .i64 k ∧ cmpI (x.drop k) (y.drop k) = c) (fun i => 32 - (intOf i).toNat)
  case atStart => exact ⟨0, Nat.zero_le _, rfl, H0.out⟩
  case round =>
    obtain ⟨k, hk, rfl, hc⟩ := hrel
    by_cases hlt : k < 32
    · have c1 := H1.out k hlt
      have c2 := H2.out k hlt
      have hd := HD.out k (by rw [HX.out]; exact hlt)
      rw [hc] at hd
      have h0 : (0 : Int) ≤ (k : Int) := by omega
      have h1 : (k : Int) < 32 := by omega
      obtain ⟨a, ha⟩ : ∃ a, a = x.getD k 0 := ⟨_, rfl⟩
      obtain ⟨b, hb⟩ : ∃ a, a = y.getD k 0 := ⟨_, rfl⟩
      rw [← ha] at c1 hd
      rw [← hb] at c2 hd
      have HCI := Lib.hid (cmpInt_any a b)
      clear ha hb hc
      by_cases h3 : a < b
      · rw [if_pos h3] at hd HCI
        subst hd
        go_wp2_with fail
        refine (HCI.out _).mono ?_
        rintro e w' ⟨rfl, rfl⟩
        go_wp2_with fail
        go_returns
        exact ⟨rfl, rfl⟩
      · rw [if_neg h3] at hd HCI
        by_cases h4 : b < a
        · rw [if_pos h4] at hd HCI
          subst hd
          go_wp2_with fail
          refine (HCI.out _).mono ?_
          rintro e w' ⟨rfl, rfl⟩
          go_wp2_with fail
          go_returns
          exact ⟨rfl, rfl⟩
        · rw [if_neg h4] at hd HCI
          have HDD := Lib.hid hd
          clear hd
          go_wp2_with fail
          refine (HCI.out _).mono ?_
          rintro e w' ⟨rfl, rfl⟩
          go_wp2_with fail
          go_round
          case rel => exact ⟨k + 1, by omega, by go_num, HDD.out.symm⟩
          case measure => simp [intOf]; omega
    · obtain rfl : k = 32 := by omega
      rw [HE.out] at hc
      subst hc
      go_wp2_with fail
      go_returns
      exact ⟨rfl, rfl⟩
/-- A value laid in a new block: the world as it is behind. -/
theorem wpList_box_is {ops : Array Oper} {rest : List Oper} {o : Oper} {a : Act} {w : World} {Q : Exit → Act → World → Prop} (hg : o.guard = none) (t : TypeId) (x : Operand) (ho : o.op = .box t x)
    (C : Array Value) (hx : a.eval x = .agg C) (h : wpList Try.prog ops Q rest (a.put o.dst (.pointer (some ⟨w.heap.size, 0, none⟩))) (w.alloc (.cells C t))) : wpList Try.prog ops Q (o :: rest) a w := by
  refine wpList_plain hg fun K hK => ?_
  unfold Oper.wp execOp
  simp only [ho, hx, Instr.box, newVar, Sem.run_bind, Sem.run_pure, Value.cells, Oper.upon]
  exact hK _ _ h
set_option maxRecDepth 100000 in
set_option maxHeartbeats 2000000 in
theorem byRank_any (p q : List Int) (hp : isSeq p = true) (hq : isSeq q = true) (hl : p.length = q.length) (w : World) :
    Calls Try.prog 68 #[.agg (phC p), .agg (phC q)] w (fun e w' => e = .returned (.int .i64 (cmpI p q)) ∧ ∃ n, w' = ((w.alloc (.cells (phC p) 47)).alloc (.cells (phC q) 47)).drewN n) := by
  have h32 := isSeq_len hp
  have h32q := isSeq_len hq
  have hlp : (padL p).length = 32 := padL_length h32
  have hlq : (padL q).length = 32 := padL_length h32q
  have hcm : cmpI (padL p) (padL q) = cmpI p q := by unfold padL; rw [hl]; exact cmpI_pad p q _ hl
  have HCP := Lib.hid (fun i (hi : i < 32) => show (phC p)[i]? = some (.int .i64 ((padL p).getD i 0)) from by rw [phC_seq hp]; exact phA_get _ _ i (by omega))
  have HCQ := Lib.hid (fun i (hi : i < 32) => show (phC q)[i]? = some (.int .i64 ((padL q).getD i 0)) from by rw [phC_seq hq]; exact phA_get _ _ i (by omega))
  have HS1 := fun w => slice_all (w.heap.size) w
  obtain ⟨C, hC⟩ : ∃ C, C = phC p := ⟨_, rfl⟩
  obtain ⟨D, hD⟩ : ∃ C, C = phC q := ⟨_, rfl⟩
  rw [← hC] at HCP ⊢
  rw [← hD] at HCQ ⊢
  rw [← hcm]
  obtain ⟨W, hW⟩ : ∃ W, W = (w.alloc (.cells C 47)).alloc (.cells D 47) := ⟨_, rfl⟩
  rw [← hW]
  have HC := Lib.hid (fun n => compare_any w.heap.size (w.heap.size + 1) (padL p) (padL q) hlp hlq (W.drewN n) (fun i hi => by
      have h1 : (w.alloc (.cells C 47)).cell? ⟨w.heap.size, i, none⟩ = some (.int .i64 ((padL p).getD i 0)) := rowC (heap_alloc_new w _) (HCP.out i hi)
      rw [hW]
      exact keepc (belowa (Below.refl _ _) _) h1)
    (fun i hi => by
      have h1 : ((w.alloc (.cells C 47)).alloc (.cells D 47)).cell? ⟨(w.alloc (.cells C 47)).heap.size, i, none⟩ = some (.int .i64 ((padL q).getD i 0)) := rowC (heap_alloc_new _ _) (HCQ.out i hi)
      rw [World.size_alloc] at h1
      rw [hW]
      exact h1))
  obtain ⟨c, hc⟩ : ∃ c, c = cmpI (padL p) (padL q) := ⟨_, rfl⟩
  rw [← hc] at HC ⊢
  have hsl := fun (g : Nat) (w : World) => slice_all g w
  have HW := Lib.hid hW
  clear hc hcm hlp hlq h32 h32q hp hq hl hC hD HS1 hW
  go_enter Try.func68, Try.ntmps68
  go_wp2_with (first
    | ((with_reducible refine at_op (Op.box 47 (.tmp 0)) ?_); refine wpList_box_is rfl 47 (.tmp 0) rfl C rfl ?_)
    | ((with_reducible refine at_op (Op.box 47 (.tmp 1)) ?_); refine wpList_box_is rfl 47 (.tmp 1) rfl D rfl ?_))
  (try rw [← HW.out])
  go_quiet (first | ((with_reducible refine (HC.out _).mono ?_); exact fun _ _ h => ⟨h.1, _, h.2.symm⟩))
  go_wp2_with fail
  go_returns
  exact ⟨rfl, _, rfl⟩
end Go.Proofs.Ytcagiecgbjnefab
