/- The program's disturbance. -/
import Derived.Test.YtapmehgdnofgnaaISpA
import Derived.Test.YtapmehgdnofgnaaRg
namespace Go.Proofs.Ytapmehgdnofgnaa
set_option maxRecDepth 100000
open Go.RowKit

theorem infoPhC8 (l : List Int) : (Try.prog.info? 61).map (·.size) = some (phC l).size := by rw [phC_size]; exact infoPh
theorem rowG8 {w w' : World} {g : Nat} {x : Obj} {row : Option Nat} (h : w.heap[g]? = some x) (hg : w.grownBy w' row) (hne : row ≠ some g) : w'.heap[g]? = some x := (hg.block g (row_lt h) (fun e => hne e.symm)).trans h
theorem one32 : FK .f32 1065353216 1 := by
  have := FK_unit 0 (by decide) (by decide)
  exact this.1
theorem zero32 : FK .f32 0 0 := FK_zero _
theorem dt_le {a b : List Int} (ha : isSeq a = true) : (-32000000 ≤ dtX a b ∧ dtX a b ≤ 32000000) ∧ (-32000000 ≤ dtY a b ∧ dtY a b ≤ 32000000) :=
  ma_le _ _ b a.length (isSeq_len ha) (fun i hi => tv_le (by decide) (by decide) (isSeq_all ha) i hi) a.length (Nat.le_refl _)
set_option maxRecDepth 100000 in
set_option maxHeartbeats 4000000 in
theorem disturbance_any (a b : List Int) (ha : isSeq a = true) (hb : isSeq b = true) (hab : a.length = b.length) (w : World) : Calls Try.prog 46 #[.agg (phC a), .agg (phC b)] w (Ret w (.int .i64 (dtN a b))) := by
  have HTV := Lib.hid (fun w => timesValues_any one32 zero32 (by decide) (by decide) a ha w)
  have hcz := tvC_ok one32 zero32 (by decide) (by decide) ha
  have HMA := Lib.hid (fun g (w : World) {B : Nat} (h : RowC w B g a.length (tvC 1065353216 0 a)) => by
    have hc := h.cxa 0 b.length (by omega)
    simp only [Nat.zero_add] at hc
    exact match_any g 0 a.length (tvC 1065353216 0 a) (tvX 1 0 a) (tvY 1 0 a) b hb (by rw [← hab]; exact hcz) (fun i hi => tv_le (B := 1000000) (by decide) (by decide) (isSeq_all ha) i (by omega)) w hc)
  rw [← hab] at HMA
  have HLE := Lib.hid (dt_le (a := a) (b := b) ha)
  have hd : dtN a b = norm (maX (tvX 1 0 a) (tvY 1 0 a) b a.length) (maY (tvX 1 0 a) (tvY 1 0 a) b a.length) := rfl
  have hdx : dtX a b = maX (tvX 1 0 a) (tvY 1 0 a) b a.length := rfl
  have hdy : dtY a b = maY (tvX 1 0 a) (tvY 1 0 a) b a.length := rfl
  rw [hdx, hdy] at HLE
  rw [hd]
  have IA := Lib.hid (infoPhC8 a)
  have IB := Lib.hid (infoPhC8 b)
  obtain ⟨X, hX⟩ : ∃ X, X = maX (tvX 1 0 a) (tvY 1 0 a) b a.length := ⟨_, rfl⟩
  obtain ⟨Y, hY⟩ : ∃ X, X = maY (tvX 1 0 a) (tvY 1 0 a) b a.length := ⟨_, rfl⟩
  rw [← hX, ← hY] at HMA HLE ⊢
  obtain ⟨CA, hCA⟩ : ∃ C, C = phC a := ⟨_, rfl⟩
  obtain ⟨CB, hCB⟩ : ∃ C, C = phC b := ⟨_, rfl⟩
  rw [← hCA] at HTV IA ⊢
  rw [← hCB] at HMA IB ⊢
  obtain ⟨T, hT⟩ : ∃ C, C = tvC 1065353216 0 a := ⟨_, rfl⟩
  rw [← hT] at HTV HMA
  obtain ⟨n, hn⟩ : ∃ n, n = a.length := ⟨_, rfl⟩
  rw [← hn] at HTV HMA
  clear hX hY hCA hCB hT hn hcz hd hdx hdy ha hb hab
  have B0 := Lib.hid (Below.refl w.heap.size w)
  go_enter Try.func46, Try.ntmps46
  go_wp2_with (first
    | ((with_reducible refine at_op (Op.box 61 (.tmp 0)) ?_); refine wpList_box_row rfl 61 (.tmp 0) rfl CA rfl ?_; intro w1 hr hbb hzz; have RA1 := Lib.hid hr; have B1 := Lib.hid (joins B0.out hbb); clear hr hbb hzz)
    | ((with_reducible refine at_op (Op.box 61 (.tmp 1)) ?_); refine wpList_box_row rfl 61 (.tmp 1) rfl CB rfl ?_; intro w2 hr hbb hzz; have RB2 := Lib.hid hr; have RA2 := Lib.hid (rowB RA1.out hbb); have B2 := Lib.hid (joins B1.out hbb); clear hr hbb hzz))
  refine wp_region_held_drew (S := (fun w' => World.grownBy w2 w' none)) (by kernel_rfl) (grownDrew (World.grownBy.refl _ _)) ?_
  obtain ⟨d1, hdw⟩ : ∃ w', w' = w2.drew := ⟨_, rfl⟩
  rw [← hdw]
  have hb : Below w2.heap.size w2 d1 := by rw [hdw]; exact belowN (Below.refl _ _) 1
  have F1_B := Lib.hid (joins B2.out hb)
  clear hdw hb
  intro hHeld
  refine' wpAnyH_take (i := 0) (v := _) rfl (by kernel_rfl) (by kernel_rfl) (by kernel_rfl) (fun _ _ _ h => h) (yieldsPart (by rfl) 61 (.tmp 2) rfl (w.heap.size) 0 rfl CA CA 61 (0, 0) _ (fun w h => rowG8 RA2.out h (by simp)) (Part.self _) Try.underlying61 rfl IA.out) (by assumption) ?rest1
  (try simp only [Act.put, List.getElem_toArray, List.getElem_cons_zero, List.setIfInBounds_toArray, List.set_cons_zero, List.set_cons_succ])
  refine' wpAnyH_take (i := 2) (v := _) rfl (by kernel_rfl) (by kernel_rfl) (by kernel_rfl) (fun _ _ _ h => h) (yieldsPart (by rfl) 61 (.tmp 3) rfl (w1.heap.size) 0 rfl CB CB 61 (0, 0) _ (fun w h => rowG8 RB2.out h (by simp)) (Part.self _) Try.underlying61 rfl IB.out) (by assumption) ?rest2
  (try simp only [Act.put, List.getElem_toArray, List.getElem_cons_zero, List.getElem_cons_succ, List.setIfInBounds_toArray, List.set_cons_zero, List.set_cons_succ])
  refine wpAnyH_ready (rs := [1]) (by kernel_rfl) (by simp) ?_
  refine AllReadyH.cons rfl (fun K hK => ?_) AllReadyH.nil
  go_simp
  refine (HTV.out _).mono ?_
  rintro e d2 ⟨g, rfl, ho, hb⟩
  have F2_B := Lib.hid (joins F1_B.out hb)
  have F2_MS := Lib.hid ho
  have hHeld := grownB hHeld hb
  clear ho hb
  refine hK.out _ _ hHeld (fun hHeld => ?_)
  clear hK K
  (try simp only [Act.put, List.getElem_toArray, List.getElem_cons_zero, List.getElem_cons_succ, List.setIfInBounds_toArray, List.set_cons_zero, List.set_cons_succ])
  refine wpAnyH_ready (rs := [3]) (by kernel_rfl) (by simp) ?_
  refine AllReadyH.cons rfl (fun K hK => ?_) AllReadyH.nil
  go_simp
  refine (HMA.out g _ F2_MS.out).mono ?_
  rintro e d3 ⟨re, im, f1, f2, rfl, hb⟩
  have F3_B := Lib.hid (joins F2_B.out hb)
  have F3_MS := Lib.hid (F2_MS.out.below hb)
  have HNM := Lib.hid (normOfMatch_any f1 f2 HLE.out.1 HLE.out.2)
  clear f1 f2
  have hHeld := grownB hHeld hb
  clear hb
  refine hK.out _ _ hHeld (fun hHeld => ?_)
  clear hK K
  (try simp only [Act.put, List.getElem_toArray, List.getElem_cons_zero, List.getElem_cons_succ, List.setIfInBounds_toArray, List.set_cons_zero, List.set_cons_succ])
  refine wpAnyH_ready (rs := [4]) (by kernel_rfl) (by simp) ?_
  refine AllReadyH.cons rfl (fun K hK => ?_) AllReadyH.nil
  go_simp
  refine (HNM.out _).mono ?_
  rintro e w' ⟨rfl, rfl⟩
  refine hK.out _ _ hHeld (fun hHeld => ?_)
  clear hK K
  (try simp only [Act.put, List.getElem_toArray, List.getElem_cons_zero, List.getElem_cons_succ, List.setIfInBounds_toArray, List.set_cons_zero, List.set_cons_succ])
  refine' wpAnyH_take (i := 5) (v := _) rfl (by kernel_rfl) (by kernel_rfl) (by kernel_rfl) (fun _ _ _ h => h) (Or.inl ⟨by rfl, ?hy3⟩) (by assumption) ?rest3
  case hy3 =>
    intro w h
    (try clear h)
    go_simp
    (try with_reducible rfl)
  (try simp only [Act.put, List.getElem_toArray, List.getElem_cons_zero, List.getElem_cons_succ, List.setIfInBounds_toArray, List.set_cons_zero, List.set_cons_succ])
  refine wpAnyH_done (by kernel_rfl) ?_ _
  go_wp2_with fail
  go_returns
  exact ⟨rfl, F3_B.out⟩
end Go.Proofs.Ytapmehgdnofgnaa
