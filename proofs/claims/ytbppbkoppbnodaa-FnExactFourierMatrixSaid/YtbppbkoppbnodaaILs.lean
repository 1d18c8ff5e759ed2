/- The program's matrix.lists: a list of lists of the call's own, row by row, cell by cell. -/
import Derived.Test.YtbppbkoppbnodaaIMx
import Derived.Test.YtbppbkoppbnodaaRwC
import Derived.Test.YtbppbkoppbnodaaMaN
namespace Go.Proofs.Ytbppbkoppbnodaa
set_option maxRecDepth 100000
open Go.RowKit

theorem genR_set (n : Nat) (R : Nat → List Int) (i : Nat) (x : List Int) : (genR n R).set i x = genR n (fun k => if k = i then x else R k) := by
  apply getD_ext _ _ []
  · simp [genR_length]
  · intro k hk
    rw [List.length_set, genR_length] at hk
    rw [genR_getD _ _ _ hk]
    by_cases hi : i < (genR n R).length
    · rw [getD_set _ _ _ _ _ hi, genR_getD _ _ _ hk]
    · rw [List.set_eq_of_length_le (by omega), genR_getD _ _ _ hk, if_neg (by rw [genR_length] at hi; omega)]
/-- The rows below a are whole, the others empty. -/
def lsP (n : Nat) (M : Nat → Nat → Int) (a : Nat) : List (List Int) := genR n (fun i => if i < a then gen n (M i) else [])
/-- The row a is whole below b, and zeros behind. -/
def lsQ (n : Nat) (M : Nat → Nat → Int) (a b : Nat) : List (List Int) := genR n (fun i => if i < a then gen n (M i) else if i = a then gen n (fun j => if j < b then M a j else 0) else [])
theorem lsP_length (n : Nat) (M : Nat → Nat → Int) (a : Nat) : (lsP n M a).length = n := genR_length _ _
theorem lsQ_length (n : Nat) (M : Nat → Nat → Int) (a b : Nat) : (lsQ n M a b).length = n := genR_length _ _
theorem lsP_start (n : Nat) (M : Nat → Nat → Int) : List.replicate n [] = lsP n M 0 := by
  unfold lsP
  apply getD_ext _ _ []
  · simp [genR_length]
  · intro i hi
    rw [List.length_replicate] at hi
    rw [repl_getD, genR_getD _ _ _ hi, if_neg (by omega)]
theorem lsP_end (n : Nat) (M : Nat → Nat → Int) : lsP n M n = genR n (fun i => gen n (M i)) := genR_ext (fun _ hi => if_pos hi)
theorem repl_gen (n : Nat) (f : Nat → Int) : List.replicate n (0 : Int) = gen n (fun j => if j < 0 then f j else 0) := by
  apply getD_ext _ _ 0
  · simp [gen_length]
  · intro i hi
    rw [List.length_replicate] at hi
    rw [repl_getD, gen_getD _ _ _ hi, if_neg (by omega)]
theorem lsQ_start (n : Nat) (M : Nat → Nat → Int) (a : Nat) : (lsP n M a).set a (List.replicate n 0) = lsQ n M a 0 := by
  unfold lsP lsQ
  rw [genR_set]
  refine genR_ext (fun i _ => ?_)
  by_cases e : i = a
  · rw [if_pos e, if_neg (by omega), if_pos e]; exact repl_gen n (M a)
  · rw [if_neg e]
    by_cases h : i < a
    · rw [if_pos h, if_pos h]
    · rw [if_neg h, if_neg h, if_neg e]
theorem lsQ_row (n : Nat) (M : Nat → Nat → Int) (a b : Nat) (ha : a < n) : (lsQ n M a b).getD a [] = gen n (fun j => if j < b then M a j else 0) := by
  unfold lsQ
  rw [genR_getD _ _ _ ha, if_neg (by omega), if_pos rfl]
theorem lsQ_step (n : Nat) (M : Nat → Nat → Int) (a b : Nat) (ha : a < n) : (lsQ n M a b).set a (((lsQ n M a b).getD a []).set b (M a b)) = lsQ n M a (b + 1) := by
  rw [lsQ_row n M a b ha, gen_set]
  unfold lsQ
  rw [genR_set]
  refine genR_ext (fun i _ => ?_)
  by_cases e : i = a
  · rw [if_pos e, if_neg (by omega), if_pos e]
    refine gen_ext (fun j _ => ?_)
    by_cases h : j = b
    · subst h; rw [if_pos rfl, if_pos (by omega)]
    · rw [if_neg h]
      by_cases h2 : j < b
      · rw [if_pos h2, if_pos (by omega)]
      · rw [if_neg h2, if_neg (by omega)]
  · rw [if_neg e]
    by_cases h : i < a
    · rw [if_pos h, if_pos h]
    · rw [if_neg h, if_neg h, if_neg e, if_neg e]
theorem lsQ_end (n : Nat) (M : Nat → Nat → Int) (a : Nat) : lsQ n M a n = lsP n M (a + 1) := by
  unfold lsP lsQ
  refine genR_ext (fun i _ => ?_)
  by_cases h : i < a
  · rw [if_pos h, if_pos (by omega)]
  · rw [if_neg h]
    by_cases e : i = a
    · rw [if_pos e, if_pos (by omega), e]; exact gen_ext (fun j hj => if_pos hj)
    · rw [if_neg e, if_neg (by omega)]

set_option maxRecDepth 100000 in
set_option maxHeartbeats 4000000 in
theorem lists_any (V : Nat → Nat × Nat) (n : Nat) (M : Nat → Nat → Int) (hV : MxR V n M) (w : World) :
    Calls Try.prog 35 #[.agg (mxC V n)] w (MakesRB w (genR n (fun i => gen n (M i))) (decide (1 ≤ n))) := by
  have hn := hV.1
  have HP := Lib.hid (fun a b (ha : a < n) (hb : b < n) => phaseOf_any (hV.2.1 a b ha hb))
  have HIS := Lib.hid (mxIs_any V n)
  have IM := Lib.hid (infoMxC V n)
  clear hV
  by_cases h1n : 1 ≤ n
  rotate_left 1
  · obtain rfl : n = 0 := by omega
    rw [decide_eq_false h1n] at HIS ⊢
    clear HP h1n
    have B0 := Lib.hid (Below.refl w.heap.size w)
    go_enter Try.func35, Try.ntmps35
    go_wp2_with (first
      | ((with_reducible refine at_op (Op.box 41 (.tmp 0)) ?_); refine wpList_box_row rfl 41 (.tmp 0) rfl (mxC V (0 : Nat)) rfl ?_; intro w1 hr hb hz; have R1_m := Lib.hid hr; have B1 := Lib.hid (joins B0.out hb); have L1_m := Lib.hid (show w.heap.size ≤ w.heap.size from B0.out.size); clear hr hb hz)
      | ((with_reducible refine at_op (Op.load 41 (.tmp 1)) ?_); refine wpList_load_part rfl 41 (.tmp 1) rfl (w.heap.size) 0 rfl (mxC V (0 : Nat)) (mxC V (0 : Nat)) 41 (0, 0) _ R1_m.out (Part.self _) Try.underlying41 rfl IM.out ?_))
    refine (HIS.out _).mono ?_
    rintro e w2 ⟨rfl, hb⟩
    have R2_m := Lib.hid (rowB R1_m.out hb)
    have B2 := Lib.hid (joins B1.out hb)
    clear hb
    go_wp2_with fail
    go_returns
    exact ⟨_, rfl, OwnR.nil _ _, B2.out⟩
  · rw [decide_eq_true h1n] at HIS ⊢
    obtain ⟨i0, hi, hz0, hz1, hz2⟩ := info_parts infoRow
    have HI0 := Lib.hid hi
    have HZ00 := Lib.hid hz0
    have HZ10 := Lib.hid hz1
    have HZ20 := Lib.hid hz2
    clear hi hz0 hz1 hz2
    obtain ⟨i1, hi, hz0, hz1, hz2⟩ := info_parts infoInt
    have HI1 := Lib.hid hi
    have HZ01 := Lib.hid hz0
    have HZ11 := Lib.hid hz1
    have HZ21 := Lib.hid hz2
    clear hi hz0 hz1 hz2
    have B0 := Lib.hid (Below.refl w.heap.size w)
    go_enter Try.func35, Try.ntmps35
    go_wp2_with (first
      | ((with_reducible refine at_op (Op.box 41 (.tmp 0)) ?_); refine wpList_box_row rfl 41 (.tmp 0) rfl (mxC V n) rfl ?_; intro w1 hr hb hz; have R1_m := Lib.hid hr; have B1 := Lib.hid (joins B0.out hb); have L1_m := Lib.hid (show w.heap.size ≤ w.heap.size from B0.out.size); clear hr hb hz)
      | ((with_reducible refine at_op (Op.load 41 (.tmp 1)) ?_); refine wpList_load_part rfl 41 (.tmp 1) rfl (w.heap.size) 0 rfl (mxC V n) (mxC V n) 41 (0, 0) _ R1_m.out (Part.self _) Try.underlying41 rfl IM.out ?_))
    refine (HIS.out _).mono ?_
    rintro e w2 ⟨rfl, hb⟩
    have R2_m := Lib.hid (rowB R1_m.out hb)
    have B2 := Lib.hid (joins B1.out hb)
    clear hb
    have c0 := rowC R2_m.out (mxC_side V n)
    go_wp2_with (at_make; refine wpList_make_full _ rfl _ _ 22 rfl w2.heap.size 46 i0 (.slice none 0 0) 1 Try.underlying22 HI0.out HZ00.out HZ10.out _ _ _ _ n rfl rfl rfl rfl ?b2_1 ?b3_1 (Nat.le_refl _) ?_)
    case b2_1 => rw [HZ20.out]; omega
    case b3_1 => unfold maxLen; omega
    intro w3 hown0 hgrow0
    rw [made_rows] at hown0
    have hb : Below w2.heap.size w2 w3 := (Below.refl _ _).grown hgrow0 (Nat.le_refl _) (fun k h => by cases h)
    have R3_m := Lib.hid (rowB R2_m.out hb)
    have B3 := Lib.hid (joins B2.out hb)
    have O3_o := Lib.hid hown0
    have N3_m_o := Lib.hid (show w.heap.size ≠ w2.heap.size from Nat.ne_of_lt (row_lt R2_m.out))
    have L3_o := Lib.hid (show w.heap.size ≤ w2.heap.size from B2.out.size)
    clear hown0 hgrow0 hb
    have RM0 := R3_m
    have BB0 := B3
    have OO0 := Lib.hid (OwnR.made O3_o.out)
    rw [lsP_start n M] at OO0
    have NMO := N3_m_o
    have LO := L3_o
    have LMO := Lib.hid (row_lt R2_m.out)
    have c0 := rowC RM0.out (mxC_side V n)
    go_wp2_with fail
    go_loopw [15] (fun q wr => ∃ a : Nat, a ≤ n ∧ q = .int .i64 a ∧ wr.heap[w.heap.size]? = some (.cells (mxC V n) 41 (0, 0)) ∧ OwnR wr w2.heap.size (.slice (some ⟨w2.heap.size, 0, none⟩) n n) (lsP n M a) ∧ Below w.heap.size w wr) (fun q _ => n - (intOf q).toNat)
    case atStart => exact ⟨0, Nat.zero_le _, rfl, RM0.out, OO0.out, BB0.out⟩
    case round =>
      obtain ⟨a, ha, rfl, hm, ho, hbel⟩ := hrel
      have RM := Lib.hid hm
      have RO := Lib.hid ho
      have BR := Lib.hid hbel
      have c0 := rowC hm (mxC_side V n)
      clear hm ho hbel
      generalize hwo : wr = wo at *
      clear hwo
      by_cases hlt : a < n
      · have h0 : (0 : Int) ≤ (a : Int) := by omega
        have h1 : (a : Int) < (n : Int) := by omega
        go_wp2_with (at_make; refine wpList_make_full _ rfl _ _ 46 rfl wo.heap.size 3 i1 (.int .i64 0) 1 Try.underlying46 HI1.out HZ01.out HZ11.out _ _ _ _ n rfl rfl rfl rfl ?b2_1 ?b3_1 (Nat.le_refl _) ?_)
        case b2_1 => rw [HZ21.out]; omega
        case b3_1 => unfold maxLen; omega
        intro w5 hown0 hgrow0
        rw [made_zeros] at hown0
        have hb : Below wo.heap.size wo w5 := (Below.refl _ _).grown hgrow0 (Nat.le_refl _) (fun k h => by cases h)
        have RM5 := Lib.hid (rowB RM.out hb)
        have RO5 := Lib.hid (RO.out.below hb)
        have B5 := Lib.hid (joins BR.out hb)
        have hst := RO.out.stored (i := a) (by rw [lsP_length]) hb (Nat.le_trans (Nat.le_of_lt (RO.out.lt _ rfl).2) (Nat.le_refl _)) (r := .slice (some ⟨wo.heap.size, 0, none⟩) n n) (l := List.replicate n 0) (by unfold Own; rw [List.length_replicate]; exact hown0) (by rw [lsP_length]; exact hlt)
        rw [lsQ_start] at hst
        obtain ⟨u0, cu, fu, -⟩ := RO5.out.cellAt (by rw [lsP_length]) a (by rw [lsP_length]; exact hlt)
        have S5 := Lib.hid hst
        have M5 := Lib.hid ((heap_setCell_other w5 ⟨w2.heap.size, a, none⟩ (w.heap.size) (.slice (some ⟨wo.heap.size, 0, none⟩) n n) NMO.out).trans RM5.out)
        have B6 := Lib.hid (B5.out.setCell (p := ⟨w2.heap.size, a, none⟩) LO.out (.slice (some ⟨wo.heap.size, 0, none⟩) n n))
        have cv := World.cell?_setCell_same w5 ⟨w2.heap.size, a, none⟩ (.slice (some ⟨wo.heap.size, 0, none⟩) n n) cu
        clear hown0 hgrow0 hb hst
        go_wp2_with fail
        go_loopw [29] (fun q wr => ∃ b : Nat, b ≤ n ∧ q = .int .i64 b ∧ wr.heap[w.heap.size]? = some (.cells (mxC V n) 41 (0, 0)) ∧ OwnR wr w2.heap.size (.slice (some ⟨w2.heap.size, 0, none⟩) n n) (lsQ n M a b) ∧ Below w.heap.size w wr) (fun q _ => n - (intOf q).toNat)
        case atStart => exact ⟨0, Nat.zero_le _, rfl, M5.out, S5.out, B6.out⟩
        case round =>
          obtain ⟨b, hb, rfl, hm, ho, hbel⟩ := hrel
          have RM2 := Lib.hid hm
          have RO2 := Lib.hid ho
          have BR2 := Lib.hid hbel
          clear hm ho hbel
          by_cases hlb : b < n
          · have h0b : (0 : Int) ≤ (b : Int) := by omega
            have h1b : (b : Int) < (n : Int) := by omega
            have h8a : (a : Int) < 8 := by omega
            have h8b : (b : Int) < 8 := by omega
            have cs := cell_row RM2.out (c := a * 8 + b) (by omega)
            have hph := HP.out a b hlt hlb
            unfold cxV at hph
            obtain ⟨kk, cc, ck, cz, fz, hBk, -, hset⟩ := RO2.out.cellSet (by rw [lsQ_length]) a (by rw [lsQ_length]; exact hlt) b (by rw [lsQ_row n M a b hlt, gen_length]; exact hlb)
            have hset2 := hset (M a b)
            rw [lsQ_step n M a b hlt] at hset2
            rw [show ((lsQ n M a b).getD a []).length = n by rw [lsQ_row n M a b hlt, gen_length]] at ck
            obtain ⟨z0, hz0⟩ : ∃ z, z = ((lsQ n M a b).getD a []).getD b 0 := ⟨_, rfl⟩
            rw [← hz0] at cz
            obtain ⟨y, hy⟩ : ∃ y, y = M a b := ⟨_, rfl⟩
            rw [← hy] at hset2 hph
            obtain ⟨x1, hx1⟩ : ∃ x, x = (V (a * 8 + b)).1 := ⟨_, rfl⟩
            obtain ⟨x2, hx2⟩ : ∃ x, x = (V (a * 8 + b)).2 := ⟨_, rfl⟩
            rw [← hx1, ← hx2] at cs hph
            have hkm : w.heap.size ≠ kk := by have := LMO.out; omega
            have S2 := Lib.hid hset2
            have M2 := Lib.hid ((heap_setCell_other wr ⟨kk, b, none⟩ (w.heap.size) (.int .i64 y) hkm).trans RM2.out)
            have B2 := Lib.hid (BR2.out.setCell (p := ⟨kk, b, none⟩) (Nat.le_trans LO.out hBk) (.int .i64 y))
            have HPH := Lib.hid hph
            clear hset hset2 hz0 hy hx1 hx2 hkm hBk hph
            go_wp2_with fail
            go_region_with (go_at_call 63; refine (HPH.out _).mono ?_; rintro e w' ⟨rfl, rfl⟩)
            all_goals
              go_wp2_with fail
              go_roundw
              case rel => exact ⟨b + 1, by omega, by go_num, M2.out, S2.out.below (belowN (Below.refl _ _) 1), belowN B2.out 1⟩
              case measure => simp [intOf]; omega
          · obtain rfl : n = b := by omega
            go_wp2_with fail
            go_roundw
            case rel => exact ⟨a + 1, by omega, by go_num, RM2.out, by rw [← lsQ_end]; exact RO2.out, BR2.out⟩
            case measure => simp [intOf]; omega
      · obtain rfl : n = a := by omega
        rw [lsP_end] at RO
        go_wp2_with fail
        go_returns
        exact ⟨_, rfl, RO.out.mono LO.out, BR.out⟩
end Go.Proofs.Ytbppbkoppbnodaa
