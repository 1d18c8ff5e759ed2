/- The program's lists of arrays. -/
import Derived.Test.YtjoepdflbbcliaaIGm
import Derived.Test.YtjoepdflbbcliaaRwP
import Derived.StillTailTactics
namespace Go.Proofs.Ytjoepdflbbcliaa
set_option maxRecDepth 100000
open Go.RowKit

/-- The rows below a are whole, the others empty. -/
def lsA (n m : Nat) (M : Nat → Nat → Int) (a : Nat) : List (List Int) := genR n (fun i => if i < a then gen m (M i) else [])
theorem lsA_length (n m : Nat) (M : Nat → Nat → Int) (a : Nat) : (lsA n m M a).length = n := genR_length _ _
theorem lsA_start (n m : Nat) (M : Nat → Nat → Int) : List.replicate n [] = lsA n m M 0 := by
  unfold lsA genR
  simp [List.map_const']
theorem lsA_end (n m : Nat) (M : Nat → Nat → Int) : lsA n m M n = genR n (fun i => gen m (M i)) := genR_ext (fun _ hi => if_pos hi)
theorem lsA_step (n m : Nat) (M : Nat → Nat → Int) (a : Nat) : (lsA n m M a).set a (gen m (M a)) = lsA n m M (a + 1) := by
  apply List.ext_getElem?
  intro i
  by_cases hi : i < n
  · by_cases e : i = a
    · subst e
      rw [List.getElem?_set_self (by rw [lsA_length]; exact hi)]
      simp [lsA, genR, hi]
    · rw [List.getElem?_set_ne (fun h => e h.symm)]
      have e1 : (i < a + 1) = (i < a) := propext (by omega)
      simp [lsA, genR, hi, e1]
  · rw [List.getElem?_eq_none (by rw [List.length_set, lsA_length]; omega), List.getElem?_eq_none (by rw [lsA_length]; omega)]
theorem spliced_all (cur : Array Value) (cs : List Value) (m : Nat) (hc : cur.size = m) (hl : cs.length = m) : (splice cur.toList 0 cs).toArray.size = m ∧ (splice cur.toList 0 cs).toArray.toList.take m = cs := by
  unfold splice
  simp [hl, hc]
set_option maxRecDepth 100000 in
set_option maxHeartbeats 4000000 in
theorem grLists_any (n m : Nat) (M : Nat → Nat → Int) (h8 : n ≤ 8) (hm : 1 ≤ n → 1 ≤ m ∧ m ≤ 8) (w : World) :
    Calls Try.prog 52 #[.agg (grA (GV n m M) n m)] w (MakesRB w (genR n (fun i => gen m (M i))) (decide (1 ≤ n))) := by
  have HIS := Lib.hid (grIs_any (GV n m M) n m)
  have IM := Lib.hid (infoGrA (GV n m M) n m)
  have B0 := Lib.hid (Below.refl w.heap.size w)
  by_cases h1n : 1 ≤ n
  rotate_left 1
  · obtain rfl : n = 0 := by omega
    rw [decide_eq_false h1n] at HIS ⊢
    obtain ⟨C, hC⟩ : ∃ C, C = grA (GV 0 m M) (0 : Nat) m := ⟨_, rfl⟩
    rw [← hC] at HIS IM ⊢
    clear h1n hC
    go_enter Try.func52, Try.ntmps52
    go_wp2_with (first
      | ((with_reducible refine at_op (Op.box 66 (.tmp 0)) ?_); refine wpList_box_row rfl 66 (.tmp 0) rfl C rfl ?_; intro w1 hr hb hz; have R1_m := Lib.hid hr; have B1 := Lib.hid (joins B0.out hb); clear hr hb hz)
      | ((with_reducible refine at_op (Op.load 66 (.tmp 1)) ?_); refine wpList_load_part rfl 66 (.tmp 1) rfl (w.heap.size) 0 rfl C C 66 (0, 0) _ R1_m.out (Part.self _) Try.underlying66 rfl IM.out ?_))
    refine (HIS.out _).mono ?_
    rintro e w2 ⟨rfl, hb⟩
    have B2 := Lib.hid (joins B1.out hb)
    clear hb
    go_wp2_with fail
    go_returns
    exact ⟨_, rfl, OwnR.nil _ _, B2.out⟩
  · rw [decide_eq_true h1n] at HIS ⊢
    obtain ⟨m1, m8⟩ := hm h1n
    have HL := Lib.hid (grA_rows (GV n m M) n m)
    have HM := Lib.hid (grA_cols (GV n m M) n m)
    have HG := Lib.hid (fun a b (ha : a < n) (hb : b < m) => show (grA (GV n m M) n m)[a * 8 + b]? = some (.int .i64 (M a b)) by
      rw [grA_get _ _ _ _ (by omega), GV_at n m M a b ha hb m8])
    obtain ⟨C, hC⟩ : ∃ C, C = grA (GV n m M) n m := ⟨_, rfl⟩
    rw [← hC] at HIS IM HL HM ⊢
    simp only [← hC] at HG
    have SR := Lib.hid slice_row
    have HI1 := Lib.hid (show (Try.prog.info? 3).map (·.size) = some 1 by kernel_rfl)
    obtain ⟨i0, hi, hz0, hz1, hz2⟩ := info_parts infoRow
    have HI0 := Lib.hid hi
    have HZ00 := Lib.hid hz0
    have HZ10 := Lib.hid hz1
    have HZ20 := Lib.hid hz2
    clear hi hz0 hz1 hz2
    obtain ⟨i1, hi, hz0, hz1, hz2⟩ := info_parts infoInt
    have HII := Lib.hid hi
    have HZ01 := Lib.hid hz0
    have HZ11 := Lib.hid hz1
    have HZ21 := Lib.hid hz2
    clear hi hz0 hz1 hz2 hC hm
    go_enter Try.func52, Try.ntmps52
    go_wp2_with (first
      | ((with_reducible refine at_op (Op.box 66 (.tmp 0)) ?_); refine wpList_box_row rfl 66 (.tmp 0) rfl C rfl ?_; intro w1 hr hb hz; have R1_m := Lib.hid hr; have B1 := Lib.hid (joins B0.out hb); clear hr hb hz)
      | ((with_reducible refine at_op (Op.load 66 (.tmp 1)) ?_); refine wpList_load_part rfl 66 (.tmp 1) rfl (w.heap.size) 0 rfl C C 66 (0, 0) _ R1_m.out (Part.self _) Try.underlying66 rfl IM.out ?_))
    refine (HIS.out _).mono ?_
    rintro e w2 ⟨rfl, hb⟩
    have R2_m := Lib.hid (rowB R1_m.out hb)
    have B2 := Lib.hid (joins B1.out hb)
    clear hb
    have c0 := rowC R2_m.out HL.out
    go_wp2_with (at_make; refine wpList_make_full _ rfl _ _ 31 rfl w2.heap.size 22 i0 (.slice none 0 0) 1 Try.underlying31 HI0.out HZ00.out HZ10.out _ _ _ _ n rfl rfl rfl rfl ?b2_1 ?b3_1 (Nat.le_refl _) ?_)
    case b2_1 => rw [HZ20.out]; omega
    case b3_1 => unfold maxLen; omega
    intro w3 hown0 hgrow0
    rw [made_rows] at hown0
    have hb : Below w2.heap.size w2 w3 := (Below.refl _ _).grown hgrow0 (Nat.le_refl _) (fun k h => by cases h)
    have RM0 := Lib.hid (rowB R2_m.out hb)
    have BB0 := Lib.hid (joins B2.out hb)
    have OO0 := Lib.hid (OwnR.made hown0)
    rw [lsA_start n m M] at OO0
    have NMO := Lib.hid (show w.heap.size ≠ w2.heap.size from Nat.ne_of_lt (row_lt R2_m.out))
    have LO := Lib.hid (show w.heap.size ≤ w2.heap.size from B2.out.size)
    clear hown0 hgrow0 hb
    have c0 := rowC RM0.out HL.out
    obtain ⟨go, hgo⟩ : ∃ g, g = w2.heap.size := ⟨_, rfl⟩
    rw [← hgo] at OO0 NMO LO ⊢
    clear hgo
    go_wp2_with fail
    clear c0
    go_loopw [14] (fun q wr => ∃ a : Nat, a ≤ n ∧ q = .int .i64 a ∧ wr.heap[w.heap.size]? = some (.cells C 66 (0, 0)) ∧ OwnR wr go (.slice (some ⟨go, 0, none⟩) n n) (lsA n m M a) ∧ Below w.heap.size w wr) (fun q _ => n - (intOf q).toNat)
    case atStart => exact ⟨0, Nat.zero_le _, rfl, RM0.out, OO0.out, BB0.out⟩
    case round =>
      obtain ⟨a, ha, rfl, hm, ho, hbel⟩ := hrel
      obtain ⟨wo, hwo⟩ : ∃ wo, wo = wr := ⟨_, rfl⟩
      rw [← hwo] at hm ho hbel ⊢
      clear hwo
      have RM := Lib.hid hm
      have RO := Lib.hid ho
      have BR := Lib.hid hbel
      clear hm ho hbel
      by_cases hlt : a < n
      · have h0 : (0 : Int) ≤ (a : Int) := by omega
        have h1 : (a : Int) < (n : Int) := by omega
        have h8a : (a : Int) < 8 := by omega
        have c1 := rowC RM.out HM.out
        go_wp2_with (at_make; refine wpList_make_full _ rfl _ _ 22 rfl wo.heap.size 3 i1 (.int .i64 0) 1 Try.underlying22 HII.out HZ01.out HZ11.out _ _ _ _ m rfl rfl rfl rfl ?b2_1 ?b3_1 (Nat.le_refl _) ?_)
        case b2_1 => rw [HZ21.out]; omega
        case b3_1 => unfold maxLen; omega
        intro w5 hown0 hgrow0
        rw [made_zeros] at hown0
        have hb : Below wo.heap.size wo w5 := (Below.refl _ _).grown hgrow0 (Nat.le_refl _) (fun k h => by cases h)
        have RM5 := Lib.hid (rowB RM.out hb)
        have RO5 := Lib.hid (RO.out.below hb)
        have B5 := Lib.hid (joins BR.out hb)
        have hst := RO.out.stored (i := a) (by rw [lsA_length]) hb (Nat.le_of_lt (RO.out.lt _ rfl).2) (r := .slice (some ⟨wo.heap.size, 0, none⟩) m m) (l := List.replicate m 0) (by unfold Own; rw [List.length_replicate]; exact hown0) (by rw [lsA_length]; exact hlt)
        obtain ⟨u0, cu, fu, -⟩ := RO5.out.cellAt (by rw [lsA_length]) a (by rw [lsA_length]; exact hlt)
        have S5 := Lib.hid hst
        have M5 := Lib.hid ((heap_setCell_other w5 ⟨go, a, none⟩ (w.heap.size) (.slice (some ⟨wo.heap.size, 0, none⟩) m m) NMO.out).trans RM5.out)
        have B6 := Lib.hid (B5.out.setCell (p := ⟨go, a, none⟩) LO.out (.slice (some ⟨wo.heap.size, 0, none⟩) m m))
        have cv := World.cell?_setCell_same w5 ⟨go, a, none⟩ (.slice (some ⟨wo.heap.size, 0, none⟩) m m) cu
        obtain ⟨g5, hg5⟩ : ∃ g, g = wo.heap.size := ⟨_, rfl⟩
        rw [← hg5] at S5 M5 B6 cv ⊢
        have HCV := Lib.hid cv
        clear hown0 hgrow0 hb hst c1 hg5
        obtain ⟨-, hBk, -, cur, hcur, hcs, -, -, hput⟩ := S5.out.rowPut (by rw [List.length_set, lsA_length]) a (by rw [List.length_set, lsA_length]; exact hlt) HCV.out
        have HPUT := Lib.hid hput
        have HCUR := Lib.hid hcur
        have HCS := Lib.hid hcs
        have NG5 := Lib.hid (show w.heap.size ≠ g5 from fun e => by have := LO.out; have := NMO.out; omega)
        have LG5 := Lib.hid (show w.heap.size ≤ g5 from Nat.le_trans LO.out hBk)
        clear hput hcur hcs hBk
        obtain ⟨w6, hw6⟩ : ∃ w6, w6 = w5.setCell ⟨go, a, none⟩ (.slice (some ⟨g5, 0, none⟩) m m) := ⟨_, rfl⟩
        rw [← hw6] at M5 B6 HCV HCUR HPUT cv
        have sr := SR.out w.heap.size (a * 8)
        have HSRC := Lib.hid (show ∀ j v, ((gen m (M a)).map (Value.int .i64))[j]? = some v → w6.cell? ⟨w.heap.size, a * 8 + j, none⟩ = some v from fun j v hj => by
          have hj2 : j < m := by
            have := (List.getElem?_eq_some_iff.1 hj).1
            simpa [gen_length] using this
          rw [rowC M5.out (HG.out a j hlt hj2), ← hj, List.getElem?_map, gen_getElem? _ _ _ hj2]
          rfl)
        have HLC := Lib.hid (show ((gen m (M a)).map (Value.int .i64)).length = m by rw [List.length_map, gen_length])
        have HL1 := Lib.hid (show ∀ v ∈ (gen m (M a)).map (Value.int .i64), v.oneCell' = true from fun u hu => by simp only [List.mem_map] at hu; obtain ⟨x, _, rfl⟩ := hu; rfl)
        obtain ⟨L, hL⟩ : ∃ L, L = (gen m (M a)).map (Value.int .i64) := ⟨_, rfl⟩
        rw [← hL] at HSRC HLC HL1
        have HLD := Lib.hid hL
        clear hL
        go_wp2_with fail
        rw [← hw6]
        clear hw6
        go_still_tail 8, (by kernel_rfl)
        change wpList _ _ _ _ _ w6.drew
        refine wpList_copy_keep rfl (.tmp 26) (.tmp 30) 22 22 rfl 3 Try.underlying22 HI1.out _ _ _ _ _ _ rfl rfl g5 0 cur 3 HCUR.out L (by rw [HLC.out]; exact (Nat.min_eq_right m8).symm) (fun _ => ⟨rfl, _, rfl, fun j v hj => by rw [Addr.add_lit]; exact HSRC.out j v hj⟩) (by rw [HLC.out, HCS.out]; omega) HL1.out w.heap.size w B6.out.drew LG5.out ?_
        intro w7 hg7 ho7 hz7 hb7
        have hgr := grown_of (w := w6) B6.out hb7 hz7 ho7
        have hsp := spliced_all cur L m HCS.out HLC.out
        have hfin := HPUT.out w7 _ (gen m (M a)) hgr hg7 hsp.1 (gen_length _ _) (by rw [hsp.2, HLD.out])
        rw [List.set_set, lsA_step] at hfin
        have HFIN := Lib.hid hfin
        have RM7 := Lib.hid ((ho7 _ NG5.out).trans M5.out)
        have BR7 := Lib.hid hb7
        clear hgr hsp hfin hg7 ho7 hz7 hb7
        go_wp2_with fail
        go_roundw
        case rel => exact ⟨a + 1, by omega, by go_num, RM7.out, HFIN.out, BR7.out⟩
        case measure => simp [intOf]; omega
      · obtain rfl : a = n := by omega
        go_wp2_with fail
        go_returns
        refine ⟨_, rfl, ?_, BR.out⟩
        have := RO.out
        rw [lsA_end] at this
        exact this.mono LO.out
end Go.Proofs.Ytjoepdflbbcliaa
