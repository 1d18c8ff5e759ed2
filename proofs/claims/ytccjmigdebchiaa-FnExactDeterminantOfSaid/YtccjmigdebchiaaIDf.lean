/- The program's DeterminantOf. -/
import Derived.Test.YtccjmigdebchiaaIDt
import Derived.Test.YtccjmigdebchiaaIEx
import Derived.Test.YtccjmigdebchiaaIGe
namespace Go.Proofs.Ytccjmigdebchiaa
set_option maxRecDepth 100000
open Go.RowKit

theorem free_all (n : Nat) : freeC (fun _ => false) n = List.range n := by
  unfold freeC
  rw [List.filter_eq_self]
  intro a _; rfl
def deOk (m : List (List Int)) : Bool := decide (1 ≤ mfN m ∧ mfN m ≤ 5)
def deA (m : List (List Int)) : Int × Int := if deOk m then dt (atM m) (mfN m) 0 (List.range (mfN m)) else (0, 0)
theorem builtBo : Try.prog.built 58 [] = some (boC (fun _ => false)) := by rfl
set_option maxHeartbeats 1000000 in
theorem gaussOfD_any (a b : Int) (h1 : -120 ≤ a ∧ a ≤ 120) (h2 : -120 ≤ b ∧ b ≤ 120) (w : World) : Calls Try.prog 28 #[.complex .f32 (f32of a) (f32of b)] w (Ret w (.agg #[.int .i64 a, .int .i64 b])) := by
  have ha := fun w => run_convert_float_int (P := Try.prog) w 73 3 .f32 .i64 (f32of a) a rfl Try.underlying3 (f32_backd a h1)
  have hb := fun w => run_convert_float_int (P := Try.prog) w 73 3 .f32 .i64 (f32of b) b rfl Try.underlying3 (f32_backd b h2)
  obtain ⟨fa, hfa⟩ : ∃ fa, fa = f32of a := ⟨_, rfl⟩
  obtain ⟨fb, hfb⟩ : ∃ fb, fb = f32of b := ⟨_, rfl⟩
  rw [← hfa] at ha ⊢
  rw [← hfb] at hb ⊢
  clear hfa hfb h1 h2
  go_enter Try.func28, Try.ntmps28
  go_wp2
  go_returns
  exact ⟨rfl, by go_grown⟩
set_option maxRecDepth 100000 in
set_option maxHeartbeats 2000000 in
theorem ideterminantOf (v : Value) (m : List (List Int)) (w : World) (hv : IR w v m) (hl : sz2 m ≤ 1048576) : Calls Try.prog 9 #[v] w (Ret w (.tuple #[.agg #[.int .i64 (deA m).1, .int .i64 (deA m).2], .bool (deOk m)])) := by
  have HM := Lib.hid (fun w' (h : Below w.heap.size w w') => matrixFrom_any v m w' (hv.below h) hl)
  have hR := mf_MxR m
  have HIS := isExpanded_any (mfV m) (mfN m) hR.1
  rw [show decide (1 ≤ mfN m ∧ mfN m ≤ 5) = deOk m from rfl] at HIS
  have ZZ := Lib.hid zeroMx
  have IC := Lib.hid (infoMxC (mfV m) (mfN m))
  have SC := Lib.hid (mxC_size (mfV m) (mfN m))
  have OC := Lib.hid (mxC_one (mfV m) (mfN m))
  obtain ⟨C, hC⟩ : ∃ C, C = mxC (mfV m) (mfN m) := ⟨_, rfl⟩
  rw [← hC] at HM HIS IC SC OC
  have HIS' := Lib.hid HIS
  obtain ⟨pa, cap, rfl⟩ := hv.slice
  clear hv HIS
  have B0 := Lib.hid (Below.refl w.heap.size w)
  cases hok : deOk m with
  | true =>
    rw [hok] at HIS'
    have h5 : 1 ≤ mfN m ∧ mfN m ≤ 5 := of_decide_eq_true hok
    have hA : deA m = dt (atM m) (mfN m) 0 (List.range (mfN m)) := by unfold deA; rw [hok, if_pos rfl]
    have bd := dt_small (atM m) (mfN m) 0 (List.range (mfN m)) List.length_range
    have bf := fac_le (mfN m) h5.2
    rw [← hA] at bd
    have HG := Lib.hid (gaussOfD_any (deA m).1 (deA m).2 (by omega) (by omega))
    have HD : ∀ w, Calls Try.prog 29 #[.agg C, .int .i64 0, .agg (boC (fun _ => false))] w (Ret w (.complex .f32 (f32of (deA m).1) (f32of (deA m).2))) := fun w => by
      have := determinantFrom_any (mfV m) (mfN m) _ hR h5.2 (mfN m) (fun _ => false) 0 (by omega) (by rw [free_all]; exact List.length_range) w
      rw [free_all, ← hA, ← hC] at this
      exact this
    have HD' := Lib.hid HD
    have HBU := Lib.hid builtBo
    obtain ⟨X, hX⟩ : ∃ X, X = (deA m).1 := ⟨_, rfl⟩
    obtain ⟨Y, hY⟩ : ∃ X, X = (deA m).2 := ⟨_, rfl⟩
    obtain ⟨fx, hfx⟩ : ∃ x, x = f32of X := ⟨_, rfl⟩
    obtain ⟨fy, hfy⟩ : ∃ x, x = f32of Y := ⟨_, rfl⟩
    obtain ⟨E, hE⟩ : ∃ E, E = boC (fun _ => false) := ⟨_, rfl⟩
    rw [← hX, ← hY] at HD' HG ⊢
    rw [← hfx, ← hfy] at HD' HG
    rw [← hE] at HD' HBU
    clear hR hC hX hY hfx hfy hok hA bd bf HD hE h5
    go_enter Try.func9, Try.ntmps9
    go_wp2_with fail
    obtain ⟨w1, hw1⟩ : ∃ w1, w1 = w.alloc (.cells #[.int .i64 0, .int .i64 0] 25) := ⟨_, rfl⟩
    have Z1 := Lib.hid (show ZG w w1 by rw [hw1]; exact ZG.start w 25)
    rw [← hw1]
    clear hw1
    have B1 := Lib.hid Z1.out.below
    go_wp2_with fail
    refine (HM.out _ B1.out).mono ?_
    rintro e w2 ⟨rfl, hb⟩
    have F2_z := Lib.hid (Z1.out.step hb)
    have B2 := Lib.hid (joins B1.out hb)
    clear hb
    have NZ := Lib.hid (Nat.ne_of_lt F2_z.out.size)
    go_wp2_with (first
      | ((with_reducible refine at_op (d := some 4) (Op.alloc 53) ?_); refine wpList_alloc_row rfl 53 rfl (mxC V0 0) (fun w => ZZ.out w) ?_; intro w3 hr hb hz; have F3_z := Lib.hid (F2_z.out.step hb); have R3_c := Lib.hid hr; have B3 := Lib.hid (joins B2.out hb); have L3_c := Lib.hid (show w.heap.size ≤ w2.heap.size from B2.out.size); clear hr hb hz)
      | ((with_reducible refine at_op (Op.store 53 (.tmp 4) (.tmp 6)) ?_); refine wpList_put_row rfl 53 (.tmp 4) (.tmp 6) rfl (w2.heap.size) C rfl rfl 53 (mxC V0 0) R3_c.out 65 infoMx SC.out (mxC_size _ _) OC.out w.heap.size w B3.out L3_c.out ?_; intro w4 hr hs hb; have F4_z := Lib.hid (ZG.setAt F3_z.out hs hb NZ.out); have R4_c := Lib.hid hr; have B4 := Lib.hid hb; clear hr hs hb)
      | ((with_reducible refine at_op (Op.load 53 (.tmp 4)) ?_); refine wpList_load_part rfl 53 (.tmp 4) rfl (w2.heap.size) 0 rfl C C 53 (0, 0) _ R4_c.out (Part.self _) Try.underlying53 rfl IC.out ?_))
    refine (HIS'.out _).mono ?_
    rintro e w5 ⟨rfl, hb⟩
    have R5_c := Lib.hid (rowB R4_c.out hb)
    have F5_z := Lib.hid (F4_z.out.step hb)
    have B5 := Lib.hid (joins B4.out hb)
    clear hb
    go_wp2_with (first
      | ((with_reducible refine at_op (Op.load 53 (.tmp 4)) ?_); refine wpList_load_part rfl 53 (.tmp 4) rfl (w2.heap.size) 0 rfl C C 53 (0, 0) _ R5_c.out (Part.self _) Try.underlying53 rfl IC.out ?_)
      | ((with_reducible refine at_op (Op.build 58 #[]) ?_); refine wpList_build_row rfl 58 [] rfl E HBU.out ?_))
    refine (HD'.out _).mono ?_
    rintro e w6 ⟨rfl, hb⟩
    have R6_c := Lib.hid (rowB R5_c.out hb)
    have F6_z := Lib.hid (F5_z.out.step hb)
    have B6 := Lib.hid (joins B5.out hb)
    clear hb
    go_wp2_with fail
    refine (HG.out _).mono ?_
    rintro e w7 ⟨rfl, hb⟩
    have R7_c := Lib.hid (rowB R6_c.out hb)
    have F7_z := Lib.hid (F6_z.out.step hb)
    have B7 := Lib.hid (joins B6.out hb)
    clear hb
    obtain ⟨z1, z2, z3, z4, z5, z6⟩ := F7_z.out
    go_wp2_with fail
    (try simp only [Exit.inBlock, Exit.then])
    obtain ⟨d0, d2, d3⟩ := F7_z.out.ret (.int .i64 X) (.int .i64 Y)
    refine bodyPost_ret (by simp [results, Try.results9, go_sem, d0, d2]; try rfl) rfl ?_
    exact ⟨rfl, d3⟩
  | false =>
    rw [hok] at HIS'
    have hA : deA m = (0, 0) := by unfold deA; rw [hok]; rfl
    rw [hA]
    clear hR hC hok hA
    go_enter Try.func9, Try.ntmps9
    go_wp2_with fail
    obtain ⟨w1, hw1⟩ : ∃ w1, w1 = w.alloc (.cells #[.int .i64 0, .int .i64 0] 25) := ⟨_, rfl⟩
    have Z1 := Lib.hid (show ZG w w1 by rw [hw1]; exact ZG.start w 25)
    rw [← hw1]
    clear hw1
    have B1 := Lib.hid Z1.out.below
    go_wp2_with fail
    refine (HM.out _ B1.out).mono ?_
    rintro e w2 ⟨rfl, hb⟩
    have F2_z := Lib.hid (Z1.out.step hb)
    have B2 := Lib.hid (joins B1.out hb)
    clear hb
    have NZ := Lib.hid (Nat.ne_of_lt F2_z.out.size)
    go_wp2_with (first
      | ((with_reducible refine at_op (d := some 4) (Op.alloc 53) ?_); refine wpList_alloc_row rfl 53 rfl (mxC V0 0) (fun w => ZZ.out w) ?_; intro w3 hr hb hz; have F3_z := Lib.hid (F2_z.out.step hb); have R3_c := Lib.hid hr; have B3 := Lib.hid (joins B2.out hb); have L3_c := Lib.hid (show w.heap.size ≤ w2.heap.size from B2.out.size); clear hr hb hz)
      | ((with_reducible refine at_op (Op.store 53 (.tmp 4) (.tmp 6)) ?_); refine wpList_put_row rfl 53 (.tmp 4) (.tmp 6) rfl (w2.heap.size) C rfl rfl 53 (mxC V0 0) R3_c.out 65 infoMx SC.out (mxC_size _ _) OC.out w.heap.size w B3.out L3_c.out ?_; intro w4 hr hs hb; have F4_z := Lib.hid (ZG.setAt F3_z.out hs hb NZ.out); have R4_c := Lib.hid hr; have B4 := Lib.hid hb; clear hr hs hb)
      | ((with_reducible refine at_op (Op.load 53 (.tmp 4)) ?_); refine wpList_load_part rfl 53 (.tmp 4) rfl (w2.heap.size) 0 rfl C C 53 (0, 0) _ R4_c.out (Part.self _) Try.underlying53 rfl IC.out ?_))
    refine (HIS'.out _).mono ?_
    rintro e w5 ⟨rfl, hb⟩
    have R5_c := Lib.hid (rowB R4_c.out hb)
    have F5_z := Lib.hid (F4_z.out.step hb)
    have B5 := Lib.hid (joins B4.out hb)
    clear hb
    obtain ⟨z1, z2, z3, z4, z5, z6⟩ := F5_z.out
    go_wp2_with fail
    (try simp only [Exit.inBlock, Exit.then])
    obtain ⟨d0, d2, d3⟩ := F5_z.out.ret (.int .i64 0) (.int .i64 0)
    refine bodyPost_ret (by simp [results, Try.results9, go_sem, d0, d2]; try rfl) rfl ?_
    exact ⟨rfl, d3⟩
end Go.Proofs.Ytccjmigdebchiaa
