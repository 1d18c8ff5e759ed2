/- The program's ArrayAt. -/
import Derived.Test.YtjoepdflbbcliabIGc
import Derived.Test.YtjoepdflbbcliabZg
namespace Go.Proofs.Ytjoepdflbbcliab
set_option maxRecDepth 100000
open Go.RowKit

theorem inB_place (p : Int) (n : Nat) : inB p 0 ((n : Int) - 1) = placeB p n := by unfold inB placeB; rw [← Bool.decide_and]; exact decide_eq_decide.2 (by omega)
theorem plOk_place (l : List (List Int)) (u v : Int) : (placeB u (gfN l) && placeB v (gfM l)) = plOk l u v := by
  unfold plOk gfN gfM
  rw [inB_place, inB_place]
  cases h : arOk l with
  | false =>
    rw [if_neg Bool.false_ne_true, Bool.false_and, show placeB u 0 = false from decide_eq_false (by omega)]; rfl
  | true => rw [if_pos rfl, if_pos rfl, Bool.true_and]
set_option maxRecDepth 100000 in
set_option maxHeartbeats 2000000 in
theorem iarrayAt (v : Value) (l : List (List Int)) (x y : Int) (w : World) (hv : IR w v l) (hl : sz2 l ≤ 1048576) : Calls Try.prog 16 #[v, .int .i64 x, .int .i64 y] w (Ret w (.tuple #[.agg #[.int .i64 (aaA vx l x y), .int .i64 (aaA vy l x y)], .bool (plOk l x y)])) := by
  have hz0 := ZG.start w 28
  have HZ0 := Lib.hid hz0
  have HF := Lib.hid (fun w' (h : Below w.heap.size w w') => gridFrom_any v l w' (hv.below h) hl)
  have HP := Lib.hid (fun w' => show Calls Try.prog 40 #[.agg (gfV l), .int .i64 x, .int .i64 y] w' (Ret w' (.bool (plOk l x y))) by
    have h := grPlace_any (GV (gfN l) (gfM l) (atM l)) (gfN l) (gfM l) x y w'
    rw [plOk_place] at h
    exact h)
  have HC : plOk l x y = true → ∀ w', Calls Try.prog 42 #[.agg (gfV l), .int .i64 x, .int .i64 y] w' (Ret w' (.complex .f32 (f32of (aaA vx l x y)) (f32of (aaA vy l x y)))) := fun h w' => by
    obtain ⟨hok, ⟨hx1, hx2⟩, hy1, hy2⟩ := plOk_parts h
    have hp := arOk_parts hok
    obtain ⟨U, rfl⟩ := Int.eq_ofNat_of_zero_le hx1
    obtain ⟨V, rfl⟩ := Int.eq_ofNat_of_zero_le hy1
    rw [gfV_yes hok]
    unfold aaA
    rw [h, if_pos rfl, if_pos rfl]
    exact grCorr_any l.length (colsOf l) (atM l) hp.1 hp.2.1 (fun i j hi hj => arOk_ph hok i j hi hj) U V (by omega) (by omega) w'
  have hbd : (-64 ≤ aaA vx l x y ∧ aaA vx l x y ≤ 64) ∧ (-64 ≤ aaA vy l x y ∧ aaA vy l x y ≤ 64) := by
    unfold aaA
    cases h : plOk l x y with
    | false => rw [if_neg Bool.false_ne_true, if_neg Bool.false_ne_true]; omega
    | true =>
      rw [if_pos rfl, if_pos rfl]
      obtain ⟨hok, -⟩ := plOk_parts h
      have hp := arOk_parts hok
      have h1 := aaS_le vx vx_one l x.toNat y.toNat hp.2.1.2 l.length
      have h2 := aaS_le vy vy_one l x.toNat y.toNat hp.2.1.2 l.length
      omega
  have hz : plOk l x y = false → aaA vx l x y = 0 ∧ aaA vy l x y = 0 := fun h => by
    unfold aaA
    rw [h, if_neg Bool.false_ne_true, if_neg Bool.false_ne_true]; exact ⟨rfl, rfl⟩
  have HG := Lib.hid (gaussOf_wide (aaA vx l x y) (aaA vy l x y) hbd.1 hbd.2)
  have SC := Lib.hid (show (gfV l).size = 66 from grA_size _ _ _)
  have OC := Lib.hid (show (gfV l).all (·.oneCell') = true from grA_one _ _ _)
  have IC := Lib.hid (show (Try.prog.info? 53).map (·.size) = some (gfV l).size from infoGrA _ _ _)
  have ZZ := Lib.hid zeroGr
  have HC' := Lib.hid HC
  have HZ := Lib.hid hz
  obtain ⟨C, hC⟩ : ∃ C, C = gfV l := ⟨_, rfl⟩
  rw [← hC] at HF SC OC IC HP HC'
  obtain ⟨X, hX⟩ : ∃ X, X = aaA vx l x y := ⟨_, rfl⟩
  obtain ⟨Y, hY⟩ : ∃ X, X = aaA vy l x y := ⟨_, rfl⟩
  rw [← hX, ← hY] at HC' HG HZ ⊢
  obtain ⟨q, hq⟩ : ∃ q, q = plOk l x y := ⟨_, rfl⟩
  rw [← hq] at HP HC' HZ ⊢
  obtain ⟨fx, hfx⟩ : ∃ x, x = f32of X := ⟨_, rfl⟩
  obtain ⟨fy, hfy⟩ : ∃ x, x = f32of Y := ⟨_, rfl⟩
  rw [← hfx, ← hfy] at HC' HG
  obtain ⟨pa, cap, rfl⟩ := hv.slice
  clear hv hl hC hX hY hq hfx hfy HC hbd hz hz0
  go_enter Try.func16, Try.ntmps16
  go_wp2_with fail
  obtain ⟨w1, hw1⟩ : ∃ w1, w1 = w.alloc (.cells #[.int .i64 0, .int .i64 0] 28) := ⟨_, rfl⟩
  have Z1 := Lib.hid (show ZG w w1 by rw [hw1]; exact HZ0.out)
  rw [← hw1]
  clear hw1
  have B1 := Lib.hid Z1.out.below
  refine (HF.out _ B1.out).mono ?_
  rintro e w2 ⟨rfl, hb⟩
  have Z2 := Lib.hid (Z1.out.step hb)
  have B2 := Lib.hid (joins B1.out hb)
  clear hb
  have NZ := Lib.hid (Nat.ne_of_lt Z2.out.size)
  go_wp2_with (first
    | ((with_reducible refine at_op (d := some 8) (Op.alloc 53) ?_); refine wpList_alloc_row rfl 53 rfl (grA G0 0 0) (fun w => ZZ.out w) ?_; intro w3 hr hb hz; have Z3 := Lib.hid (Z2.out.step hb); have R3 := Lib.hid hr; have B3 := Lib.hid (joins B2.out hb); have L3 := Lib.hid (show w.heap.size ≤ w2.heap.size from B2.out.size); clear hr hb hz)
    | ((with_reducible refine at_op (Op.store 53 (.tmp 8) (.tmp 10)) ?_); refine wpList_put_row rfl 53 (.tmp 8) (.tmp 10) rfl (w2.heap.size) C rfl rfl 53 (grA G0 0 0) R3.out 66 infoGr SC.out (grA_size _ _ _) OC.out w.heap.size w B3.out L3.out ?_; intro w4 hr hs hb; have Z4 := Lib.hid (ZG.setAt Z3.out hs hb NZ.out); have R4 := Lib.hid hr; have B4 := Lib.hid hb; clear hr hs hb)
    | ((with_reducible refine at_op (Op.load 53 (.tmp 8)) ?_); refine wpList_load_part rfl 53 (.tmp 8) rfl (w2.heap.size) 0 rfl C C 53 (0, 0) _ R4.out (Part.self _) Try.underlying53 rfl IC.out ?_))
  refine (HP.out _).mono ?_
  rintro e w5 ⟨rfl, hb⟩
  have Z5 := Lib.hid (Z4.out.step hb)
  have R5 := Lib.hid (rowB R4.out hb)
  have B5 := Lib.hid (joins B4.out hb)
  clear hb
  cases q with
  | false =>
    have HXY := Lib.hid (HZ.out rfl)
    obtain ⟨z1, z2, z3, z4, z5, z6⟩ := Z5.out
    go_wp2_with fail
    (try simp only [Exit.inBlock, Exit.then])
    obtain ⟨d0, d2, d3⟩ := Z5.out.ret (.int .i64 0) (.int .i64 0)
    refine bodyPost_ret (by simp [results, Try.results16, go_sem, d0, d2]; try rfl) rfl ?_
    exact ⟨by rw [HXY.out.1, HXY.out.2], d3⟩
  | true =>
    go_wp2_with ((with_reducible refine at_op (Op.load 53 (.tmp 8)) ?_); refine wpList_load_part rfl 53 (.tmp 8) rfl (w2.heap.size) 0 rfl C C 53 (0, 0) _ R5.out (Part.self _) Try.underlying53 rfl IC.out ?_)
    refine (HC'.out (by trivial) _).mono ?_
    rintro e w6 ⟨rfl, hb⟩
    have Z6 := Lib.hid (Z5.out.step hb)
    clear hb
    go_wp2_with fail
    refine (HG.out _).mono ?_
    rintro e w7 ⟨rfl, hb⟩
    have Z7 := Lib.hid (Z6.out.step hb)
    clear hb
    obtain ⟨z1, z2, z3, z4, z5, z6⟩ := Z7.out
    go_wp2_with fail
    (try simp only [Exit.inBlock, Exit.then])
    obtain ⟨d0, d2, d3⟩ := Z7.out.ret (.int .i64 X) (.int .i64 Y)
    refine bodyPost_ret (by simp [results, Try.results16, go_sem, d0, d2]; try rfl) rfl ?_
    exact ⟨rfl, d3⟩
end Go.Proofs.Ytjoepdflbbcliab
