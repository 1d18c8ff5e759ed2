/- The program's shifted of arrays, and ShiftArray. -/
import Derived.Test.YtjoepdflbbcliabIGw
import Derived.Test.YtjoepdflbbcliabIGl
import Derived.Test.YtjoepdflbbcliabApp
import Derived.Test.YtjoepdflbbcliabIAa
namespace Go.Proofs.Ytjoepdflbbcliab
set_option maxRecDepth 100000
open Go.RowKit

set_option maxRecDepth 100000 in
set_option maxHeartbeats 2000000 in
theorem shift1_any (n m : Nat) (M : Nat → Nat → Int) (u v : Nat) (hn : 1 ≤ n ∧ n ≤ 8) (hm : 1 ≤ m ∧ m ≤ 8) (hu : u < n) (hv : v < m) (g0 g1 g2 : Nat) (w : World) (hg : w.heap[g0]? = some (.cells (grA (GV n m M) n m) 53 (0, 0)))
    (c1 : w.cell? ⟨g1, 0, none⟩ = some (.int .i64 u)) (c2 : w.cell? ⟨g2, 0, none⟩ = some (.int .i64 v)) (i j : Nat) (hi : i < n) (hj : j < m) :
    Calls Try.prog 78 #[.int .i64 i, .int .i64 j, .pointer (some ⟨g0, 0, none⟩), .pointer (some ⟨g1, 0, none⟩), .pointer (some ⟨g2, 0, none⟩)] w (Ret w (.int .i64 (M ((i + u) % n) ((j + v) % m)))) := by
  have IM := Lib.hid (infoGrA (GV n m M) n m)
  have HAR := Lib.hid (fun w' => show Calls Try.prog 67 #[.agg (grA (GV n m M) n m), .int .i64 ((i : Int) + u), .int .i64 ((j : Int) + v)] w' (Ret w' (.int .i64 (M ((i + u) % n) ((j + v) % m)))) by
    have h := around_any n m M ((i : Int) + u) ((j : Int) + v) hn hm (by omega) (by omega) w'
    rw [show (((i : Int) + u) % n).toNat = (i + u) % n from by rw [show (i : Int) + (u : Int) = ((i + u : Nat) : Int) by omega]; exact Int.toNat_natCast ((i + u) % n), show (((j : Int) + v) % m).toNat = (j + v) % m from by rw [show (j : Int) + (v : Int) = ((j + v : Nat) : Int) by omega]; exact Int.toNat_natCast ((j + v) % m)] at h
    exact h)
  obtain ⟨x, hx⟩ : ∃ x, x = M ((i + u) % n) ((j + v) % m) := ⟨_, rfl⟩
  rw [← hx] at HAR ⊢
  obtain ⟨C, hC⟩ : ∃ C, C = grA (GV n m M) n m := ⟨_, rfl⟩
  rw [← hC] at IM HAR hg
  have HG := Lib.hid hg
  obtain ⟨n1, n8⟩ := hn
  obtain ⟨m1, m8⟩ := hm
  clear hx hC hg
  go_enter Try.func78, Try.ntmps78
  go_wp2_with ((with_reducible refine at_op (Op.load 53 (.tmp 2)) ?_); refine wpList_load_part rfl 53 (.tmp 2) rfl g0 0 rfl C C 53 (0, 0) _ HG.out (Part.self _) Try.underlying53 rfl IM.out ?_)
  refine (HAR.out _).mono ?_
  rintro e w1 ⟨rfl, hb⟩
  go_wp2_with fail
  go_returns
  exact ⟨rfl, hb⟩
set_option maxRecDepth 100000 in
set_option maxHeartbeats 2000000 in
theorem grShifted_any (n m : Nat) (M : Nat → Nat → Int) (u v : Nat) (hn : 1 ≤ n ∧ n ≤ 8) (hm : 1 ≤ m ∧ m ≤ 8) (hM : ∀ i j, i < n → j < m → 0 ≤ M i j ∧ M i j ≤ 3) (hu : u < n) (hv : v < m) (w : World) :
    Calls Try.prog 58 #[.agg (grA (GV n m M) n m), .int .i64 u, .int .i64 v] w (Ret w (.agg (grA (GV n m (fun i j => M ((i + u) % n) ((j + v) % m))) n m))) := by
  have HGW := Lib.hid (fun (w' : World) (g0 g1 g2 : Nat) (hg : w'.heap[g0]? = some (.cells (grA (GV n m M) n m) 53 (0, 0))) (c1 : w'.cell? ⟨g1, 0, none⟩ = some (.int .i64 u)) (c2 : w'.cell? ⟨g2, 0, none⟩ = some (.int .i64 v)) =>
    show Calls Try.prog 48 #[.int .i64 n, .int .i64 m, .func (.func 78) #[] #[.pointer (some ⟨g0, 0, none⟩), .pointer (some ⟨g1, 0, none⟩), .pointer (some ⟨g2, 0, none⟩)]] w' (Ret w' (.agg (grA (GV n m (fun i j => M ((i + u) % n) ((j + v) % m))) n m))) by
    have hb : ∀ i j, i < n → j < m → 0 ≤ M ((i + u) % n) ((j + v) % m) ∧ M ((i + u) % n) ((j + v) % m) ≤ 3 := fun i j _ _ => hM _ _ (Nat.mod_lt _ (by omega)) (Nat.mod_lt _ (by omega))
    have h := gridWith_shifted n m (fun i j => M ((i + u) % n) ((j + v) % m)) hn hm (fun i j hi hj => by have := hb i j hi hj; omega) _ _ _ w' (fun w'' hb' i j hi hj => shift1_any n m M u v hn hm hu hv g0 g1 g2 w'' (rowB hg hb') (keepc hb' c1) (keepc hb' c2) i j hi hj)
    rw [GV_ext (fun i j hi hj => show M ((i + u) % n) ((j + v) % m) % 4 = M ((i + u) % n) ((j + v) % m) by have := hb i j hi hj; omega)] at h
    exact h)
  have HL := Lib.hid (grA_rows (GV n m M) n m)
  have HM := Lib.hid (grA_cols (GV n m M) n m)
  have ZZ := Lib.hid zeroGr
  obtain ⟨D, hD⟩ : ∃ D, D = grA (GV n m (fun i j => M ((i + u) % n) ((j + v) % m))) n m := ⟨_, rfl⟩
  have SC := Lib.hid (show D.size = 66 by rw [hD]; exact grA_size _ _ _)
  have OC := Lib.hid (show D.all (·.oneCell') = true by rw [hD]; exact grA_one _ _ _)
  have ID := Lib.hid (show (Try.prog.info? 53).map (·.size) = some D.size by rw [hD]; exact infoGrA _ _ _)
  rw [← hD] at HGW ⊢
  obtain ⟨C, hC⟩ : ∃ C, C = grA (GV n m M) n m := ⟨_, rfl⟩
  rw [← hC] at HL HM ⊢
  simp only [← hC] at HGW
  have B0 := Lib.hid (Below.refl w.heap.size w)
  clear hD hC hM hu hv hn hm
  go_enter Try.func58, Try.ntmps58
  go_wp2_with (first
    | ((with_reducible refine at_op (Op.box 53 (.tmp 0)) ?_); refine wpList_box_row rfl 53 (.tmp 0) rfl C rfl ?_; intro w1 hr hb hz; have R1 := Lib.hid hr; have B1 := Lib.hid (joins B0.out hb); clear hr hb hz)
    | ((with_reducible refine at_op (d := some 6) (Op.alloc 53) ?_); refine wpList_alloc_row rfl 53 rfl (grA G0 0 0) (fun w => ZZ.out w) ?_; intro w3 hr hb hz; have hbb := (show Below w1.heap.size w1 _ from belowa (belowa (Below.refl _ _) _) _).trans (hb.mono (by simp; omega)); have RG := Lib.hid (rowB R1.out hbb); have RR := Lib.hid hr; have B3 := Lib.hid (joins B1.out hbb); have C1 := Lib.hid (keepc hb (keepa _ (cell_new_one w1 (.int .i64 u) 3))); have C2 := Lib.hid (keepc hb (cell_new_one _ (.int .i64 v) 3)); have c0 := rowC RG.out HL.out; have c1 := rowC RG.out HM.out; clear hr hb hz hbb))
  have C2' := Lib.hid (show w3.cell? ⟨w1.heap.size + 1, 0, none⟩ = some (.int .i64 v) by have := C2.out; rwa [World.size_alloc] at this)
  have RR' := Lib.hid (show w3.heap[w1.heap.size + 1 + 1]? = some (.cells (grA G0 0 0) 53 (0, 0)) by have := RR.out; rwa [World.size_alloc, World.size_alloc] at this)
  have LG := Lib.hid (show w.heap.size ≤ w1.heap.size + 1 + 1 by have := B1.out.size; omega)
  clear C2 RR
  refine (HGW.out w3 w.heap.size w1.heap.size (w1.heap.size + 1) RG.out C1.out C2'.out).mono ?_
  rintro e w4 ⟨rfl, hb⟩
  have R4 := Lib.hid (rowB RR'.out hb)
  have B4 := Lib.hid (joins B3.out hb)
  clear hb
  go_wp2_with ((with_reducible refine at_op (Op.store 53 (.tmp 6) (.tmp 12)) ?_); refine wpList_put_row rfl 53 (.tmp 6) (.tmp 12) rfl _ D rfl rfl 53 (grA G0 0 0) R4.out 66 infoGr SC.out (grA_size _ _ _) OC.out w.heap.size w B4.out LG.out ?_; intro w5 hr hs hb; have R5 := Lib.hid hr; have B5 := Lib.hid hb; clear hr hs hb)
  refine bodyPost_ret (v := .agg D) ?_ rfl ⟨rfl, B5.out⟩
  exact results_cell_row Try.results58 _ _ (w1.heap.size + 1 + 1) 53 D (0, 0) _ rfl R5.out Try.underlying53 rfl ID.out

theorem saA_gen (l : List (List Int)) (U V : Nat) (hok : plOk l U V = true) : genR l.length (fun i => gen (colsOf l) (fun j => atM l ((i + U) % l.length) ((j + V) % colsOf l))) = saA l U V := by
  obtain ⟨hok2, -, -⟩ := plOk_parts hok
  obtain ⟨⟨p1, p2⟩, ⟨p3, p4⟩, hrows⟩ := arOk_parts hok2
  unfold saA
  rw [hok, if_pos rfl]
  unfold saL shiftG
  refine genR_ext (fun i hi => ?_)
  rw [show ((U : Int)).toNat = U from rfl, (hrows _ (Nat.mod_lt _ (by omega))).1]
  refine gen_ext (fun j hj => ?_)
  rw [show (((j : Nat) : Int) + (V : Int)) % (colsOf l : Int) = (((j + V) % colsOf l : Nat) : Int) by rw [show ((j : Nat) : Int) + (V : Int) = ((j + V : Nat) : Int) by omega]; rfl, Int.toNat_natCast]
  rfl
set_option maxRecDepth 100000 in
set_option maxHeartbeats 2000000 in
theorem ishiftArray (v : Value) (l : List (List Int)) (x y : Int) (w : World) (hv : IR w v l) (hl : sz2 l ≤ 1048576) : Calls Try.prog 30 #[v, .int .i64 x, .int .i64 y] w (MakesRB w (saA l x y) (plOk l x y)) := by
  have HF := Lib.hid (gridFrom_any v l w hv hl)
  have HP := Lib.hid (fun w' => show Calls Try.prog 40 #[.agg (gfV l), .int .i64 x, .int .i64 y] w' (Ret w' (.bool (plOk l x y))) by
    have h := grPlace_any (GV (gfN l) (gfM l) (atM l)) (gfN l) (gfM l) x y w'
    rw [plOk_place] at h
    exact h)
  have SC := Lib.hid (show (gfV l).size = 66 from grA_size _ _ _)
  have OC := Lib.hid (show (gfV l).all (·.oneCell') = true from grA_one _ _ _)
  have IC := Lib.hid (show (Try.prog.info? 53).map (·.size) = some (gfV l).size from infoGrA _ _ _)
  have ZZ := Lib.hid zeroGr
  obtain ⟨D, L, hL, HSH, HLI⟩ : ∃ (D : Array Value) (L : List (List Int)), saA l x y = L ∧ (plOk l x y = true → ∀ w', Calls Try.prog 58 #[.agg (gfV l), .int .i64 x, .int .i64 y] w' (Ret w' (.agg D))) ∧ (plOk l x y = true → ∀ w', Calls Try.prog 50 #[.agg D] w' (MakesRB w' L true)) := by
    cases h : plOk l x y with
    | false => exact ⟨#[], _, rfl, ⟨fun h => (Bool.false_ne_true h).elim, fun h => (Bool.false_ne_true h).elim⟩⟩
    | true =>
      obtain ⟨hok, ⟨hx1, hx2⟩, hy1, hy2⟩ := plOk_parts h
      have hp := arOk_parts hok
      obtain ⟨U, rfl⟩ := Int.eq_ofNat_of_zero_le hx1
      obtain ⟨V, rfl⟩ := Int.eq_ofNat_of_zero_le hy1
      refine ⟨grA (GV l.length (colsOf l) (fun i j => atM l ((i + U) % l.length) ((j + V) % colsOf l))) l.length (colsOf l), _, rfl, fun _ w' => ?_, fun _ w' => ?_⟩
      · rw [gfV_yes hok]
        exact grShifted_any l.length (colsOf l) (atM l) U V hp.1 hp.2.1 (fun i j hi hj => arOk_ph hok i j hi hj) (by omega) (by omega) w'
      · have h2 := grLists_any l.length (colsOf l) (fun i j => atM l ((i + U) % l.length) ((j + V) % colsOf l)) hp.1.2 (fun _ => hp.2.1) w'
        rw [decide_eq_true hp.1.1, saA_gen l U V h] at h2
        exact h2
  have hz : plOk l x y = false → L = [] := fun h => by rw [← hL]; unfold saA; rw [h]; rfl
  rw [hL]
  have HZ := Lib.hid hz
  have HS := Lib.hid HSH
  have HLS := Lib.hid HLI
  obtain ⟨C, hC⟩ : ∃ C, C = gfV l := ⟨_, rfl⟩
  rw [← hC] at HF SC OC IC HP HS
  obtain ⟨q, hq⟩ : ∃ q, q = plOk l x y := ⟨_, rfl⟩
  rw [← hq] at HP HS HLS HZ ⊢
  obtain ⟨pa, cap, rfl⟩ := hv.slice
  clear hv hl hC hq hL HSH HLI hz
  go_enter Try.func30, Try.ntmps30
  go_wp2_with fail
  refine (HF.out).mono ?_
  rintro e w2 ⟨rfl, hb⟩
  have B2 := Lib.hid hb
  clear hb
  go_wp2_with (first
    | ((with_reducible refine at_op (d := some 8) (Op.alloc 53) ?_); refine wpList_alloc_row rfl 53 rfl (grA G0 0 0) (fun w => ZZ.out w) ?_; intro w3 hr hb hz; have R3 := Lib.hid hr; have B3 := Lib.hid (joins B2.out hb); have L3 := Lib.hid (show w.heap.size ≤ w2.heap.size from B2.out.size); clear hr hb hz)
    | ((with_reducible refine at_op (Op.store 53 (.tmp 8) (.tmp 10)) ?_); refine wpList_put_row rfl 53 (.tmp 8) (.tmp 10) rfl (w2.heap.size) C rfl rfl 53 (grA G0 0 0) R3.out 66 infoGr SC.out (grA_size _ _ _) OC.out w.heap.size w B3.out L3.out ?_; intro w4 hr hs hb; have R4 := Lib.hid hr; have B4 := Lib.hid hb; clear hr hs hb)
    | ((with_reducible refine at_op (Op.load 53 (.tmp 8)) ?_); refine wpList_load_part rfl 53 (.tmp 8) rfl (w2.heap.size) 0 rfl C C 53 (0, 0) _ R4.out (Part.self _) Try.underlying53 rfl IC.out ?_))
  refine (HP.out _).mono ?_
  rintro e w5 ⟨rfl, hb⟩
  have R5 := Lib.hid (rowB R4.out hb)
  have B5 := Lib.hid (joins B4.out hb)
  clear hb
  cases q with
  | false =>
    have HE := Lib.hid (HZ.out rfl)
    go_wp2_with fail
    go_returns
    refine ⟨_, rfl, ?_, B5.out⟩
    rw [HE.out]
    exact OwnR.nil _ _
  | true =>
    go_wp2_with ((with_reducible refine at_op (Op.load 53 (.tmp 8)) ?_); refine wpList_load_part rfl 53 (.tmp 8) rfl (w2.heap.size) 0 rfl C C 53 (0, 0) _ R5.out (Part.self _) Try.underlying53 rfl IC.out ?_)
    refine (HS.out (by trivial) _).mono ?_
    rintro e w6 ⟨rfl, hb⟩
    have B6 := Lib.hid (joins B5.out hb)
    clear hb
    go_wp2_with fail
    refine (HLS.out (by trivial) _).mono ?_
    rintro e w7 ⟨v7, rfl, ho, hb⟩
    have HO := Lib.hid (ho.mono B6.out.size)
    have B7 := Lib.hid (joins B6.out hb)
    clear ho hb
    go_wp2_with fail
    go_returns
    exact ⟨_, rfl, HO.out, B7.out⟩
end Go.Proofs.Ytjoepdflbbcliab
