/- The program's lists of correlations. -/
import Derived.Test.YtmckophclehkpaaIAp
import Derived.Test.YtmckophclehkpaaPer
import Derived.Test.YtmckophclehkpaaCoL
namespace Go.Proofs.Ytmckophclehkpaa
open Go.RowKit

theorem zerosG (n : Nat) : (madeCells #[.int .i64 0, .int .i64 0] (n * 2)).toList = fl (List.replicate n (0, 0)) := by
  apply List.ext_getElem?
  intro i
  have hl : (fl (List.replicate n ((0 : Int), (0 : Int)))).length = n * 2 := by rw [fl_length, List.length_replicate]
  by_cases h : i < n * 2
  · have hq : i / 2 < (List.replicate n ((0 : Int), (0 : Int))).length := by rw [List.length_replicate]; omega
    have e0 : gre (List.replicate n ((0 : Int), (0 : Int))) (i / 2) = 0 := by simp [gre, List.getD, List.getElem?_replicate]; split <;> rfl
    have e1 : gim (List.replicate n ((0 : Int), (0 : Int))) (i / 2) = 0 := by simp [gim, List.getD, List.getElem?_replicate]; split <;> rfl
    have hm : (madeCells #[Value.int .i64 0, .int .i64 0] (n * 2)).toList[i]? = some (.int .i64 0) := by
      rcases (show i % 2 = 0 ∨ i % 2 = 1 by omega) with e | e <;> simp [madeCells, h, e]
    rw [hm]
    rcases (show i = i / 2 * 2 ∨ i = i / 2 * 2 + 1 by omega) with e | e
    · rw [e, fl_re _ _ hq, e0]
    · rw [e, fl_im _ _ hq, e1]
  · rw [List.getElem?_eq_none (by simp [madeCells]; omega), List.getElem?_eq_none (by omega)]
theorem genG_set (n : Nat) (X Y : Nat → Int) (k : Nat) (h : k < n) : (genG k X Y ++ List.replicate (n - k) (0, 0)).set k (X k, Y k) = genG (k + 1) X Y ++ List.replicate (n - (k + 1)) (0, 0) := by
  rw [List.set_append_right _ _ (by rw [genG_length]; exact Nat.le_refl _), genG_length, Nat.sub_self, genG_succ]
  rw [show n - k = (n - (k + 1)) + 1 by omega, List.replicate_succ, List.set_cons_zero, List.append_assoc]
  rfl
theorem genG_pad_len (n : Nat) (X Y : Nat → Int) (k : Nat) (h : k ≤ n) : (genG k X Y ++ List.replicate (n - k) ((0 : Int), (0 : Int))).length = n := by simp [genG_length]; omega

set_option maxRecDepth 100000 in
set_option maxHeartbeats 2000000 in
theorem corr_ap (CA CB : Array Value) (hsa : CA.size = 33) (hsb : CB.size = 33) (F0 L : Int) (n : Nat) (hLn : L - F0 + 1 = n) (hF1 : -32 ≤ F0) (hF2 : F0 ≤ 32) (hn : n ≤ 64) (X Y : Nat → Int) (hX : ∀ k, -32 ≤ X k ∧ X k ≤ 32) (hY : ∀ k, -32 ≤ Y k ∧ Y k ≤ 32)
    (HA : ∀ k : Nat, k < n → ∀ w, Calls Try.prog 38 #[.agg CA, .agg CB, .int .i64 (F0 + (k : Int))] w (Ret w (.complex .f32 (f32of (X k)) (f32of (Y k))))) (w : World) :
    Calls Try.prog 44 #[.agg CA, .agg CB, .int .i64 F0, .int .i64 L, .func (.func 38) #[] #[]] w (MakesG w (genG n X Y)) := by
  obtain ⟨i0, hi, hz0, hz1, hz2⟩ := info_parts infoG
  have HGO : ∀ k : Nat, ∀ w, Calls Try.prog 37 #[.complex .f32 (f32of (X k)) (f32of (Y k))] w (Ret w (.agg #[.int .i64 (X k), .int .i64 (Y k)])) := fun k w => gaussOf_any _ _ (by have := hX k; omega) (by have := hX k; omega) (by have := hY k; omega) (by have := hY k; omega) w
  have hia : (Try.prog.info? 47).map (·.size) = some CA.size := by rw [hsa]; exact infoPh
  have hib : (Try.prog.info? 47).map (·.size) = some CB.size := by rw [hsb]; exact infoPh
  have hL1 : -100 ≤ L := by omega
  have hL2 : L ≤ 100 := by omega
  have HA' := Lib.hid HA
  have HGO' := Lib.hid HGO
  have HIA := Lib.hid hia
  have HIB := Lib.hid hib
  clear HA HGO hia hib hsa hsb hX hY
  go_enter Try.func44, Try.ntmps44
  go_wp2_with (at_make; refine wpList_make_full _ rfl _ _ 31 rfl w.heap.size 24 i0 (.agg #[.int .i64 0, .int .i64 0]) 2 Try.underlying31 hi hz0 hz1 _ _ _ _ n rfl rfl rfl rfl ?b2 ?b3 (by simp; omega) ?_)
  case b2 => rw [hz2]; omega
  case b3 => unfold maxLen; omega
  intro w0 hown0 hgrow0
  rw [zerosG] at hown0
  have hbA : w0.heap[w.heap.size]? = some (.cells CA 47 (0, 0)) := by rw [hgrow0.block w.heap.size (by simp; omega) (by simp)]; exact heap_alloc2_old w _ _
  have hbB : w0.heap[w.heap.size + 1]? = some (.cells CB 47 (0, 0)) := by rw [hgrow0.block (w.heap.size + 1) (by simp) (by simp)]; exact heap_alloc2_new w _ _
  have hbel0 : Below w.heap.size w w0 := (belowa (belowa (Below.refl _ _) _) _).grown hgrow0 (by simp; omega) (fun k h => by cases h)
  have HA0 := Lib.hid hbA
  have HB0 := Lib.hid hbB
  have HBEL0 := Lib.hid hbel0
  have HO0 := Lib.hid hown0
  clear hbA hbB hbel0 hown0 hgrow0 hi hz0 hz1 hz2 hLn
  go_wp2_with fail
  go_loopw [20] (fun i wr => ∃ k : Nat, k ≤ n ∧ i = .int .i64 k ∧ wr.ownsRow w.heap.size 24 2 (.slice (some ⟨w.heap.size + 1 + 1, 0, none⟩) n n) n (fl (genG k X Y ++ List.replicate (n - k) (0, 0))) ∧ wr.heap[w.heap.size]? = some (.cells CA 47 (0, 0)) ∧ wr.heap[w.heap.size + 1]? = some (.cells CB 47 (0, 0)) ∧ Below w.heap.size w wr) (fun i _ => n - (intOf i).toNat)
  case atStart => exact ⟨0, Nat.zero_le _, rfl, HO0.out, HA0.out, HB0.out, HBEL0.out⟩
  case round =>
    obtain ⟨k, hk, rfl, hown, hbA, hbB, hbel⟩ := hrel
    have HRA := Lib.hid hbA
    have HRB := Lib.hid hbB
    have HBEL := Lib.hid hbel
    have HO := Lib.hid hown
    clear hbA hbB hbel hown
    by_cases hlt : k < n
    · have h0 : (0 : Int) ≤ (k : Int) := by omega
      have h1 : (k : Int) < (n : Int) := by omega
      have HAk := Lib.hid (HA'.out k hlt)
      have HGk := Lib.hid (HGO'.out k)
      have hset := genG_set n X Y k hlt
      obtain ⟨x, hx⟩ : ∃ x, x = X k := ⟨_, rfl⟩
      obtain ⟨y, hy⟩ : ∃ y, y = Y k := ⟨_, rfl⟩
      obtain ⟨fx, hfx⟩ : ∃ z, z = f32of x := ⟨_, rfl⟩
      obtain ⟨fy, hfy⟩ : ∃ z, z = f32of y := ⟨_, rfl⟩
      rw [← hx, ← hy] at HAk HGk hset
      rw [← hfx, ← hfy] at HAk HGk
      have HSET := Lib.hid hset
      clear hx hy hfx hfy hset
      go_wp2_with (first
        | (refine wpList_load_row rfl 47 (.tmp 5) rfl w.heap.size rfl 47 CA (0, 0) _ HRA.out Try.underlying47 rfl HIA.out ?_)
        | (refine wpList_load_row rfl 47 (.tmp 6) rfl (w.heap.size + 1) rfl 47 CB (0, 0) _ HRB.out Try.underlying47 rfl HIB.out ?_))
      refine (HAk.out _).mono ?_
      rintro e w2 ⟨rfl, hb2⟩
      have HO2 := Lib.hid (rowBelow HO.out hb2)
      have HRA2 := Lib.hid ((hb2.block w.heap.size (Array.getElem?_eq_some_iff.1 HRA.out).1).trans HRA.out)
      have HRB2 := Lib.hid ((hb2.block (w.heap.size + 1) (Array.getElem?_eq_some_iff.1 HRB.out).1).trans HRB.out)
      have HBEL2 := Lib.hid (joins HBEL.out hb2)
      clear hb2
      go_wp2_with fail
      refine (HGk.out _).mono ?_
      rintro e w3 ⟨rfl, hb3⟩
      have ho3 := rowBelow HO2.out hb3
      have hl := genG_pad_len n X Y k hk
      have c1 : w3.cell? ⟨w.heap.size + 1 + 1, k * 2, none⟩ = some (.int .i64 (gre (genG k X Y ++ List.replicate (n - k) (0, 0)) k)) := by
        rw [ho3.cellAt (k * 2) (by omega)]
        exact fl_re _ k (by omega)
      have c2 : w3.cell? ⟨w.heap.size + 1 + 1, k * 2 + 1, none⟩ = some (.int .i64 (gim (genG k X Y ++ List.replicate (n - k) (0, 0)) k)) := by
        rw [ho3.cellAt (k * 2 + 1) (by omega)]
        exact fl_im _ k (by omega)
      obtain ⟨u1, hu1⟩ : ∃ x, x = gre (genG k X Y ++ List.replicate (n - k) (0, 0)) k := ⟨_, rfl⟩
      obtain ⟨u2, hu2⟩ : ∃ x, x = gim (genG k X Y ++ List.replicate (n - k) (0, 0)) k := ⟨_, rfl⟩
      rw [← hu1] at c1
      rw [← hu2] at c2
      have f1 := ho3.frozenAt (k * 2)
      have f2 := ho3.frozenAt (k * 2 + 1)
      have HO3 := Lib.hid ho3
      have HRA3 := Lib.hid ((hb3.block w.heap.size (Array.getElem?_eq_some_iff.1 HRA2.out).1).trans HRA2.out)
      have HRB3 := Lib.hid ((hb3.block (w.heap.size + 1) (Array.getElem?_eq_some_iff.1 HRB2.out).1).trans HRB2.out)
      have HBEL3 := Lib.hid (joins HBEL2.out hb3)
      clear hb3 ho3 hl hu1 hu2
      go_wp2_with fail
      go_roundw
      case rel =>
        have hs := HO3.out.stored (k * 2) (.int .i64 x)
        have hs2 := hs.1.stored (k * 2 + 1) (.int .i64 y)
        rw [fl_set2 _ k (by rw [genG_pad_len n X Y k hk]; exact hlt), HSET.out] at hs2
        exact ⟨k + 1, by omega, by go_num, hs2.1, (heap_setCell_other _ _ _ _ (by simp; omega)).trans ((heap_setCell_other _ _ _ _ (by simp; omega)).trans HRA3.out), (heap_setCell_other _ _ _ _ (by simp)).trans ((heap_setCell_other _ _ _ _ (by simp)).trans HRB3.out), belows (belows HBEL3.out (by simp; omega) _) (by simp; omega) _⟩
      case measure => simp [intOf]; omega
    · have he : k = n := by omega
      subst he
      go_wp2_with fail
      go_returns
      have := HO.out
      rw [Nat.sub_self, List.replicate_zero, List.append_nil] at this
      exact ⟨_, rfl, by unfold OwnG; rw [genG_length]; exact this, HBEL.out⟩

set_option maxRecDepth 100000 in
set_option maxHeartbeats 2000000 in
theorem corr_pe (CA CB : Array Value) (hsa : CA.size = 33) (hsb : CB.size = 33) (F0 L : Int) (n : Nat) (hLn : L - F0 + 1 = n) (hF1 : -32 ≤ F0) (hF2 : F0 ≤ 32) (hn : n ≤ 64) (X Y : Nat → Int) (hX : ∀ k, -32 ≤ X k ∧ X k ≤ 32) (hY : ∀ k, -32 ≤ Y k ∧ Y k ≤ 32)
    (HA : ∀ k : Nat, k < n → ∀ w, Calls Try.prog 40 #[.agg CA, .agg CB, .int .i64 (F0 + (k : Int))] w (Ret w (.complex .f32 (f32of (X k)) (f32of (Y k))))) (w : World) :
    Calls Try.prog 44 #[.agg CA, .agg CB, .int .i64 F0, .int .i64 L, .func (.func 40) #[] #[]] w (MakesG w (genG n X Y)) := by
  obtain ⟨i0, hi, hz0, hz1, hz2⟩ := info_parts infoG
  have HGO : ∀ k : Nat, ∀ w, Calls Try.prog 37 #[.complex .f32 (f32of (X k)) (f32of (Y k))] w (Ret w (.agg #[.int .i64 (X k), .int .i64 (Y k)])) := fun k w => gaussOf_any _ _ (by have := hX k; omega) (by have := hX k; omega) (by have := hY k; omega) (by have := hY k; omega) w
  have hia : (Try.prog.info? 47).map (·.size) = some CA.size := by rw [hsa]; exact infoPh
  have hib : (Try.prog.info? 47).map (·.size) = some CB.size := by rw [hsb]; exact infoPh
  have hL1 : -100 ≤ L := by omega
  have hL2 : L ≤ 100 := by omega
  have HA' := Lib.hid HA
  have HGO' := Lib.hid HGO
  have HIA := Lib.hid hia
  have HIB := Lib.hid hib
  clear HA HGO hia hib hsa hsb hX hY
  go_enter Try.func44, Try.ntmps44
  go_wp2_with (at_make; refine wpList_make_full _ rfl _ _ 31 rfl w.heap.size 24 i0 (.agg #[.int .i64 0, .int .i64 0]) 2 Try.underlying31 hi hz0 hz1 _ _ _ _ n rfl rfl rfl rfl ?b2 ?b3 (by simp; omega) ?_)
  case b2 => rw [hz2]; omega
  case b3 => unfold maxLen; omega
  intro w0 hown0 hgrow0
  rw [zerosG] at hown0
  have hbA : w0.heap[w.heap.size]? = some (.cells CA 47 (0, 0)) := by rw [hgrow0.block w.heap.size (by simp; omega) (by simp)]; exact heap_alloc2_old w _ _
  have hbB : w0.heap[w.heap.size + 1]? = some (.cells CB 47 (0, 0)) := by rw [hgrow0.block (w.heap.size + 1) (by simp) (by simp)]; exact heap_alloc2_new w _ _
  have hbel0 : Below w.heap.size w w0 := (belowa (belowa (Below.refl _ _) _) _).grown hgrow0 (by simp; omega) (fun k h => by cases h)
  have HA0 := Lib.hid hbA
  have HB0 := Lib.hid hbB
  have HBEL0 := Lib.hid hbel0
  have HO0 := Lib.hid hown0
  clear hbA hbB hbel0 hown0 hgrow0 hi hz0 hz1 hz2 hLn
  go_wp2_with fail
  go_loopw [20] (fun i wr => ∃ k : Nat, k ≤ n ∧ i = .int .i64 k ∧ wr.ownsRow w.heap.size 24 2 (.slice (some ⟨w.heap.size + 1 + 1, 0, none⟩) n n) n (fl (genG k X Y ++ List.replicate (n - k) (0, 0))) ∧ wr.heap[w.heap.size]? = some (.cells CA 47 (0, 0)) ∧ wr.heap[w.heap.size + 1]? = some (.cells CB 47 (0, 0)) ∧ Below w.heap.size w wr) (fun i _ => n - (intOf i).toNat)
  case atStart => exact ⟨0, Nat.zero_le _, rfl, HO0.out, HA0.out, HB0.out, HBEL0.out⟩
  case round =>
    obtain ⟨k, hk, rfl, hown, hbA, hbB, hbel⟩ := hrel
    have HRA := Lib.hid hbA
    have HRB := Lib.hid hbB
    have HBEL := Lib.hid hbel
    have HO := Lib.hid hown
    clear hbA hbB hbel hown
    by_cases hlt : k < n
    · have h0 : (0 : Int) ≤ (k : Int) := by omega
      have h1 : (k : Int) < (n : Int) := by omega
      have HAk := Lib.hid (HA'.out k hlt)
      have HGk := Lib.hid (HGO'.out k)
      have hset := genG_set n X Y k hlt
      obtain ⟨x, hx⟩ : ∃ x, x = X k := ⟨_, rfl⟩
      obtain ⟨y, hy⟩ : ∃ y, y = Y k := ⟨_, rfl⟩
      obtain ⟨fx, hfx⟩ : ∃ z, z = f32of x := ⟨_, rfl⟩
      obtain ⟨fy, hfy⟩ : ∃ z, z = f32of y := ⟨_, rfl⟩
      rw [← hx, ← hy] at HAk HGk hset
      rw [← hfx, ← hfy] at HAk HGk
      have HSET := Lib.hid hset
      clear hx hy hfx hfy hset
      go_wp2_with (first
        | (refine wpList_load_row rfl 47 (.tmp 5) rfl w.heap.size rfl 47 CA (0, 0) _ HRA.out Try.underlying47 rfl HIA.out ?_)
        | (refine wpList_load_row rfl 47 (.tmp 6) rfl (w.heap.size + 1) rfl 47 CB (0, 0) _ HRB.out Try.underlying47 rfl HIB.out ?_))
      refine (HAk.out _).mono ?_
      rintro e w2 ⟨rfl, hb2⟩
      have HO2 := Lib.hid (rowBelow HO.out hb2)
      have HRA2 := Lib.hid ((hb2.block w.heap.size (Array.getElem?_eq_some_iff.1 HRA.out).1).trans HRA.out)
      have HRB2 := Lib.hid ((hb2.block (w.heap.size + 1) (Array.getElem?_eq_some_iff.1 HRB.out).1).trans HRB.out)
      have HBEL2 := Lib.hid (joins HBEL.out hb2)
      clear hb2
      go_wp2_with fail
      refine (HGk.out _).mono ?_
      rintro e w3 ⟨rfl, hb3⟩
      have ho3 := rowBelow HO2.out hb3
      have hl := genG_pad_len n X Y k hk
      have c1 : w3.cell? ⟨w.heap.size + 1 + 1, k * 2, none⟩ = some (.int .i64 (gre (genG k X Y ++ List.replicate (n - k) (0, 0)) k)) := by
        rw [ho3.cellAt (k * 2) (by omega)]
        exact fl_re _ k (by omega)
      have c2 : w3.cell? ⟨w.heap.size + 1 + 1, k * 2 + 1, none⟩ = some (.int .i64 (gim (genG k X Y ++ List.replicate (n - k) (0, 0)) k)) := by
        rw [ho3.cellAt (k * 2 + 1) (by omega)]
        exact fl_im _ k (by omega)
      obtain ⟨u1, hu1⟩ : ∃ x, x = gre (genG k X Y ++ List.replicate (n - k) (0, 0)) k := ⟨_, rfl⟩
      obtain ⟨u2, hu2⟩ : ∃ x, x = gim (genG k X Y ++ List.replicate (n - k) (0, 0)) k := ⟨_, rfl⟩
      rw [← hu1] at c1
      rw [← hu2] at c2
      have f1 := ho3.frozenAt (k * 2)
      have f2 := ho3.frozenAt (k * 2 + 1)
      have HO3 := Lib.hid ho3
      have HRA3 := Lib.hid ((hb3.block w.heap.size (Array.getElem?_eq_some_iff.1 HRA2.out).1).trans HRA2.out)
      have HRB3 := Lib.hid ((hb3.block (w.heap.size + 1) (Array.getElem?_eq_some_iff.1 HRB2.out).1).trans HRB2.out)
      have HBEL3 := Lib.hid (joins HBEL2.out hb3)
      clear hb3 ho3 hl hu1 hu2
      go_wp2_with fail
      go_roundw
      case rel =>
        have hs := HO3.out.stored (k * 2) (.int .i64 x)
        have hs2 := hs.1.stored (k * 2 + 1) (.int .i64 y)
        rw [fl_set2 _ k (by rw [genG_pad_len n X Y k hk]; exact hlt), HSET.out] at hs2
        exact ⟨k + 1, by omega, by go_num, hs2.1, (heap_setCell_other _ _ _ _ (by simp; omega)).trans ((heap_setCell_other _ _ _ _ (by simp; omega)).trans HRA3.out), (heap_setCell_other _ _ _ _ (by simp)).trans ((heap_setCell_other _ _ _ _ (by simp)).trans HRB3.out), belows (belows HBEL3.out (by simp; omega) _) (by simp; omega) _⟩
      case measure => simp [intOf]; omega
    · have he : k = n := by omega
      subst he
      go_wp2_with fail
      go_returns
      have := HO.out
      rw [Nat.sub_self, List.replicate_zero, List.append_nil] at this
      exact ⟨_, rfl, by unfold OwnG; rw [genG_length]; exact this, HBEL.out⟩
end Go.Proofs.Ytmckophclehkpaa
