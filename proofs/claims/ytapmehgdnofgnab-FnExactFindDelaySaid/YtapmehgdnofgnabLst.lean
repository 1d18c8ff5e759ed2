/- The program's list of a signal of up to 64 numbers. -/
import Derived.Test.YtapmehgdnofgnabISl
import Derived.Test.YtapmehgdnofgnabTfM
import Derived.Test.YtapmehgdnofgnabFx
namespace Go.Proofs.Ytapmehgdnofgnab
set_option maxRecDepth 100000
open Go.RowKit

set_option maxRecDepth 100000 in
set_option maxHeartbeats 2000000 in
theorem listW_any (g n : Nat) (B : Nat) (C : Nat → Nat × Nat) (X Y : Nat → Int) (h : ∀ i, i < n → floatToIntVal .f32 (C i).1 .i64 = some (X i) ∧ floatToIntVal .f32 (C i).2 .i64 = some (Y i)) (h32 : n ≤ 64) (w : World) (hr : RowC w B g n C) :
    Calls Try.prog 86 #[.slice (some ⟨g, 0, none⟩) n n] w (MakesGB w (if goodL (genG n X Y) then genG n X Y else []) (goodL (genG n X Y))) := by
  obtain ⟨i0, hi, hz0, hz1, hz2⟩ := info_parts infoG
  obtain ⟨L, hL⟩ : ∃ L, L = genG n X Y := ⟨_, rfl⟩
  rw [← hL]
  obtain ⟨L2, hL2⟩ : ∃ L2, L2 = (if goodL L then L else []) := ⟨_, rfl⟩
  rw [← hL2]
  obtain ⟨q, hq⟩ : ∃ q, q = goodL L := ⟨_, rfl⟩
  rw [← hq]
  have HL := Lib.hid (And.intro hL (And.intro hL2 hq))
  have HI := Lib.hid h
  have HR := Lib.hid hr
  clear hL hL2 hq h hr
  go_enter Try.func86, Try.ntmps86
  go_wp2_with (at_make; refine wpList_make_full _ rfl _ _ 29 rfl w.heap.size 26 i0 (.agg #[.int .i64 0, .int .i64 0]) 2 Try.underlying29 hi hz0 hz1 _ _ _ _ n rfl rfl rfl rfl ?b2 ?b3 (Nat.le_refl _) ?_)
  case b2 => rw [hz2]; omega
  case b3 => unfold maxLen; omega
  intro w0 hown0 hgrow0
  have hown1 : w0.ownsRow w.heap.size 26 2 (.slice (some ⟨w.heap.size, 0, none⟩) n n) n (fl (upG n 0 X Y)) := by
    rw [upG_zero, ← flR_zeros]; exact hown0
  have HO0 := Lib.hid hown1
  have HB0 := Lib.hid (show Below w.heap.size w w0 from (Below.refl _ _).grown hgrow0 (Nat.le_refl _) (fun k h => by cases h))
  clear hown0 hown1 hgrow0
  go_wp2_with fail
  go_loopw [12] (fun i wr => ∃ j : Nat, j ≤ n ∧ i = .int .i64 j ∧ wr.ownsRow w.heap.size 26 2 (.slice (some ⟨w.heap.size, 0, none⟩) n n) n (fl (upG n j X Y)) ∧ Below w.heap.size w wr) (fun i _ => n - (intOf i).toNat)
  case atStart => exact ⟨0, Nat.zero_le _, rfl, HO0.out, HB0.out⟩
  case round =>
    obtain ⟨j, hj, rfl, hown, hbel⟩ := hrel
    have HB := Lib.hid hbel
    have HO := Lib.hid hown
    clear hown hbel
    by_cases hlt : j < n
    · obtain ⟨f1, f2⟩ := HI.out j hlt
      have c0 := (HR.out.below HB.out).cell j hlt
      obtain ⟨p1, hp1⟩ : ∃ p, p = (C j).1 := ⟨_, rfl⟩
      obtain ⟨p2, hp2⟩ : ∃ p, p = (C j).2 := ⟨_, rfl⟩
      obtain ⟨x, hx⟩ : ∃ x, x = X j := ⟨_, rfl⟩
      obtain ⟨y, hy⟩ : ∃ y, y = Y j := ⟨_, rfl⟩
      rw [← hp1, ← hp2] at c0
      rw [← hp1, ← hx] at f1
      rw [← hp2, ← hy] at f2
      have HT := Lib.hid (gaussOf_int p1 p2 x y f1 f2)
      have HX := Lib.hid (And.intro hx hy)
      have h0 : (0 : Int) ≤ (j : Int) := by omega
      have hlt1 : (j : Int) < (n : Int) := by omega
      clear hx hy hp1 hp2 f1 f2
      go_wp2_with fail
      refine (HT.out _).mono ?_
      rintro e w1 ⟨rfl, hb⟩
      have HB1 := Lib.hid (joins HB.out hb)
      have hO1 := rowBelow HO.out hb
      have HO1 := Lib.hid hO1
      have c1 : w1.cell? ⟨w.heap.size, j * 2, none⟩ = some (.int .i64 (gre (upG n j X Y) j)) := by
        rw [hO1.cellAt (j * 2) (by omega)]
        exact fl_re _ j (by rw [upG_length]; omega)
      have c2 : w1.cell? ⟨w.heap.size, j * 2 + 1, none⟩ = some (.int .i64 (gim (upG n j X Y) j)) := by
        rw [hO1.cellAt (j * 2 + 1) (by omega)]
        exact fl_im _ j (by rw [upG_length]; omega)
      rw [upG_re n j X Y j hlt, if_neg (Nat.lt_irrefl _)] at c1
      rw [upG_im n j X Y j hlt, if_neg (Nat.lt_irrefl _)] at c2
      have f1 := hO1.frozenAt (j * 2)
      have f2 := hO1.frozenAt (j * 2 + 1)
      clear hb hO1 c0
      go_wp2_with fail
      go_roundw
      case rel =>
        have hs := HO1.out.stored (j * 2) (.int .i64 x)
        have hs2 := hs.1.stored (j * 2 + 1) (.int .i64 y)
        rw [fl_set2 _ j (by rw [upG_length]; exact hlt), HX.out.1, HX.out.2, upG_set n j X Y hlt] at hs2
        rw [← HX.out.1, ← HX.out.2] at hs2
        exact ⟨j + 1, by omega, by go_num, hs2.1, belows (belows HB1.out (Nat.le_refl _) _) (Nat.le_refl _) _⟩
      case measure => simp [intOf]; omega
    · obtain rfl : j = n := by omega
      have hO : OwnG wr w.heap.size (.slice (some ⟨w.heap.size, 0, none⟩) j j) L := by
        have := HO.out
        rw [upG_all] at this
        rw [HL.out.1]
        unfold OwnG
        rw [genG_length]
        exact this
      have HOG := Lib.hid hO
      have HV := Lib.hid (listIfValid_any _ L wr hO.is)
      rw [← HL.out.2.2] at HV
      clear hO
      go_wp2_with fail
      refine (HV.out).mono ?_
      rintro e w1 ⟨rfl, hb⟩
      cases q with
      | true =>
        rw [if_pos rfl]
        have hL2 : L2 = L := by rw [HL.out.2.1, ← HL.out.2.2]; rfl
        have HOG1 := Lib.hid (HOG.out.below hb)
        have HB1 := Lib.hid (joins HB.out hb)
        clear hb
        have HE := Lib.hid hL2
        clear hL2
        go_wp2_with fail
        go_returns
        refine ⟨_, rfl, ?_, HB1.out⟩
        rw [HE.out]
        exact HOG1.out
      | false =>
        rw [if_neg Bool.false_ne_true]
        have hL2 : L2 = [] := by rw [HL.out.2.1, ← HL.out.2.2]; rfl
        have HB1 := Lib.hid (joins HB.out hb)
        clear hb
        have HE := Lib.hid hL2
        clear hL2
        go_wp2_with fail
        go_returns
        refine ⟨_, rfl, ?_, HB1.out⟩
        rw [HE.out]
        exact OwnG.nil _ _
theorem listG_any (g n : Nat) (B : Nat) (C : Nat → Nat × Nat) (X Y : Nat → Int) (hz : CZ C X Y n) (hg : goodL (genG n X Y) = true) (h32 : n ≤ 64) (w : World) (hr : RowC w B g n C) :
    Calls Try.prog 86 #[.slice (some ⟨g, 0, none⟩) n n] w (MakesGB w (genG n X Y) true) := by
  have := listW_any g n B C X Y (fun i hi => by
    have hgi := good_in (goodL_at hg i (by rw [genG_length]; exact hi))
    rw [genG_re _ _ _ _ hi, genG_im _ _ _ _ hi] at hgi
    exact ⟨FN_toInt (hz i hi).1 (by omega), FN_toInt (hz i hi).2 (by omega)⟩) h32 w hr
  rw [hg, if_pos rfl] at this
  exact this
end Go.Proofs.Ytapmehgdnofgnab
