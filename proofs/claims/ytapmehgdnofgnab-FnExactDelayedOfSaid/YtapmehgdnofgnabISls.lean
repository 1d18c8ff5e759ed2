/- The program's signals as lists of Gaussian numbers: gaussOf, listIfValid, list. The program's signals out of lists of Gaussian numbers: gaussValue, signalOf. The program's list of a signal of up to 64 numbers. -/
import Derived.Test.YtapmehgdnofgnabSg
import Derived.Test.YtapmehgdnofgnabQin
import Derived.Test.YtapmehgdnofgnabTfM
import Derived.Test.YtapmehgdnofgnabFxA
namespace Go.Proofs.Ytapmehgdnofgnab
set_option maxRecDepth 100000
section
open Go.RowKit

set_option maxHeartbeats 1000000 in
theorem gaussOf_int (fa fb : Nat) (a b : Int) (h1 : floatToIntVal .f32 fa .i64 = some a) (h2 : floatToIntVal .f32 fb .i64 = some b) (w : World) : Calls Try.prog 94 #[.complex .f32 fa fb] w (Ret w (.agg #[.int .i64 a, .int .i64 b])) := by
  have ha := fun w => run_convert_float_int (P := Try.prog) w 110 3 .f32 .i64 fa a rfl Try.underlying3 h1
  have hb := fun w => run_convert_float_int (P := Try.prog) w 110 3 .f32 .i64 fb b rfl Try.underlying3 h2
  clear h1 h2
  go_enter Try.func94, Try.ntmps94
  go_wp2
  go_returns
  exact ⟨rfl, by go_grown⟩

set_option maxRecDepth 100000 in
set_option maxHeartbeats 1000000 in
theorem listIfValid_any (v : Value) (l : List (Int × Int)) (w : World) (hv : IG w v l) : Calls Try.prog 95 #[v] w (Ret w (.tuple #[if goodL l then v else .slice none 0 0, .bool (goodL l)])) := by
  obtain ⟨n, hn⟩ : ∃ n, n = l.length := ⟨_, rfl⟩
  rcases hv with ⟨rfl, a, cap, rfl⟩ | ⟨_, b, off, cap, rfl, hm, hc⟩
  · rw [show goodL [] = true from rfl, if_pos rfl]
    go_enter Try.func95, Try.ntmps95
    go_wp2_with fail
    go_loop [8] (fun i => i = .int .i64 0) (fun _ => 0)
    case atStart => rfl
    case round =>
      subst hrel
      go_wp2_with fail
      go_returns
      exact ⟨rfl, Below.refl _ _⟩
  · have hm2 := maxLen_val
    have hm3 : n ≤ 9223372036854775807 := by omega
    rw [← hn] at hc
    rw [← hn]
    obtain ⟨r, hr⟩ : ∃ r, r = (if goodL l then Value.slice (some ⟨b, off, none⟩) n cap else .slice none 0 0) := ⟨_, rfl⟩
    obtain ⟨q, hq⟩ : ∃ q, q = goodL l := ⟨_, rfl⟩
    rw [← hr, ← hq]
    have HC := Lib.hid hc
    have HN := Lib.hid hn
    have HR := Lib.hid hr
    have HQ := Lib.hid hq
    clear hc hm hn hm2 hr hq
    go_enter Try.func95, Try.ntmps95
    go_wp2_with fail
    go_loopw [8] (fun i wr => ∃ k : Nat, k ≤ n ∧ i = .int .i64 k ∧ goodL (l.take k) = true ∧ Below w.heap.size w wr) (fun i _ => n - (intOf i).toNat)
    case atStart => exact ⟨0, Nat.zero_le _, rfl, rfl, Below.refl _ _⟩
    case round =>
      obtain ⟨k, hk, rfl, hall, hbel⟩ := hrel
      have HA := Lib.hid hall
      have HB := Lib.hid hbel
      clear hall hbel
      by_cases hlt : k < n
      · have hltL := HN.out ▸ hlt
        have c1 := keepc HB.out (HC.out k hlt).1
        have c2 := keepc HB.out (HC.out k hlt).2
        have h0 : (0 : Int) ≤ (k : Int) := by omega
        have h1 : (k : Int) < (n : Int) := by omega
        have hAt := goodL_take_succ l k hltL HA.out
        have hNo := goodL_false l k hltL
        obtain ⟨x, hx⟩ : ∃ x, x = gre l k := ⟨_, rfl⟩
        obtain ⟨y, hy⟩ : ∃ y, y = gim l k := ⟨_, rfl⟩
        rw [← hx] at c1 hAt hNo
        rw [← hy] at c2 hAt hNo
        have HG := Lib.hid (igood x y)
        have HAT := Lib.hid hAt
        have HNO := Lib.hid hNo
        clear hx hy hAt hNo hltL
        cases hg : good x y with
        | true =>
          rw [hg] at HG HAT
          go_wp2_with fail
          refine (HG.out _).mono ?_
          rintro e w2 ⟨rfl, hb⟩
          have HB2 := Lib.hid (joins (belowa HB.out _) hb)
          clear hb
          go_wp2_with fail
          go_roundw
          case rel => exact ⟨k + 1, by omega, by go_num, HAT.out trivial, HB2.out⟩
          case measure => simp [intOf]; omega
        | false =>
          rw [hg] at HG HNO
          go_wp2_with fail
          refine (HG.out _).mono ?_
          rintro e w2 ⟨rfl, hb⟩
          have HB2 := Lib.hid (joins (belowa HB.out _) hb)
          clear hb
          go_wp2_with fail
          go_returns
          exact ⟨ret_eq (by rw [HR.out, HQ.out, HNO.out trivial]; rfl), HB2.out⟩
      · have hh := HA.out
        rw [List.take_of_length_le (by rw [← HN.out]; omega)] at hh
        have HA2 := Lib.hid hh
        clear hh
        go_wp2_with fail
        go_returns
        exact ⟨ret_eq (by rw [HR.out, HQ.out, HA2.out]; rfl), HB.out⟩

set_option maxRecDepth 100000 in
set_option maxHeartbeats 2000000 in
theorem list_any (g n : Nat) (B : Nat) (C : Nat → Nat × Nat) (X Y : Nat → Int) (h : ∀ i, i < n → floatToIntVal .f32 (C i).1 .i64 = some (X i) ∧ floatToIntVal .f32 (C i).2 .i64 = some (Y i)) (h1 : 1 ≤ n) (h32 : n ≤ 32) (w : World) (hr : RowC w B g n C) :
    Calls Try.prog 86 #[.slice (some ⟨g, 0, none⟩) n n] w (MakesGB w (if goodL (genG n X Y) then genG n X Y else []) (goodL (genG n X Y))) := by
  obtain ⟨i0, hi, hz0, hz1, hz2⟩ := info_parts infoG
  obtain ⟨L, hL⟩ : ∃ L, L = genG n X Y := ⟨_, rfl⟩
  rw [← hL]
  obtain ⟨L2, hL2⟩ : ∃ L2, L2 = (if goodL L then L else []) := ⟨_, rfl⟩
  rw [← hL2]
  obtain ⟨q, hq⟩ : ∃ q, q = goodL L := ⟨_, rfl⟩
  rw [← hq]
  have HL := Lib.hid (And.intro hL (And.intro hL2 hq))
  have HI := Lib.hid h
  have HR := Lib.hid hr
  clear hL hL2 hq h hr
  go_enter Try.func86, Try.ntmps86
  go_wp2_with (at_make; refine wpList_make_full _ rfl _ _ 29 rfl w.heap.size 26 i0 (.agg #[.int .i64 0, .int .i64 0]) 2 Try.underlying29 hi hz0 hz1 _ _ _ _ n rfl rfl rfl rfl ?b2 ?b3 (Nat.le_refl _) ?_)
  case b2 => rw [hz2]; omega
  case b3 => unfold maxLen; omega
  intro w0 hown0 hgrow0
  have hown1 : w0.ownsRow w.heap.size 26 2 (.slice (some ⟨w.heap.size, 0, none⟩) n n) n (fl (upG n 0 X Y)) := by
    rw [upG_zero, ← flR_zeros]; exact hown0
  have HO0 := Lib.hid hown1
  have HB0 := Lib.hid (show Below w.heap.size w w0 from (Below.refl _ _).grown hgrow0 (Nat.le_refl _) (fun k h => by cases h))
  clear hown0 hown1 hgrow0
  go_wp2_with fail
  go_loopw [12] (fun i wr => ∃ j : Nat, j ≤ n ∧ i = .int .i64 j ∧ wr.ownsRow w.heap.size 26 2 (.slice (some ⟨w.heap.size, 0, none⟩) n n) n (fl (upG n j X Y)) ∧ Below w.heap.size w wr) (fun i _ => n - (intOf i).toNat)
  case atStart => exact ⟨0, Nat.zero_le _, rfl, HO0.out, HB0.out⟩
  case round =>
    obtain ⟨j, hj, rfl, hown, hbel⟩ := hrel
    have HB := Lib.hid hbel
    have HO := Lib.hid hown
    clear hown hbel
    by_cases hlt : j < n
    · obtain ⟨f1, f2⟩ := HI.out j hlt
      have c0 := (HR.out.below HB.out).cell j hlt
      obtain ⟨p1, hp1⟩ : ∃ p, p = (C j).1 := ⟨_, rfl⟩
      obtain ⟨p2, hp2⟩ : ∃ p, p = (C j).2 := ⟨_, rfl⟩
      obtain ⟨x, hx⟩ : ∃ x, x = X j := ⟨_, rfl⟩
      obtain ⟨y, hy⟩ : ∃ y, y = Y j := ⟨_, rfl⟩
      rw [← hp1, ← hp2] at c0
      rw [← hp1, ← hx] at f1
      rw [← hp2, ← hy] at f2
      have HT := Lib.hid (gaussOf_int p1 p2 x y f1 f2)
      have HX := Lib.hid (And.intro hx hy)
      have h0 : (0 : Int) ≤ (j : Int) := by omega
      have hlt1 : (j : Int) < (n : Int) := by omega
      clear hx hy hp1 hp2 f1 f2
      go_wp2_with fail
      refine (HT.out _).mono ?_
      rintro e w1 ⟨rfl, hb⟩
      have HB1 := Lib.hid (joins HB.out hb)
      have hO1 := rowBelow HO.out hb
      have HO1 := Lib.hid hO1
      have c1 : w1.cell? ⟨w.heap.size, j * 2, none⟩ = some (.int .i64 (gre (upG n j X Y) j)) := by
        rw [hO1.cellAt (j * 2) (by omega)]
        exact fl_re _ j (by rw [upG_length]; omega)
      have c2 : w1.cell? ⟨w.heap.size, j * 2 + 1, none⟩ = some (.int .i64 (gim (upG n j X Y) j)) := by
        rw [hO1.cellAt (j * 2 + 1) (by omega)]
        exact fl_im _ j (by rw [upG_length]; omega)
      rw [upG_re n j X Y j hlt, if_neg (Nat.lt_irrefl _)] at c1
      rw [upG_im n j X Y j hlt, if_neg (Nat.lt_irrefl _)] at c2
      have f1 := hO1.frozenAt (j * 2)
      have f2 := hO1.frozenAt (j * 2 + 1)
      clear hb hO1 c0
      go_wp2_with fail
      go_roundw
      case rel =>
        have hs := HO1.out.stored (j * 2) (.int .i64 x)
        have hs2 := hs.1.stored (j * 2 + 1) (.int .i64 y)
        rw [fl_set2 _ j (by rw [upG_length]; exact hlt), HX.out.1, HX.out.2, upG_set n j X Y hlt] at hs2
        rw [← HX.out.1, ← HX.out.2] at hs2
        exact ⟨j + 1, by omega, by go_num, hs2.1, belows (belows HB1.out (Nat.le_refl _) _) (Nat.le_refl _) _⟩
      case measure => simp [intOf]; omega
    · obtain rfl : j = n := by omega
      have hO : OwnG wr w.heap.size (.slice (some ⟨w.heap.size, 0, none⟩) j j) L := by
        have := HO.out
        rw [upG_all] at this
        rw [HL.out.1]
        unfold OwnG
        rw [genG_length]
        exact this
      have HOG := Lib.hid hO
      have HV := Lib.hid (listIfValid_any _ L wr hO.is)
      rw [← HL.out.2.2] at HV
      clear hO
      go_wp2_with fail
      refine (HV.out).mono ?_
      rintro e w1 ⟨rfl, hb⟩
      cases q with
      | true =>
        rw [if_pos rfl]
        have hL2 : L2 = L := by rw [HL.out.2.1, ← HL.out.2.2]; rfl
        have HOG1 := Lib.hid (HOG.out.below hb)
        have HB1 := Lib.hid (joins HB.out hb)
        clear hb
        have HE := Lib.hid hL2
        clear hL2
        go_wp2_with fail
        go_returns
        refine ⟨_, rfl, ?_, HB1.out⟩
        rw [HE.out]
        exact HOG1.out
      | false =>
        rw [if_neg Bool.false_ne_true]
        have hL2 : L2 = [] := by rw [HL.out.2.1, ← HL.out.2.2]; rfl
        have HB1 := Lib.hid (joins HB.out hb)
        clear hb
        have HE := Lib.hid hL2
        clear hL2
        go_wp2_with fail
        go_returns
        refine ⟨_, rfl, ?_, HB1.out⟩
        rw [HE.out]
        exact OwnG.nil _ _
end
section
open Go.RowKit

def fb (x : Int) : Nat := floatOfInt .f32 x
set_option maxHeartbeats 1000000 in
theorem gaussValue_any (x y : Int) (w : World) : Calls Try.prog 63 #[.agg #[.int .i64 x, .int .i64 y]] w (Ret w (.complex .f32 (fb x) (fb y))) := by
  go_enter Try.func63, Try.ntmps63
  go_wp2
  go_returns
  exact ⟨rfl, by go_grown⟩
def fbC (X Y : Nat → Int) : Nat → Nat × Nat := fun i => (fb (X i), fb (Y i))
theorem fbC_ok (X Y : Nat → Int) (n : Nat) (h : ∀ i, i < n → good (X i) (Y i) = true) : CZ (fbC X Y) X Y n := fun i hi => by
  have := good_in (h i hi)
  have ht : topF .f32 = 16777216 := by decide
  exact ⟨FN_ofInt .f32 _ (by rw [ht]; omega), FN_ofInt .f32 _ (by rw [ht]; omega)⟩
/-- The first k numbers are there, the others zero. -/
def upC (k : Nat) (D : Nat → Nat × Nat) : Nat → Nat × Nat := fun i => if i < k then D i else (0, 0)
theorem upC_set (k : Nat) (D : Nat → Nat × Nat) : setC (upC k D) k (D k) = upC (k + 1) D := by
  funext i
  unfold setC upC
  by_cases e : i = k
  · subst e; simp
  · rw [if_neg e]
    by_cases h : i < k
    · rw [if_pos h, if_pos (by omega)]
    · rw [if_neg h, if_neg (by omega)]
theorem upC_zero (D : Nat → Nat × Nat) : upC 0 D = fun _ => (0, 0) := by
  funext i; unfold upC; rw [if_neg (Nat.not_lt_zero _)]
theorem upC_all (n : Nat) (D : Nat → Nat × Nat) : cxL n (upC n D) = cxL n D := cxL_ext (fun i h => by unfold upC; rw [if_pos h])
/-- A call that makes a signal of n numbers, if it is well. -/
def MakesC (w : World) (n : Nat) (C : Nat → Nat × Nat) (ok : Bool) (e : Ending) (w' : World) : Prop :=
  Below w.heap.size w w' ∧ ((ok = true ∧ ∃ g, e = .returned (.tuple #[.slice (some ⟨g, 0, none⟩) n n, .bool true]) ∧ RowC w' w.heap.size g n C) ∨ (ok = false ∧ e = .returned (.tuple #[.slice none 0 0, .bool false])))

end
section
open Go.RowKit

set_option maxRecDepth 100000 in
set_option maxHeartbeats 2000000 in
theorem listW_any (g n : Nat) (B : Nat) (C : Nat → Nat × Nat) (X Y : Nat → Int) (h : ∀ i, i < n → floatToIntVal .f32 (C i).1 .i64 = some (X i) ∧ floatToIntVal .f32 (C i).2 .i64 = some (Y i)) (h32 : n ≤ 64) (w : World) (hr : RowC w B g n C) :
    Calls Try.prog 86 #[.slice (some ⟨g, 0, none⟩) n n] w (MakesGB w (if goodL (genG n X Y) then genG n X Y else []) (goodL (genG n X Y))) := by
  obtain ⟨i0, hi, hz0, hz1, hz2⟩ := info_parts infoG
  obtain ⟨L, hL⟩ : ∃ L, L = genG n X Y := ⟨_, rfl⟩
  rw [← hL]
  obtain ⟨L2, hL2⟩ : ∃ L2, L2 = (if goodL L then L else []) := ⟨_, rfl⟩
  rw [← hL2]
  obtain ⟨q, hq⟩ : ∃ q, q = goodL L := ⟨_, rfl⟩
  rw [← hq]
  have HL := Lib.hid (And.intro hL (And.intro hL2 hq))
  have HI := Lib.hid h
  have HR := Lib.hid hr
  clear hL hL2 hq h hr
  go_enter Try.func86, Try.ntmps86
  go_wp2_with (at_make; refine wpList_make_full _ rfl _ _ 29 rfl w.heap.size 26 i0 (.agg #[.int .i64 0, .int .i64 0]) 2 Try.underlying29 hi hz0 hz1 _ _ _ _ n rfl rfl rfl rfl ?b2 ?b3 (Nat.le_refl _) ?_)
  case b2 => rw [hz2]; omega
  case b3 => unfold maxLen; omega
  intro w0 hown0 hgrow0
  have hown1 : w0.ownsRow w.heap.size 26 2 (.slice (some ⟨w.heap.size, 0, none⟩) n n) n (fl (upG n 0 X Y)) := by
    rw [upG_zero, ← flR_zeros]; exact hown0
  have HO0 := Lib.hid hown1
  have HB0 := Lib.hid (show Below w.heap.size w w0 from (Below.refl _ _).grown hgrow0 (Nat.le_refl _) (fun k h => by cases h))
  clear hown0 hown1 hgrow0
  go_wp2_with fail
  go_loopw [12] (fun i wr => ∃ j : Nat, j ≤ n ∧ i = .int .i64 j ∧ wr.ownsRow w.heap.size 26 2 (.slice (some ⟨w.heap.size, 0, none⟩) n n) n (fl (upG n j X Y)) ∧ Below w.heap.size w wr) (fun i _ => n - (intOf i).toNat)
  case atStart => exact ⟨0, Nat.zero_le _, rfl, HO0.out, HB0.out⟩
  case round =>
    obtain ⟨j, hj, rfl, hown, hbel⟩ := hrel
    have HB := Lib.hid hbel
    have HO := Lib.hid hown
    clear hown hbel
    by_cases hlt : j < n
    · obtain ⟨f1, f2⟩ := HI.out j hlt
      have c0 := (HR.out.below HB.out).cell j hlt
      obtain ⟨p1, hp1⟩ : ∃ p, p = (C j).1 := ⟨_, rfl⟩
      obtain ⟨p2, hp2⟩ : ∃ p, p = (C j).2 := ⟨_, rfl⟩
      obtain ⟨x, hx⟩ : ∃ x, x = X j := ⟨_, rfl⟩
      obtain ⟨y, hy⟩ : ∃ y, y = Y j := ⟨_, rfl⟩
      rw [← hp1, ← hp2] at c0
      rw [← hp1, ← hx] at f1
      rw [← hp2, ← hy] at f2
      have HT := Lib.hid (gaussOf_int p1 p2 x y f1 f2)
      have HX := Lib.hid (And.intro hx hy)
      have h0 : (0 : Int) ≤ (j : Int) := by omega
      have hlt1 : (j : Int) < (n : Int) := by omega
      clear hx hy hp1 hp2 f1 f2
      go_wp2_with fail
      refine (HT.out _).mono ?_
      rintro e w1 ⟨rfl, hb⟩
      have HB1 := Lib.hid (joins HB.out hb)
      have hO1 := rowBelow HO.out hb
      have HO1 := Lib.hid hO1
      have c1 : w1.cell? ⟨w.heap.size, j * 2, none⟩ = some (.int .i64 (gre (upG n j X Y) j)) := by
        rw [hO1.cellAt (j * 2) (by omega)]
        exact fl_re _ j (by rw [upG_length]; omega)
      have c2 : w1.cell? ⟨w.heap.size, j * 2 + 1, none⟩ = some (.int .i64 (gim (upG n j X Y) j)) := by
        rw [hO1.cellAt (j * 2 + 1) (by omega)]
        exact fl_im _ j (by rw [upG_length]; omega)
      rw [upG_re n j X Y j hlt, if_neg (Nat.lt_irrefl _)] at c1
      rw [upG_im n j X Y j hlt, if_neg (Nat.lt_irrefl _)] at c2
      have f1 := hO1.frozenAt (j * 2)
      have f2 := hO1.frozenAt (j * 2 + 1)
      clear hb hO1 c0
      go_wp2_with fail
      go_roundw
      case rel =>
        have hs := HO1.out.stored (j * 2) (.int .i64 x)
        have hs2 := hs.1.stored (j * 2 + 1) (.int .i64 y)
        rw [fl_set2 _ j (by rw [upG_length]; exact hlt), HX.out.1, HX.out.2, upG_set n j X Y hlt] at hs2
        rw [← HX.out.1, ← HX.out.2] at hs2
        exact ⟨j + 1, by omega, by go_num, hs2.1, belows (belows HB1.out (Nat.le_refl _) _) (Nat.le_refl _) _⟩
      case measure => simp [intOf]; omega
    · obtain rfl : j = n := by omega
      have hO : OwnG wr w.heap.size (.slice (some ⟨w.heap.size, 0, none⟩) j j) L := by
        have := HO.out
        rw [upG_all] at this
        rw [HL.out.1]
        unfold OwnG
        rw [genG_length]
        exact this
      have HOG := Lib.hid hO
      have HV := Lib.hid (listIfValid_any _ L wr hO.is)
      rw [← HL.out.2.2] at HV
      clear hO
      go_wp2_with fail
      refine (HV.out).mono ?_
      rintro e w1 ⟨rfl, hb⟩
      cases q with
      | true =>
        rw [if_pos rfl]
        have hL2 : L2 = L := by rw [HL.out.2.1, ← HL.out.2.2]; rfl
        have HOG1 := Lib.hid (HOG.out.below hb)
        have HB1 := Lib.hid (joins HB.out hb)
        clear hb
        have HE := Lib.hid hL2
        clear hL2
        go_wp2_with fail
        go_returns
        refine ⟨_, rfl, ?_, HB1.out⟩
        rw [HE.out]
        exact HOG1.out
      | false =>
        rw [if_neg Bool.false_ne_true]
        have hL2 : L2 = [] := by rw [HL.out.2.1, ← HL.out.2.2]; rfl
        have HB1 := Lib.hid (joins HB.out hb)
        clear hb
        have HE := Lib.hid hL2
        clear hL2
        go_wp2_with fail
        go_returns
        refine ⟨_, rfl, ?_, HB1.out⟩
        rw [HE.out]
        exact OwnG.nil _ _
theorem listG_any (g n : Nat) (B : Nat) (C : Nat → Nat × Nat) (X Y : Nat → Int) (hz : CZ C X Y n) (hg : goodL (genG n X Y) = true) (h32 : n ≤ 64) (w : World) (hr : RowC w B g n C) :
    Calls Try.prog 86 #[.slice (some ⟨g, 0, none⟩) n n] w (MakesGB w (genG n X Y) true) := by
  have := listW_any g n B C X Y (fun i hi => by
    have hgi := good_in (goodL_at hg i (by rw [genG_length]; exact hi))
    rw [genG_re _ _ _ _ hi, genG_im _ _ _ _ hi] at hgi
    exact ⟨FN_toInt (hz i hi).1 (by omega), FN_toInt (hz i hi).2 (by omega)⟩) h32 w hr
  rw [hg, if_pos rfl] at this
  exact this
end
end Go.Proofs.Ytapmehgdnofgnab
