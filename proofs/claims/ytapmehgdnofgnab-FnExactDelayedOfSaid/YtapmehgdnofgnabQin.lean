/- The laws' helper toGaussS: a copy of the call's own. -/
import Derived.Test.YtapmehgdnofgnabGsn
import Derived.Test.YtapmehgdnofgnabBox
namespace Go.Proofs.Ytapmehgdnofgnab
set_option maxRecDepth 100000
open Go.RowKit

theorem flR_zeros (n : Nat) : (madeCells #[Value.int .i64 0, Value.int .i64 0] (n * 2)).toList = fl (List.replicate n (0, 0)) := by
  apply List.ext_getElem?
  intro i
  by_cases h : i < n * 2
  · have e : (madeCells #[Value.int .i64 0, Value.int .i64 0] (n * 2)).toList[i]? = some (.int .i64 0) := by
      rcases (show i % 2 = 0 ∨ i % 2 = 1 by omega) with e | e
      all_goals
        simp [madeCells]
        exact ⟨i, by simp [h], by simp [e]⟩
    rw [e]
    obtain ⟨k, hk⟩ : ∃ k, i = k * 2 ∨ i = k * 2 + 1 := ⟨i / 2, by omega⟩
    have hk2 : k < (List.replicate n ((0 : Int), (0 : Int))).length := by simp; omega
    have h0 : k < n := by omega
    rcases hk with rfl | rfl
    · rw [fl_re _ k hk2]; simp [gre, List.getD, h0]
    · rw [fl_im _ k hk2]; simp [gim, List.getD, h0]
  · rw [List.getElem?_eq_none (by simp [madeCells]; omega), List.getElem?_eq_none (by rw [fl_length]; simp; omega)]
/-- A list of which the first j numbers are set, the others zero. -/
def upG (n j : Nat) (X Y : Nat → Int) : List (Int × Int) := genG n (fun i => if i < j then X i else 0) (fun i => if i < j then Y i else 0)
theorem upG_length (n j : Nat) (X Y : Nat → Int) : (upG n j X Y).length = n := genG_length _ _ _
theorem upG_zero (n : Nat) (X Y : Nat → Int) : upG n 0 X Y = List.replicate n (0, 0) := by
  unfold upG genG
  simp [List.map_const']
theorem upG_all (n : Nat) (X Y : Nat → Int) : upG n n X Y = genG n X Y := genG_ext (fun _ h => if_pos h) (fun _ h => if_pos h)
theorem upG_set (n j : Nat) (X Y : Nat → Int) (h : j < n) : (upG n j X Y).set j (X j, Y j) = upG n (j + 1) X Y := by
  apply List.ext_getElem?
  intro i
  by_cases hi : i < n
  · by_cases e : i = j
    · subst e
      rw [List.getElem?_set_self (by rw [upG_length]; exact h)]
      simp [upG, genG, h]
    · rw [List.getElem?_set_ne (by omega)]
      have e1 : (i < j + 1) = (i < j) := propext (by omega)
      simp [upG, genG, hi, e1]
  · rw [List.getElem?_eq_none (by rw [List.length_set, upG_length]; omega), List.getElem?_eq_none (by rw [upG_length]; omega)]
theorem upG_re (n j : Nat) (X Y : Nat → Int) (i : Nat) (h : i < n) : gre (upG n j X Y) i = if i < j then X i else 0 := genG_re _ _ _ _ h
theorem upG_im (n j : Nat) (X Y : Nat → Int) (i : Nat) (h : i < n) : gim (upG n j X Y) i = if i < j then Y i else 0 := genG_im _ _ _ _ h

set_option maxRecDepth 100000 in
set_option maxHeartbeats 1000000 in
theorem toGaussS_any (v : Value) (l : List (Int × Int)) (w : World) (hv : IG w v l) (hl : l.length ≤ 1048576) : Calls Try.prog 11 #[v] w (MakesG w l) := by
  obtain ⟨i0, hi, hz0, hz1, hz2⟩ := info_parts infoG
  rcases hv with ⟨rfl, a, cap, rfl⟩ | ⟨hn, b, off, cap, rfl, hm, hc⟩
  · go_enter Try.func11, Try.ntmps11
    go_wp2_with (at_make; refine wpList_make_full _ rfl _ _ 29 rfl w.heap.size 26 i0 (.agg #[.int .i64 0, .int .i64 0]) 2 Try.underlying29 hi hz0 hz1 _ _ _ _ 0 rfl rfl rfl rfl ?b2 ?b3 (Nat.le_refl _) ?_)
    case b2 => omega
    case b3 => unfold maxLen; omega
    intro w0 hown0 hgrow0
    go_wp2
    go_loop [4] (fun i => i = .int .i64 0) (fun _ => 0)
    case atStart => rfl
    case round =>
      subst hrel
      go_wp2
      go_returns
      exact ⟨_, rfl, by simpa [madeCells, OwnG, fl] using hown0, (Below.refl _ _).grown hgrow0 (Nat.le_refl _) (fun k h => by cases h)⟩
  · have HC := Lib.hid hc
    have hm2 := maxLen_val
    clear hc hn
    obtain ⟨n, hn⟩ : ∃ n, n = l.length := ⟨_, rfl⟩
    obtain ⟨X, hX⟩ : ∃ X, X = gre l := ⟨_, rfl⟩
    obtain ⟨Y, hY⟩ : ∃ X, X = gim l := ⟨_, rfl⟩
    have hself : genG n X Y = l := by rw [hn, hX, hY]; exact genG_self l
    rw [← hX, ← hY] at HC
    have hml : MakesG w l = MakesG w (genG n X Y) := by rw [hself]
    rw [hml]
    rw [← hn] at hl hm HC ⊢
    have HH := Lib.hid (And.intro hX (And.intro hY (And.intro hn hself)))
    clear hX hY hn hself hm2 hml
    go_enter Try.func11, Try.ntmps11
    go_wp2_with (at_make; refine wpList_make_full _ rfl _ _ 29 rfl w.heap.size 26 i0 (.agg #[.int .i64 0, .int .i64 0]) 2 Try.underlying29 hi hz0 hz1 _ _ _ _ n rfl rfl rfl rfl ?b2 ?b3 (Nat.le_refl _) ?_)
    case b2 => rw [hz2]; omega
    case b3 => unfold maxLen; omega
    intro w0 hown0 hgrow0
    have hown1 : w0.ownsRow w.heap.size 26 2 (.slice (some ⟨w.heap.size, 0, none⟩) n n) n (fl (upG n 0 X Y)) := by
      rw [upG_zero, ← flR_zeros]; exact hown0
    have HO0 := Lib.hid hown1
    have HG0 := Lib.hid hgrow0
    clear hown0 hown1 hgrow0
    go_wp2
    go_loopw [4] (fun i wr => ∃ j : Nat, j ≤ n ∧ i = .int .i64 j ∧ wr.ownsRow w.heap.size 26 2 (.slice (some ⟨w.heap.size, 0, none⟩) n n) n (fl (upG n j X Y)) ∧ Below w.heap.size w wr) (fun i _ => n - (intOf i).toNat)
    case atStart => exact ⟨0, Nat.zero_le _, rfl, HO0.out, (Below.refl _ _).grown HG0.out (Nat.le_refl _) (fun k h => by cases h)⟩
    case round =>
      obtain ⟨j, hj, rfl, hown, hbel⟩ := hrel
      have HB := Lib.hid hbel
      have HO := Lib.hid hown
      clear hown hbel
      by_cases hlt : j < n
      · obtain ⟨x, hx⟩ : ∃ x, x = X j := ⟨_, rfl⟩
        obtain ⟨y, hy⟩ : ∃ y, y = Y j := ⟨_, rfl⟩
        have c3 := keepc HB.out (HC.out j hlt).1
        have c4 := keepc HB.out (HC.out j hlt).2
        rw [← hx] at c3
        rw [← hy] at c4
        have HX := Lib.hid (And.intro hx hy)
        clear hx hy
        have HT := Lib.hid (toGauss_any x y)
        have h0 : (0 : Int) ≤ (j : Int) := by omega
        have h1 : (j : Int) < (n : Int) := by omega
        go_wp2_with fail
        refine (HT.out _).mono ?_
        rintro e w1 ⟨rfl, hb⟩
        have HB1 := Lib.hid (joins HB.out hb)
        have hO1 := rowBelow HO.out hb
        have HO1 := Lib.hid hO1
        have c1 : w1.cell? ⟨w.heap.size, j * 2, none⟩ = some (.int .i64 (gre (upG n j X Y) j)) := by
          rw [hO1.cellAt (j * 2) (by omega)]
          exact fl_re _ j (by rw [upG_length]; omega)
        have c2 : w1.cell? ⟨w.heap.size, j * 2 + 1, none⟩ = some (.int .i64 (gim (upG n j X Y) j)) := by
          rw [hO1.cellAt (j * 2 + 1) (by omega)]
          exact fl_im _ j (by rw [upG_length]; omega)
        rw [upG_re n j X Y j hlt, if_neg (Nat.lt_irrefl _)] at c1
        rw [upG_im n j X Y j hlt, if_neg (Nat.lt_irrefl _)] at c2
        have f1 := hO1.frozenAt (j * 2)
        have f2 := hO1.frozenAt (j * 2 + 1)
        clear hb hO1 c3 c4
        go_wp2_with fail
        go_roundw
        case rel =>
          have hs := HO1.out.stored (j * 2) (.int .i64 x)
          have hs2 := hs.1.stored (j * 2 + 1) (.int .i64 y)
          rw [fl_set2 _ j (by rw [upG_length]; exact hlt), HX.out.1, HX.out.2, upG_set n j X Y hlt] at hs2
          rw [← HX.out.1, ← HX.out.2] at hs2
          exact ⟨j + 1, by omega, by go_num, hs2.1, belows (belows HB1.out (Nat.le_refl _) _) (Nat.le_refl _) _⟩
        case measure => simp [intOf]; omega
      · obtain rfl : j = n := by omega
        go_wp2_with fail
        go_returns
        refine ⟨_, rfl, ?_, HB.out⟩
        have := HO.out
        rw [upG_all] at this
        unfold OwnG
        rw [genG_length]
        exact this
set_option maxHeartbeats 1000000 in
theorem szGaussS_yes (v : Value) (l : List (Int × Int)) (left : Int) (w : World) (hv : IG w v l) (h1 : (l.length : Int) ≤ left) (h2 : left ≤ 1048576) : Calls Try.prog 9 #[v, .int .i64 left] w (Ret w (.int .i64 (left - l.length))) := by
  obtain ⟨a, cap, rfl⟩ := hv.slice
  obtain ⟨n, hn⟩ : ∃ n, n = l.length := ⟨_, rfl⟩
  rw [← hn] at h1 ⊢
  clear hv hn
  have h3 : (0 : Int) ≤ left := by omega
  have hge : ¬ left - (n : Int) < 0 := by omega
  go_enter Try.func9, Try.ntmps9
  go_wp2_with fail
  go_returns
  exact ⟨rfl, by go_grown⟩
set_option maxHeartbeats 1000000 in
theorem szGaussS_no (v : Value) (l : List (Int × Int)) (left : Int) (w : World) (hv : IG w v l) (h0 : 0 ≤ left) (h1 : left < (l.length : Int)) (h2 : left ≤ 1048576) : Calls Try.prog 9 #[v, .int .i64 left] w (Ret w (.int .i64 (-1))) := by
  have hm : l.length ≤ maxLen := by
    rcases hv with ⟨rfl, _⟩ | ⟨_, _, _, _, _, hm, _⟩
    · exact Nat.zero_le _
    · exact hm
  have hm2 := maxLen_val
  have h3 : (l.length : Int) ≤ 9223372036854775807 := by omega
  obtain ⟨a, cap, rfl⟩ := hv.slice
  obtain ⟨n, hn⟩ : ∃ n, n = l.length := ⟨_, rfl⟩
  rw [← hn] at h1 h3 ⊢
  clear hv hn hm hm2
  have hge : left - (n : Int) < 0 := by omega
  go_enter Try.func9, Try.ntmps9
  go_wp2_with fail
  go_returns
  exact ⟨rfl, by go_grown⟩
end Go.Proofs.Ytapmehgdnofgnab
