/- The program's GaussText. -/
import Derived.Test.YtgjdaeaiheibbabDoorSGt
import Derived.Test.YtgjdaeaiheibbabDoorShelf
import Derived.Lib.AppendIntMem
namespace Go.Proofs.YtgjdaeaiheibbabDoor
set_option maxRecDepth 100000
open Go.RowKit

theorem pow10_at : Tryd.prog.globalNamed "internal/strconv.uint64pow10" = some 0 := by kernel_rfl
set_option maxHeartbeats 400000 in
theorem igoodZ (a b : Int) (w : World) : Calls Tryd.prog 10 #[.agg #[.int .i64 a, .int .i64 b]] w (Ret w (.bool (goodZ a b))) := by
  go_enter Tryd.func10, Tryd.ntmps10
  go_wp2
  all_goals
    go_ret
    exact ⟨ret_bool (by simp only [goodZ]; simp; first | omega | simp_all), by go_grown⟩
theorem itoa_any (n : Int) (h0 : -1000000 ≤ n) (h1 : n ≤ 1000000) (w : World) (htab : Lib.TabIs Tryd.prog w "internal/strconv.uint64pow10" .u64 Lib.pow10Tab) :
    Calls Tryd.prog 37 #[.int .i64 n] w (Ret w (.string (intB n))) := by
  refine (Tryd.strconv_Itoa n (by omega) (by omega) w htab).mono ?_
  rintro e w' ⟨rfl, k, os, rfl⟩
  exact ⟨rfl, Lib.below_grow _ w (Nat.le_refl _) k os⟩

set_option maxRecDepth 100000 in
set_option maxHeartbeats 2000000 in
theorem igaussText (x y : Int) (w : World) (htab : Lib.TabIs Tryd.prog w "internal/strconv.uint64pow10" .u64 Lib.pow10Tab) : Calls Tryd.prog 18 #[.agg #[.int .i64 x, .int .i64 y]] w (Ret w (.tuple #[.string (gtF x y), .bool (goodZ x y)])) := by
  have HG := igoodZ x y
  by_cases hg : goodZ x y = true
  · have hp : (-1000000 ≤ x ∧ x ≤ 1000000) ∧ (-1000000 ≤ y ∧ y ≤ 1000000) := of_decide_eq_true hg
    have e : gtF x y = gtB x y := by unfold gtF; rw [hg]; rfl
    rw [e, hg]
    rw [hg] at HG
    have HG' := Lib.hid HG
    obtain ⟨⟨h1, h2⟩, h3, h4⟩ := hp
    have HT : ∀ w', Below w.heap.size w w' → Lib.TabIs Tryd.prog w' "internal/strconv.uint64pow10" .u64 Lib.pow10Tab := fun w' hb => Joins.tab_stays pow10_at htab hb (Nat.le_refl _)
    have HX := Lib.hid (fun w' hb => itoa_any x h1 h2 w' (HT w' hb))
    have HY := Lib.hid (fun w' hb => itoa_any (y.natAbs : Int) (by omega) (by omega) w' (HT w' hb))
    have hyb : intB (y.natAbs : Int) = numB y.natAbs := by rw [intB_pos (by omega)]; rfl
    rw [hyb] at HY
    have hs1 := intB_size x h1 h2
    have hs2 := num_size y.natAbs (by omega)
    unfold gtB
    obtain ⟨s, hs⟩ : ∃ s, s = intB x := ⟨_, rfl⟩
    obtain ⟨t, ht⟩ : ∃ s, s = numB y.natAbs := ⟨_, rfl⟩
    rw [← hs] at HX hs1 ⊢
    rw [← ht] at HY hs2 ⊢
    obtain ⟨g, hg⟩ : ∃ g : ByteArray, g = (if y < 0 then ⟨#[45]⟩ else ⟨#[43]⟩) := ⟨_, rfl⟩
    have hg1 : g.size = 1 := by rw [hg]; split <;> rfl
    have hgp : y < 0 → g = ⟨#[45]⟩ := fun h => by rw [hg, if_pos h]
    have hgn : ¬ y < 0 → g = ⟨#[43]⟩ := fun h => by rw [hg, if_neg h]
    rw [← hg]
    have a1 := fun w => add_ok s g (by omega) (by omega) w
    have a2 := fun w => add_ok (s ++ g) t (by rw [ByteArray.size_append]; omega) (by omega) w
    have a3 := fun w => add_ok (s ++ g ++ t) ⟨#[105]⟩ (by rw [ByteArray.size_append, ByteArray.size_append]; omega) (by rw [size_one]; omega) w
    have hya1 : y < 0 → (y.natAbs : Int) = -y := fun h => by omega
    have hya2 : ¬ y < 0 → (y.natAbs : Int) = y := fun h => by omega
    have c0 := cell_new0' w (.int .i64 x) (.int .i64 y) 25
    have c1 := cell_new1' w (.int .i64 x) (.int .i64 y) 25
    have hB := belowa (Below.refl w.heap.size w) (.cells #[.int .i64 x, .int .i64 y] 25)
    clear HG e hs ht hyb hs1 hs2 hg hg1 HT htab
    by_cases h : y < 0
    · have e := hgp h
      have e2 := hya1 h
      subst e
      rw [e2] at HY
      clear hgp hgn hya1 hya2 e2
      go_enter Tryd.func18, Tryd.ntmps18
      go_wp2_with fail
      refine (HG'.out _).mono ?_
      rintro e w1 ⟨rfl, hb1⟩
      have d0 := keepc hb1 c0
      have d1 := keepc hb1 c1
      have hB1 := joins hB hb1
      clear c0 c1 hB hb1
      go_wp2_with fail
      go_quiet (fail)
      go_wp2_with fail
      go_quiet (fail)
      go_wp2_with fail
      refine (HX.out _ (belowN hB1 _)).mono ?_
      rintro e w2 ⟨rfl, hb2⟩
      have hB2 := joins (belowN hB1 _) hb2
      go_wp2_with fail
      refine (HY.out _ hB2).mono ?_
      rintro e w3 ⟨rfl, hb3⟩
      have hB3 := joins hB2 hb3
      go_wp2_with fail
      go_returns
      exact ⟨rfl, hB3⟩
    · have e := hgn h
      have e2 := hya2 h
      subst e
      rw [e2] at HY
      have h' : 0 ≤ y := by omega
      clear hgp hgn hya1 hya2 e2 h
      go_enter Tryd.func18, Tryd.ntmps18
      go_wp2_with fail
      refine (HG'.out _).mono ?_
      rintro e w1 ⟨rfl, hb1⟩
      have d0 := keepc hb1 c0
      have d1 := keepc hb1 c1
      have hB1 := joins hB hb1
      clear c0 c1 hB hb1
      go_wp2_with fail
      go_quiet (fail)
      go_wp2_with fail
      refine (HX.out _ (belowN hB1 _)).mono ?_
      rintro e w2 ⟨rfl, hb2⟩
      have hB2 := joins (belowN hB1 _) hb2
      go_wp2_with fail
      refine (HY.out _ hB2).mono ?_
      rintro e w3 ⟨rfl, hb3⟩
      have hB3 := joins hB2 hb3
      go_wp2_with fail
      go_returns
      exact ⟨rfl, hB3⟩
  · have hg2 : goodZ x y = false := by simpa using hg
    have e : gtF x y = ⟨#[]⟩ := by unfold gtF; rw [hg2]; rfl
    rw [e, hg2]
    rw [hg2] at HG
    have HG' := Lib.hid HG
    clear HG e hg hg2
    go_enter Tryd.func18, Tryd.ntmps18
    go_wp2_with fail
    refine (HG'.out _).mono ?_
    rintro e w1 ⟨rfl, hb1⟩
    have hB := joins (belowa (Below.refl _ _) _) hb1
    go_wp2_with fail
    go_returns
    exact ⟨rfl, hB⟩
end Go.Proofs.YtgjdaeaiheibbabDoor
