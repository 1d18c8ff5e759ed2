/- The model's GaussText. -/
import Derived.Test.YtgjdaeaiheibbabDoorNum
import Derived.Deep.RegionHeld3
import Derived.Test.YtgjdaeaiheibbabDoorKit
namespace Go.Proofs.YtgjdaeaiheibbabDoor
set_option maxRecDepth 100000
open Go.RowKit

theorem add_ok (s t : ByteArray) (h1 : s.size ≤ 1000) (h2 : t.size ≤ 1000) (w : World) : (Op.stringOp .add s t).run Tryd.prog w = .ok (.string (s ++ t)) w := run_string_add w s t (by omega) (by omega)
theorem size_one (b : UInt8) : (ByteArray.mk #[b]).size = 1 := rfl
def goodZ (a b : Int) : Bool := decide ((-1000000 ≤ a ∧ a ≤ 1000000) ∧ (-1000000 ≤ b ∧ b ≤ 1000000))
theorem cell_new0' (w : World) (x y : Value) (T : TypeId) : (w.alloc (.cells #[x, y] T)).cell? ⟨w.heap.size, 0, none⟩ = some x := by rw [World.cell?_alloc_new]; rfl
theorem cell_new1' (w : World) (x y : Value) (T : TypeId) : (w.alloc (.cells #[x, y] T)).cell? ⟨w.heap.size, 1, none⟩ = some y := by rw [World.cell?_alloc_new]; rfl
/-- The numeral of a whole number. -/
def intB (n : Int) : ByteArray := ⟨(Lib.itoa n).toArray⟩
theorem intB_neg {n : Int} (h : n < 0) : intB n = ⟨#[45]⟩ ++ numB n.natAbs := by
  unfold intB Lib.itoa numB
  rw [if_pos h]
  exact (ByteArray.mk_append_mk [45] (Lib.decDigits n.natAbs)).symm
theorem intB_pos {n : Int} (h : ¬ n < 0) : intB n = numB n.toNat := by
  unfold intB Lib.itoa numB
  rw [if_neg h]
theorem intB_size (n : Int) (h1 : -1000000 ≤ n) (h2 : n ≤ 1000000) : (intB n).size ≤ 30 := by
  by_cases h : n < 0
  · rw [intB_neg h, ByteArray.size_append]
    have := num_size n.natAbs (by omega)
    have e : (ByteArray.mk #[45]).size = 1 := rfl
    omega
  · rw [intB_pos h]
    have := num_size n.toNat (by omega)
    omega
set_option maxHeartbeats 1000000 in
theorem phInt_any (n : Int) (h1 : -1000000 ≤ n) (h2 : n ≤ 1000000) (w : World) : Calls Tryd.prog 45 #[.int .i64 n] w (Ret w (.string (intB n))) := by
  by_cases h : n < 0
  · rw [intB_neg h]
    have HN := l1Num_any n.natAbs (by omega)
    have hneg : ((n.natAbs : Nat) : Int) = -n := by omega
    rw [hneg] at HN
    have hs := num_size n.natAbs (by omega)
    obtain ⟨s, hsd⟩ : ∃ s, s = numB n.natAbs := ⟨_, rfl⟩
    rw [← hsd] at HN hs ⊢
    have hadd := fun w => add_ok ⟨#[45]⟩ s (by rw [size_one]; omega) (by omega) w
    have HN' := Lib.hid HN
    clear HN hneg hsd
    go_enter Tryd.func45, Tryd.ntmps45
    go_wp2_with fail
    refine (HN'.out _).mono ?_
    rintro e w1 ⟨rfl, hb1⟩
    go_wp2_with fail
    go_returns
    exact ⟨rfl, hb1⟩
  · rw [intB_pos h]
    have HN := l1Num_any n.toNat (by omega)
    rw [show ((n.toNat : Nat) : Int) = n by omega] at HN
    obtain ⟨s, hsd⟩ : ∃ s, s = numB n.toNat := ⟨_, rfl⟩
    rw [← hsd] at HN ⊢
    have HN' := Lib.hid HN
    have h3 : 0 ≤ n := by omega
    clear HN hsd h
    go_enter Tryd.func45, Tryd.ntmps45
    go_wp2_with fail
    refine (HN'.out _).mono ?_
    rintro e w1 ⟨rfl, hb1⟩
    go_wp2_with fail
    go_returns
    exact ⟨rfl, hb1⟩

set_option maxHeartbeats 400000 in
theorem l1Abs_any (n : Int) (h1 : -1000000 ≤ n) (h2 : n ≤ 1000000) (w : World) : Calls Tryd.prog 47 #[.int .i64 n] w (Pure w (.int .i64 (n.natAbs : Int))) := by
  rcases (show n < 0 ∨ n = 0 ∨ 0 < n by omega) with h | rfl | h
  · have e : (n.natAbs : Int) = -n := by omega
    rw [e]
    clear e
    have h3 : ¬ n > -n := by omega
    have h4 : n ≤ -n := by omega
    go_enter Tryd.func47, Tryd.ntmps47
    go_wp2
    go_returns
    exact ⟨rfl, rfl⟩
  · go_enter Tryd.func47, Tryd.ntmps47
    go_wp2
    go_returns
    exact ⟨rfl, rfl⟩
  · have e : (n.natAbs : Int) = n := by omega
    rw [e]
    clear e
    have h3 : n > -n := by omega
    have h4 : -n < n := by omega
    go_enter Tryd.func47, Tryd.ntmps47
    go_wp2
    go_returns
    exact ⟨rfl, rfl⟩
/-- The text of a Gaussian number. -/
def gtB (x y : Int) : ByteArray := intB x ++ (if y < 0 then ⟨#[45]⟩ else ⟨#[43]⟩) ++ numB y.natAbs ++ ⟨#[105]⟩

set_option maxRecDepth 100000 in
set_option maxHeartbeats 2000000 in
theorem phGaussText_any (x y : Int) (h1 : -1000000 ≤ x) (h2 : x ≤ 1000000) (h3 : -1000000 ≤ y) (h4 : y ≤ 1000000) (w : World) : Calls Tryd.prog 38 #[.agg #[.int .i64 x, .int .i64 y]] w (Ret w (.string (gtB x y))) := by
  have HI := Lib.hid (phInt_any x h1 h2)
  have HA := Lib.hid (l1Abs_any y h3 h4)
  have HN := Lib.hid (l1Num_any y.natAbs (by omega))
  have hs1 := intB_size x h1 h2
  have hs2 := num_size y.natAbs (by omega)
  unfold gtB
  obtain ⟨s, hs⟩ : ∃ s, s = intB x := ⟨_, rfl⟩
  obtain ⟨t, ht⟩ : ∃ s, s = numB y.natAbs := ⟨_, rfl⟩
  obtain ⟨n, hn⟩ : ∃ s, s = y.natAbs := ⟨_, rfl⟩
  rw [← hs] at HI hs1 ⊢
  rw [← ht] at HN hs2 ⊢
  rw [← hn] at HN HA
  obtain ⟨g, hg⟩ : ∃ g : ByteArray, g = (if y < 0 then ⟨#[45]⟩ else ⟨#[43]⟩) := ⟨_, rfl⟩
  have hg1 : g.size = 1 := by rw [hg]; split <;> rfl
  have hgp : y < 0 → g = ⟨#[45]⟩ := fun h => by rw [hg, if_pos h]
  have hgn : ¬ y < 0 → g = ⟨#[43]⟩ := fun h => by rw [hg, if_neg h]
  rw [← hg]
  have a1 := fun w => add_ok s g (by omega) (by omega) w
  have a2 := fun w => add_ok (s ++ g) t (by rw [ByteArray.size_append]; omega) (by omega) w
  have a3 := fun w => add_ok (s ++ g ++ t) ⟨#[105]⟩ (by rw [ByteArray.size_append, ByteArray.size_append]; omega) (by rw [size_one]; omega) w
  clear hs ht hn hg hg1 hs1 hs2
  by_cases h : y < 0
  all_goals
    first | (have e := hgp h; subst e) | (have e := hgn h; subst e)
    clear hgp hgn
    go_enter Tryd.func38, Tryd.ntmps38
    go_wp2_with fail
    have c0 := cell_new0' w (.int .i64 x) (.int .i64 y) 25
    have c1 := cell_new1' w (.int .i64 x) (.int .i64 y) 25
    have hB := belowa (Below.refl w.heap.size w) (.cells #[.int .i64 x, .int .i64 y] 25)
    go_region_held3 (fun w' => w'.cell? ⟨w.heap.size, 0, none⟩ = some (.int .i64 x) ∧ w'.cell? ⟨w.heap.size, 1, none⟩ = some (.int .i64 y) ∧ Below w.heap.size w w')
      (first | (exact ⟨keepd c0, keepd c1, hB.drew⟩) | (go_split_ands; first | exact ⟨by assumption, by assumption, by assumption⟩ | exact ⟨keepc hb (by assumption), keepc hb (by assumption), joins (by assumption) hb⟩))
      (first
        | (go_at_call 45; (with_reducible refine (HI.out _).mono ?_); rintro e w' ⟨rfl, hb⟩)
        | (go_at_call 47; (with_reducible refine (HA.out _).mono ?_); rintro e w' ⟨rfl, rfl⟩)
        | (go_at_call 46; (with_reducible refine (HN.out _).mono ?_); rintro e w' ⟨rfl, hb⟩))
    all_goals
      go_split_ands
      go_wp2_with fail
      go_returns
      exact ⟨rfl, by assumption⟩

set_option maxHeartbeats 1000000 in
theorem phGood_any (x y : Int) (w : World) : Calls Tryd.prog 26 #[.agg #[.int .i64 x, .int .i64 y]] w (Ret w (.bool (goodZ x y))) := by
  go_enter Tryd.func26, Tryd.ntmps26
  go_wp2
  all_goals
    go_ret
    exact ⟨ret_bool (by simp only [goodZ]; simp; first | omega | simp_all), by go_grown⟩
def gtF (x y : Int) : ByteArray := if goodZ x y then gtB x y else ⟨#[]⟩

set_option maxHeartbeats 1000000 in
theorem sgaussText (x y : Int) (w : World) : Calls Tryd.prog 19 #[.agg #[.int .i64 x, .int .i64 y]] w (Ret w (.tuple #[.string (gtF x y), .bool (goodZ x y)])) := by
  have HG := phGood_any x y
  by_cases hg : goodZ x y = true
  · have hp : (-1000000 ≤ x ∧ x ≤ 1000000) ∧ (-1000000 ≤ y ∧ y ≤ 1000000) := of_decide_eq_true hg
    have HT := Lib.hid (phGaussText_any x y hp.1.1 hp.1.2 hp.2.1 hp.2.2)
    have e : gtF x y = gtB x y := by unfold gtF; rw [hg]; rfl
    rw [e, hg]
    rw [hg] at HG
    have HG' := Lib.hid HG
    obtain ⟨s, hs⟩ : ∃ s, s = gtB x y := ⟨_, rfl⟩
    rw [← hs] at HT ⊢
    clear HG e hg hs hp
    go_enter Tryd.func19, Tryd.ntmps19
    go_wp2_with fail
    refine (HG'.out _).mono ?_
    rintro e w1 ⟨rfl, hb1⟩
    have c0 := keepc hb1 (cell_new0' w (.int .i64 x) (.int .i64 y) 25)
    have c1 := keepc hb1 (cell_new1' w (.int .i64 x) (.int .i64 y) 25)
    have hB := joins (belowa (Below.refl _ _) _) hb1
    go_wp2_with fail
    refine (HT.out _).mono ?_
    rintro e w2 ⟨rfl, hb2⟩
    have hB2 := joins hB hb2
    go_wp2_with fail
    go_returns
    exact ⟨rfl, hB2⟩
  · have hg2 : goodZ x y = false := by simpa using hg
    have e : gtF x y = ⟨#[]⟩ := by unfold gtF; rw [hg2]; rfl
    rw [e, hg2]
    rw [hg2] at HG
    have HG' := Lib.hid HG
    clear HG e hg hg2
    go_enter Tryd.func19, Tryd.ntmps19
    go_wp2_with fail
    refine (HG'.out _).mono ?_
    rintro e w1 ⟨rfl, hb1⟩
    have hB := joins (belowa (Below.refl _ _) _) hb1
    go_wp2_with fail
    go_returns
    exact ⟨rfl, hB⟩
end Go.Proofs.YtgjdaeaiheibbabDoor
