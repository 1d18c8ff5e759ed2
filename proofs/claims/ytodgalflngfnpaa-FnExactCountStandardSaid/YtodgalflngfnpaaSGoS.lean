/- The model's SquaresOf and CountStandard. -/
import Derived.Test.YtodgalflngfnpaaSGo
import Derived.Test.YtodgalflngfnpaaGoS
import Derived.Test.YtodgalflngfnpaaSVr
import Derived.Test.YtodgalflngfnpaaSEn
import Derived.Test.YtodgalflngfnpaaPhs
namespace Go.Proofs.Ytodgalflngfnpaa
set_option maxRecDepth 100000
open Go.RowKit

set_option maxRecDepth 100000 in
set_option maxHeartbeats 2000000 in
theorem ssquaresOf (va vb : Value) (a b : List Int) (w : World) (hva : IS w va a) (hvb : IS w vb b) (hla : a.length ≤ 1048576) (hlb : b.length ≤ 1048576) :
    Calls Try.prog 45 #[va, vb] w (MakesB w (sqL a b) (goOk a b)) := by
  have HP := goPair_any va vb a b w hva hvb hla hlb
  by_cases hp : goOk a b = true
  · obtain ⟨ha, hb, hab, hn⟩ := goOk_parts hp
    have h32 := isSeq_len ha
    have h32b := isSeq_len hb
    have HCA : ∀ k : Nat, k < 4 → ∀ w', Below w.heap.size w w' → Calls Try.prog 80 #[va, .int .i64 k] w' (Ret w' (.agg #[.int .i64 (vrS vx a k), .int .i64 (vrS vy a k)])) := fun k h1 w' h => crValue_any _ a k w' (hva.below h) ha (by omega) (by omega)
    have HCB : ∀ k : Nat, k < 4 → ∀ w', Below w.heap.size w w' → Calls Try.prog 80 #[vb, .int .i64 k] w' (Ret w' (.agg #[.int .i64 (vrS vx b k), .int .i64 (vrS vy b k)])) := fun k h1 w' h => crValue_any _ b k w' (hvb.below h) hb (by omega) (by omega)
    have HNA : ∀ k : Nat, ∀ w, Calls Try.prog 79 #[.agg #[.int .i64 (vrS vx a k), .int .i64 (vrS vy a k)]] w (Ret w (.int .i64 (sqA a k))) := fun k w => by
      have sX := vrS_small vx vx_one a k h32
      have sY := vrS_small vy vy_one a k h32
      exact phNorm_any _ _ sX.1 sX.2 sY.1 sY.2 w
    have HNB : ∀ k : Nat, ∀ w, Calls Try.prog 79 #[.agg #[.int .i64 (vrS vx b k), .int .i64 (vrS vy b k)]] w (Ret w (.int .i64 (sqA b k))) := fun k w => by
      have sX := vrS_small vx vx_one b k h32b
      have sY := vrS_small vy vy_one b k h32b
      exact phNorm_any _ _ sX.1 sX.2 sY.1 sY.2 w
    have hba := sqA_bound a h32
    have hbb := sqA_bound b h32b
    have hl : sqL a b = gen 4 (fun k => sqA a k + sqA b k) := by unfold sqL; rw [hp]; rfl
    rw [hl, hp]
    rw [hp] at HP
    obtain ⟨G, hG⟩ : ∃ G : Nat → Int, G = fun k => sqA a k + sqA b k := ⟨_, rfl⟩
    have hGk : ∀ k, G k = sqA a k + sqA b k := fun k => by rw [hG]
    rw [← hG]
    have HP' := Lib.hid HP
    have HCA' := Lib.hid HCA
    have HCB' := Lib.hid HCB
    have HNA' := Lib.hid HNA
    have HNB' := Lib.hid HNB
    have HBA := Lib.hid hba
    have HBB := Lib.hid hbb
    have HGK := Lib.hid hGk
    clear HP HCA HCB HNA HNB hba hbb hG hGk hl hp ha hb hab hva hvb
    go_enter Try.func45, Try.ntmps45
    go_wp2_with fail
    refine (HP'.out).mono ?_
    rintro e w1 ⟨rfl, hb1⟩
    have HB1 := Lib.hid hb1
    clear hb1
    go_wp2_with fail
    go_loopw [7, 6] (fun i o wr => ∃ j : Nat, j ≤ 4 ∧ i = .int .i64 j ∧ Own wr w.heap.size o (gen j G) ∧ Below w.heap.size w wr) (fun i _ _ => 4 - (intOf i).toNat)
    case atStart => exact ⟨0, Nat.zero_le _, rfl, World.ownsRow_nil _ _ _ _, HB1.out⟩
    case round =>
      obtain ⟨j, hj, rfl, hown, hbel⟩ := hrel
      have HO := Lib.hid hown
      have HB := Lib.hid hbel
      clear hown hbel
      by_cases hlt : j < 4
      · have h0 : (0 : Int) ≤ (j : Int) := by omega
        have h1 : (j : Int) < 4 := by omega
        have HAj := Lib.hid (HCA'.out j hlt)
        have HBj := Lib.hid (HCB'.out j hlt)
        have HNj := Lib.hid (HNA'.out j)
        have HMj := Lib.hid (HNB'.out j)
        have hgl : (gen j G).length ≤ 1048576 := by rw [gen_length]; omega
        have hgs := gen_succ j G
        rw [HGK.out j] at hgs
        obtain ⟨b1, b2⟩ := HBA.out j
        obtain ⟨b3, b4⟩ := HBB.out j
        obtain ⟨x, hx⟩ : ∃ x, x = vrS vx a (j : Int) := ⟨_, rfl⟩
        obtain ⟨y, hy⟩ : ∃ y, y = vrS vy a (j : Int) := ⟨_, rfl⟩
        obtain ⟨x', hx'⟩ : ∃ x, x = vrS vx b (j : Int) := ⟨_, rfl⟩
        obtain ⟨y', hy'⟩ : ∃ y, y = vrS vy b (j : Int) := ⟨_, rfl⟩
        obtain ⟨g, hg⟩ : ∃ g, g = sqA a j := ⟨_, rfl⟩
        obtain ⟨g', hg'⟩ : ∃ g, g = sqA b j := ⟨_, rfl⟩
        rw [← hx, ← hy] at HAj HNj
        rw [← hx', ← hy'] at HBj HMj
        rw [← hg] at HNj hgs b1 b2
        rw [← hg'] at HMj hgs b3 b4
        have HGS := Lib.hid hgs
        have HGL := Lib.hid hgl
        clear hx hy hx' hy' hg hg' hgs hgl
        go_wp2_with fail
        refine (HAj.out _ HB.out).mono ?_
        rintro e w2 ⟨rfl, hb2⟩
        have HO2 := Lib.hid (HO.out.below hb2)
        have HB2 := Lib.hid (joins HB.out hb2)
        clear hb2
        go_wp2_with fail
        refine (HNj.out _).mono ?_
        rintro e w3 ⟨rfl, hb3⟩
        have HO3 := Lib.hid (HO2.out.below hb3)
        have HB3 := Lib.hid (joins HB2.out hb3)
        clear hb3
        go_wp2_with fail
        refine (HBj.out _ HB3.out).mono ?_
        rintro e w4 ⟨rfl, hb4⟩
        have HO4 := Lib.hid (HO3.out.below hb4)
        have HB4 := Lib.hid (joins HB3.out hb4)
        clear hb4
        go_wp2_with fail
        refine (HMj.out _).mono ?_
        rintro e w5 ⟨rfl, hb5⟩
        have HO5 := Lib.hid (HO4.out.below hb5)
        have HB5 := Lib.hid (joins HB4.out hb5)
        clear hb5
        go_wp2_with (first
          | (at_builtin; refine wpList_push rfl _ _ rfl w.heap.size _ (gen j G) rfl (HO5.out.alloc _) w5.heap.size 1 (g + g') rfl (by simp) HGL.out w.heap.size w (HB5.out.alloc HB5.out.size _) (Nat.le_refl _) (by have := HB5.out.size; simp; omega) (by have := HB5.out.size; simp; omega) ?_; intro v6 w6 ho6 hb6))
        go_roundw
        case rel => exact ⟨j + 1, by omega, by go_num, by rw [HGS.out]; assumption, by assumption⟩
        case measure => simp [intOf]; omega
      · have he : j = 4 := by omega
        subst he
        go_wp2_with fail
        go_returns
        exact ⟨_, rfl, HO.out, HB.out⟩
  · have hp2 : goOk a b = false := by simpa using hp
    have hl : sqL a b = [] := by unfold sqL; rw [hp2]; rfl
    rw [hl, hp2]
    rw [hp2] at HP
    have HP' := Lib.hid HP
    clear HP hl hp hp2 hva hvb
    go_enter Try.func45, Try.ntmps45
    go_wp2_with fail
    refine (HP'.out).mono ?_
    rintro e w1 ⟨rfl, hb1⟩
    go_wp2_with fail
    go_returns
    exact ⟨_, rfl, World.ownsRow_nil _ _ _ _, hb1⟩

theorem csOk_in (n : Int) (w : World) : Calls Try.prog 60 #[.int .i64 n, .int .i64 2, .int .i64 5] w (Pure w (.bool (csOk n))) := by
  have h := l1In_any n 2 5 w
  rwa [show inB n 2 5 = csOk n by unfold inB csOk; by_cases a : 2 ≤ n <;> by_cases b : n ≤ 5 <;> simp [a, b]] at h
set_option maxHeartbeats 1000000 in
theorem scountStandard (m : Int) (w : World) : Calls Try.prog 43 #[.int .i64 m] w (Ret w (.tuple #[.int .i64 (csC m), .bool (csOk m)])) := by
  have HC := csOk_in m
  by_cases hs : csOk m = true
  · have hn : 2 ≤ m ∧ m ≤ 5 := of_decide_eq_true hs
    rw [hs]
    simp only [hs] at HC
    have HC' := Lib.hid HC
    clear HC hs
    rcases (show m = 2 ∨ m = 3 ∨ m = 4 ∨ m = 5 by omega) with rfl | rfl | rfl | rfl
    all_goals
      clear hn
      simp only [csC]
      go_enter Try.func43, Try.ntmps43
      go_wp2_with fail
      refine (HC'.out _).mono ?_
      rintro e w1 ⟨rfl, rfl⟩
      go_wp2_with fail
      go_rounds 6
      all_goals
        go_wp2_with fail
        go_returns
        exact ⟨rfl, by go_grown⟩
  · have hs2 : csOk m = false := by simpa using hs
    rw [csC_no m hs2, hs2]
    simp only [hs2] at HC
    have HC' := Lib.hid HC
    clear HC hs hs2
    go_enter Try.func43, Try.ntmps43
    go_wp2_with fail
    refine (HC'.out _).mono ?_
    rintro e w1 ⟨rfl, rfl⟩
    go_wp2_with fail
    go_returns
    exact ⟨rfl, by go_grown⟩
end Go.Proofs.Ytodgalflngfnpaa
