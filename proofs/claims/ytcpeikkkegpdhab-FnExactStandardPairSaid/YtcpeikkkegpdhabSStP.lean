/- The model's StandardPair. -/
import Derived.Test.YtcpeikkkegpdhabSSt
import Derived.Test.YtcpeikkkegpdhabSStG
import Derived.Test.YtcpeikkkegpdhabSGoJ
namespace Go.Proofs.Ytcpeikkkegpdhab
set_option maxRecDepth 100000
open Go.RowKit

theorem stP_no {o ph : List Int} {c : Int} (h : stOk o ph c = false) : stP o ph c = [] := by unfold stP; rw [h]; rfl
theorem stQ_no {o ph : List Int} {c : Int} (h : stOk o ph c = false) : stQ o ph c = [] := by unfold stQ; rw [h]; rfl

set_option maxRecDepth 100000 in
set_option maxHeartbeats 2000000 in
theorem sstandardPair (va vb : Value) (o ph : List Int) (c : Int) (w : World) (hva : IS w va o) (hvb : IS w vb ph) (hla : o.length ≤ 1048576) (hlb : ph.length ≤ 1048576) :
    Calls Try.prog 4 #[va, vb, .int .i64 c] w (Makes2B w (stP o ph c) (stQ o ph c) (stOk o ph c)) := by
  have HOR := goOrder_any va o w hva hla
  have HAL := fun w' (h : Below w.heap.size w w') => l1All_any vb ph 0 3 w' (hvb.below h)
  have HIN := l1In_any c 0 3
  have HVA := Lib.hid hva
  have HVB := Lib.hid hvb
  obtain ⟨a, cap, hveq⟩ : ∃ a cap, va = .slice a o.length cap := by rcases hva with ⟨rfl, a, cap, rfl⟩ | ⟨_, b, off, cap, rfl, _⟩ <;> exact ⟨_, _, rfl⟩
  obtain ⟨a', cap', hveq'⟩ : ∃ a cap, vb = .slice a ph.length cap := by rcases hvb with ⟨rfl, a, cap, rfl⟩ | ⟨_, b, off, cap, rfl, _⟩ <;> exact ⟨_, _, rfl⟩
  subst hveq hveq'
  have B0 := Lib.hid (Below.refl w.heap.size w)
  by_cases hp : orOk o = true
  · by_cases hlen : ph.length = o.length
    · by_cases hall : allIn ph 0 3 = true
      · by_cases hin : inB c 0 3 = true
        · have hok : stOk o ph c = true := by unfold stOk; rw [hp, hall, hin, hlen]; simp
          have hc : 0 ≤ c ∧ c ≤ 3 := by unfold inB at hin; simpa using hin
          have h32 := stL_len o ph c
          have HC1 := fun w' (h : Below w.heap.size w w') => goStandard_any _ _ o ph c false w' (HVA.out.below h) (HVB.out.below h) hp hall hlen hc.1 hc.2
          have HC2 := fun w' (h : Below w.heap.size w w') => goStandard_any _ _ o ph c true w' (HVA.out.below h) (HVB.out.below h) hp hall hlen hc.1 hc.2
          rw [hok, show stP o ph c = stL o ph c false from iff_yes _ hok, show stQ o ph c = stL o ph c true from iff_yes _ hok]
          rw [hp] at HOR
          simp only [hall] at HAL
          simp only [hin] at HIN
          rw [hlen] at HAL HC1 HC2 ⊢
          have HOR' := Lib.hid HOR
          have HAL' := Lib.hid HAL
          have HIN' := Lib.hid HIN
          have HC1' := Lib.hid HC1
          have HC2' := Lib.hid HC2
          clear HOR HAL HIN HC1 HC2 hok hp hall hin hlen hc h32 hva hvb
          go_enter Try.func4, Try.ntmps4
          go_wp2_with fail
          refine (HOR'.out).mono ?_
          rintro e w1 ⟨rfl, hb1⟩
          have B1 := Lib.hid (joins B0.out hb1)
          clear hb1
          go_wp2_with fail
          refine (HAL'.out _ B1.out).mono ?_
          rintro e w2 ⟨rfl, hb2⟩
          have B2 := Lib.hid (joins B1.out hb2)
          clear hb2
          go_wp2_with fail
          refine (HIN'.out _).mono ?_
          rintro e w3 ⟨rfl, rfl⟩
          go_wp2_with fail
          refine (HC1'.out _ B2.out).mono ?_
          rintro e w4 ⟨v4, rfl, ho4, hb4⟩
          have B4 := Lib.hid (joins B2.out hb4)
          have O4_x := Lib.hid ho4
          clear ho4 hb4
          go_wp2_with fail
          refine (HC2'.out _ B4.out).mono ?_
          rintro e w5 ⟨v5, rfl, ho5, hb5⟩
          have B5 := Lib.hid (joins B4.out hb5)
          have O5_x := Lib.hid (O4_x.out.below hb5)
          have O5_y := Lib.hid ho5
          clear ho5 hb5
          go_wp2_with fail
          go_returns
          exact Makes2B.two O5_x.out O5_y.out O4_x.out B2.out.size (Nat.le_refl _) B4.out.size B5.out
        · have hin2 : inB c 0 3 = false := by simpa using hin
          have hno : stOk o ph c = false := by unfold stOk; rw [hin2, Bool.and_false]
          rw [hp] at HOR
          simp only [hall] at HAL
          simp only [hin2] at HIN
          have hok := hno
          rw [hok, stP_no hok, stQ_no hok]
          clear hok hno
          rw [hlen] at HAL ⊢
          have HOR' := Lib.hid HOR
          have HAL' := Lib.hid HAL
          have HIN' := Lib.hid HIN
          clear HOR HAL HIN hp hall hin hin2 hlen hva hvb
          go_enter Try.func4, Try.ntmps4
          go_wp2_with fail
          refine (HOR'.out).mono ?_
          rintro e w1 ⟨rfl, hb1⟩
          have B1 := Lib.hid (joins B0.out hb1)
          clear hb1
          go_wp2_with fail
          refine (HAL'.out _ B1.out).mono ?_
          rintro e w2 ⟨rfl, hb2⟩
          have B2 := Lib.hid (joins B1.out hb2)
          clear hb2
          go_wp2_with fail
          refine (HIN'.out _).mono ?_
          rintro e w3 ⟨rfl, rfl⟩
          go_wp2_with fail
          go_returns
          exact Makes2B.none B2.out
      · have hall2 : allIn ph 0 3 = false := by simpa using hall
        have hno : stOk o ph c = false := by unfold stOk; rw [hall2, Bool.and_false, Bool.false_and]
        rw [hp] at HOR
        simp only [hall2] at HAL
        have hok := hno
        rw [hok, stP_no hok, stQ_no hok]
        clear hok hno
        rw [hlen] at HAL ⊢
        have HOR' := Lib.hid HOR
        have HAL' := Lib.hid HAL
        clear HOR HAL HIN hp hall hall2 hlen hva hvb
        go_enter Try.func4, Try.ntmps4
        go_wp2_with fail
        refine (HOR'.out).mono ?_
        rintro e w1 ⟨rfl, hb1⟩
        have B1 := Lib.hid (joins B0.out hb1)
        clear hb1
        go_wp2_with fail
        refine (HAL'.out _ B1.out).mono ?_
        rintro e w2 ⟨rfl, hb2⟩
        have B2 := Lib.hid (joins B1.out hb2)
        clear hb2
        go_wp2_with fail
        go_returns
        exact Makes2B.none B2.out
    · have hno : stOk o ph c = false := by unfold stOk; rw [decide_eq_false hlen, Bool.and_false, Bool.false_and, Bool.false_and]
      have hne : ¬ (ph.length : Int) = (o.length : Int) := by omega
      rw [hp] at HOR
      have hok := hno
      rw [hok, stP_no hok, stQ_no hok]
      clear hok hno
      have HOR' := Lib.hid HOR
      clear HOR HAL HIN hp hva hvb
      go_enter Try.func4, Try.ntmps4
      go_wp2_with fail
      refine (HOR'.out).mono ?_
      rintro e w1 ⟨rfl, hb1⟩
      have B1 := Lib.hid (joins B0.out hb1)
      clear hb1
      go_wp2_with fail
      go_returns
      exact Makes2B.none B1.out
  · have hp2 : orOk o = false := by simpa using hp
    have hno : stOk o ph c = false := by unfold stOk; rw [hp2, Bool.false_and, Bool.false_and, Bool.false_and]
    rw [hp2] at HOR
    have hok := hno
    rw [hok, stP_no hok, stQ_no hok]
    clear hok hno
    have HOR' := Lib.hid HOR
    clear HOR HAL HIN hp hp2 hva hvb
    go_enter Try.func4, Try.ntmps4
    go_wp2_with fail
    refine (HOR'.out).mono ?_
    rintro e w1 ⟨rfl, hb1⟩
    have B1 := Lib.hid (joins B0.out hb1)
    clear hb1
    go_wp2_with fail
    go_returns
    exact Makes2B.none B1.out
end Go.Proofs.Ytcpeikkkegpdhab
