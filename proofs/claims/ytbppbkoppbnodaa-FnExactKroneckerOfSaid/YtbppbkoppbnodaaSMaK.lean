/- The model's haKronecker, KroneckerOf. -/
import Derived.Test.YtbppbkoppbnodaaSMa
import Derived.Test.YtbppbkoppbnodaaMaK
namespace Go.Proofs.Ytbppbkoppbnodaa
set_option maxRecDepth 100000
open Go.RowKit

theorem mul8 (a b : Nat) (ha : a ≤ 8) (hb : b ≤ 8) : a * b ≤ 64 := Nat.mul_le_mul ha hb
set_option maxRecDepth 100000 in
set_option maxHeartbeats 4000000 in
theorem haKronecker_any (va vb : Value) (a b : List (List Int)) (w : World) (hva : IR w va a) (hvb : IR w vb b) (ha : maOk a = true) (hb : maOk b = true) : Calls Try.prog 41 #[va, vb] w (MakesR w (krL a b)) := by
  obtain ⟨pa, ca, rfl⟩ := hva.slice
  obtain ⟨pb, cb, rfl⟩ := hvb.slice
  have ha8 := maOk_le ha
  have hb8 := maOk_le hb
  have HVA := Lib.hid hva
  have HVB := Lib.hid hvb
  have HA := Lib.hid ha
  have HB := Lib.hid hb
  obtain ⟨F, hF⟩ : ∃ F, F = krL a b := ⟨_, rfl⟩
  rw [← hF]
  have HF := Lib.hid hF
  clear hva hvb ha hb hF
  go_enter Try.func41, Try.ntmps41
  go_wp2_with fail
  go_loopw [17, 5] (fun x o wr => ∃ j : Nat, j ≤ a.length ∧ x = .int .i64 j ∧ OwnR wr w.heap.size o (krO a b j) ∧ Below w.heap.size w wr) (fun x _ _ => a.length - (intOf x).toNat)
  case atStart => exact ⟨0, Nat.zero_le _, rfl, by rw [krO_zero]; exact OwnR.nil _ _, by go_grown⟩
  case round =>
    obtain ⟨j, hj, rfl, hown, hbel⟩ := hrel
    have HB0 := Lib.hid hbel
    have HO := Lib.hid hown
    clear hown hbel
    by_cases hlt : j < a.length
    · have h0 : (0 : Int) ≤ (j : Int) := by omega
      have h1 : (j : Int) < (a.length : Int) := by omega
      obtain ⟨-, bk, off, u, rfl, c1w, hu⟩ := HVA.out.at j hlt
      have c1 := keepc HB0.out c1w
      clear c1w
      have HSX := Lib.hid (maOk_seq HA.out j hlt)
      have hxl := maOk_sq HA.out j hlt
      have hs0 := krO_succ a b j hlt
      obtain ⟨x, hx⟩ : ∃ x, x = a.getD j [] := ⟨_, rfl⟩
      rw [← hx] at hu HSX hxl hs0
      have hx8 : x.length ≤ 8 := by omega
      have HS0 := Lib.hid hs0
      have hpl := krO_len a b j hj
      have hpm := mul8 j b.length (by omega) hb8
      have hp64 : (krO a b j).length ≤ 64 := by omega
      obtain ⟨P, hP⟩ : ∃ P, P = krO a b j := ⟨_, rfl⟩
      rw [← hP] at HO HS0 hp64
      obtain ⟨au, cu, rfl⟩ := hu.sl
      have HU := Lib.hid hu
      clear hx hs0 hxl hpl hpm hP hu
      go_wp2_with fail
      go_loopw [23, 5] (fun y o wq => ∃ k : Nat, k ≤ b.length ∧ y = .int .i64 k ∧ OwnR wq w.heap.size o (P ++ krI x b k) ∧ Below w.heap.size w wq) (fun y _ _ => b.length - (intOf y).toNat)
      case atStart => exact ⟨0, Nat.zero_le _, rfl, by rw [krI_zero, List.append_nil]; exact HO.out, HB0.out⟩
      case round =>
        obtain ⟨k, hk, rfl, hown, hbel⟩ := hrel
        clear HO HB0
        have HB1 := Lib.hid hbel
        have HO := Lib.hid hown
        clear hown hbel
        by_cases hkl : k < b.length
        · have h0k : (0 : Int) ≤ (k : Int) := by omega
          have h1k : (k : Int) < (b.length : Int) := by omega
          obtain ⟨-, bk2, off2, u2, rfl, c2, hu2⟩ := (HVB.out.below HB1.out).at k hkl
          have HSY := Lib.hid (maOk_seq HB.out k hkl)
          have hyl := maOk_sq HB.out k hkl
          have hs1 := krI_succ x b k hkl
          have hpl := krI_len x b k hk
          obtain ⟨y, hy⟩ : ∃ y, y = b.getD k [] := ⟨_, rfl⟩
          rw [← hy] at hu2 HSY hyl hs1
          have hy8 : y.length ≤ 8 := by omega
          have hq64 : (P ++ krI x b k).length ≤ 128 := by rw [List.length_append]; omega
          have hs2 : P ++ krI x b (k + 1) = (P ++ krI x b k) ++ [krRow x y] := by rw [hs1, List.append_assoc]
          have HS1 := Lib.hid hs2
          obtain ⟨Q, hQ⟩ : ∃ Q, Q = P ++ krI x b k := ⟨_, rfl⟩
          rw [← hQ] at HO HS1 hq64
          obtain ⟨au2, cu2, rfl⟩ := hu2.sl
          obtain ⟨w2, hw2⟩ : ∃ w2, w2 = wr := ⟨_, rfl⟩
          rw [← hw2] at hu2 HO HB1
          have HU2 := Lib.hid hu2
          have HUX := Lib.hid (HU.out.below HB1.out)
          have HST := Lib.hid (show Below w2.heap.size w2 wr by rw [hw2]; exact Below.refl _ _)
          clear hy hs1 hs2 hyl hpl hQ hu2 hw2
          go_wp2_with fail
          go_loopw [29, 10] (fun z r wq => ∃ s : Nat, s ≤ x.length ∧ z = .int .i64 s ∧ Own wq w2.heap.size r (krP x y s) ∧ Below w2.heap.size w2 wq) (fun z _ _ => x.length - (intOf z).toNat)
          case atStart => exact ⟨0, Nat.zero_le _, rfl, by rw [krP_zero]; exact World.ownsRow_nil _ _ _ _, HST.out⟩
          case round =>
            obtain ⟨s, hs, rfl, hr, hbq⟩ := hrel
            have HBQ := Lib.hid hbq
            have HRW := Lib.hid hr
            clear hbq hr
            by_cases hsl : s < x.length
            · have h0s : (0 : Int) ≤ (s : Int) := by omega
              have h1s : (s : Int) < (x.length : Int) := by omega
              have hpl := krP_len x y s hs
              have hpm := mul8 s y.length (by omega) hy8
              have hp64' : (krP x y s).length ≤ 64 := by omega
              have hps := krP_succ x y s hsl
              have hc := allIn_getD (isSeq_all HSX.out) s hsl
              rcases (HUX.out.below HBQ.out) with ⟨he, _⟩ | ⟨_, b3, off3, cap3, hveq, _, hcx⟩
              · rw [he] at hsl; exact absurd hsl (Nat.not_lt_zero _)
              simp only [Value.slice.injEq] at hveq
              obtain ⟨rfl, _, rfl⟩ := hveq
              have c3 := hcx s hsl
              obtain ⟨p, hp⟩ : ∃ p, p = x.getD s 0 := ⟨_, rfl⟩
              rw [← hp] at c3 hc hps
              obtain ⟨T, hT⟩ : ∃ T, T = krP x y s := ⟨_, rfl⟩
              rw [← hT] at HRW hps hp64'
              have HPS := Lib.hid hps
              obtain ⟨hc1, hc2⟩ := hc
              clear hcx hp hT hps hpl hpm
              go_wp2_with fail
              go_loopw [35, 10] (fun z r wq => ∃ t : Nat, t ≤ y.length ∧ z = .int .i64 t ∧ Own wq w2.heap.size r (T ++ krQ p y t) ∧ Below w2.heap.size w2 wq) (fun z _ _ => y.length - (intOf z).toNat)
              case atStart => exact ⟨0, Nat.zero_le _, rfl, by rw [krQ_zero, List.append_nil]; exact HRW.out, HBQ.out⟩
              case round =>
                obtain ⟨t, ht, rfl, hr, hbq⟩ := hrel
                clear HRW HBQ
                have HBQ := Lib.hid hbq
                have HRW := Lib.hid hr
                clear hbq hr
                by_cases htl : t < y.length
                · have h0t : (0 : Int) ≤ (t : Int) := by omega
                  have h1t : (t : Int) < (y.length : Int) := by omega
                  have hql := krQ_len p y t
                  have hqs := krQ_succ p y t htl
                  have hd := allIn_getD (isSeq_all HSY.out) t htl
                  rcases (HU2.out.below HBQ.out) with ⟨he, _⟩ | ⟨_, b4, off4, cap4, hveq, _, hcy⟩
                  · rw [he] at htl; exact absurd htl (Nat.not_lt_zero _)
                  simp only [Value.slice.injEq] at hveq
                  obtain ⟨rfl, _, rfl⟩ := hveq
                  have c4 := hcy t htl
                  obtain ⟨q, hq⟩ : ∃ q, q = y.getD t 0 := ⟨_, rfl⟩
                  rw [← hq] at c4 hd hqs
                  have hgl : (T ++ krQ p y t).length ≤ 1048576 := by rw [List.length_append]; omega
                  have hqs2 : T ++ krQ p y (t + 1) = (T ++ krQ p y t) ++ [(p + q) % 4] := by rw [hqs, List.append_assoc]
                  have HQS := Lib.hid hqs2
                  have HGL := Lib.hid hgl
                  have HPM := Lib.hid (phMod_any (p + q) (by omega) (by omega))
                  obtain ⟨hd1, hd2⟩ := hd
                  clear hcy hq hqs hqs2 hql hgl
                  go_wp2_with (first
                    | (go_at_call 61; refine (HPM.out _).mono ?_; rintro e w' ⟨rfl, rfl⟩)
                    | (at_builtin; refine wpList_push rfl _ _ rfl w2.heap.size _ (T ++ krQ p y t) rfl (HRW.out.alloc _) wr.heap.size 1 ((p + q) % 4) rfl (by simp) HGL.out w2.heap.size w2 (HBQ.out.alloc HBQ.out.size _) (Nat.le_refl _) (by have := HBQ.out.size; simp; omega) (by have := HBQ.out.size; simp; omega) ?_; intro v5 w5 ho5 hb5))
                  go_roundw
                  case rel => exact ⟨t + 1, by omega, by go_num, by rw [HQS.out]; assumption, by assumption⟩
                  case measure => simp [intOf]; omega
                · have he : t = y.length := by omega
                  subst he
                  have hr2 := HRW.out
                  rw [← HPS.out] at hr2
                  have HR2 := Lib.hid hr2
                  clear hr2
                  go_wp2_with fail
                  go_roundw
                  case rel => exact ⟨s + 1, by omega, by go_num, HR2.out, HBQ.out⟩
                  case measure => simp [intOf]; omega
            · have he : s = x.length := by omega
              subst he
              obtain ⟨ra, rc, hre⟩ := HRW.out.is.sl
              subst hre
              have hrr : krP x y x.length = krRow x y := rfl
              rw [hrr] at HRW ⊢
              have HGL := Lib.hid (show Q.length ≤ 1048576 by omega)
              go_wp2_with (first
                | (at_builtin; refine wpList_pushR rfl _ _ rfl w.heap.size _ Q rfl w2 HO.out (HBQ.out.alloc HBQ.out.size _) wr.heap.size 1 _ (krRow x y) rfl (by simp) (HRW.out.alloc _) HGL.out w.heap.size w (belowa (joins HB1.out HBQ.out) _) (Nat.le_refl _) HB1.out.size (by have := HB1.out.size; have := HBQ.out.size; simp; omega) ?_; intro v5 w5 ho5 hb5))
              go_roundw
              case rel => exact ⟨k + 1, by omega, by go_num, by rw [HS1.out]; assumption, by assumption⟩
              case measure => simp [intOf]; omega
        · have he : k = b.length := by omega
          subst he
          have hO := HO.out
          rw [← HS0.out] at hO
          have HO2 := Lib.hid hO
          clear hO
          go_wp2_with fail
          go_roundw
          case rel => exact ⟨j + 1, by omega, by go_num, HO2.out, HB1.out⟩
          case measure => simp [intOf]; omega
    · have he : j = a.length := by omega
      subst he
      go_wp2_with fail
      go_returns
      exact ⟨_, rfl, by rw [HF.out]; exact HO.out, HB0.out⟩
set_option maxHeartbeats 1000000 in
theorem skroneckerOf (va vb : Value) (a b : List (List Int)) (w : World) (hva : IR w va a) (hvb : IR w vb b) : Calls Try.prog 17 #[va, vb] w (MakesRB w (krA a b) (krOk a b)) := by
  obtain ⟨pa, ca, rfl⟩ := hva.slice
  obtain ⟨pb, cb, rfl⟩ := hvb.slice
  have HG1 := Lib.hid (haGood_any _ a w hva)
  have HG2 := Lib.hid (fun w' (h : Below w.heap.size w w') => haGood_any _ b w' (hvb.below h))
  unfold krA krOk
  cases ha : maOk a with
  | false =>
    rw [ha] at HG1
    rw [Bool.false_and, Bool.false_and, if_neg (by simp)]
    clear hva hvb ha HG2
    go_enter Try.func17, Try.ntmps17
    go_wp2_with fail
    refine (HG1.out).mono ?_
    rintro e w1 ⟨rfl, hb1⟩
    go_wp2_with fail
    go_returns
    exact ⟨_, rfl, OwnR.nil _ _, hb1⟩
  | true =>
    rw [ha] at HG1
    cases hb : maOk b with
    | false =>
      rw [hb] at HG2
      rw [Bool.true_and, Bool.false_and, if_neg (by simp)]
      clear hva hvb ha hb
      go_enter Try.func17, Try.ntmps17
      go_wp2_with fail
      refine (HG1.out).mono ?_
      rintro e w1 ⟨rfl, hb1⟩
      go_wp2_with fail
      refine (HG2.out _ hb1).mono ?_
      rintro e w2 ⟨rfl, hb2⟩
      have hB2 := joins hb1 hb2
      clear hb2
      go_wp2_with fail
      go_returns
      exact ⟨_, rfl, OwnR.nil _ _, hB2⟩
    | true =>
      rw [hb] at HG2
      rw [Bool.true_and, Bool.true_and]
      have ha8 := maOk_le ha
      have hb8 := maOk_le hb
      have h64 := mul8 _ _ ha8 hb8
      have HK := Lib.hid (fun w' (h : Below w.heap.size w w') => haKronecker_any _ _ a b w' (hva.below h) (hvb.below h) ha hb)
      have hW : wrap64 ((a.length : Int) * (b.length : Int)) = ((a.length * b.length : Nat) : Int) := by
        rw [show (a.length : Int) * (b.length : Int) = ((a.length * b.length : Nat) : Int) by simp]
        unfold wrap64
        omega
      clear hva hvb ha hb
      by_cases h8 : a.length * b.length ≤ 8
      · rw [decide_eq_true h8, if_pos rfl]
        obtain ⟨M, hM⟩ : ∃ M, M = a.length * b.length := ⟨_, rfl⟩
        rw [← hM] at hW h8 h64
        clear hM
        go_enter Try.func17, Try.ntmps17
        go_wp2_with fail
        refine (HG1.out).mono ?_
        rintro e w1 ⟨rfl, hb1⟩
        go_wp2_with fail
        refine (HG2.out _ hb1).mono ?_
        rintro e w2 ⟨rfl, hb2⟩
        have hB2 := joins hb1 hb2
        clear hb2
        go_wp2_with fail
        refine (HK.out _ hB2).mono ?_
        rintro e w3 ⟨v3, rfl, ho3, hb3⟩
        have HO := Lib.hid (ho3.mono hB2.size)
        have HB3 := Lib.hid (joins hB2 hb3)
        clear ho3 hb3
        go_wp2_with fail
        go_returns
        exact ⟨_, rfl, HO.out, HB3.out⟩
      · rw [decide_eq_false h8, if_neg (by simp)]
        obtain ⟨M, hM⟩ : ∃ M, M = a.length * b.length := ⟨_, rfl⟩
        rw [← hM] at hW h8 h64
        clear hM
        go_enter Try.func17, Try.ntmps17
        go_wp2_with fail
        refine (HG1.out).mono ?_
        rintro e w1 ⟨rfl, hb1⟩
        go_wp2_with fail
        refine (HG2.out _ hb1).mono ?_
        rintro e w2 ⟨rfl, hb2⟩
        have hB2 := joins hb1 hb2
        clear hb2
        go_wp2_with fail
        go_returns
        exact ⟨_, rfl, OwnR.nil _ _, hB2⟩
end Go.Proofs.Ytbppbkoppbnodaa
