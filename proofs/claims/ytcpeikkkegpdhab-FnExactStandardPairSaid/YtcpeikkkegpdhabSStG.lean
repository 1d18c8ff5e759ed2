/- The model's goStandard. -/
import Derived.Test.YtcpeikkkegpdhabPhs
import Derived.Test.YtcpeikkkegpdhabStM
import Derived.Test.YtcpeikkkegpdhabKit
import Derived.Deep.QuietTactic
import Derived.BigQuiet
namespace Go.Proofs.Ytcpeikkkegpdhab
set_option maxRecDepth 100000
open Go.RowKit

theorem bit_walk (x k : Nat) : ((x : Int) / 2 ^ k).tmod 2 = bitI x (k : Int) := by
  unfold bitI
  rw [Int.tmod_eq_emod_of_nonneg (Int.ediv_nonneg (by omega) (Int.le_of_lt (Int.pow_pos (by decide))))]
  rfl
theorem step_ph (c q y z : Int) (h1 : 0 ≤ c ∧ c ≤ 3) (h2 : 0 ≤ q ∧ q ≤ 100) (h3 : 0 ≤ y ∧ y ≤ 3) (h4 : 0 ≤ z ∧ z ≤ 1) : wrap64 (c + q + wrap64 (y * z)) = c + (q + y * z) := by
  unfold wrap64
  rcases (show z = 0 ∨ z = 1 by omega) with rfl | rfl
  · simp; omega
  · simp; omega
theorem pow5 (m : Nat) (h : m ≤ 5) : 1 ≤ (2 : Nat) ^ m ∧ (2 : Nat) ^ m ≤ 32 := by
  have h' : ∀ j : Nat, j < 6 → 1 ≤ (2 : Nat) ^ j ∧ (2 : Nat) ^ j ≤ 32 := by decide
  exact h' m (by omega)
theorem step_or (P q y z : Int) (h1 : 0 ≤ P ∧ P ≤ 18) (h2 : 0 ≤ q ∧ q ≤ 100) (h3 : 0 ≤ y ∧ y ≤ 1) (h4 : 0 ≤ z ∧ z ≤ 1) : wrap64 (P + q + wrap64 (wrap64 (2 * y) * z)) = P + (q + 2 * y * z) := by
  unfold wrap64
  rcases (show y = 0 ∨ y = 1 by omega) with rfl | rfl <;> rcases (show z = 0 ∨ z = 1 by omega) with rfl | rfl <;> simp <;> omega
theorem step_two (P z : Int) (h1 : 0 ≤ P ∧ P ≤ 100) (h3 : 0 ≤ z ∧ z ≤ 1) : wrap64 (P + wrap64 (2 * z)) = P + 2 * z := by
  unfold wrap64
  omega

set_option maxRecDepth 100000 in
set_option maxHeartbeats 2000000 in
theorem goStandard_any (va vb : Value) (o ph : List Int) (c : Int) (s : Bool) (w : World) (hva : IS w va o) (hvb : IS w vb ph) (ho : orOk o = true) (hp : allIn ph 0 3 = true) (hlen : ph.length = o.length) (hc0 : 0 ≤ c) (hc3 : c ≤ 3) :
    Calls Try.prog 13 #[va, vb, .int .i64 c, .bool s] w (Makes w (stL o ph c s)) := by
  obtain ⟨hM, -, -⟩ := orOk_parts ho
  have HOR := Lib.hid (fun k hk => orOk_at ho k hk)
  have HPH := Lib.hid (fun k hk => allIn_getD hp k hk)
  have HPS := Lib.hid (fun x k hk => phS_bound ph x hp k hk)
  obtain ⟨a, cap, hveq⟩ : ∃ a cap, va = .slice a o.length cap := by rcases hva with ⟨rfl, a, cap, rfl⟩ | ⟨_, b, off, cap, rfl, _⟩ <;> exact ⟨_, _, rfl⟩
  obtain ⟨a', cap', hveq'⟩ : ∃ a cap, vb = .slice a ph.length cap := by rcases hvb with ⟨rfl, a, cap, rfl⟩ | ⟨_, b, off, cap, rfl, _⟩ <;> exact ⟨_, _, rfl⟩
  subst hveq hveq'
  have HVA := Lib.hid hva
  have HVB := Lib.hid hvb
  obtain ⟨M, hMd⟩ : ∃ M, M = o.length := ⟨_, rfl⟩
  obtain ⟨N, hN⟩ : ∃ N : Nat, N = 2 ^ o.length := ⟨_, rfl⟩
  have hN2 := pow5 o.length hM.2
  rw [← hN] at hN2
  have hgoal : stL o ph c s = gen N (fun x => stT o ph c s x % 4) := by rw [hN]; rfl
  rw [hgoal]
  obtain ⟨G, hG⟩ : ∃ G : Nat → Int, G = fun (x : Nat) => stT o ph c s x % 4 := ⟨_, rfl⟩
  rw [← hG]
  have hsh : wrap64 (2 ^ o.length) = (N : Int) := by
    rw [hN]
    obtain ⟨u, hu⟩ : ∃ u, u = o.length := ⟨_, rfl⟩
    rw [← hu] at hM ⊢
    rcases (show u = 1 ∨ u = 2 ∨ u = 3 ∨ u = 4 ∨ u = 5 by omega) with rfl | rfl | rfl | rfl | rfl <;> simp [wrap64]
  rw [hlen] at HVB ⊢
  rw [← hMd] at HVA HVB hM hsh ⊢
  have HL := Lib.hid hlen
  have HMD := Lib.hid hMd
  have HG := Lib.hid hG
  clear hgoal hG hN ho hp hlen hva hvb hMd
  go_enter Try.func13, Try.ntmps13
  go_wp2_with fail
  go_loopw [10, 9] (fun x o' wr => ∃ j : Nat, j ≤ N ∧ x = .int .i64 j ∧ Own wr w.heap.size o' (gen j G) ∧ Below w.heap.size w wr) (fun x _ _ => N - (intOf x).toNat)
  case atStart => exact ⟨0, Nat.zero_le _, rfl, World.ownsRow_nil _ _ _ _, Below.refl _ _⟩
  case round =>
    obtain ⟨j, hj, rfl, hown, hbel⟩ := hrel
    by_cases hlt : j < N
    · have HO := Lib.hid hown
      have HB := Lib.hid hbel
      clear hown hbel
      have h0 : (0 : Int) ≤ (j : Int) := by omega
      have h1 : (j : Int) < (N : Int) := by omega
      go_wp2_with fail
      go_loop [25, 11] (fun i p => ∃ k : Nat, k ≤ M ∧ i = .int .i64 k ∧ p = .int .i64 (c + phS ph j k)) (fun i _ => M - (intOf i).toNat)
      case atStart => exact ⟨0, Nat.zero_le _, rfl, congrArg (Value.int .i64) (by simp [phS])⟩
      case round =>
        obtain ⟨k, hk, rfl, rfl⟩ := hrel
        by_cases hkl : k < M
        · have hkp : k < ph.length := by rw [HL.out, ← HMD.out]; exact hkl
          have hx := HPH.out k hkp
          have hs0 := HPS.out j k (by omega)
          have hb := bitI_01 j (k : Int)
          have hw1 := bit_walk j k
          rcases HVB.out.below HB.out with ⟨h0, _⟩ | ⟨_, b, off, capb, hveq, _, hc⟩
          · rw [h0] at hkp; exact absurd hkp (Nat.not_lt_zero _)
          simp only [Value.slice.injEq] at hveq
          obtain ⟨rfl, hnn, rfl⟩ := hveq
          clear hnn
          have c1 := hc k hkp
          clear hc
          obtain ⟨y, hy⟩ : ∃ y, y = ph.getD k 0 := ⟨_, rfl⟩
          obtain ⟨q, hq⟩ : ∃ q, q = phS ph j k := ⟨_, rfl⟩
          obtain ⟨z, hz⟩ : ∃ z, z = bitI j (k : Int) := ⟨_, rfl⟩
          have hsu : phS ph j (k + 1) = q + y * z := by rw [hq, hy, hz]; rfl
          rw [← hy] at c1 hx
          rw [← hq] at hs0 ⊢
          rw [← hz] at hb hw1
          have HSU := Lib.hid hsu
          have HW1 := Lib.hid hw1
          clear hsu hy hq hz hw1
          have hk0 : (0 : Int) ≤ (k : Int) := by omega
          have hk1 : (k : Int) < (M : Int) := by omega
          obtain ⟨x1, x2⟩ := hx
          obtain ⟨b1, b2⟩ := hb
          obtain ⟨s1, s2⟩ := hs0
          have HST := Lib.hid (step_ph c q y z ⟨hc0, hc3⟩ ⟨s1, by omega⟩ ⟨x1, x2⟩ ⟨b1, b2⟩)
          clear b1 b2 x1 x2 s1 s2
          go_wp2_with fail
          go_round
          case rel => exact ⟨k + 1, by omega, by go_num, by rw [HW1.out, HST.out, HSU.out]⟩
          case measure => simp [intOf]; omega
        · have hke : k = M := by omega
          subst hke
          have hs0 := HPS.out j k (by rw [HL.out, ← HMD.out]; exact Nat.le_refl _)
          obtain ⟨P, hP⟩ : ∃ P, P = c + phS ph j k := ⟨_, rfl⟩
          have hP1 : 0 ≤ P := by omega
          have hP2 : P ≤ 18 := by omega
          rw [← hP]
          have HPD := Lib.hid hP
          clear hP hs0
          go_wp2_with fail
          go_loopw [14, 11] (fun i p wq => ∃ t : Nat, t + 1 ≤ k ∧ i = .int .i64 (t + 1 : Int) ∧ p = .int .i64 (P + orS o j t) ∧ Below wr.heap.size wr wq) (fun i _ _ => k - (intOf i).toNat)
          case atStart => exact ⟨0, by omega, rfl, congrArg (Value.int .i64) (by simp [orS]), Below.refl _ _⟩
          case round =>
            obtain ⟨t, ht, rfl, rfl, hbq⟩ := hrel
            have HBQ := Lib.hid hbq
            clear hbq
            have hos := orS_bound o j t
            by_cases htl : t + 1 < k
            · have h0t : (0 : Int) ≤ (t : Int) := by omega
              have h1t : (t : Int) + 1 < (k : Int) := by omega
              have hkp : t + 1 < o.length := by rw [← HMD.out]; exact htl
              have hkp0 : t < o.length := by omega
              have hu := HOR.out t hkp0
              have hv := HOR.out (t + 1) hkp
              rw [← HMD.out] at hu hv
              have hb1 := bitI_01 j (o.getD t 0)
              have hb2 := bitI_01 j (o.getD (t + 1) 0)
              rcases HVA.out.below (joins HB.out HBQ.out) with ⟨h0, _⟩ | ⟨_, b, off, capb, hveq, _, hc⟩
              · rw [h0] at hkp; exact absurd hkp (Nat.not_lt_zero _)
              simp only [Value.slice.injEq] at hveq
              obtain ⟨rfl, hnn, rfl⟩ := hveq
              clear hnn
              have c1 := hc t hkp0
              have c2 := hc (t + 1) hkp
              clear hc
              have hsu : orS o j (t + 1) = orS o j t + 2 * bitI j (o.getD t 0) * bitI j (o.getD (t + 1) 0) := rfl
              obtain ⟨u, hu'⟩ : ∃ u, u = o.getD t 0 := ⟨_, rfl⟩
              obtain ⟨v, hv'⟩ : ∃ v, v = o.getD (t + 1) 0 := ⟨_, rfl⟩
              obtain ⟨q, hq⟩ : ∃ q, q = orS o j t := ⟨_, rfl⟩
              rw [← hu'] at hu hb1 c1 hsu
              rw [← hv'] at hv hb2 c2 hsu
              rw [← hq] at hsu hos ⊢
              obtain ⟨u, rfl⟩ := Int.eq_ofNat_of_zero_le hu.1
              obtain ⟨v, rfl⟩ := Int.eq_ofNat_of_zero_le hv.1
              have hw1 := bit_walk j u
              have hw2 := bit_walk j v
              obtain ⟨y, hy⟩ : ∃ y, y = bitI j (u : Int) := ⟨_, rfl⟩
              obtain ⟨z, hz⟩ : ∃ z, z = bitI j (v : Int) := ⟨_, rfl⟩
              rw [← hy] at hw1 hb1 hsu
              rw [← hz] at hw2 hb2 hsu
              have hu5 : u < 5 := by omega
              have hv5 : v < 5 := by omega
              have HSU := Lib.hid hsu
              have HW1 := Lib.hid hw1
              have HW2 := Lib.hid hw2
              have HB1 := Lib.hid hb1
              have HB2 := Lib.hid hb2
              have HOS := Lib.hid hos
              clear hsu hw1 hw2 hy hz hu' hv' hq hu hv hb1 hb2 hos hkp hkp0
              go_wp2_with fail
              go_quiet (fail)
              have HST := Lib.hid (step_or P q y z ⟨hP1, hP2⟩ ⟨HOS.out.1, by have := HOS.out.2; omega⟩ HB1.out HB2.out)
              have HBQ2 := Lib.hid (belowN HBQ.out nq)
              go_wp2_with fail
              go_roundw
              case rel => exact ⟨t + 1, by omega, by go_num, by rw [HW1.out, HW2.out, HST.out, HSU.out], HBQ2.out⟩
              case measure => simp [intOf]; omega
            · have hte : t = k - 1 := by omega
              have hfin : stT o ph c s j = P + orS o j t + (if s then 2 * bitI j (o.getD 0 0) else 0) := by rw [HPD.out, hte]; unfold stT; rw [HL.out, ← HMD.out]
              obtain ⟨q, hq⟩ : ∃ q, q = orS o j t := ⟨_, rfl⟩
              rw [← hq] at hos hfin ⊢
              have hGj : G j = stT o ph c s j % 4 := by rw [HG.out]
              rw [hfin] at hGj
              have hq2 : q ≤ 10 := by omega
              obtain ⟨hq1, -⟩ := hos
              have HGJ := Lib.hid hGj
              have HO2 := Lib.hid (HO.out.below HBQ.out)
              have HBB := Lib.hid (joins HB.out HBQ.out)
              clear hq hfin hGj
              have hgl : (gen j G).length ≤ 1048576 := by rw [gen_length]; omega
              have hgs := gen_succ j G
              rw [HGJ.out] at hgs
              have HGS := Lib.hid hgs
              have HGL := Lib.hid hgl
              clear hgs hgl
              cases s with
              | false =>
                simp only [Bool.false_eq_true, if_false, Int.add_zero] at HGS
                obtain ⟨F, hF⟩ : ∃ F, F = P + q := ⟨_, rfl⟩
                rw [← hF] at HGS ⊢
                have hF1 : 0 ≤ F := by omega
                have hF2 : F ≤ 100 := by omega
                have HPM := Lib.hid (phMod_any F (by omega) (by omega))
                clear hF
                go_wp2_with (first
                  | (go_at_call 16; refine (HPM.out _).mono ?_; rintro e w' ⟨rfl, rfl⟩)
                  | (at_builtin; refine wpList_push rfl _ _ rfl w.heap.size _ (gen j G) rfl (HO2.out.alloc _) (World.heap _).size 1 (F % 4) rfl (by simp) HGL.out w.heap.size w (HBB.out.alloc HBB.out.size _) (Nat.le_refl _) (by have := HBB.out.size; simp; omega) (by have := HBB.out.size; simp; omega) ?_; intro v2 w2 ho2 hb2))
                go_roundw
                case rel => exact ⟨j + 1, by omega, by go_num, by rw [HGS.out]; assumption, by assumption⟩
                case measure => simp [intOf]; omega
              | true =>
                simp only [if_true] at HGS
                have hkp : 0 < o.length := by rw [← HMD.out]; omega
                have hu := HOR.out 0 hkp
                rw [← HMD.out] at hu
                have hb1 := bitI_01 j (o.getD 0 0)
                rcases HVA.out.below HBB.out with ⟨h0, _⟩ | ⟨_, b, off, capb, hveq, _, hc⟩
                · rw [h0] at hkp; exact absurd hkp (Nat.not_lt_zero _)
                simp only [Value.slice.injEq] at hveq
                obtain ⟨rfl, hnn, rfl⟩ := hveq
                clear hnn
                have c1 := hc 0 hkp
                rw [Nat.add_zero] at c1
                clear hc
                obtain ⟨u, hu'⟩ : ∃ u, u = o.getD 0 0 := ⟨_, rfl⟩
                rw [← hu'] at hu hb1 c1 HGS
                obtain ⟨u, rfl⟩ := Int.eq_ofNat_of_zero_le hu.1
                have hw1 := bit_walk j u
                obtain ⟨z, hz⟩ : ∃ z, z = bitI j (u : Int) := ⟨_, rfl⟩
                rw [← hz] at hw1 hb1 HGS
                have hu5 : u < 5 := by omega
                obtain ⟨F, hF⟩ : ∃ F, F = P + q + 2 * z := ⟨_, rfl⟩
                have hst := step_two (P + q) z (by omega) hb1
                rw [← hF] at hst
                rw [← hF] at HGS
                have hF1 : 0 ≤ F := by omega
                have hF2 : F ≤ 100 := by omega
                have HPM := Lib.hid (phMod_any F (by omega) (by omega))
                have HST := Lib.hid hst
                have HW1 := Lib.hid hw1
                clear hF hst hw1 hz hu' hu hb1 hkp
                go_wp2_with (first
                  | (go_at_call 16; rw [HW1.out, HST.out]; refine (HPM.out _).mono ?_; rintro e w' ⟨rfl, rfl⟩)
                  | (at_builtin; refine wpList_push rfl _ _ rfl w.heap.size _ (gen j G) rfl (HO2.out.alloc _) (World.heap _).size 1 (F % 4) rfl (by simp) HGL.out w.heap.size w (HBB.out.alloc HBB.out.size _) (Nat.le_refl _) (by have := HBB.out.size; simp; omega) (by have := HBB.out.size; simp; omega) ?_; intro v2 w2 ho2 hb2))
                go_roundw
                case rel => exact ⟨j + 1, by omega, by go_num, by rw [HGS.out]; assumption, by assumption⟩
                case measure => simp [intOf]; omega
    · have he : j = N := by omega
      subst he
      have HO := Lib.hid hown
      have HB := Lib.hid hbel
      clear hown hbel
      go_wp2_with fail
      go_returns
      exact ⟨_, rfl, HO.out, HB.out⟩
end Go.Proofs.Ytcpeikkkegpdhab
