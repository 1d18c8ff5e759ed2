/- The program's EnergyOf. -/
import Derived.Test.YtgibdndckoapfabISg
import Derived.Test.YtgibdndckoapfabEgM
namespace Go.Proofs.Ytgibdndckoapfab
set_option maxRecDepth 100000
open Go.RowKit

set_option maxHeartbeats 1000000 in
theorem normOf_any (x y : Int) (h : good x y = true) (w : World) : Calls Try.prog 37 #[.agg #[.int .i64 x, .int .i64 y]] w (Ret w (.tuple #[.int .i64 (norm x y), .bool true])) := by
  have HG := Lib.hid (igood x y)
  rw [h] at HG
  have hg := good_in h
  have h1 := sq_le x hg.1
  have h2 := sq_le y hg.2
  have hN : norm x y = x * x + y * y := rfl
  obtain ⟨p, hp⟩ : ∃ p, p = x * x := ⟨_, rfl⟩
  obtain ⟨q, hq⟩ : ∃ p, p = y * y := ⟨_, rfl⟩
  rw [hN, ← hp, ← hq]
  rw [← hp] at h1
  rw [← hq] at h2
  have w1 : wrap64 (x * x) = p := by rw [← hp]; exact IntWalk.wrap64_in p ⟨by omega, by omega⟩
  have w2 : wrap64 (y * y) = q := by rw [← hq]; exact IntWalk.wrap64_in q ⟨by omega, by omega⟩
  have w3 : wrap64 (p + q) = p + q := IntWalk.wrap64_in _ ⟨by omega, by omega⟩
  have c1 := cell_new0 w (.int .i64 x) (.int .i64 y) 45
  have c2 := cell_new1 w (.int .i64 x) (.int .i64 y) 45
  clear hg h1 h2 hN hp hq h
  go_enter Try.func37, Try.ntmps37
  go_wp2_with fail
  refine (HG.out _).mono ?_
  rintro e w4 ⟨rfl, hb⟩
  have d1 := keepc hb c1
  have d2 := keepc hb c2
  have HB := Lib.hid (joins (belowa (Below.refl _ _) _) hb)
  clear hb c1 c2
  go_wp2_with fail
  go_returns
  exact ⟨ret_eq (congrArg (fun z => Value.tuple #[Value.int .i64 z, Value.bool true]) w3), HB.out⟩

set_option maxRecDepth 100000 in
set_option maxHeartbeats 2000000 in
theorem ienergyOf (v : Value) (l : List (Int × Int)) (w : World) (hv : IG w v l) : Calls Try.prog 12 #[v] w (Ret w (.tuple #[.int .i64 (enA l), .bool (enOk l)])) := by
  have HS := Lib.hid (signalOf_any 3 (tfSz l.length) v l (fun w => by rw [← tfZ_nat]; exact fits_conj _ w) (fun h => by have := tfSz_cases h; omega) w hv)
  obtain ⟨a, cap, hvs⟩ := hv.slice
  cases hok : tfOk l with
  | false =>
    rw [show (tfSz l.length && goodL l) = false from hok] at HS
    have e1 : enOk l = false := by unfold enOk; rw [hok]; rfl
    have e2 : enA l = 0 := by unfold enA; rw [e1]; rfl
    rw [e1, e2]
    clear e1 e2 hok hvs hv
    go_enter Try.func12, Try.ntmps12
    go_wp2_with fail
    refine (HS.out).mono ?_
    rintro e w1 ⟨hb, ⟨h, _⟩ | ⟨_, rfl⟩⟩
    · cases h
    · have HB := Lib.hid hb
      clear hb
      go_wp2_with fail
      go_returns
      exact ⟨rfl, HB.out⟩
  | true =>
    have hlen := tfOk_len hok
    rw [show (tfSz l.length && goodL l) = true from hok] at HS
    have HG := Lib.hid (goodL_at (tfOk_good hok))
    have HP := Lib.hid (en_part l hok)
    have HEO := Lib.hid (show enOk l = decide (enS l ≤ 1000000000000) by unfold enOk; rw [hok]; rfl)
    rcases hv with ⟨rfl, _⟩ | ⟨_, b, off, cap', rfl, hm, hc⟩
    · simp at hlen
    · obtain ⟨n, hn⟩ : ∃ n, n = l.length := ⟨_, rfl⟩
      have HQ := Lib.hid (show ∀ k, nmG l k = norm (gre l k) (gim l k) from fun _ => rfl)
      obtain ⟨G, hG⟩ : ∃ G, G = nmG l := ⟨_, rfl⟩
      have HEA := Lib.hid (show enS l = sumN G n by rw [hG, hn]; rfl)
      rw [← hG] at HQ HP
      rw [← hn] at hc HG HP hlen HS ⊢
      have HC := Lib.hid hc
      obtain ⟨E1, hE1⟩ : ∃ E, E = enA l := ⟨_, rfl⟩
      obtain ⟨E2, hE2⟩ : ∃ E, E = enOk l := ⟨_, rfl⟩
      rw [← hE1, ← hE2]
      have HE := Lib.hid (And.intro hE1 hE2)
      obtain ⟨hl1, hl2⟩ := hlen
      clear hc hm hn hG hok hvs hE1 hE2
      go_enter Try.func12, Try.ntmps12
      go_wp2_with fail
      refine (HS.out).mono ?_
      rintro e w1 ⟨hb, ⟨_, g, rfl, _⟩ | ⟨h, _⟩⟩
      case inr => cases h
      have HB1 := Lib.hid hb
      clear hb
      go_wp2_with fail
      go_loopw [20, 6] (fun i s wr => ∃ k : Nat, k ≤ n ∧ i = .int .i64 k ∧ s = .int .i64 (sumN G k) ∧ Below w.heap.size w wr) (fun i _ _ => n - (intOf i).toNat)
      case atStart => exact ⟨0, Nat.zero_le _, rfl, rfl, HB1.out⟩
      case round =>
        obtain ⟨k, hk, rfl, rfl, hbel⟩ := hrel
        have HB := Lib.hid hbel
        clear hbel
        by_cases hlt : k < n
        · have c1 := keepc HB.out (HC.out k hlt).1
          have c2 := keepc HB.out (HC.out k hlt).2
          have h0 : (0 : Int) ≤ (k : Int) := by omega
          have h1 : (k : Int) < (n : Int) := by omega
          have hg := HG.out k hlt
          have hs := HQ.out k
          have hb1 := HP.out (k + 1) (by omega)
          rw [show sumN G (k + 1) = sumN G k + G k from rfl] at hb1
          obtain ⟨x, hx⟩ : ∃ x, x = gre l k := ⟨_, rfl⟩
          obtain ⟨y, hy⟩ : ∃ y, y = gim l k := ⟨_, rfl⟩
          rw [← hx] at c1 hg hs
          rw [← hy] at c2 hg hs
          have HN := Lib.hid (normOf_any x y hg)
          rw [← hs] at HN
          obtain ⟨S, hS⟩ : ∃ S, S = sumN G k := ⟨_, rfl⟩
          obtain ⟨T, hT⟩ : ∃ S, S = G k := ⟨_, rfl⟩
          have HST := Lib.hid (show S + T = sumN G (k + 1) by rw [hS, hT]; rfl)
          rw [← hS, ← hT] at hb1
          rw [← hT] at HN
          rw [← hS]
          obtain ⟨hb2, hb3⟩ := hb1
          have w3 : wrap64 (S + T) = S + T := IntWalk.wrap64_in _ ⟨by omega, by omega⟩
          clear hx hy hg hs hS hT hb2 hb3
          go_wp2_with fail
          refine (HN.out _).mono ?_
          rintro e w2 ⟨rfl, hb⟩
          have HB2 := Lib.hid (joins (belowa HB.out _) hb)
          clear hb
          go_wp2_with fail
          go_roundw
          case rel => exact ⟨k + 1, by omega, by go_num, congrArg (Value.int .i64) (w3.trans HST.out), HB2.out⟩
          case measure => simp [intOf]; omega
        · obtain rfl : k = n := by omega
          have HEK := Lib.hid (HEA.out)
          obtain ⟨E, hE⟩ : ∃ E, E = sumN G k := ⟨_, rfl⟩
          rw [← hE]
          rw [← hE] at HEK
          clear hE
          by_cases hle : E ≤ 1000000000000
          · have HR := Lib.hid (show E1 = E ∧ E2 = true by
              have : E2 = true := by rw [HE.out.2, HEO.out, HEK.out]; simp [hle]
              refine ⟨?_, this⟩
              rw [HE.out.1]; unfold enA; rw [← HE.out.2, this, HEK.out]; rfl)
            go_wp2_with fail
            go_returns
            exact ⟨ret_eq (by rw [HR.out.1, HR.out.2]; rfl), HB.out⟩
          · have HR := Lib.hid (show E1 = 0 ∧ E2 = false by
              have : E2 = false := by rw [HE.out.2, HEO.out, HEK.out]; simp [hle]
              refine ⟨?_, this⟩
              rw [HE.out.1]; unfold enA; rw [← HE.out.2, this]; rfl)
            have hgt : 1000000000000 < E := by omega
            clear hle
            go_wp2_with fail
            go_returns
            exact ⟨ret_eq (by rw [HR.out.1, HR.out.2]; rfl), HB.out⟩
end Go.Proofs.Ytgibdndckoapfab
