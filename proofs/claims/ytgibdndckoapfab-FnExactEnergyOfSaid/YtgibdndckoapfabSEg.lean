/- The model's EnergyOf. -/
import Derived.Test.YtgibdndckoapfabSTf
import Derived.Test.YtgibdndckoapfabEgM
namespace Go.Proofs.Ytgibdndckoapfab
set_option maxRecDepth 100000
open Go.RowKit

set_option maxHeartbeats 1000000 in
theorem phNorm_any (x y : Int) (h : good x y = true) (w : World) : Calls Try.prog 65 #[.agg #[.int .i64 x, .int .i64 y]] w (Ret w (.int .i64 (norm x y))) := by
  have hg := good_in h
  have h1 := sq_le x hg.1
  have h2 := sq_le y hg.2
  have hN : norm x y = x * x + y * y := rfl
  obtain ⟨p, hp⟩ : ∃ p, p = x * x := ⟨_, rfl⟩
  obtain ⟨q, hq⟩ : ∃ p, p = y * y := ⟨_, rfl⟩
  rw [hN, ← hp, ← hq]
  rw [← hp] at h1
  rw [← hq] at h2
  have w1 : wrap64 (x * x) = p := by rw [← hp]; exact IntWalk.wrap64_in p ⟨by omega, by omega⟩
  have w2 : wrap64 (y * y) = q := by rw [← hq]; exact IntWalk.wrap64_in q ⟨by omega, by omega⟩
  have w3 : wrap64 (p + q) = p + q := IntWalk.wrap64_in _ ⟨by omega, by omega⟩
  clear hg h1 h2 hN hp hq h
  go_enter Try.func65, Try.ntmps65
  go_wp2
  go_returns
  exact ⟨ret_int w3, by go_grown⟩

set_option maxRecDepth 100000 in
set_option maxHeartbeats 1000000 in
theorem tfEnergy_any (v : Value) (l : List (Int × Int)) (w : World) (hv : IG w v l) (hok : tfOk l = true) : Calls Try.prog 34 #[v] w (Ret w (.int .i64 (enS l))) := by
  have hlen := tfOk_len hok
  have HG := Lib.hid (goodL_at (tfOk_good hok))
  have HP := Lib.hid (en_part l hok)
  rcases hv with ⟨rfl, _⟩ | ⟨_, b, off, cap, rfl, hm, hc⟩
  · simp at hlen
  · obtain ⟨n, hn⟩ : ∃ n, n = l.length := ⟨_, rfl⟩
    unfold enS
    have HQ := Lib.hid (show ∀ k, nmG l k = norm (gre l k) (gim l k) from fun _ => rfl)
    obtain ⟨G, hG⟩ : ∃ G, G = nmG l := ⟨_, rfl⟩
    rw [← hG, ← hn]
    rw [← hG] at HQ HP
    rw [← hn] at hc HG HP hlen
    have HC := Lib.hid hc
    obtain ⟨hl1, hl2⟩ := hlen
    clear hc hm hn hG hok
    go_enter Try.func34, Try.ntmps34
    go_wp2_with fail
    go_loopw [8, 3] (fun i s wr => ∃ k : Nat, k ≤ n ∧ i = .int .i64 k ∧ s = .int .i64 (sumN G k) ∧ Below w.heap.size w wr) (fun i _ _ => n - (intOf i).toNat)
    case atStart => exact ⟨0, Nat.zero_le _, rfl, rfl, Below.refl _ _⟩
    case round =>
      obtain ⟨k, hk, rfl, rfl, hbel⟩ := hrel
      have HB := Lib.hid hbel
      clear hbel
      by_cases hlt : k < n
      · have c1 := keepc HB.out (HC.out k hlt).1
        have c2 := keepc HB.out (HC.out k hlt).2
        have h0 : (0 : Int) ≤ (k : Int) := by omega
        have h1 : (k : Int) < (n : Int) := by omega
        have hg := HG.out k hlt
        have hs := HQ.out k
        have hb1 := HP.out (k + 1) (by omega)
        rw [show sumN G (k + 1) = sumN G k + G k from rfl] at hb1
        obtain ⟨x, hx⟩ : ∃ x, x = gre l k := ⟨_, rfl⟩
        obtain ⟨y, hy⟩ : ∃ y, y = gim l k := ⟨_, rfl⟩
        rw [← hx] at c1 hg hs
        rw [← hy] at c2 hg hs
        have HN := Lib.hid (phNorm_any x y hg)
        rw [← hs] at HN
        obtain ⟨S, hS⟩ : ∃ S, S = sumN G k := ⟨_, rfl⟩
        obtain ⟨T, hT⟩ : ∃ S, S = G k := ⟨_, rfl⟩
        have HST := Lib.hid (show S + T = sumN G (k + 1) by rw [hS, hT]; rfl)
        rw [← hS, ← hT] at hb1
        rw [← hT] at HN
        rw [← hS]
        obtain ⟨hb2, hb3⟩ := hb1
        have w3 : wrap64 (S + T) = S + T := IntWalk.wrap64_in _ ⟨by omega, by omega⟩
        clear hx hy hg hs hS hT hb2 hb3
        go_wp2_with fail
        refine (HN.out _).mono ?_
        rintro e w2 ⟨rfl, hb⟩
        have HB2 := Lib.hid (joins (belowa HB.out _) hb)
        clear hb
        go_wp2_with fail
        go_roundw
        case rel => exact ⟨k + 1, by omega, by go_num, congrArg (Value.int .i64) (w3.trans HST.out), HB2.out⟩
        case measure => simp [intOf]; omega
      · obtain rfl : k = n := by omega
        go_wp2_with fail
        go_returns
        exact ⟨rfl, HB.out⟩

set_option maxRecDepth 100000 in
set_option maxHeartbeats 1000000 in
theorem senergyOf (v : Value) (l : List (Int × Int)) (w : World) (hv : IG w v l) : Calls Try.prog 10 #[v] w (Ret w (.tuple #[.int .i64 (enA l), .bool (enOk l)])) := by
  have HS := Lib.hid (tfSignal_any v l w hv)
  have HV := Lib.hid hv
  obtain ⟨a, cap, hvs⟩ := hv.slice
  cases hok : tfOk l with
  | false =>
    rw [hok] at HS
    have e1 : enOk l = false := by unfold enOk; rw [hok]; rfl
    have e2 : enA l = 0 := by unfold enA; rw [e1]; rfl
    rw [e1, e2]
    clear e1 e2 hok hvs hv
    go_enter Try.func10, Try.ntmps10
    go_wp2_with fail
    refine (HS.out).mono ?_
    rintro e w1 ⟨rfl, hb⟩
    go_wp2_with fail
    go_returns
    exact ⟨rfl, hb⟩
  | true =>
    rw [hok] at HS
    have HE := Lib.hid (fun w' (hb : Below w.heap.size w w') => tfEnergy_any v l w' (hv.below hb) hok)
    by_cases hle : enS l ≤ 1000000000000
    · have e1 : enOk l = true := by unfold enOk; rw [hok]; simp [hle]
      have e2 : enA l = enS l := by unfold enA; rw [e1]; rfl
      rw [e1, e2]
      obtain ⟨E, hE⟩ : ∃ E, E = enS l := ⟨_, rfl⟩
      rw [← hE] at HE hle ⊢
      clear e1 e2 hok hvs hv hE
      go_enter Try.func10, Try.ntmps10
      go_wp2_with fail
      refine (HS.out).mono ?_
      rintro e w1 ⟨rfl, hb⟩
      have HB := Lib.hid hb
      clear hb
      go_wp2_with fail
      refine (HE.out _ HB.out).mono ?_
      rintro e w2 ⟨rfl, hb⟩
      have HB2 := Lib.hid (joins HB.out hb)
      clear hb
      go_wp2_with fail
      refine (HE.out _ HB2.out).mono ?_
      rintro e w3 ⟨rfl, hb⟩
      have HB3 := Lib.hid (joins HB2.out hb)
      clear hb
      go_wp2_with fail
      go_returns
      exact ⟨rfl, HB3.out⟩
    · have e1 : enOk l = false := by unfold enOk; rw [hok]; simp [hle]
      have e2 : enA l = 0 := by unfold enA; rw [e1]; rfl
      rw [e1, e2]
      obtain ⟨E, hE⟩ : ∃ E, E = enS l := ⟨_, rfl⟩
      rw [← hE] at HE hle
      have hgt : 1000000000000 < E := by omega
      clear e1 e2 hok hvs hv hE hle
      go_enter Try.func10, Try.ntmps10
      go_wp2_with fail
      refine (HS.out).mono ?_
      rintro e w1 ⟨rfl, hb⟩
      have HB := Lib.hid hb
      clear hb
      go_wp2_with fail
      refine (HE.out _ HB.out).mono ?_
      rintro e w2 ⟨rfl, hb⟩
      have HB2 := Lib.hid (joins HB.out hb)
      clear hb
      go_wp2_with fail
      go_returns
      exact ⟨rfl, HB2.out⟩
end Go.Proofs.Ytgibdndckoapfab
