/- The model's signals: tfSize, tfSignal, tfWhole. -/
import Derived.Test.YtapmehgdnofgnaaTfM
namespace Go.Proofs.Ytapmehgdnofgnaa
set_option maxRecDepth 100000
open Go.RowKit

set_option maxRecDepth 100000 in
set_option maxHeartbeats 1000000 in
theorem tfWhole_any (v : Value) (l : List (Int × Int)) (w : World) (hv : IG w v l) : Calls Try.prog 81 #[v] w (Ret w (.tuple #[if goodL l then v else .slice none 0 0, .bool (goodL l)])) := by
  obtain ⟨n, hn⟩ : ∃ n, n = l.length := ⟨_, rfl⟩
  rcases hv with ⟨rfl, a, cap, rfl⟩ | ⟨_, b, off, cap, rfl, hm, hc⟩
  · rw [show goodL [] = true from rfl, if_pos rfl]
    go_enter Try.func81, Try.ntmps81
    go_wp2_with fail
    go_loop [8] (fun i => i = .int .i64 0) (fun _ => 0)
    case atStart => rfl
    case round =>
      subst hrel
      go_wp2_with fail
      go_returns
      exact ⟨rfl, Below.refl _ _⟩
  · have hm2 := maxLen_val
    have hm3 : n ≤ 9223372036854775807 := by omega
    rw [← hn] at hc
    rw [← hn]
    obtain ⟨r, hr⟩ : ∃ r, r = (if goodL l then Value.slice (some ⟨b, off, none⟩) n cap else .slice none 0 0) := ⟨_, rfl⟩
    obtain ⟨q, hq⟩ : ∃ q, q = goodL l := ⟨_, rfl⟩
    rw [← hr, ← hq]
    have HC := Lib.hid hc
    have HN := Lib.hid hn
    have HR := Lib.hid hr
    have HQ := Lib.hid hq
    clear hc hm hn hm2 hr hq
    go_enter Try.func81, Try.ntmps81
    go_wp2_with fail
    go_loopw [8] (fun i wr => ∃ k : Nat, k ≤ n ∧ i = .int .i64 k ∧ goodL (l.take k) = true ∧ Below w.heap.size w wr) (fun i _ => n - (intOf i).toNat)
    case atStart => exact ⟨0, Nat.zero_le _, rfl, rfl, Below.refl _ _⟩
    case round =>
      obtain ⟨k, hk, rfl, hall, hbel⟩ := hrel
      have HA := Lib.hid hall
      have HB := Lib.hid hbel
      clear hall hbel
      by_cases hlt : k < n
      · have hltL := HN.out ▸ hlt
        have c1 := keepc HB.out (HC.out k hlt).1
        have c2 := keepc HB.out (HC.out k hlt).2
        have h0 : (0 : Int) ≤ (k : Int) := by omega
        have h1 : (k : Int) < (n : Int) := by omega
        have hAt := goodL_take_succ l k hltL HA.out
        have hNo := goodL_false l k hltL
        obtain ⟨x, hx⟩ : ∃ x, x = gre l k := ⟨_, rfl⟩
        obtain ⟨y, hy⟩ : ∃ y, y = gim l k := ⟨_, rfl⟩
        rw [← hx] at c1 hAt hNo
        rw [← hy] at c2 hAt hNo
        have HG := Lib.hid (sgood x y)
        have HAT := Lib.hid hAt
        have HNO := Lib.hid hNo
        clear hx hy hAt hNo hltL
        cases hg : good x y with
        | true =>
          rw [hg] at HG HAT
          go_wp2_with fail
          refine (HG.out _).mono ?_
          rintro e w2 ⟨rfl, hb⟩
          have HB2 := Lib.hid (joins (belowa HB.out _) hb)
          clear hb
          go_wp2_with fail
          go_roundw
          case rel => exact ⟨k + 1, by omega, by go_num, HAT.out trivial, HB2.out⟩
          case measure => simp [intOf]; omega
        | false =>
          rw [hg] at HG HNO
          go_wp2_with fail
          refine (HG.out _).mono ?_
          rintro e w2 ⟨rfl, hb⟩
          have HB2 := Lib.hid (joins (belowa HB.out _) hb)
          clear hb
          go_wp2_with fail
          go_returns
          exact ⟨ret_eq (by rw [HR.out, HQ.out, HNO.out trivial]; rfl), HB2.out⟩
      · have hh := HA.out
        rw [List.take_of_length_le (by rw [← HN.out]; omega)] at hh
        have HA2 := Lib.hid hh
        clear hh
        go_wp2_with fail
        go_returns
        exact ⟨ret_eq (by rw [HR.out, HQ.out, HA2.out]; rfl), HB.out⟩
end Go.Proofs.Ytapmehgdnofgnaa
