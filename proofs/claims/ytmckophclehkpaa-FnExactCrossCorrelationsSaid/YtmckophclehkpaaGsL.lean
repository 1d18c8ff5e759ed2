/- The laws' helpers over lists of Gaussian numbers: eqGaussS, heldGaussS, markGaussS. -/
import Derived.Test.YtmckophclehkpaaGs
import Derived.Test.YtmckophclehkpaaEqG
import Derived.Deep.RegionHeld3
namespace Go.Proofs.Ytmckophclehkpaa
open Go.RowKit

set_option maxHeartbeats 1000000 in
theorem eqGaussS_same (va vb : Value) (l : List (Int × Int)) (w : World) (ha : IG w va l) (hb : IG w vb l) : Calls Try.prog 19 #[va, vb] w (Ret w (.bool true)) := by
  rcases ha with ⟨rfl, a, cap, rfl⟩ | ⟨hn, b, off, cap, rfl, hm, hc⟩
  · rcases hb with ⟨_, a', cap', rfl⟩ | ⟨hn, _⟩
    · go_enter Try.func19, Try.ntmps19
      go_wp2_with fail
      go_loop [5] (fun i => i = .int .i64 0) (fun _ => 0)
      case atStart => rfl
      case round =>
        subst hrel
        go_wp2_with fail
        go_returns
        exact ⟨rfl, by go_grown⟩
    · exact absurd rfl hn
  · rcases hb with ⟨rfl, _⟩ | ⟨_, b', off', cap', rfl, _, hc'⟩
    · exact absurd rfl hn
    · have hm2 := maxLen_val
      have hm3 : l.length ≤ 9223372036854775807 := by omega
      clear hm hm2 hn
      have HC := Lib.hid hc
      have HC' := Lib.hid hc'
      clear hc hc'
      go_enter Try.func19, Try.ntmps19
      go_wp2_with fail
      go_loopw [5] (fun i wr => ∃ k : Nat, k ≤ l.length ∧ i = .int .i64 k ∧ Below w.heap.size w wr) (fun i _ => l.length - (intOf i).toNat)
      case atStart => exact ⟨0, Nat.zero_le _, rfl, Below.refl _ _⟩
      case round =>
        obtain ⟨k, hk, rfl, hbel⟩ := hrel
        by_cases hlt : k < l.length
        · have c1 := (keepc hbel (HC.out k hlt).1)
          have c2 := (keepc hbel (HC.out k hlt).2)
          have c3 := (keepc hbel (HC'.out k hlt).1)
          have c4 := (keepc hbel (HC'.out k hlt).2)
          have h0 : (0 : Int) ≤ (k : Int) := by omega
          have h1 : (k : Int) < (l.length : Int) := by omega
          obtain ⟨x, hx⟩ : ∃ x, x = gre l k := ⟨_, rfl⟩
          obtain ⟨y, hy⟩ : ∃ y, y = gim l k := ⟨_, rfl⟩
          rw [← hx] at c1 c3
          rw [← hy] at c2 c4
          clear hx hy
          go_wp2_with fail
          go_region_held3 (fun w' => w'.cell? ⟨b, off + k * 2, none⟩ = some (.int .i64 x) ∧ w'.cell? ⟨b, off + k * 2 + 1, none⟩ = some (.int .i64 y) ∧ w'.cell? ⟨b', off' + k * 2, none⟩ = some (.int .i64 x) ∧ w'.cell? ⟨b', off' + k * 2 + 1, none⟩ = some (.int .i64 y) ∧ Below wr.heap.size wr w')
            (first | (exact ⟨keepd c1, keepd c2, keepd c3, keepd c4, belowN (Below.refl _ _) 1⟩) | (go_split_ands; first | exact ⟨by assumption, by assumption, by assumption, by assumption, by assumption⟩ | exact ⟨keepc hb (by assumption), keepc hb (by assumption), keepc hb (by assumption), keepc hb (by assumption), joins (by assumption) hb⟩))
            (first
              | (go_at_call 13; (with_reducible refine (eqGauss_same x y _).mono ?_); rintro e w' ⟨rfl, hb⟩))
          go_split_ands
          have HB := Lib.hid (joins hbel ‹Below wr.heap.size wr _›)
          go_wp2_with fail
          go_roundw
          case rel => exact ⟨k + 1, by omega, by go_num, HB.out⟩
          case measure => simp [intOf]; omega
        · go_wp2_with fail
          go_returns
          exact ⟨rfl, by go_grown⟩

set_option maxHeartbeats 1000000 in
theorem heldGaussS_marks (v : Value) (k : Int) (n : Nat) (w : World) (hv : IG w v (marksG k n)) (hk0 : 0 ≤ k) (hk : k + 2 * (n : Int) ≤ 4611686018427387904) : Calls Try.prog 22 #[v, .int .i64 k] w (Ret w (.int .i64 (k + 2 * (n : Int)))) := by
  rcases hv with ⟨h0, a, cap, rfl⟩ | ⟨hn, b, off, cap, rfl, hm, hc⟩
  · have hn : n = 0 := by have := congrArg List.length h0; simpa [marksG_length] using this
    subst hn
    go_enter Try.func22, Try.ntmps22
    go_wp2_with fail
    go_loop [5, 1] (fun i q => i = .int .i64 0 ∧ q = .int .i64 k) (fun _ _ => 0)
    case atStart => exact ⟨rfl, rfl⟩
    case round =>
      obtain ⟨rfl, rfl⟩ := hrel
      go_wp2_with fail
      go_returns
      exact ⟨ret_int (by omega), by go_grown⟩
  · rw [marksG_length] at hc hm ⊢
    have HC := Lib.hid hc
    clear hc hm hn
    go_enter Try.func22, Try.ntmps22
    go_wp2_with fail
    go_loop [5, 1] (fun i q => ∃ j : Nat, j ≤ n ∧ i = .int .i64 j ∧ q = .int .i64 (k + 2 * (j : Int))) (fun i _ => n - (intOf i).toNat)
    case atStart => exact ⟨0, Nat.zero_le _, rfl, by go_num⟩
    case round =>
      obtain ⟨j, hj, rfl, rfl⟩ := hrel
      by_cases hlt : j < n
      · have c1 := (HC.out j hlt).1
        have c2 := (HC.out j hlt).2
        rw [marksG_re k n j hlt] at c1
        rw [marksG_im k n j hlt] at c2
        have h0 : (0 : Int) ≤ (j : Int) := by omega
        have h1 : (j : Int) < (n : Int) := by omega
        go_wp2_with fail
        go_round
        case rel => exact ⟨j + 1, by omega, by go_num, by go_num⟩
        case measure => simp [intOf]; omega
      · have he : j = n := by omega
        subst he
        go_wp2_with fail
        go_returns
        exact ⟨rfl, by go_grown⟩

set_option maxHeartbeats 1000000 in
theorem markGaussS_own (B : Nat) (v : Value) (l : List (Int × Int)) (k : Int) (w : World) (hv : OwnG w B v l) (hk0 : 0 ≤ k) (hk : k + 2 * (l.length : Int) ≤ 4611686018427387904) : Calls Try.prog 21 #[v, .int .i64 k] w (MarkedG w B v k l.length) := by
  rcases hv.cases with ⟨rfl, rfl⟩ | ⟨g, cap, rfl, hg, hgw⟩
  · go_enter Try.func21, Try.ntmps21
    go_wp2_with fail
    go_loop [5, 1] (fun i q => i = .int .i64 0 ∧ q = .int .i64 k) (fun _ _ => 0)
    case atStart => exact ⟨rfl, rfl⟩
    case round =>
      obtain ⟨rfl, rfl⟩ := hrel
      go_wp2_with fail
      go_returns
      exact ⟨ret_int (by simp), hv, World.grownBy.refl _ _⟩
  · have hm := hv.len
    have hm2 := maxLen_val
    have hm3 : l.length ≤ 9223372036854775807 := by omega
    clear hm hm2
    have HV := Lib.hid hv
    clear hv
    go_enter Try.func21, Try.ntmps21
    go_wp2_with fail
    go_loopw [5, 1] (fun i q wr => ∃ j : Nat, j ≤ l.length ∧ i = .int .i64 j ∧ q = .int .i64 (k + 2 * (j : Int)) ∧ wr.ownsRow B 24 2 (.slice (some ⟨g, 0, none⟩) l.length cap) l.length (fl (marksG k j ++ l.drop j)) ∧ w.grownBy wr (some g)) (fun i _ _ => l.length - (intOf i).toNat)
    case atStart => exact ⟨0, Nat.zero_le _, rfl, by go_num, by have h := HV.out; unfold OwnG at h; simpa [marksG, genG] using h, World.grownBy.refl _ _⟩
    case round =>
      obtain ⟨j, hj, rfl, rfl, hown, hgr⟩ := hrel
      by_cases hlt : j < l.length
      · have hlen := marksG_len k l j hj
        have c1 : wr.cell? ⟨g, j * 2, none⟩ = some (.int .i64 (gre (marksG k j ++ l.drop j) j)) := by
          rw [hown.cellAt (j * 2) (by omega)]
          exact fl_re _ j (by omega)
        have c2 : wr.cell? ⟨g, j * 2 + 1, none⟩ = some (.int .i64 (gim (marksG k j ++ l.drop j) j)) := by
          rw [hown.cellAt (j * 2 + 1) (by omega)]
          exact fl_im _ j (by omega)
        obtain ⟨x, hx⟩ : ∃ x, x = gre (marksG k j ++ l.drop j) j := ⟨_, rfl⟩
        obtain ⟨y, hy⟩ : ∃ x, x = gim (marksG k j ++ l.drop j) j := ⟨_, rfl⟩
        rw [← hx] at c1
        rw [← hy] at c2
        have f1 := hown.frozenAt (j * 2)
        have f2 := hown.frozenAt (j * 2 + 1)
        have HO := Lib.hid hown
        have HG := Lib.hid hgr
        clear hown hgr hx hy hlen
        have h0 : (0 : Int) ≤ (j : Int) := by omega
        have h1 : (j : Int) < (l.length : Int) := by omega
        go_wp2_with fail
        go_roundw
        case rel =>
          have hs := HO.out.stored (j * 2) (.int .i64 (k + 2 * (j : Int)))
          have hs2 := hs.1.stored (j * 2 + 1) (.int .i64 (k + 2 * (j : Int) + 1))
          rw [fl_set2 _ j (by rw [marksG_len k l j hj]; exact hlt), marksG_set k l j hlt] at hs2
          exact ⟨j + 1, by omega, by go_num, by go_num, hs2.1, grown_trans (grown_trans HG.out hs.2) hs2.2⟩
        case measure => simp [intOf]; omega
      · have he : j = l.length := by omega
        subst he
        have HO := Lib.hid hown
        have HG := Lib.hid hgr
        clear hown hgr
        go_wp2_with fail
        go_returns
        refine ⟨rfl, ?_, HG.out⟩
        have := HO.out
        rw [List.drop_length, List.append_nil] at this
        unfold OwnG
        rw [marksG_length]
        exact this
end Go.Proofs.Ytmckophclehkpaa
