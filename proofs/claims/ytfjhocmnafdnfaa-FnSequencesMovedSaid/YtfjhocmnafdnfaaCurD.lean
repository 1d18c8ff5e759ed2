/- Draws of sequences. -/
import Derived.Test.YtfjhocmnafdnfaaCurS
namespace Go.Proofs.Ytfjhocmnafdnfaa
set_option maxRecDepth 100000
open Go.RowKit

theorem below_cu {w w1 : World} {g : Nat} (hg : w.heap.size ≤ g) {w0 : World} (hb : Below w.heap.size w w0) (h : w0.grownBy w1 (some g)) : Below w.heap.size w w1 := gjoin hb h (fun k hk => by cases hk; exact hg)
/-- A list of the call's own and a number. -/
def SeqIV (B M : Nat) (lo hi : Int) (v : Value) (w : World) : Prop := ∃ (vs : Value) (s : List Int) (k : Int), v = .tuple #[vs, .int .i64 k] ∧ Own w B vs s ∧ s.length ≤ M ∧ lo ≤ k ∧ k ≤ hi
set_option maxRecDepth 100000 in
set_option maxHeartbeats 1000000 in
theorem drawIsSequence (v : Value) (l : List Int) (w : World) (hv : BS w v l) : Calls Try.prog 126 #[v] w (Dw w (SeqV w.heap.size 40)) := by
  obtain ⟨pa, ca, rfl⟩ := hv.sl
  have B0 := Lib.hid (belowa (Below.refl w.heap.size w) (.cells #[.slice pa l.length ca, .int .i64 0, .int .u64 0] 87))
  have C0 := Cu.start hv 87
  have S0 := Lib.hid (show w.heap.size < (w.alloc (.cells #[.slice pa l.length ca, .int .i64 0, .int .u64 0] 87)).heap.size by simp)
  have P := Lib.hid (sequence_any _ _ l 0 _ 10 C0 (by omega) (by omega))
  clear hv C0
  go_enter Try.func126, Try.ntmps126
  go_wp2_with fail
  refine P.out.mono ?_
  rintro e w1 ⟨v1, rfl, ⟨s, ho1, hl1⟩, hc1, hg1⟩
  have B1 := Lib.hid (below_cu (Nat.le_refl _) B0.out hg1)
  have O1 := Lib.hid (ho1.mono (Nat.le_of_lt S0.out))
  have L1 := Lib.hid hl1
  clear ho1 hl1 hc1 hg1
  go_wp2_with fail
  go_returns
  exact ⟨_, rfl, ⟨s, O1.out, L1.out⟩, B1.out⟩
set_option maxRecDepth 100000 in
set_option maxHeartbeats 4000000 in
theorem drawTurnBy (v : Value) (l : List Int) (w : World) (hv : BS w v l) : Calls Try.prog 19 #[v] w (Dw w (SeqIV w.heap.size 40 (-1001) 1001)) := by
  obtain ⟨pa, ca, rfl⟩ := hv.sl
  have B0 := Lib.hid (belowa (Below.refl w.heap.size w) (.cells #[.slice pa l.length ca, .int .i64 0, .int .u64 0] 87))
  have C0 := Cu.start hv 87
  have S0 := Lib.hid (show w.heap.size < (w.alloc (.cells #[.slice pa l.length ca, .int .i64 0, .int .u64 0] 87)).heap.size by simp)
  have P := Lib.hid (one_any _ _ l 0 _ 10 C0 (by omega) (by omega) (by omega))
  clear hv C0
  go_enter Try.func19, Try.ntmps19
  go_wp2_with fail
  refine P.out.mono ?_
  rintro e w1 ⟨v1, rfl, ⟨b, rfl⟩, hc1, hg1⟩
  have B1 := Lib.hid (below_cu (Nat.le_refl _) B0.out hg1)
  have P1 := Lib.hid (sequence_any _ _ l 2 _ 10 hc1 (by omega) (by omega))
  have S1 := Lib.hid (Nat.lt_of_lt_of_le S0.out hg1.size)
  clear hc1 hg1
  cases b with
  | true =>
    go_wp2_with fail
    refine P1.out.mono ?_
    rintro e w2 ⟨v2, rfl, ⟨s, ho2, hl2⟩, hc2, hg2⟩
    have B2 := Lib.hid (below_cu (Nat.le_refl _) B1.out hg2)
    have O2 := Lib.hid ho2
    have L2 := Lib.hid hl2
    have I2 := IS.lit (l := [-1001, -1000, 1000, 1001]) (heap_alloc_new w2 (.cells #[.int .i64 (-1001), .int .i64 (-1000), .int .i64 1000, .int .i64 1001] 3)) (by decide)
    have P2 := Lib.hid (among_any _ _ l 102 (w2.alloc (.cells #[.int .i64 (-1001), .int .i64 (-1000), .int .i64 1000, .int .i64 1001] 3)) _ [-1001, -1000, 1000, 1001] (hc2.below (belowa (Below.refl _ _) _)) (by omega) I2 (by simp) (by simp) (fun k hk e => by cases hk; have h2 := hc2.lt; rw [← e] at h2; exact Nat.lt_irrefl _ h2))
    have O2a := Lib.hid (ho2.alloc' (.cells #[.int .i64 (-1001), .int .i64 (-1000), .int .i64 1000, .int .i64 1001] 3))
    have B2a := Lib.hid (belowa B2.out (.cells #[.int .i64 (-1001), .int .i64 (-1000), .int .i64 1000, .int .i64 1001] 3))
    clear ho2 hl2 hc2 hg2 I2
    go_wp2_with fail
    refine P2.out.mono ?_
    rintro e w3 ⟨v3, rfl, ⟨z, hz, rfl⟩, hc3, hg3⟩
    have B3 := Lib.hid (below_cu (Nat.le_refl _) B2a.out hg3)
    have O3 := Lib.hid ((O2a.out.kept hg3 S1.out).mono (Nat.le_of_lt S1.out))
    have HZ := Lib.hid (show -1001 ≤ z ∧ z ≤ 1001 from by simp at hz; omega)
    clear hz hc3 hg3
    go_wp2_with fail
    go_returns
    exact ⟨_, rfl, ⟨_, s, z, rfl, O3.out, L2.out, HZ.out.1, HZ.out.2⟩, B3.out⟩
  | false =>
    go_wp2_with fail
    refine P1.out.mono ?_
    rintro e w2 ⟨v2, rfl, ⟨s, ho2, hl2⟩, hc2, hg2⟩
    have B2 := Lib.hid (below_cu (Nat.le_refl _) B1.out hg2)
    have O2 := Lib.hid ho2
    have L2 := Lib.hid hl2
    have P2 := Lib.hid (pick_any _ _ l 102 w2 40 hc2 (by omega) (by omega) (by omega))
    clear ho2 hl2 hc2 hg2
    go_wp2_with fail
    refine P2.out.mono ?_
    rintro e w3 ⟨v3, rfl, ⟨z, rfl, hz0, hz1⟩, hc3, hg3⟩
    have B3 := Lib.hid (below_cu (Nat.le_refl _) B2.out hg3)
    have O3 := Lib.hid ((O2.out.kept hg3 S1.out).mono (Nat.le_of_lt S1.out))
    clear hc3 hg3
    go_wp2_with fail
    go_returns
    exact ⟨_, rfl, ⟨_, s, z - 20, rfl, O3.out, L2.out, by omega, by omega⟩, B3.out⟩
set_option maxRecDepth 100000 in
set_option maxHeartbeats 4000000 in
theorem drawClimbBy (v : Value) (l : List Int) (w : World) (hv : BS w v l) : Calls Try.prog 31 #[v] w (Dw w (SeqIV w.heap.size 40 (-1) 4)) := by
  obtain ⟨pa, ca, rfl⟩ := hv.sl
  have B0 := Lib.hid (belowa (Below.refl w.heap.size w) (.cells #[.slice pa l.length ca, .int .i64 0, .int .u64 0] 87))
  have C0 := Cu.start hv 87
  have S0 := Lib.hid (show w.heap.size < (w.alloc (.cells #[.slice pa l.length ca, .int .i64 0, .int .u64 0] 87)).heap.size by simp)
  have P := Lib.hid (sequence_any _ _ l 0 _ 10 C0 (by omega) (by omega))
  clear hv C0
  go_enter Try.func31, Try.ntmps31
  go_wp2_with fail
  refine P.out.mono ?_
  rintro e w1 ⟨v1, rfl, ⟨s, ho1, hl1⟩, hc1, hg1⟩
  have B1 := Lib.hid (below_cu (Nat.le_refl _) B0.out hg1)
  have O1 := Lib.hid ho1
  have L1 := Lib.hid hl1
  have P1 := Lib.hid (pick_any _ _ l 100 w1 5 hc1 (by omega) (by omega) (by omega))
  clear ho1 hl1 hc1 hg1
  go_wp2_with fail
  refine P1.out.mono ?_
  rintro e w2 ⟨v2, rfl, ⟨x, rfl, hx0, hx1⟩, hc2, hg2⟩
  have B2 := Lib.hid (below_cu (Nat.le_refl _) B1.out hg2)
  have O2 := Lib.hid (O1.out.kept hg2 S0.out)
  have P2 := Lib.hid (pick_any _ _ l 102 w2 9 hc2 (by omega) (by omega) (by omega))
  clear hc2 hg2
  go_wp2_with fail
  refine P2.out.mono ?_
  rintro e w3 ⟨v3, rfl, ⟨y, rfl, hy0, hy1⟩, hc3, hg3⟩
  have B3 := Lib.hid (below_cu (Nat.le_refl _) B2.out hg3)
  have O3 := Lib.hid ((O2.out.kept hg3 S0.out).mono (Nat.le_of_lt S0.out))
  clear hc3 hg3
  go_wp2_with fail
  go_returns
  exact ⟨_, rfl, ⟨_, s, x - y / 8, rfl, O3.out, L1.out, by omega, by omega⟩, B3.out⟩
end Go.Proofs.Ytfjhocmnafdnfaa
