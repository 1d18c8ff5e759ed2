/- The library's Concat of two lists. -/
import Derived.Lib.AppendZeros
import Derived.Test.YtoehehaeanepmabSMov
namespace Go.Proofs.Ytoehehaeanepmab
set_option maxRecDepth 100000
open Go.RowKit

set_option maxRecDepth 100000 in
set_option maxHeartbeats 2000000 in
theorem growInt_any (n : Nat) (h1 : 1 ≤ n) (h2 : n ≤ 1000) (w : World) : Calls Try.prog 81 #[.slice none 0 0, .int .i64 n] w (Makes w []) := by
  have hinfo : ∃ i0, Try.prog.info? 3 = some i0 ∧ i0.zero = some (.int .i64 0) ∧ i0.size = 1 ∧ i0.bytes = 8 := info_parts infoInt
  obtain ⟨i0, hi, hz0, hz1, hz2⟩ := hinfo
  have hrz := fun ty => Lib.run_append_nil_zeros (P := Try.prog) w 22 3 ty 3 i0 (.int .i64 0) .i64 .i64 Try.underlying22 Try.underlying3 hi hz0 n (by omega) (by omega) (by omega) (by rw [hz2]; omega)
  have hG1 : n ≤ grownCap w n 0 3 := grownCap_ge w _ _ _
  have hG2 : grownCap w n 0 3 ≤ maxLen := grownCap_le_maxLen w _ _ _ (by unfold maxLen; omega)
  obtain ⟨G, hG⟩ : ∃ G, G = grownCap w n 0 3 := ⟨_, rfl⟩
  rw [← hG] at hrz hG1 hG2
  obtain ⟨cur, hcur⟩ : ∃ cur, cur = (Builtin.zeroCells (Value.int .i64 0).cells n ++ Builtin.zeroCells (Value.int .i64 0).cells (G - n)) := ⟨_, rfl⟩
  have hsz : cur.size = G * 1 := by
    rw [hcur, Array.size_append, size_zeroCells, size_zeroCells]
    simp [Value.cells]
    omega
  rw [← hcur] at hrz
  have HO := Lib.hid (World.ownsRow_made (e := 3) (size := 1) w.drew cur G (Nat.le_refl _) hG2 hsz)
  have HB := Lib.hid (belowa (belowN (Below.refl w.heap.size w) 1) (.cells cur 3))
  have hn0 : (0 : Int) < (n : Int) := by omega
  have hn1 : (n : Int) ≤ 1000 := by omega
  have hGn : 0 ≤ G := Nat.zero_le _
  have hG63 : G ≤ 9223372036854775807 := by unfold maxLen at hG2; omega
  clear hG hcur hsz hG1 hG2 hi hz0 hz1 hz2
  go_enter Try.func81, Try.ntmps81
  go_wp2_with (at_builtin; refine Lib.wpList_append_run _ rfl _ _ _ _ rfl _ _ rfl rfl _ _ (hrz _) ?_)
  go_returns
  exact ⟨_, rfl, HO.out, HB.out⟩
set_option maxRecDepth 100000 in
set_option maxHeartbeats 2000000 in
theorem concat_any (b c : Nat) (u1 u2 : Value) (l m : List Int) (w : World) (c1 : w.cell? ⟨b, 0, none⟩ = some u1) (c2 : w.cell? ⟨b, 1, none⟩ = some u2) (hu1 : IS w u1 l) (hu2 : IS w u2 m) (hl : 1 ≤ l.length) (hl2 : l.length ≤ 500) (hm2 : m.length ≤ 500) :
    Calls Try.prog 59 #[.slice (some ⟨b, 0, none⟩) 2 c] w (Makes w (l ++ m)) := by
  obtain ⟨a, cap, e1⟩ := hu1.shape
  obtain ⟨a', cap', e2⟩ := hu2.shape
  subst e1 e2
  have HV1 := Lib.hid hu1
  have HV2 := Lib.hid hu2
  have HC1 := Lib.hid c1
  have HC2 := Lib.hid c2
  have HGR := Lib.hid (growInt_any (l.length + m.length) (by omega) (by omega))
  obtain ⟨N, hN⟩ : ∃ N, N = l.length := ⟨_, rfl⟩
  obtain ⟨M, hM⟩ : ∃ N, N = m.length := ⟨_, rfl⟩
  have HN := Lib.hid (show l.length ≤ 1048576 by omega)
  have HM := Lib.hid (show m.length ≤ 1048576 by omega)
  rw [← hN] at HV1 HC1 HGR hl hl2
  rw [← hM] at HV2 HC2 HGR hm2
  obtain ⟨S, hS⟩ : ∃ S, S = N + M := ⟨_, rfl⟩
  have hSi : (N : Int) + (M : Int) = (S : Int) := by omega
  rw [← hS] at HGR
  have hN0 : (0 : Int) ≤ (N : Int) := by omega
  have hN5 : (N : Int) ≤ 500 := by omega
  have hM0 : (0 : Int) ≤ (M : Int) := by omega
  have hM5 : (M : Int) ≤ 500 := by omega
  have hS0 : (0 : Int) ≤ (S : Int) := by omega
  clear c1 c2 hu1 hu2 hN hM hS
  go_enter Try.func59, Try.ntmps59
  go_wp2_with fail
  go_loopw [11, 3, 5] (fun i s _ wr => wr = w ∧ ((i = .int .i64 0 ∧ s = .int .i64 0) ∨ (i = .int .i64 1 ∧ s = .int .i64 N) ∨ (i = .int .i64 2 ∧ s = .int .i64 S))) (fun i _ _ _ => 2 - (intOf i).toNat)
  case atStart => exact ⟨rfl, Or.inl ⟨rfl, rfl⟩⟩
  case round =>
    obtain ⟨rfl, hrel⟩ := hrel
    rcases hrel with ⟨rfl, rfl⟩ | ⟨rfl, rfl⟩ | ⟨rfl, rfl⟩
    · have c1 := HC1.out
      go_wp2_with fail
      go_roundw
      case rel => exact ⟨by trivial, Or.inr (Or.inl ⟨rfl, rfl⟩)⟩
      case measure => simp [intOf]
    · have c2 := HC2.out
      go_wp2_with fail
      go_roundw
      case rel => exact ⟨by trivial, Or.inr (Or.inr ⟨rfl, rfl⟩)⟩
      case measure => simp [intOf]
    · go_wp2_with fail
      refine (HGR.out _).mono ?_
      rintro e w2 ⟨v2, rfl, ho2, hb2⟩
      have HO2 := Lib.hid ho2
      have HB2 := Lib.hid hb2
      clear ho2 hb2
      go_wp2_with fail
      go_loopw [27, 6, 8] (fun i o _ wx => Below wr.heap.size wr wx ∧ ((i = .int .i64 0 ∧ Own wx wr.heap.size o []) ∨ (i = .int .i64 1 ∧ Own wx wr.heap.size o l) ∨ (i = .int .i64 2 ∧ Own wx wr.heap.size o (l ++ m)))) (fun i _ _ _ => 2 - (intOf i).toNat)
      case atStart => exact ⟨HB2.out, Or.inl ⟨rfl, HO2.out⟩⟩
      case round =>
        obtain ⟨hbel, hrel⟩ := hrel
        have HB := Lib.hid hbel
        have hsz := hbel.size
        rcases hrel with ⟨rfl, hown⟩ | ⟨rfl, hown⟩ | ⟨rfl, hown⟩
        · have c1 := keepc hbel HC1.out
          have HV := Lib.hid (HV1.out.below hbel)
          have HO := Lib.hid hown
          clear hown hbel
          go_wp2_with (at_builtin; refine wpList_pushAll rfl _ _ rfl _ _ [] rfl HO.out _ l rfl HV.out (by simp) HN.out _ _ HB.out (Nat.le_refl _) hsz hsz ?_; intro v4 w4 ho4 hb4)
          go_roundw
          case rel => exact ⟨by assumption, Or.inr (Or.inl ⟨rfl, by simpa using ‹Own _ _ _ _›⟩)⟩
          case measure => simp [intOf]
        · have c2 := keepc hbel HC2.out
          have HV := Lib.hid (HV2.out.below hbel)
          have HO := Lib.hid hown
          clear hown hbel
          go_wp2_with (at_builtin; refine wpList_pushAll rfl _ _ rfl _ _ l rfl HO.out _ m rfl HV.out HN.out HM.out _ _ HB.out (Nat.le_refl _) hsz hsz ?_; intro v4 w4 ho4 hb4)
          go_roundw
          case rel => exact ⟨by assumption, Or.inr (Or.inr ⟨rfl, by assumption⟩)⟩
          case measure => simp [intOf]
        · have HO := Lib.hid hown
          clear hown hbel
          go_wp2_with fail
          go_returns
          exact ⟨_, rfl, HO.out, HB.out⟩
end Go.Proofs.Ytoehehaeanepmab
