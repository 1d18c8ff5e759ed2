/- The model's lists of correlations. -/
import Derived.Test.YtcagiecgbjnefaaSRo
import Derived.Test.YtcagiecgbjnefaaKit
import Derived.Test.YtcagiecgbjnefaaCoL
namespace Go.Proofs.Ytcagiecgbjnefaa
set_option maxRecDepth 100000
open Go.RowKit

set_option maxRecDepth 100000 in
set_option maxHeartbeats 1000000 in
theorem crOwn_any (va : Value) (l : List Int) (w : World) (hva : IS w va l) (hs : isSeq l = true) :
    Calls Try.prog 55 #[va] w (MakesG w (genG l.length (fun u => apS vx l l (u : Int)) (fun u => apS vy l l (u : Int)))) := by
  have h32 := isSeq_len hs
  obtain ⟨p, cap, rfl⟩ := hva.slice
  have HA : ∀ k : Nat, k < l.length → ∀ w', IS w' (.slice p l.length cap) l → Calls Try.prog 68 #[.slice p l.length cap, .slice p l.length cap, .int .i64 (k : Int)] w' (Ret w' (.agg #[.int .i64 (apS vx l l (k : Int)), .int .i64 (apS vy l l (k : Int))])) := fun k hk w' h => crAt_any _ _ l l _ w' h h hs hs rfl (by omega) (by omega)
  obtain ⟨X, hX⟩ : ∃ F : Nat → Int, F = fun u : Nat => apS vx l l (u : Int) := ⟨_, rfl⟩
  obtain ⟨Y, hY⟩ : ∃ F : Nat → Int, F = fun u : Nat => apS vy l l (u : Int) := ⟨_, rfl⟩
  have HA2 : ∀ k : Nat, k < l.length → ∀ w', IS w' (.slice p l.length cap) l → Calls Try.prog 68 #[.slice p l.length cap, .slice p l.length cap, .int .i64 (k : Int)] w' (Ret w' (.agg #[.int .i64 (X k), .int .i64 (Y k)])) := fun k hk w' h => by rw [hX, hY]; exact HA k hk w' h
  rw [← hX, ← hY]
  have HV := Lib.hid hva
  obtain ⟨N, hN⟩ : ∃ N, N = l.length := ⟨_, rfl⟩
  rw [← hN] at HA2 h32 HV ⊢
  have HA' := Lib.hid HA2
  clear HA HA2 hX hY hN hs hva
  go_enter Try.func55, Try.ntmps55
  go_wp2_with fail
  go_loopw [7, 3] (fun i o wr => ∃ k : Nat, k ≤ N ∧ i = .int .i64 k ∧ OwnG wr w.heap.size o (genG k X Y) ∧ Below w.heap.size w wr) (fun i _ _ => N - (intOf i).toNat)
  case atStart => exact ⟨0, Nat.zero_le _, rfl, OwnG.nil _ _, Below.refl _ _⟩
  case round =>
    obtain ⟨k, hk, rfl, hown, hbel⟩ := hrel
    have HBEL := Lib.hid hbel
    have HO := Lib.hid hown
    clear hbel hown
    by_cases hlt : k < N
    · have h0 : (0 : Int) ≤ (k : Int) := by omega
      have h1 : (k : Int) < (N : Int) := by omega
      have HAk := Lib.hid (HA'.out k hlt _ (HV.out.below HBEL.out))
      have hgs := genG_succ k X Y
      obtain ⟨x, hx⟩ : ∃ x, x = X k := ⟨_, rfl⟩
      obtain ⟨y, hy⟩ : ∃ y, y = Y k := ⟨_, rfl⟩
      rw [← hx, ← hy] at HAk hgs
      have HGS := Lib.hid hgs
      have hgl : (genG k X Y).length ≤ 1048576 := by rw [genG_length]; omega
      have HGL := Lib.hid hgl
      clear hx hy hgs hgl
      go_wp2_with fail
      refine (HAk.out).mono ?_
      rintro e w2 ⟨rfl, hb2⟩
      have HBEL2 := Lib.hid (joins HBEL.out hb2)
      have HO2 := Lib.hid (HO.out.below hb2)
      clear hb2
      go_wp2_with (at_builtin; refine wpList_pushG rfl _ _ rfl w.heap.size _ (genG k X Y) rfl (HO2.out.alloc _) w2.heap.size 1 x y rfl (cell_new0 _ _ _ _) (cell_new1 _ _ _ _) HGL.out w.heap.size w (HBEL2.out.alloc HBEL2.out.size _) (Nat.le_refl _) (by have := HBEL2.out.size; simp; omega) (by have := HBEL2.out.size; simp; omega) ?_; intro v3 w3 ho3 hb3)
      go_roundw
      case rel => exact ⟨k + 1, by omega, by go_num, by rw [HGS.out]; exact ho3, hb3⟩
      case measure => simp [intOf]; omega
    · have he : k = N := by omega
      subst he
      go_wp2_with fail
      go_returns
      exact ⟨_, rfl, HO.out, HBEL.out⟩

end Go.Proofs.Ytcagiecgbjnefaa
