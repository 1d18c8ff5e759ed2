/- The model's TransformOfSequence and IsFlat. -/
import Derived.Test.YtjoepdflbbcliacSTo
import Derived.Test.YtjoepdflbbcliacQsM
import Derived.Test.YtjoepdflbbcliacSEg
import Derived.Test.YtjoepdflbbcliacGMi
import Derived.Test.YtjoepdflbbcliacSPh
namespace Go.Proofs.Ytjoepdflbbcliac
set_option maxRecDepth 100000
open Go.RowKit

set_option maxRecDepth 100000 in
set_option maxHeartbeats 1000000 in
theorem tfSequence_any (v : Value) (s : List Int) (w : World) (hv : IS w v s) (hl : s.length ≤ 1048576) : Calls Try.prog 40 #[v] w (Ret w (.bool (sqTf s))) := by
  have HP := Lib.hid (phIs_any v s w hv hl)
  have HZ := Lib.hid (tfSize_any s.length)
  obtain ⟨a, cap, rfl⟩ := hv.slice
  unfold sqTf
  obtain ⟨n, hn⟩ : ∃ n, n = s.length := ⟨_, rfl⟩
  rw [← hn] at HP HZ ⊢
  cases h : isSeq s with
  | false =>
    rw [h] at HP
    clear h hv hn hl
    go_enter Try.func40, Try.ntmps40
    go_wp2_with fail
    refine (HP.out).mono ?_
    rintro e w1 ⟨rfl, hb⟩
    have HB := Lib.hid hb
    clear hb
    go_wp2_with fail
    go_returns
    exact ⟨rfl, HB.out⟩
  | true =>
    rw [h] at HP
    obtain ⟨q, hq⟩ : ∃ q, q = tfSz n := ⟨_, rfl⟩
    rw [← hq] at HZ ⊢
    clear h hv hn hl hq
    go_enter Try.func40, Try.ntmps40
    go_wp2_with fail
    refine (HP.out).mono ?_
    rintro e w1 ⟨rfl, hb⟩
    have HB := Lib.hid hb
    clear hb
    go_wp2_with fail
    refine (HZ.out _).mono ?_
    rintro e w2 ⟨rfl, rfl⟩
    go_wp2_with fail
    go_returns
    exact ⟨rfl, HB.out⟩
set_option maxRecDepth 100000 in
set_option maxHeartbeats 1000000 in
theorem tfValues_any (v : Value) (s : List Int) (w : World) (hv : IS w v s) (hs : sqTf s = true) : Calls Try.prog 64 #[v] w (MakesG w (vlL s)) := by
  have hlen := sqTf_len hs
  have hall := fun i hi => allIn_getD (isSeq_all (Bool.and_eq_true_iff.1 hs).1) i hi
  obtain ⟨a, cap, rfl⟩ := hv.slice
  obtain ⟨b, off, rfl, hc⟩ := hv.cellsAt (by omega)
  obtain ⟨n, hn⟩ : ∃ n, n = s.length := ⟨_, rfl⟩
  have hdl : vlL s = genG n (fun i => vx (s.getD i 0)) (fun i => vy (s.getD i 0)) := by rw [hn]; rfl
  rw [hdl, ← hn]
  rw [← hn] at hlen hall hc
  obtain ⟨X, hX⟩ : ∃ X, X = fun i => vx (s.getD i 0) := ⟨_, rfl⟩
  obtain ⟨Y, hY⟩ : ∃ X, X = fun i => vy (s.getD i 0) := ⟨_, rfl⟩
  rw [← hX, ← hY]
  have HXY := Lib.hid (show ∀ i, X i = vx (s.getD i 0) ∧ Y i = vy (s.getD i 0) from fun i => by rw [hX, hY]; exact ⟨rfl, rfl⟩)
  have HC := Lib.hid hc
  have HA := Lib.hid hall
  obtain ⟨hl1, hl2⟩ := hlen
  clear hv hc hn hdl hX hY hall hs
  go_enter Try.func64, Try.ntmps64
  go_wp2_with fail
  go_loopw [8, 3] (fun i o wr => ∃ k : Nat, k ≤ n ∧ i = .int .i64 k ∧ OwnG wr w.heap.size o (genG k X Y) ∧ Below w.heap.size w wr) (fun i _ _ => n - (intOf i).toNat)
  case atStart => exact ⟨0, Nat.zero_le _, rfl, OwnG.nil _ _, Below.refl _ _⟩
  case round =>
    obtain ⟨k, hk, rfl, hown, hbel⟩ := hrel
    have HB := Lib.hid hbel
    have HO := Lib.hid hown
    clear hown hbel
    by_cases hlt : k < n
    · have h0 : (0 : Int) ≤ (k : Int) := by omega
      have h1 : (k : Int) < (n : Int) := by omega
      have c1 := keepc HB.out (HC.out k hlt)
      have hp := HA.out k hlt
      have hxy := HXY.out k
      have hgs := genG_succ k X Y
      obtain ⟨z, hz⟩ : ∃ z, z = s.getD k 0 := ⟨_, rfl⟩
      rw [← hz] at c1 hp hxy
      have HV := Lib.hid (phValue_any z hp.1 hp.2)
      rw [← hxy.1, ← hxy.2] at HV
      obtain ⟨x, hx⟩ : ∃ x, x = X k := ⟨_, rfl⟩
      obtain ⟨y, hy⟩ : ∃ y, y = Y k := ⟨_, rfl⟩
      rw [← hx, ← hy] at HV hgs
      have HGS := Lib.hid hgs
      have HGL := Lib.hid (show (genG k X Y).length ≤ 1048576 by rw [genG_length]; omega)
      clear hp hxy hgs hz hx hy
      go_wp2_with fail
      refine (HV.out _).mono ?_
      rintro e w2 ⟨rfl, hb⟩
      have HB2 := Lib.hid (joins HB.out hb)
      have HO2 := Lib.hid (HO.out.below hb)
      clear hb c1
      go_wp2_with (at_builtin; refine wpList_pushG rfl _ _ rfl w.heap.size _ (genG k X Y) rfl (HO2.out.alloc _) w2.heap.size 1 x y rfl (cell_new0 _ _ _ _) (cell_new1 _ _ _ _) HGL.out w.heap.size w (HB2.out.alloc HB2.out.size _) (Nat.le_refl _) (by have := HB2.out.size; simp; omega) (by have := HB2.out.size; simp; omega) ?_; intro v3 w3 ho3 hb3)
      go_roundw
      case rel => exact ⟨k + 1, by omega, by go_num, by rw [HGS.out]; exact ho3, hb3⟩
      case measure => simp [intOf]; omega
    · obtain rfl : k = n := by omega
      go_wp2_with fail
      go_returns
      exact ⟨_, rfl, HO.out, HB.out⟩
end Go.Proofs.Ytjoepdflbbcliac
