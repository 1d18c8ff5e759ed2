/- The model's CrossCorrelations. -/
import Derived.Test.YtmckophclehkpaaSRo
import Derived.Test.YtmckophclehkpaaSAp
import Derived.Test.YtmckophclehkpaaCrL
namespace Go.Proofs.Ytmckophclehkpaa
open Go.RowKit

set_option maxRecDepth 100000 in
set_option maxHeartbeats 1000000 in
theorem scross (va vb : Value) (a b : List Int) (w : World) (hva : IS w va a) (hvb : IS w vb b) (hla : a.length ≤ 1048576) (hlb : b.length ≤ 1048576) :
    Calls Try.prog 25 #[va, vb] w (MakesGB w (crossL a b) (crossOk a b)) := by
  obtain ⟨pa, ca, rfl⟩ := hva.slice
  obtain ⟨pb, cb, rfl⟩ := hvb.slice
  have HPR := phBoth_any _ _ a b _ hva hvb hla hlb
  rw [bothB_eq] at HPR
  by_cases hp : pairOk a b = true
  · obtain ⟨ha, hb, hab⟩ := pairOk_parts hp
    have h32 := isSeq_len ha
    rw [hp] at HPR
    by_cases hn : 1 ≤ a.length
    · have hok : crossOk a b = true := by unfold crossOk; rw [hp, decide_eq_true hn]; rfl
      have hl : crossL a b = genG (2 * a.length - 1) (fun i => apS vx a b (1 - (a.length : Int) + (i : Int))) (fun i => apS vy a b (1 - (a.length : Int) + (i : Int))) := by unfold crossL; rw [hok]; rfl
      rw [hok, hl]
      have HCR : ∀ k : Nat, k < 2 * a.length - 1 → ∀ w' : World, Below w.heap.size w w' → Calls Try.prog 34 #[.slice pa a.length ca, .slice pb b.length cb, .int .i64 (1 - (a.length : Int) + (k : Int))] w' (Ret w' (.agg #[.int .i64 (apS vx a b (1 - (a.length : Int) + (k : Int))), .int .i64 (apS vy a b (1 - (a.length : Int) + (k : Int)))])) := fun k hk w' hz => crAt_any _ _ a b _ w' (hva.below hz) (hvb.below hz) ha hb hab (by omega) (by omega)
      obtain ⟨X, hX⟩ : ∃ F : Nat → Int, F = fun i : Nat => apS vx a b (1 - (a.length : Int) + (i : Int)) := ⟨_, rfl⟩
      obtain ⟨Y, hY⟩ : ∃ F : Nat → Int, F = fun i : Nat => apS vy a b (1 - (a.length : Int) + (i : Int)) := ⟨_, rfl⟩
      have HCR2 : ∀ k : Nat, k < 2 * a.length - 1 → ∀ w' : World, Below w.heap.size w w' → Calls Try.prog 34 #[.slice pa a.length ca, .slice pb b.length cb, .int .i64 (1 - (a.length : Int) + (k : Int))] w' (Ret w' (.agg #[.int .i64 (X k), .int .i64 (Y k)])) := fun k hk w' hz => by rw [hX, hY]; exact HCR k hk w' hz
      rw [← hX, ← hY]
      obtain ⟨N, hN⟩ : ∃ n, n = a.length := ⟨_, rfl⟩
      obtain ⟨M, hM⟩ : ∃ n, n = b.length := ⟨_, rfl⟩
      rw [← hN] at HCR2 HPR h32 hn ⊢
      rw [← hM] at HCR2 HPR ⊢
      have HPR' := Lib.hid HPR
      have HCR' := Lib.hid HCR2
      clear HPR HCR HCR2 hX hY hN hM hok hl hva hvb ha hb hab hp hla hlb
      go_enter Try.func25, Try.ntmps25
      go_wp2_with fail
      refine (HPR'.out).mono ?_
      rintro e w1 ⟨rfl, hb1⟩
      have HB1 := Lib.hid hb1
      clear hb1
      have hn0 : ((N : Int) == 0) = false := by simp; omega
      have hn1 : 0 < N := by omega
      go_wp2_with fail
      go_loopw [7, 6] (fun u o wr => ∃ k : Nat, k ≤ 2 * N - 1 ∧ u = .int .i64 (1 - (N : Int) + (k : Int)) ∧ OwnG wr w.heap.size o (genG k X Y) ∧ Below w.heap.size w wr) (fun u _ _ => ((N : Int) - intOf u).toNat)
      case atStart => exact ⟨0, Nat.zero_le _, by go_num, OwnG.nil _ _, HB1.out⟩
      case round =>
        obtain ⟨k, hk, rfl, hown, hbel⟩ := hrel
        have HBEL := Lib.hid hbel
        have HO := Lib.hid hown
        clear hbel hown
        by_cases hlt : k < 2 * N - 1
        · have h0 : (0 : Int) ≤ (k : Int) := by omega
          have h1 : 1 - (N : Int) + (k : Int) < (N : Int) := by omega
          have HAk := Lib.hid (HCR'.out k hlt _ HBEL.out)
          have hgs := genG_succ k X Y
          obtain ⟨x, hx⟩ : ∃ x, x = X k := ⟨_, rfl⟩
          obtain ⟨y, hy⟩ : ∃ y, y = Y k := ⟨_, rfl⟩
          rw [← hx, ← hy] at HAk hgs
          have HGS := Lib.hid hgs
          have hgl : (genG k X Y).length ≤ 1048576 := by rw [genG_length]; omega
          have HGL := Lib.hid hgl
          clear hx hy hgs hgl
          go_wp2_with fail
          refine (HAk.out).mono ?_
          rintro e w2 ⟨rfl, hb2⟩
          have HBEL2 := Lib.hid (joins HBEL.out hb2)
          have HO2 := Lib.hid (HO.out.below hb2)
          clear hb2
          go_wp2_with (at_builtin; refine wpList_pushG rfl _ _ rfl w.heap.size _ (genG k X Y) rfl (HO2.out.alloc _) w2.heap.size 1 x y rfl (cell_new0 _ _ _ _) (cell_new1 _ _ _ _) HGL.out w.heap.size w (HBEL2.out.alloc HBEL2.out.size _) (Nat.le_refl _) (by have := HBEL2.out.size; simp; omega) (by have := HBEL2.out.size; simp; omega) ?_; intro v3 w3 ho3 hb3)
          go_roundw
          case rel => exact ⟨k + 1, by omega, by go_num, by rw [HGS.out]; exact ho3, hb3⟩
          case measure => simp [intOf]; omega
        · have he : k = 2 * N - 1 := by omega
          have h1 : (N : Int) ≤ 1 - (N : Int) + (k : Int) := by omega
          subst he
          go_wp2_with fail
          go_returns
          exact ⟨_, rfl, HO.out, HBEL.out⟩
    · have hok : crossOk a b = false := by unfold crossOk; rw [decide_eq_false hn, Bool.and_false]
      have hl : crossL a b = [] := by unfold crossL; rw [hok]; rfl
      rw [hok, hl]
      have h0 : a.length = 0 := by omega
      rw [h0] at HPR ⊢
      have HPR' := Lib.hid HPR
      clear HPR hok hl hva hvb ha hb hab hp hla hlb hn h0 h32
      go_enter Try.func25, Try.ntmps25
      go_wp2_with fail
      refine (HPR'.out).mono ?_
      rintro e w1 ⟨rfl, hb1⟩
      go_wp2_with fail
      go_returns
      exact ⟨_, rfl, OwnG.nil _ _, hb1⟩
  · have hp2 : pairOk a b = false := by simpa using hp
    have hok : crossOk a b = false := by unfold crossOk; rw [hp2]; rfl
    have hl : crossL a b = [] := by unfold crossL; rw [hok]; rfl
    rw [hok, hl]
    rw [hp2] at HPR
    have HPR' := Lib.hid HPR
    clear HPR hok hl hva hvb hp hp2 hla hlb
    go_enter Try.func25, Try.ntmps25
    go_wp2_with fail
    refine (HPR'.out).mono ?_
    rintro e w1 ⟨rfl, hb1⟩
    go_wp2_with fail
    go_returns
    exact ⟨_, rfl, OwnG.nil _ _, hb1⟩
end Go.Proofs.Ytmckophclehkpaa
