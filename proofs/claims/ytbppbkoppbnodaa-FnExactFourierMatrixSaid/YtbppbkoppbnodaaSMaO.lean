/- The model's haOver, TurnedOver. -/
import Derived.Test.YtbppbkoppbnodaaSMa
import Derived.Test.YtbppbkoppbnodaaMaG
namespace Go.Proofs.Ytbppbkoppbnodaa
set_option maxRecDepth 100000
open Go.RowKit

set_option maxRecDepth 100000 in
set_option maxHeartbeats 2000000 in
theorem haOver_any (v : Value) (m : List (List Int)) (w : World) (hv : IR w v m) (hsq : sqM m) (h8 : m.length ≤ 8) : Calls Try.prog 45 #[v] w (MakesR w (ovL m)) := by
  obtain ⟨a, cap, rfl⟩ := hv.slice
  have HV := Lib.hid hv
  have HSQ := Lib.hid hsq
  obtain ⟨N, hN⟩ : ∃ N, N = m.length := ⟨_, rfl⟩
  obtain ⟨R, hR⟩ : ∃ R : Nat → List Int, R = fun j => gen m.length (fun i => atM m i j) := ⟨_, rfl⟩
  have hgoal : ovL m = genR N R := by rw [hN, hR]; rfl
  rw [hgoal]
  have HR := Lib.hid hR
  have HN := Lib.hid hN
  rw [← hN] at h8 HV ⊢
  clear hv hsq hgoal hR hN
  go_enter Try.func45, Try.ntmps45
  go_wp2_with fail
  go_loopw [9, 3] (fun x o wr => ∃ j : Nat, j ≤ N ∧ x = .int .i64 j ∧ OwnR wr w.heap.size o (genR j R) ∧ Below w.heap.size w wr) (fun x _ _ => N - (intOf x).toNat)
  case atStart => exact ⟨0, Nat.zero_le _, rfl, OwnR.nil _ _, by go_grown⟩
  case round =>
    obtain ⟨j, hj, rfl, hown, hbel⟩ := hrel
    have HB := Lib.hid hbel
    have HO := Lib.hid hown
    clear hown hbel
    generalize hwo : wr = wo at *
    clear hwo
    by_cases hlt : j < N
    · have h0 : (0 : Int) ≤ (j : Int) := by omega
      have h1 : (j : Int) < (N : Int) := by omega
      obtain ⟨G, hG⟩ : ∃ G : Nat → Int, G = fun i => atM m i j := ⟨_, rfl⟩
      have hRj : R j = gen N G := by rw [HR.out, hG, ← HN.out]
      have HG := Lib.hid hG
      have HRJ := Lib.hid hRj
      clear hG hRj
      go_wp2_with fail
      go_loopw [14, 5] (fun y r wq => ∃ i : Nat, i ≤ N ∧ y = .int .i64 i ∧ Own wq wo.heap.size r (gen i G) ∧ Below wo.heap.size wo wq) (fun y _ _ => N - (intOf y).toNat)
      case atStart => exact ⟨0, Nat.zero_le _, rfl, World.ownsRow_nil _ _ _ _, Below.refl _ _⟩
      case round =>
        obtain ⟨i, hi, rfl, hr, hbq⟩ := hrel
        have HBQ := Lib.hid hbq
        have HRW := Lib.hid hr
        clear hbq hr
        by_cases hil : i < N
        · have hil2 : i < m.length := by rw [← HN.out]; exact hil
          obtain ⟨-, b, off, u, rfl, c1, hu⟩ := (HV.out.below (joins HB.out HBQ.out)).at i hil2
          have hul := HSQ.out i hil2
          have hgi : G i = (m.getD i []).getD j 0 := by rw [HG.out]; rfl
          obtain ⟨l, hl⟩ : ∃ l, l = m.getD i [] := ⟨_, rfl⟩
          rw [← hl] at hu hul hgi
          rw [← HN.out] at hul
          clear hl
          rcases hu with ⟨rfl, _⟩ | ⟨_, b2, off2, cap2, rfl, _, hc2⟩
          · simp at hul; omega
          have c2 := hc2 j (by omega)
          rw [hul] at c1
          obtain ⟨x, hx⟩ : ∃ x, x = l.getD j 0 := ⟨_, rfl⟩
          rw [← hx] at c2 hgi
          have hgl : (gen i G).length ≤ 1048576 := by rw [gen_length]; omega
          have hgs := gen_succ i G
          rw [hgi] at hgs
          have HGS := Lib.hid hgs
          have HGL := Lib.hid hgl
          clear hx hgs hgl hgi hc2 hul
          have h0i : (0 : Int) ≤ (i : Int) := by omega
          have h1i : (i : Int) < (N : Int) := by omega
          go_wp2_with (first
            | (at_builtin; refine wpList_push rfl _ _ rfl wo.heap.size _ (gen i G) rfl (HRW.out.alloc _) wr.heap.size 1 x rfl (by simp) HGL.out wo.heap.size wo (HBQ.out.alloc HBQ.out.size _) (Nat.le_refl _) (by have := HBQ.out.size; simp; omega) (by have := HBQ.out.size; simp; omega) ?_; intro v2 w2 ho2 hb2))
          go_roundw
          case rel => exact ⟨i + 1, by omega, by go_num, by rw [HGS.out]; assumption, by assumption⟩
          case measure => simp [intOf]; omega
        · have he : i = N := by omega
          subst he
          have hgs := genR_succ j R
          rw [HRJ.out] at hgs
          have HGS := Lib.hid hgs
          have HGL := Lib.hid (show (genR j R).length ≤ 1048576 by rw [genR_length]; omega)
          obtain ⟨ra, rc, hre⟩ := HRW.out.is.sl
          subst hre
          clear hgs
          go_wp2_with (first
            | (at_builtin; refine wpList_pushR rfl _ _ rfl w.heap.size _ (genR j R) rfl wo HO.out (HBQ.out.alloc HBQ.out.size _) wr.heap.size 1 _ (gen i G) rfl (by simp) (HRW.out.alloc _) HGL.out w.heap.size w (belowa (joins HB.out HBQ.out) _) (Nat.le_refl _) HB.out.size (by have := HB.out.size; have := HBQ.out.size; simp; omega) ?_; intro v2 w2 ho2 hb2))
          go_roundw
          case rel => exact ⟨j + 1, by omega, by go_num, by rw [HGS.out]; assumption, by assumption⟩
          case measure => simp [intOf]; omega
    · have he : j = N := by omega
      subst he
      go_wp2_with fail
      go_returns
      exact ⟨_, rfl, HO.out, HB.out⟩
end Go.Proofs.Ytbppbkoppbnodaa
