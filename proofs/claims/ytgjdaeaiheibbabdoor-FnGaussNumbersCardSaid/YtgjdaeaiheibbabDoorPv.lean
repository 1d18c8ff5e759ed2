/- PhaseValue: the program's and the model's. -/
import Derived.Test.YtgjdaeaiheibbabDoorCors
import Derived.Test.YtgjdaeaiheibbabDoorGsn
namespace Go.Proofs.YtgjdaeaiheibbabDoor
set_option maxRecDepth 100000
open Go.RowKit

def pvOk (k : Int) : Bool := decide (0 ≤ k ∧ k ≤ 3)
def pvx (k : Int) : Int := if 0 ≤ k ∧ k ≤ 3 then vx k else 0
def pvy (k : Int) : Int := if 0 ≤ k ∧ k ≤ 3 then vy k else 0
theorem vx_small (k : Int) : -33 ≤ vx k ∧ vx k ≤ 33 := by unfold vx; split <;> (try split) <;> omega
theorem vy_small (k : Int) : -33 ≤ vy k ∧ vy k ≤ 33 := by unfold vy; split <;> (try split) <;> omega

set_option maxHeartbeats 1000000 in
theorem iphaseValue_any (k : Int) (w : World) : Calls Tryd.prog 15 #[.int .i64 k] w (Ret w (.tuple #[.agg #[.int .i64 (pvx k), .int .i64 (pvy k)], .bool (pvOk k)])) := by
  by_cases h : 0 ≤ k ∧ k ≤ 3
  · have h1 := h.1
    have h2 := h.2
    have e1 : pvx k = vx k := if_pos h
    have e2 : pvy k = vy k := if_pos h
    have e3 : pvOk k = true := decide_eq_true h
    rw [e1, e2, e3]
    clear e1 e2 e3
    have HV := Lib.hid (valueOf_any k h1 h2)
    have HG := Lib.hid (gaussOf_any (vx k) (vy k) (vx_small k).1 (vx_small k).2 (vy_small k).1 (vy_small k).2)
    obtain ⟨a, ha⟩ : ∃ a, a = vx k := ⟨_, rfl⟩
    obtain ⟨b, hb⟩ : ∃ b, b = vy k := ⟨_, rfl⟩
    rw [← ha, ← hb] at HV HG ⊢
    clear ha hb
    obtain ⟨fa, hfa⟩ : ∃ fa, fa = f32of a := ⟨_, rfl⟩
    obtain ⟨fb, hfb⟩ : ∃ fb, fb = f32of b := ⟨_, rfl⟩
    rw [← hfa, ← hfb] at HV HG
    clear hfa hfb
    go_enter Tryd.func15, Tryd.ntmps15
    go_wp2_with fail
    refine (HV.out _).mono ?_
    rintro e w1 ⟨rfl, hb1⟩
    go_wp2_with fail
    refine (HG.out _).mono ?_
    rintro e w2 ⟨rfl, hb2⟩
    have hB : Below w.heap.size w w2 := joins (joins (belowa (Below.refl _ _) _) hb1) hb2
    have c0 := keepc hb2 (keepc hb1 (cell_new0 w (.int .i64 0) (.int .i64 0) 25))
    have c1 := keepc hb2 (keepc hb1 (cell_new1 w (.int .i64 0) (.int .i64 0) 25))
    have s1 : w.heap.size < (w.alloc (.cells #[Value.int .i64 0, Value.int .i64 0] 25)).heap.size := by simp
    have f0 : w2.frozen? ⟨w.heap.size, 0, none⟩ = false := (hb2.frozen (p := ⟨w.heap.size, 0, none⟩) (Nat.lt_of_lt_of_le s1 hb1.size)).trans ((hb1.frozen (p := ⟨w.heap.size, 0, none⟩) s1).trans (World.frozen?_alloc_new ..))
    have f1 : w2.frozen? ⟨w.heap.size, 1, none⟩ = false := (hb2.frozen (p := ⟨w.heap.size, 1, none⟩) (Nat.lt_of_lt_of_le s1 hb1.size)).trans ((hb1.frozen (p := ⟨w.heap.size, 1, none⟩) s1).trans (World.frozen?_alloc_new ..))
    have d0 : (w2.setCell ⟨w.heap.size, 0, none⟩ (.int .i64 a)).cell? ⟨w.heap.size, 0, none⟩ = some (.int .i64 a) := World.cell?_setCell_same _ _ _ c0
    have d1 : (w2.setCell ⟨w.heap.size, 0, none⟩ (.int .i64 a)).cell? ⟨w.heap.size, 1, none⟩ = some (.int .i64 0) := (World.cell?_setCell_other _ _ _ _ (by simp)).trans c1
    have d2 : ((w2.setCell ⟨w.heap.size, 0, none⟩ (.int .i64 a)).setCell ⟨w.heap.size, 1, none⟩ (.int .i64 b)).cell? ⟨w.heap.size, 1, none⟩ = some (.int .i64 b) := World.cell?_setCell_same _ _ _ d1
    go_wp2_with fail
    (try simp only [Exit.inBlock, Exit.then])
    refine bodyPost_ret (by simp [results, Tryd.results15, go_sem, d0, d2]; try rfl) rfl ?_
    exact ⟨rfl, belows (belows hB (Nat.le_refl _) _) (Nat.le_refl _) _⟩
  · have e1 : pvx k = 0 := if_neg h
    have e2 : pvy k = 0 := if_neg h
    have e3 : pvOk k = false := decide_eq_false h
    rw [e1, e2, e3]
    clear e1 e2 e3
    rcases (show k < 0 ∨ 0 ≤ k ∧ 3 < k by omega) with h1 | ⟨h0, h1⟩
    all_goals
      clear h
      go_enter Tryd.func15, Tryd.ntmps15
      go_wp2
      go_returns
      exact ⟨rfl, by go_grown⟩

set_option maxHeartbeats 1000000 in
theorem sphaseValue_any (k : Int) (w : World) : Calls Tryd.prog 16 #[.int .i64 k] w (Ret w (.tuple #[.agg #[.int .i64 (pvx k), .int .i64 (pvy k)], .bool (pvOk k)])) := by
  by_cases h : 0 ≤ k ∧ k ≤ 3
  · have hk : k = 0 ∨ k = 1 ∨ k = 2 ∨ k = 3 := by omega
    clear h
    rcases hk with rfl | rfl | rfl | rfl
    all_goals
      go_enter Tryd.func16, Tryd.ntmps16
      go_wp2
      go_returns
      exact ⟨rfl, by go_grown⟩
  · have e1 : pvx k = 0 := if_neg h
    have e2 : pvy k = 0 := if_neg h
    have e3 : pvOk k = false := decide_eq_false h
    rw [e1, e2, e3]
    clear e1 e2 e3
    rcases (show k < 0 ∨ 0 ≤ k ∧ 3 < k by omega) with h1 | ⟨h0, h1⟩
    all_goals
      clear h
      go_enter Tryd.func16, Tryd.ntmps16
      go_wp2
      all_goals first
        | (exfalso; simp only [Bool.not_eq_false', decide_eq_true_eq] at *; omega)
        | (go_returns; exact ⟨rfl, by go_grown⟩)
end Go.Proofs.YtgjdaeaiheibbabDoor
