/- The program's moves as values: IsMove, moveFrom, moveAt, list, rankedOf, bothRanked. -/
import Derived.Test.YtcagiecgbjnefaaClM
import Derived.Test.YtcagiecgbjnefaaIMo
import Derived.Test.YtcagiecgbjnefaaRun
namespace Go.Proofs.Ytcagiecgbjnefaa
set_option maxRecDepth 100000
open Go.RowKit

theorem slice_m2 (g off cap : Nat) (h : 4 ≤ cap) (w : World) : (Instr.sliceAt 22 (.slice (some ⟨g, off, none⟩) 4 cap) (some (.int .i64 2)) none none).run Try.prog w = .ok (.slice (some ⟨g, off + 2, none⟩) 2 (cap - 2)) w := by
  have hu : Try.prog.underlying 22 = some (.slice (Try.prog.elem 22)) := by rw [show Try.prog.elem 22 = 3 by kernel_rfl]; exact Try.underlying22
  have hsz : (sizeOf (Try.prog.elem 22)).run Try.prog w = .ok 1 w := by rw [show Try.prog.elem 22 = 3 by kernel_rfl]; simp [go_sem]
  rw [run_sliceAt_slice w _ _ _ _ _ hu, run_slice_l w _ _ _ _ hu _ _ (by omega) (by omega), hsz, Result.andThen_ok]
  unfold sliced
  have h2 : ¬ (cap = (2 : Int).toNat) := by have : (2 : Int).toNat = 2 := rfl; omega
  simp [Addr.add_lit]
  omega

set_option maxHeartbeats 400000 in
theorem isPhaseC_any (k : Int) (w : World) : Calls Try.prog 32 #[.int .i64 k] w (Pure w (.bool (inB k 0 3))) := by
  go_enter Try.func32, Try.ntmps32
  go_wp2
  all_goals
    go_ret
    exact ⟨ret_bool (by simp only [inB]; simp; omega), rfl⟩
/-- A list of four as it lies. -/
theorem IS.four {w : World} {v : Value} {a b c d : Int} (h : IS w v [a, b, c, d]) : ∃ g off cap, v = .slice (some ⟨g, off, none⟩) 4 cap ∧ w.cell? ⟨g, off, none⟩ = some (.int .i64 a) ∧ w.cell? ⟨g, off + 1, none⟩ = some (.int .i64 b) ∧ w.cell? ⟨g, off + 2, none⟩ = some (.int .i64 c) ∧ w.cell? ⟨g, off + 3, none⟩ = some (.int .i64 d) := by
  rcases h with ⟨h, _⟩ | ⟨_, g, off, cap, rfl, _, hc⟩
  · cases h
  · exact ⟨g, off, cap, rfl, hc 0 (by simp), hc 1 (by simp), hc 2 (by simp), hc 3 (by simp)⟩
set_option maxHeartbeats 1000000 in
theorem isMove_any (v : Value) (m : List Int) (w : World) (hv : IS w v m) (hc : clCap v) : Calls Try.prog 12 #[v] w (Ret w (.bool (clOk m))) := by
  by_cases h4 : m.length = 4
  · match m, h4 with
    | [a, b, c, d], _ =>
      obtain ⟨g, off, cap, rfl, c0, c1, c2, c3⟩ := hv.four
      have hcap : 4 ≤ cap := hc
      have hsl := slice_m2 g off cap hcap
      have hsub : IS w (.slice (some ⟨g, off + 2, none⟩) 2 (cap - 2)) [c, d] := Or.inr ⟨by simp, g, off + 2, cap - 2, rfl, by simp [maxLen], fun i hi => by
        match i, hi with
        | 0, _ => exact c2
        | 1, _ => exact c3⟩
      have HP := Lib.hid (fun k => isPhaseC_any k w)
      have HB := Lib.hid (isBits_any _ _ w hsub (by simp))
      have hbs : bsOk [c, d] = (inB c 0 1 && inB d 0 1) := by simp [bsOk, allIn]
      rw [hbs] at HB
      clear hv hc hsub hbs hcap c2 c3
      simp only [clOk]
      obtain ⟨x, hx⟩ : ∃ x, x = inB a 0 3 := ⟨_, rfl⟩
      obtain ⟨y, hy⟩ : ∃ x, x = inB b 0 3 := ⟨_, rfl⟩
      obtain ⟨z, hz⟩ : ∃ x, x = (inB c 0 1 && inB d 0 1) := ⟨_, rfl⟩
      rw [← hz] at HB
      rw [← hx, ← hy, ← hz]
      have HA1 := Lib.hid (HP.out a)
      have HA2 := Lib.hid (HP.out b)
      rw [← hx] at HA1
      rw [← hy] at HA2
      clear hx hy hz HP
      cases x <;> cases y
      all_goals
        go_enter Try.func12, Try.ntmps12
        go_wp2_with fail
        refine HA1.out.mono ?_
        rintro e w1 ⟨rfl, rfl⟩
        go_wp2_with fail
        first
          | (refine HA2.out.mono ?_
             rintro e w1 ⟨rfl, rfl⟩
             go_wp2_with fail)
          | skip
        first
          | (refine HB.out.mono ?_
             rintro e w1 ⟨rfl, hb⟩
             have HBB := Lib.hid hb
             clear hb
             go_wp2_with fail
             go_returns
             exact ⟨rfl, HBB.out⟩)
          | (go_returns
             exact ⟨rfl, Below.refl _ _⟩)
  · have hno : clOk m = false := by rw [clOk_is, decide_eq_false h4, Bool.false_and]
    rw [hno]
    obtain ⟨a0, cap, rfl⟩ := hv.shape
    obtain ⟨n, hn⟩ : ∃ n, n = m.length := ⟨_, rfl⟩
    have hn4 : ((n : Int) == 4) = false := by rw [hn]; simpa using (show ((m.length : Int) ≠ 4) by omega)
    rw [← hn]
    clear hv hc hno h4 hn
    go_enter Try.func12, Try.ntmps12
    go_wp2_with fail
    go_returns
    exact ⟨rfl, Below.refl _ _⟩

/-- A move as a value, nought where the list is none. -/
def mvV (m : List Int) : Array Value := if clOk m then (m.map (Value.int .i64)).toArray else #[.int .i64 0, .int .i64 0, .int .i64 0, .int .i64 0]
theorem mvV_four {m : List Int} {a b c d : Int} (h : m = [a, b, c, d]) (hok : clOk m = true) : mvV m = #[.int .i64 a, .int .i64 b, .int .i64 c, .int .i64 d] := by
  unfold mvV; rw [if_pos hok, h]; rfl
theorem mvV_no {m : List Int} (hok : clOk m = false) : mvV m = #[.int .i64 0, .int .i64 0, .int .i64 0, .int .i64 0] := by
  unfold mvV; rw [hok]; rfl
/-- The move at an index as a value. -/
def mvC (x : Nat) : Array Value := #[.int .i64 ((x : Int) / 16), .int .i64 ((x : Int) / 4 % 4), .int .i64 ((x : Int) / 2 % 2), .int .i64 ((x : Int) % 2)]
end Go.Proofs.Ytcagiecgbjnefaa
