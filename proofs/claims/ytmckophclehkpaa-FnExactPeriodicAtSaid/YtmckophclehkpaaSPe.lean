/- The model's PeriodicAt. -/
import Derived.Test.YtmckophclehkpaaSRo
import Derived.Test.YtmckophclehkpaaSAp
import Derived.Test.YtmckophclehkpaaIPe
namespace Go.Proofs.Ytmckophclehkpaa
open Go.RowKit

set_option maxHeartbeats 1000000 in
theorem speriodicAt (va vb : Value) (a b : List Int) (u : Int) (w : World) (hva : IS w va a) (hvb : IS w vb b) (hla : a.length ≤ 1048576) (hlb : b.length ≤ 1048576) :
    Calls Try.prog 15 #[va, vb, .int .i64 u] w (Ret w (.tuple #[.agg #[.int .i64 (pdF vx a b u), .int .i64 (pdF vy a b u)], .bool (pdOk a b u)])) := by
  have hz0 := ZG.start w 24
  obtain ⟨pa, ca, rfl⟩ := hva.slice
  obtain ⟨pb, cb, rfl⟩ := hvb.slice
  have HPR := phBoth_any _ _ a b _ (hva.step hz0) (hvb.step hz0) hla hlb
  rw [bothB_eq] at HPR
  by_cases hp : pairOk a b = true
  · obtain ⟨ha, hb, hab⟩ := pairOk_parts hp
    have h32 := isSeq_len ha
    rw [hp] at HPR
    have HCR : 1 ≤ a.length → -(a.length : Int) ≤ u → u ≤ a.length → ∀ w' : World, ZG w w' → Calls Try.prog 39 #[.slice pa a.length ca, .slice pb b.length cb, .int .i64 u] w' (Ret w' (.agg #[.int .i64 (peS vx a b u), .int .i64 (peS vy a b u)])) := fun h0 h1 h2 w' hz => crRound_any _ _ a b u w' (hva.step hz) (hvb.step hz) ha hb hab h0 (by omega) (by omega)
    obtain ⟨X, hX⟩ : ∃ f, f = peS vx a b u := ⟨_, rfl⟩
    obtain ⟨Y, hY⟩ : ∃ f, f = peS vy a b u := ⟨_, rfl⟩
    obtain ⟨N, hN⟩ : ∃ n, n = a.length := ⟨_, rfl⟩
    obtain ⟨M, hM⟩ : ∃ n, n = b.length := ⟨_, rfl⟩
    have e1 : pdF vx a b u = if 1 ≤ N ∧ -(N : Int) ≤ u ∧ u ≤ N then X else 0 := by unfold pdF pdOk; rw [hp, hX, hN]; by_cases h : 1 ≤ a.length ∧ -(a.length : Int) ≤ u ∧ u ≤ a.length <;> simp [h]
    have e2 : pdF vy a b u = if 1 ≤ N ∧ -(N : Int) ≤ u ∧ u ≤ N then Y else 0 := by unfold pdF pdOk; rw [hp, hY, hN]; by_cases h : 1 ≤ a.length ∧ -(a.length : Int) ≤ u ∧ u ≤ a.length <;> simp [h]
    have e3 : pdOk a b u = decide (1 ≤ N ∧ -(N : Int) ≤ u ∧ u ≤ N) := by unfold pdOk; rw [hp, hN]; simp
    rw [e1, e2, e3]
    rw [← hX, ← hY] at HCR
    rw [← hN] at HCR HPR h32 ⊢
    rw [← hM] at HCR HPR ⊢
    have HPR' := Lib.hid HPR
    have HCR' := Lib.hid HCR
    have HZ0 := Lib.hid hz0
    have HIN := fun w => l1In_any u (-(N : Int)) N w
    clear HPR HCR hX hY hN hM e1 e2 e3 hz0 hva hvb ha hb hab hp hla hlb
    by_cases hc : 1 ≤ N ∧ -(N : Int) ≤ u ∧ u ≤ N
    · rw [if_pos hc, if_pos hc, decide_eq_true hc]
      rw [show inB u (-(N : Int)) N = true by simp [inB]; omega] at HIN
      have HIN' := Lib.hid HIN
      clear HIN
      obtain ⟨hc0, hc1, hc2⟩ := hc
      have hn0 : ((N : Int) == 0) = false := by simp; omega
      go_enter Try.func15, Try.ntmps15
      go_wp2_with fail
      refine (HPR'.out).mono ?_
      rintro e w1 ⟨rfl, hb1⟩
      have hz1 := HZ0.out.step hb1
      have HZ1 := Lib.hid hz1
      clear hz1 hb1
      go_wp2_with fail
      refine (HIN'.out _).mono ?_
      rintro e w2 ⟨rfl, rfl⟩
      go_wp2_with fail
      refine (HCR'.out hc0 hc1 hc2 _ HZ1.out).mono ?_
      rintro e w3 ⟨rfl, hb3⟩
      have hz3 := HZ1.out.step hb3
      have HR := Lib.hid hz3
      obtain ⟨z1, z2, z3, z4, z5, z6⟩ := hz3
      clear hb3
      go_wp2_with fail
      (try simp only [Exit.inBlock, Exit.then])
      obtain ⟨d0, d2, d3⟩ := HR.out.ret (.int .i64 X) (.int .i64 Y)
      refine bodyPost_ret (by simp [results, Try.results15, go_sem, d0, d2]; try rfl) rfl ?_
      exact ⟨rfl, d3⟩
    · rw [if_neg hc, if_neg hc, decide_eq_false hc]
      rcases (show N = 0 ∨ (1 ≤ N ∧ ¬ (-(N : Int) ≤ u ∧ u ≤ N)) by omega) with hc0 | ⟨hc0, hc1⟩
      rotate_left 1
      rw [show inB u (-(N : Int)) N = false by simp [inB]; omega] at HIN
      have hn0 : ((N : Int) == 0) = false := by simp; omega
      rotate_left 1
      have hn0 : ((N : Int) == 0) = true := by simp; omega
      have hn1 : N ≤ 0 := by omega
      all_goals
        have HIN' := Lib.hid HIN
        clear HIN hc
        try clear hc1
        try clear hc0
        go_enter Try.func15, Try.ntmps15
        go_wp2_with fail
        refine (HPR'.out).mono ?_
        rintro e w1 ⟨rfl, hb1⟩
        have hz1 := HZ0.out.step hb1
        have HR := Lib.hid hz1
        obtain ⟨z1, z2, z3, z4, z5, z6⟩ := hz1
        clear hb1
        go_wp2_with fail
        first | (refine (HIN'.out _).mono ?_; rintro e w2 ⟨rfl, rfl⟩; go_wp2_with fail) | skip
        (try simp only [Exit.inBlock, Exit.then])
        obtain ⟨d0, d2, d3⟩ := HR.out.ret (.int .i64 0) (.int .i64 0)
        refine bodyPost_ret (by simp [results, Try.results15, go_sem, d0, d2]; try rfl) rfl ?_
        exact ⟨rfl, d3⟩
  · have hp2 : pairOk a b = false := by simpa using hp
    rw [hp2] at HPR
    have e1 : pdF vx a b u = 0 := by unfold pdF pdOk; rw [hp2]; rfl
    have e2 : pdF vy a b u = 0 := by unfold pdF pdOk; rw [hp2]; rfl
    have e3 : pdOk a b u = false := by unfold pdOk; rw [hp2]; rfl
    rw [e1, e2, e3]
    have HPR' := Lib.hid HPR
    have HZ0 := Lib.hid hz0
    clear e1 e2 e3 hp hp2 HPR hz0 hva hvb
    go_enter Try.func15, Try.ntmps15
    go_wp2_with fail
    refine (HPR'.out).mono ?_
    rintro e w1 ⟨rfl, hb1⟩
    have hz1 := HZ0.out.step hb1
    have HR := Lib.hid hz1
    obtain ⟨z1, z2, z3, z4, z5, z6⟩ := hz1
    clear hb1
    go_wp2_with fail
    (try simp only [Exit.inBlock, Exit.then])
    obtain ⟨d0, d2, d3⟩ := HR.out.ret (.int .i64 0) (.int .i64 0)
    refine bodyPost_ret (by simp [results, Try.results15, go_sem, d0, d2]; try rfl) rfl ?_
    exact ⟨rfl, d3⟩
end Go.Proofs.Ytmckophclehkpaa
