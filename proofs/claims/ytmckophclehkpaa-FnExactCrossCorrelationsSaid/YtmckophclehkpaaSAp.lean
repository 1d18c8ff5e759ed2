/- The model's AperiodicAt. -/
import Derived.Test.YtmckophclehkpaaBoth
import Derived.Test.YtmckophclehkpaaSCr
import Derived.Test.YtmckophclehkpaaIAp
namespace Go.Proofs.Ytmckophclehkpaa
open Go.RowKit

theorem bothB_eq (a b : List Int) : bothB a b = pairOk a b := rfl
set_option maxHeartbeats 1000000 in
theorem saperiodicAt (va vb : Value) (a b : List Int) (u : Int) (w : World) (hva : IS w va a) (hvb : IS w vb b) (hla : a.length ≤ 1048576) (hlb : b.length ≤ 1048576) :
    Calls Try.prog 10 #[va, vb, .int .i64 u] w (Ret w (.tuple #[.agg #[.int .i64 (apF vx a b u), .int .i64 (apF vy a b u)], .bool (apOk a b u)])) := by
  have hz0 := ZG.start w 24
  obtain ⟨pa, ca, rfl⟩ := hva.slice
  obtain ⟨pb, cb, rfl⟩ := hvb.slice
  have HPR := phBoth_any _ _ a b _ (hva.step hz0) (hvb.step hz0) hla hlb
  rw [bothB_eq] at HPR
  by_cases hp : pairOk a b = true
  · obtain ⟨ha, hb, hab⟩ := pairOk_parts hp
    have h32 := isSeq_len ha
    rw [hp] at HPR
    have HCR : -(a.length : Int) ≤ u → u ≤ a.length → ∀ w' : World, ZG w w' → Calls Try.prog 34 #[.slice pa a.length ca, .slice pb b.length cb, .int .i64 u] w' (Ret w' (.agg #[.int .i64 (apS vx a b u), .int .i64 (apS vy a b u)])) := fun h1 h2 w' hz => crAt_any _ _ a b u w' (hva.step hz) (hvb.step hz) ha hb hab (by omega) (by omega)
    obtain ⟨X, hX⟩ : ∃ f, f = apS vx a b u := ⟨_, rfl⟩
    obtain ⟨Y, hY⟩ : ∃ f, f = apS vy a b u := ⟨_, rfl⟩
    obtain ⟨N, hN⟩ : ∃ n, n = a.length := ⟨_, rfl⟩
    obtain ⟨M, hM⟩ : ∃ n, n = b.length := ⟨_, rfl⟩
    have e1 : apF vx a b u = if -(N : Int) ≤ u ∧ u ≤ N then X else 0 := by unfold apF apOk; rw [hp, hX, hN]; by_cases h : -(a.length : Int) ≤ u ∧ u ≤ a.length <;> simp [h]
    have e2 : apF vy a b u = if -(N : Int) ≤ u ∧ u ≤ N then Y else 0 := by unfold apF apOk; rw [hp, hY, hN]; by_cases h : -(a.length : Int) ≤ u ∧ u ≤ a.length <;> simp [h]
    have e3 : apOk a b u = decide (-(N : Int) ≤ u ∧ u ≤ N) := by unfold apOk; rw [hp, hN]; simp
    rw [e1, e2, e3]
    rw [← hX, ← hY] at HCR
    rw [← hN] at HCR HPR h32 ⊢
    rw [← hM] at HCR HPR ⊢
    have HPR' := Lib.hid HPR
    have HCR' := Lib.hid HCR
    have HZ0 := Lib.hid hz0
    have HIN := fun w => l1In_any u (-(N : Int)) N w
    clear HPR HCR hX hY hN hM e1 e2 e3 hz0 hva hvb ha hb hab hp hla hlb
    by_cases hc : -(N : Int) ≤ u ∧ u ≤ N
    · rw [if_pos hc, if_pos hc, decide_eq_true hc]
      rw [show inB u (-(N : Int)) N = true by simp [inB]; omega] at HIN
      have HIN' := Lib.hid HIN
      clear HIN
      obtain ⟨hc1, hc2⟩ := hc
      go_enter Try.func10, Try.ntmps10
      go_wp2_with fail
      refine (HPR'.out).mono ?_
      rintro e w1 ⟨rfl, hb1⟩
      have hz1 := HZ0.out.step hb1
      have HZ1 := Lib.hid hz1
      clear hz1 hb1
      go_wp2_with fail
      refine (HIN'.out _).mono ?_
      rintro e w2 ⟨rfl, rfl⟩
      go_wp2_with fail
      refine (HCR'.out hc1 hc2 _ HZ1.out).mono ?_
      rintro e w3 ⟨rfl, hb3⟩
      have hz3 := HZ1.out.step hb3
      have HR := Lib.hid hz3
      obtain ⟨z1, z2, z3, z4, z5, z6⟩ := hz3
      clear hb3
      go_wp2_with fail
      (try simp only [Exit.inBlock, Exit.then])
      obtain ⟨d0, d2, d3⟩ := HR.out.ret (.int .i64 X) (.int .i64 Y)
      refine bodyPost_ret (by simp [results, Try.results10, go_sem, d0, d2]; try rfl) rfl ?_
      exact ⟨rfl, d3⟩
    · rw [if_neg hc, if_neg hc, decide_eq_false hc]
      rw [show inB u (-(N : Int)) N = false by simp [inB]; omega] at HIN
      have HIN' := Lib.hid HIN
      clear HIN hc
      go_enter Try.func10, Try.ntmps10
      go_wp2_with fail
      refine (HPR'.out).mono ?_
      rintro e w1 ⟨rfl, hb1⟩
      have hz1 := HZ0.out.step hb1
      have HR := Lib.hid hz1
      obtain ⟨z1, z2, z3, z4, z5, z6⟩ := hz1
      clear hb1
      go_wp2_with fail
      refine (HIN'.out _).mono ?_
      rintro e w2 ⟨rfl, rfl⟩
      go_wp2_with fail
      (try simp only [Exit.inBlock, Exit.then])
      obtain ⟨d0, d2, d3⟩ := HR.out.ret (.int .i64 0) (.int .i64 0)
      refine bodyPost_ret (by simp [results, Try.results10, go_sem, d0, d2]; try rfl) rfl ?_
      exact ⟨rfl, d3⟩
  · have hp2 : pairOk a b = false := by simpa using hp
    rw [hp2] at HPR
    have e1 : apF vx a b u = 0 := by unfold apF apOk; rw [hp2]; rfl
    have e2 : apF vy a b u = 0 := by unfold apF apOk; rw [hp2]; rfl
    have e3 : apOk a b u = false := by unfold apOk; rw [hp2]; rfl
    rw [e1, e2, e3]
    have HPR' := Lib.hid HPR
    have HZ0 := Lib.hid hz0
    clear e1 e2 e3 hp hp2 HPR hz0 hva hvb
    go_enter Try.func10, Try.ntmps10
    go_wp2_with fail
    refine (HPR'.out).mono ?_
    rintro e w1 ⟨rfl, hb1⟩
    have hz1 := HZ0.out.step hb1
    have HR := Lib.hid hz1
    obtain ⟨z1, z2, z3, z4, z5, z6⟩ := hz1
    clear hb1
    go_wp2_with fail
    (try simp only [Exit.inBlock, Exit.then])
    obtain ⟨d0, d2, d3⟩ := HR.out.ret (.int .i64 0) (.int .i64 0)
    refine bodyPost_ret (by simp [results, Try.results10, go_sem, d0, d2]; try rfl) rfl ?_
    exact ⟨rfl, d3⟩
end Go.Proofs.Ytmckophclehkpaa
