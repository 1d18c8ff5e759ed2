/- Which numbers are Gaussian ones; sums and products: the model's and the program's. -/
import Derived.Test.YtgjdaeaiheibbabDoorBox
import Derived.Test.YtgjdaeaiheibbabDoorKit
namespace Go.Proofs.YtgjdaeaiheibbabDoor
set_option maxRecDepth 100000
open Go.RowKit

def good (a b : Int) : Bool := decide ((-1000000 ≤ a ∧ a ≤ 1000000) ∧ (-1000000 ≤ b ∧ b ≤ 1000000))
def gx (a b : Int) : Int := if good a b then a else 0
def gy (a b : Int) : Int := if good a b then b else 0
set_option maxHeartbeats 400000 in
theorem igood (a b : Int) (w : World) : Calls Tryd.prog 10 #[.agg #[.int .i64 a, .int .i64 b]] w (Ret w (.bool (good a b))) := by
  go_enter Tryd.func10, Tryd.ntmps10
  go_wp2
  all_goals
    go_ret
    exact ⟨ret_bool (by simp only [good]; simp; first | omega | simp_all), by go_grown⟩
set_option maxHeartbeats 400000 in
theorem sgood (a b : Int) (w : World) : Calls Tryd.prog 26 #[.agg #[.int .i64 a, .int .i64 b]] w (Ret w (.bool (good a b))) := by
  go_enter Tryd.func26, Tryd.ntmps26
  go_wp2
  all_goals
    go_ret
    exact ⟨ret_bool (by simp only [good]; simp; first | omega | simp_all), by go_grown⟩

theorem gx_in {a b : Int} (h : good a b = true) : gx a b = a := if_pos h
theorem gy_in {a b : Int} (h : good a b = true) : gy a b = b := if_pos h
theorem gx_out {a b : Int} (h : good a b = false) : gx a b = 0 := if_neg (by rw [h]; exact Bool.false_ne_true)
theorem gy_out {a b : Int} (h : good a b = false) : gy a b = 0 := if_neg (by rw [h]; exact Bool.false_ne_true)

set_option maxHeartbeats 1000000 in
theorem ivalid (x y : Int) (w : World) : Calls Tryd.prog 25 #[.agg #[.int .i64 x, .int .i64 y]] w (Ret w (.tuple #[.agg #[.int .i64 (gx x y), .int .i64 (gy x y)], .bool (good x y)])) := by
  have t0 := (TN.new (B := 0) (W := w) (Nat.zero_le _) (.int .i64 x) (.int .i64 y) 25).alloc (.cells #[.int .i64 0, .int .i64 0] 25)
  have t1 := TN.mk' (B := 0) (g := w.heap.size + 1) (W := w.alloc (.cells #[.int .i64 x, .int .i64 y] 25)) (by simp) (Nat.zero_le _) (.int .i64 0) (.int .i64 0) 25
  have hB := belowa (belowa (Below.refl w.heap.size w) (.cells #[.int .i64 x, .int .i64 y] 25)) (.cells #[.int .i64 0, .int .i64 0] 25)
  cases hg : good x y with
  | true =>
    rw [gx_in hg, gy_in hg]
    go_enter Tryd.func25, Tryd.ntmps25
    go_wp2_with fail
    refine (igood x y _).mono ?_
    rintro e w1 ⟨rfl, hb⟩
    rw [hg]
    have hB1 := joins hB hb
    have ⟨_, _, _, _, _, _⟩ := t0.step hb
    have ht := t1.step hb
    have HT := Lib.hid ht
    have ⟨_, _, _, _, _, _⟩ := ht
    clear ht hb hB t0 t1 hg
    go_wp2_with fail
    (try simp only [Exit.inBlock, Exit.then])
    obtain ⟨d0, d1, d2⟩ := HT.out.ret (Nat.le_succ _) hB1 (.int .i64 x) (.int .i64 y)
    refine bodyPost_ret (by simp [results, Tryd.results25, go_sem, d0, d1]; try rfl) rfl ?_
    exact ⟨rfl, d2⟩
  | false =>
    rw [gx_out hg, gy_out hg]
    go_enter Tryd.func25, Tryd.ntmps25
    go_wp2_with fail
    refine (igood x y _).mono ?_
    rintro e w1 ⟨rfl, hb⟩
    rw [hg]
    have hB1 := joins hB hb
    have ht := t1.step hb
    have HT := Lib.hid ht
    have ⟨_, _, _, _, _, _⟩ := ht
    clear ht hb hB t0 t1 hg
    go_wp2_with fail
    (try simp only [Exit.inBlock, Exit.then])
    obtain ⟨d0, d1, d2⟩ := HT.out.ret (Nat.le_succ _) hB1 (.int .i64 0) (.int .i64 0)
    refine bodyPost_ret (by simp [results, Tryd.results25, go_sem, d0, d1]; try rfl) rfl ?_
    exact ⟨rfl, d2⟩
set_option maxHeartbeats 1000000 in
theorem svalid (x y : Int) (w : World) : Calls Tryd.prog 27 #[.agg #[.int .i64 x, .int .i64 y]] w (Ret w (.tuple #[.agg #[.int .i64 (gx x y), .int .i64 (gy x y)], .bool (good x y)])) := by
  have t0 := (TN.new (B := 0) (W := w) (Nat.zero_le _) (.int .i64 x) (.int .i64 y) 25).alloc (.cells #[.int .i64 0, .int .i64 0] 25)
  have t1 := TN.mk' (B := 0) (g := w.heap.size + 1) (W := w.alloc (.cells #[.int .i64 x, .int .i64 y] 25)) (by simp) (Nat.zero_le _) (.int .i64 0) (.int .i64 0) 25
  have hB := belowa (belowa (Below.refl w.heap.size w) (.cells #[.int .i64 x, .int .i64 y] 25)) (.cells #[.int .i64 0, .int .i64 0] 25)
  cases hg : good x y with
  | true =>
    rw [gx_in hg, gy_in hg]
    go_enter Tryd.func27, Tryd.ntmps27
    go_wp2_with fail
    refine (sgood x y _).mono ?_
    rintro e w1 ⟨rfl, hb⟩
    rw [hg]
    have hB1 := joins hB hb
    have ⟨_, _, _, _, _, _⟩ := t0.step hb
    have ht := t1.step hb
    have HT := Lib.hid ht
    have ⟨_, _, _, _, _, _⟩ := ht
    clear ht hb hB t0 t1 hg
    go_wp2_with fail
    (try simp only [Exit.inBlock, Exit.then])
    obtain ⟨d0, d1, d2⟩ := HT.out.ret (Nat.le_succ _) hB1 (.int .i64 x) (.int .i64 y)
    refine bodyPost_ret (by simp [results, Tryd.results27, go_sem, d0, d1]; try rfl) rfl ?_
    exact ⟨rfl, d2⟩
  | false =>
    rw [gx_out hg, gy_out hg]
    go_enter Tryd.func27, Tryd.ntmps27
    go_wp2_with fail
    refine (sgood x y _).mono ?_
    rintro e w1 ⟨rfl, hb⟩
    rw [hg]
    have hB1 := joins hB hb
    have ht := t1.step hb
    have HT := Lib.hid ht
    have ⟨_, _, _, _, _, _⟩ := ht
    clear ht hb hB t0 t1 hg
    go_wp2_with fail
    (try simp only [Exit.inBlock, Exit.then])
    obtain ⟨d0, d1, d2⟩ := HT.out.ret (Nat.le_succ _) hB1 (.int .i64 0) (.int .i64 0)
    refine bodyPost_ret (by simp [results, Tryd.results27, go_sem, d0, d1]; try rfl) rfl ?_
    exact ⟨rfl, d2⟩

def plusX (a b c d : Int) : Int := if good a b && good c d then gx (wrap64 (a + c)) (wrap64 (b + d)) else 0
def plusY (a b c d : Int) : Int := if good a b && good c d then gy (wrap64 (a + c)) (wrap64 (b + d)) else 0
def plusB (a b c d : Int) : Bool := (good a b && good c d) && good (wrap64 (a + c)) (wrap64 (b + d))
set_option maxHeartbeats 1000000 in
theorem iplus (a b c d : Int) (w : World) : Calls Tryd.prog 8 #[.agg #[.int .i64 a, .int .i64 b], .agg #[.int .i64 c, .int .i64 d]] w (Ret w (.tuple #[.agg #[.int .i64 (plusX a b c d), .int .i64 (plusY a b c d)], .bool (plusB a b c d)])) := by
  have t0 := ((TN.new (B := 0) (W := w) (Nat.zero_le _) (.int .i64 a) (.int .i64 b) 25).alloc (.cells #[.int .i64 c, .int .i64 d] 25)).alloc (.cells #[.int .i64 0, .int .i64 0] 25)
  have t1 := (TN.mk' (B := 0) (g := w.heap.size + 1) (W := w.alloc (.cells #[.int .i64 a, .int .i64 b] 25)) (by simp) (Nat.zero_le _) (.int .i64 c) (.int .i64 d) 25).alloc (.cells #[.int .i64 0, .int .i64 0] 25)
  have t2 := TN.mk' (B := 0) (g := w.heap.size + 2) (W := (w.alloc (.cells #[.int .i64 a, .int .i64 b] 25)).alloc (.cells #[.int .i64 c, .int .i64 d] 25)) (by simp) (Nat.zero_le _) (.int .i64 0) (.int .i64 0) 25
  have hB := belowa (belowa (belowa (Below.refl w.heap.size w) (.cells #[.int .i64 a, .int .i64 b] 25)) (.cells #[.int .i64 c, .int .i64 d] 25)) (.cells #[.int .i64 0, .int .i64 0] 25)
  have h2 : w.heap.size ≤ w.heap.size + 2 := by omega
  cases hg : good a b with
  | true =>
    cases hg2 : good c d with
    | true =>
      have e1 : plusX a b c d = gx (wrap64 (a + c)) (wrap64 (b + d)) := by simp [plusX, hg, hg2]
      have e2 : plusY a b c d = gy (wrap64 (a + c)) (wrap64 (b + d)) := by simp [plusY, hg, hg2]
      have e3 : plusB a b c d = good (wrap64 (a + c)) (wrap64 (b + d)) := by simp [plusB, hg, hg2]
      rw [e1, e2, e3]
      clear e1 e2 e3
      go_enter Tryd.func8, Tryd.ntmps8
      go_wp2_with fail
      refine (igood a b _).mono ?_
      rintro e w1 ⟨rfl, hb⟩
      rw [hg]
      have hB1 := joins hB hb
      have t0' := t0.step hb
      have ⟨_, _, _, _, _, _⟩ := t0'
      have t1' := t1.step hb
      have ⟨_, _, _, _, _, _⟩ := t1'
      have t2' := t2.step hb
      clear hb hB t0 t1 t2 hg
      go_wp2_with fail
      refine (igood c d _).mono ?_
      rintro e w2 ⟨rfl, hb⟩
      rw [hg2]
      have hB2 := joins hB1 hb
      have t0 := t0'.step hb
      have ⟨_, _, _, _, _, _⟩ := t0
      have t1 := t1'.step hb
      have ⟨_, _, _, _, _, _⟩ := t1
      have t2 := t2'.step hb
      clear hb hB1 t0' t1' t2' hg2
      have HV := Lib.hid (ivalid (wrap64 (a + c)) (wrap64 (b + d)))
      go_wp2_with fail
      refine (HV.out _).mono ?_
      rintro e w3 ⟨rfl, hb⟩
      obtain ⟨X, hX⟩ : ∃ X, X = gx (wrap64 (a + c)) (wrap64 (b + d)) := ⟨_, rfl⟩
      obtain ⟨Y, hY⟩ : ∃ Y, Y = gy (wrap64 (a + c)) (wrap64 (b + d)) := ⟨_, rfl⟩
      rw [← hX, ← hY]
      have HX := Lib.hid hX
      have HY := Lib.hid hY
      clear hX hY
      have hB3 := joins hB2 hb
      have ht := t2.step hb
      have HT := Lib.hid ht
      have ⟨_, _, _, _, _, _⟩ := ht
      clear ht hb hB2 t2
      go_wp2_with fail
      (try simp only [Exit.inBlock, Exit.then])
      obtain ⟨d0, d1, d2⟩ := HT.out.ret h2 hB3 (.int .i64 X) (.int .i64 Y)
      refine bodyPost_ret (by simp [results, Tryd.results8, go_sem, d0, d1]; try rfl) rfl ?_
      exact ⟨by rw [HX.out, HY.out], d2⟩
    | false =>
      have e1 : plusX a b c d = 0 := by simp [plusX, hg2]
      have e2 : plusY a b c d = 0 := by simp [plusY, hg2]
      have e3 : plusB a b c d = false := by simp [plusB, hg2]
      rw [e1, e2, e3]
      clear e1 e2 e3
      go_enter Tryd.func8, Tryd.ntmps8
      go_wp2_with fail
      refine (igood a b _).mono ?_
      rintro e w1 ⟨rfl, hb⟩
      rw [hg]
      have hB1 := joins hB hb
      have t1' := t1.step hb
      have ⟨_, _, _, _, _, _⟩ := t1'
      have t2' := t2.step hb
      clear hb hB t0 t1 t2 hg
      go_wp2_with fail
      refine (igood c d _).mono ?_
      rintro e w2 ⟨rfl, hb⟩
      rw [hg2]
      have hB2 := joins hB1 hb
      have ht := t2'.step hb
      have HT := Lib.hid ht
      have ⟨_, _, _, _, _, _⟩ := ht
      clear ht hb hB1 t1' t2' hg2
      go_wp2_with fail
      (try simp only [Exit.inBlock, Exit.then])
      obtain ⟨d0, d1, d2⟩ := HT.out.ret h2 hB2 (.int .i64 0) (.int .i64 0)
      refine bodyPost_ret (by simp [results, Tryd.results8, go_sem, d0, d1]; try rfl) rfl ?_
      exact ⟨rfl, d2⟩
  | false =>
    have e1 : plusX a b c d = 0 := by simp [plusX, hg]
    have e2 : plusY a b c d = 0 := by simp [plusY, hg]
    have e3 : plusB a b c d = false := by simp [plusB, hg]
    rw [e1, e2, e3]
    clear e1 e2 e3
    go_enter Tryd.func8, Tryd.ntmps8
    go_wp2_with fail
    refine (igood a b _).mono ?_
    rintro e w1 ⟨rfl, hb⟩
    rw [hg]
    have hB1 := joins hB hb
    have ht := t2.step hb
    have HT := Lib.hid ht
    have ⟨_, _, _, _, _, _⟩ := ht
    clear ht hb hB t0 t1 t2 hg
    go_wp2_with fail
    (try simp only [Exit.inBlock, Exit.then])
    obtain ⟨d0, d1, d2⟩ := HT.out.ret h2 hB1 (.int .i64 0) (.int .i64 0)
    refine bodyPost_ret (by simp [results, Tryd.results8, go_sem, d0, d1]; try rfl) rfl ?_
    exact ⟨rfl, d2⟩
set_option maxHeartbeats 1000000 in
theorem phPlus_w (a b c d : Int) (w : World) : Calls Tryd.prog 29 #[.agg #[.int .i64 a, .int .i64 b], .agg #[.int .i64 c, .int .i64 d]] w (Ret w (.agg #[.int .i64 (wrap64 (a + c)), .int .i64 (wrap64 (b + d))])) := by
  go_enter Tryd.func29, Tryd.ntmps29
  go_wp2
  go_returns
  exact ⟨rfl, by go_grown⟩
set_option maxHeartbeats 1000000 in
theorem splus (a b c d : Int) (w : World) : Calls Tryd.prog 9 #[.agg #[.int .i64 a, .int .i64 b], .agg #[.int .i64 c, .int .i64 d]] w (Ret w (.tuple #[.agg #[.int .i64 (plusX a b c d), .int .i64 (plusY a b c d)], .bool (plusB a b c d)])) := by
  have t0 := ((TN.new (B := 0) (W := w) (Nat.zero_le _) (.int .i64 a) (.int .i64 b) 25).alloc (.cells #[.int .i64 c, .int .i64 d] 25)).alloc (.cells #[.int .i64 0, .int .i64 0] 25)
  have t1 := (TN.mk' (B := 0) (g := w.heap.size + 1) (W := w.alloc (.cells #[.int .i64 a, .int .i64 b] 25)) (by simp) (Nat.zero_le _) (.int .i64 c) (.int .i64 d) 25).alloc (.cells #[.int .i64 0, .int .i64 0] 25)
  have t2 := TN.mk' (B := 0) (g := w.heap.size + 2) (W := (w.alloc (.cells #[.int .i64 a, .int .i64 b] 25)).alloc (.cells #[.int .i64 c, .int .i64 d] 25)) (by simp) (Nat.zero_le _) (.int .i64 0) (.int .i64 0) 25
  have hB := belowa (belowa (belowa (Below.refl w.heap.size w) (.cells #[.int .i64 a, .int .i64 b] 25)) (.cells #[.int .i64 c, .int .i64 d] 25)) (.cells #[.int .i64 0, .int .i64 0] 25)
  have h2 : w.heap.size ≤ w.heap.size + 2 := by omega
  cases hg : good a b with
  | true =>
    cases hg2 : good c d with
    | true =>
      have e1 : plusX a b c d = gx (wrap64 (a + c)) (wrap64 (b + d)) := by simp [plusX, hg, hg2]
      have e2 : plusY a b c d = gy (wrap64 (a + c)) (wrap64 (b + d)) := by simp [plusY, hg, hg2]
      have e3 : plusB a b c d = good (wrap64 (a + c)) (wrap64 (b + d)) := by simp [plusB, hg, hg2]
      rw [e1, e2, e3]
      clear e1 e2 e3
      go_enter Tryd.func9, Tryd.ntmps9
      go_wp2_with fail
      refine (sgood a b _).mono ?_
      rintro e w1 ⟨rfl, hb⟩
      rw [hg]
      have hB1 := joins hB hb
      have t0' := t0.step hb
      have ⟨_, _, _, _, _, _⟩ := t0'
      have t1' := t1.step hb
      have ⟨_, _, _, _, _, _⟩ := t1'
      have t2' := t2.step hb
      clear hb hB t0 t1 t2 hg
      go_wp2_with fail
      refine (sgood c d _).mono ?_
      rintro e w2 ⟨rfl, hb⟩
      rw [hg2]
      have hB2 := joins hB1 hb
      have t0 := t0'.step hb
      have ⟨_, _, _, _, _, _⟩ := t0
      have t1 := t1'.step hb
      have ⟨_, _, _, _, _, _⟩ := t1
      have t2 := t2'.step hb
      clear hb hB1 t0' t1' t2' hg2
      have HV := Lib.hid (svalid (wrap64 (a + c)) (wrap64 (b + d)))
      go_wp2_with fail
      refine (phPlus_w a b c d _).mono ?_
      rintro e w4 ⟨rfl, hb⟩
      have hB2 := joins hB2 hb
      have t2 := t2.step hb
      clear hb
      go_wp2_with fail
      refine (HV.out _).mono ?_
      rintro e w3 ⟨rfl, hb⟩
      obtain ⟨X, hX⟩ : ∃ X, X = gx (wrap64 (a + c)) (wrap64 (b + d)) := ⟨_, rfl⟩
      obtain ⟨Y, hY⟩ : ∃ Y, Y = gy (wrap64 (a + c)) (wrap64 (b + d)) := ⟨_, rfl⟩
      rw [← hX, ← hY]
      have HX := Lib.hid hX
      have HY := Lib.hid hY
      clear hX hY
      have hB3 := joins hB2 hb
      have ht := t2.step hb
      have HT := Lib.hid ht
      have ⟨_, _, _, _, _, _⟩ := ht
      clear ht hb hB2 t2
      go_wp2_with fail
      (try simp only [Exit.inBlock, Exit.then])
      obtain ⟨d0, d1, d2⟩ := HT.out.ret h2 hB3 (.int .i64 X) (.int .i64 Y)
      refine bodyPost_ret (by simp [results, Tryd.results9, go_sem, d0, d1]; try rfl) rfl ?_
      exact ⟨by rw [HX.out, HY.out], d2⟩
    | false =>
      have e1 : plusX a b c d = 0 := by simp [plusX, hg2]
      have e2 : plusY a b c d = 0 := by simp [plusY, hg2]
      have e3 : plusB a b c d = false := by simp [plusB, hg2]
      rw [e1, e2, e3]
      clear e1 e2 e3
      go_enter Tryd.func9, Tryd.ntmps9
      go_wp2_with fail
      refine (sgood a b _).mono ?_
      rintro e w1 ⟨rfl, hb⟩
      rw [hg]
      have hB1 := joins hB hb
      have t1' := t1.step hb
      have ⟨_, _, _, _, _, _⟩ := t1'
      have t2' := t2.step hb
      clear hb hB t0 t1 t2 hg
      go_wp2_with fail
      refine (sgood c d _).mono ?_
      rintro e w2 ⟨rfl, hb⟩
      rw [hg2]
      have hB2 := joins hB1 hb
      have ht := t2'.step hb
      have HT := Lib.hid ht
      have ⟨_, _, _, _, _, _⟩ := ht
      clear ht hb hB1 t1' t2' hg2
      go_wp2_with fail
      (try simp only [Exit.inBlock, Exit.then])
      obtain ⟨d0, d1, d2⟩ := HT.out.ret h2 hB2 (.int .i64 0) (.int .i64 0)
      refine bodyPost_ret (by simp [results, Tryd.results9, go_sem, d0, d1]; try rfl) rfl ?_
      exact ⟨rfl, d2⟩
  | false =>
    have e1 : plusX a b c d = 0 := by simp [plusX, hg]
    have e2 : plusY a b c d = 0 := by simp [plusY, hg]
    have e3 : plusB a b c d = false := by simp [plusB, hg]
    rw [e1, e2, e3]
    clear e1 e2 e3
    go_enter Tryd.func9, Tryd.ntmps9
    go_wp2_with fail
    refine (sgood a b _).mono ?_
    rintro e w1 ⟨rfl, hb⟩
    rw [hg]
    have hB1 := joins hB hb
    have ht := t2.step hb
    have HT := Lib.hid ht
    have ⟨_, _, _, _, _, _⟩ := ht
    clear ht hb hB t0 t1 t2 hg
    go_wp2_with fail
    (try simp only [Exit.inBlock, Exit.then])
    obtain ⟨d0, d1, d2⟩ := HT.out.ret h2 hB1 (.int .i64 0) (.int .i64 0)
    refine bodyPost_ret (by simp [results, Tryd.results9, go_sem, d0, d1]; try rfl) rfl ?_
    exact ⟨rfl, d2⟩
def timesX (a b c d : Int) : Int := if good a b && good c d then gx (wrap64 (wrap64 (a * c) - wrap64 (b * d))) (wrap64 (wrap64 (a * d) + wrap64 (b * c))) else 0
def timesY (a b c d : Int) : Int := if good a b && good c d then gy (wrap64 (wrap64 (a * c) - wrap64 (b * d))) (wrap64 (wrap64 (a * d) + wrap64 (b * c))) else 0
def timesB (a b c d : Int) : Bool := (good a b && good c d) && good (wrap64 (wrap64 (a * c) - wrap64 (b * d))) (wrap64 (wrap64 (a * d) + wrap64 (b * c)))
set_option maxHeartbeats 1000000 in
theorem itimes (a b c d : Int) (w : World) : Calls Tryd.prog 6 #[.agg #[.int .i64 a, .int .i64 b], .agg #[.int .i64 c, .int .i64 d]] w (Ret w (.tuple #[.agg #[.int .i64 (timesX a b c d), .int .i64 (timesY a b c d)], .bool (timesB a b c d)])) := by
  have t0 := ((TN.new (B := 0) (W := w) (Nat.zero_le _) (.int .i64 a) (.int .i64 b) 25).alloc (.cells #[.int .i64 c, .int .i64 d] 25)).alloc (.cells #[.int .i64 0, .int .i64 0] 25)
  have t1 := (TN.mk' (B := 0) (g := w.heap.size + 1) (W := w.alloc (.cells #[.int .i64 a, .int .i64 b] 25)) (by simp) (Nat.zero_le _) (.int .i64 c) (.int .i64 d) 25).alloc (.cells #[.int .i64 0, .int .i64 0] 25)
  have t2 := TN.mk' (B := 0) (g := w.heap.size + 2) (W := (w.alloc (.cells #[.int .i64 a, .int .i64 b] 25)).alloc (.cells #[.int .i64 c, .int .i64 d] 25)) (by simp) (Nat.zero_le _) (.int .i64 0) (.int .i64 0) 25
  have hB := belowa (belowa (belowa (Below.refl w.heap.size w) (.cells #[.int .i64 a, .int .i64 b] 25)) (.cells #[.int .i64 c, .int .i64 d] 25)) (.cells #[.int .i64 0, .int .i64 0] 25)
  have h2 : w.heap.size ≤ w.heap.size + 2 := by omega
  cases hg : good a b with
  | true =>
    cases hg2 : good c d with
    | true =>
      have e1 : timesX a b c d = gx (wrap64 (wrap64 (a * c) - wrap64 (b * d))) (wrap64 (wrap64 (a * d) + wrap64 (b * c))) := by simp [timesX, hg, hg2]
      have e2 : timesY a b c d = gy (wrap64 (wrap64 (a * c) - wrap64 (b * d))) (wrap64 (wrap64 (a * d) + wrap64 (b * c))) := by simp [timesY, hg, hg2]
      have e3 : timesB a b c d = good (wrap64 (wrap64 (a * c) - wrap64 (b * d))) (wrap64 (wrap64 (a * d) + wrap64 (b * c))) := by simp [timesB, hg, hg2]
      rw [e1, e2, e3]
      clear e1 e2 e3
      go_enter Tryd.func6, Tryd.ntmps6
      go_wp2_with fail
      refine (igood a b _).mono ?_
      rintro e w1 ⟨rfl, hb⟩
      rw [hg]
      have hB1 := joins hB hb
      have t0' := t0.step hb
      have ⟨_, _, _, _, _, _⟩ := t0'
      have t1' := t1.step hb
      have ⟨_, _, _, _, _, _⟩ := t1'
      have t2' := t2.step hb
      clear hb hB t0 t1 t2 hg
      go_wp2_with fail
      refine (igood c d _).mono ?_
      rintro e w2 ⟨rfl, hb⟩
      rw [hg2]
      have hB2 := joins hB1 hb
      have t0 := t0'.step hb
      have ⟨_, _, _, _, _, _⟩ := t0
      have t1 := t1'.step hb
      have ⟨_, _, _, _, _, _⟩ := t1
      have t2 := t2'.step hb
      clear hb hB1 t0' t1' t2' hg2
      have HV := Lib.hid (ivalid (wrap64 (wrap64 (a * c) - wrap64 (b * d))) (wrap64 (wrap64 (a * d) + wrap64 (b * c))))
      go_wp2_with fail
      refine (HV.out _).mono ?_
      rintro e w3 ⟨rfl, hb⟩
      obtain ⟨X, hX⟩ : ∃ X, X = gx (wrap64 (wrap64 (a * c) - wrap64 (b * d))) (wrap64 (wrap64 (a * d) + wrap64 (b * c))) := ⟨_, rfl⟩
      obtain ⟨Y, hY⟩ : ∃ Y, Y = gy (wrap64 (wrap64 (a * c) - wrap64 (b * d))) (wrap64 (wrap64 (a * d) + wrap64 (b * c))) := ⟨_, rfl⟩
      rw [← hX, ← hY]
      have HX := Lib.hid hX
      have HY := Lib.hid hY
      clear hX hY
      have hB3 := joins hB2 hb
      have ht := t2.step hb
      have HT := Lib.hid ht
      have ⟨_, _, _, _, _, _⟩ := ht
      clear ht hb hB2 t2
      go_wp2_with fail
      (try simp only [Exit.inBlock, Exit.then])
      obtain ⟨d0, d1, d2⟩ := HT.out.ret h2 hB3 (.int .i64 X) (.int .i64 Y)
      refine bodyPost_ret (by simp [results, Tryd.results6, go_sem, d0, d1]; try rfl) rfl ?_
      exact ⟨by rw [HX.out, HY.out], d2⟩
    | false =>
      have e1 : timesX a b c d = 0 := by simp [timesX, hg2]
      have e2 : timesY a b c d = 0 := by simp [timesY, hg2]
      have e3 : timesB a b c d = false := by simp [timesB, hg2]
      rw [e1, e2, e3]
      clear e1 e2 e3
      go_enter Tryd.func6, Tryd.ntmps6
      go_wp2_with fail
      refine (igood a b _).mono ?_
      rintro e w1 ⟨rfl, hb⟩
      rw [hg]
      have hB1 := joins hB hb
      have t1' := t1.step hb
      have ⟨_, _, _, _, _, _⟩ := t1'
      have t2' := t2.step hb
      clear hb hB t0 t1 t2 hg
      go_wp2_with fail
      refine (igood c d _).mono ?_
      rintro e w2 ⟨rfl, hb⟩
      rw [hg2]
      have hB2 := joins hB1 hb
      have ht := t2'.step hb
      have HT := Lib.hid ht
      have ⟨_, _, _, _, _, _⟩ := ht
      clear ht hb hB1 t1' t2' hg2
      go_wp2_with fail
      (try simp only [Exit.inBlock, Exit.then])
      obtain ⟨d0, d1, d2⟩ := HT.out.ret h2 hB2 (.int .i64 0) (.int .i64 0)
      refine bodyPost_ret (by simp [results, Tryd.results6, go_sem, d0, d1]; try rfl) rfl ?_
      exact ⟨rfl, d2⟩
  | false =>
    have e1 : timesX a b c d = 0 := by simp [timesX, hg]
    have e2 : timesY a b c d = 0 := by simp [timesY, hg]
    have e3 : timesB a b c d = false := by simp [timesB, hg]
    rw [e1, e2, e3]
    clear e1 e2 e3
    go_enter Tryd.func6, Tryd.ntmps6
    go_wp2_with fail
    refine (igood a b _).mono ?_
    rintro e w1 ⟨rfl, hb⟩
    rw [hg]
    have hB1 := joins hB hb
    have ht := t2.step hb
    have HT := Lib.hid ht
    have ⟨_, _, _, _, _, _⟩ := ht
    clear ht hb hB t0 t1 t2 hg
    go_wp2_with fail
    (try simp only [Exit.inBlock, Exit.then])
    obtain ⟨d0, d1, d2⟩ := HT.out.ret h2 hB1 (.int .i64 0) (.int .i64 0)
    refine bodyPost_ret (by simp [results, Tryd.results6, go_sem, d0, d1]; try rfl) rfl ?_
    exact ⟨rfl, d2⟩
set_option maxHeartbeats 1000000 in
theorem phTimes_w (a b c d : Int) (w : World) : Calls Tryd.prog 28 #[.agg #[.int .i64 a, .int .i64 b], .agg #[.int .i64 c, .int .i64 d]] w (Ret w (.agg #[.int .i64 (wrap64 (wrap64 (a * c) - wrap64 (b * d))), .int .i64 (wrap64 (wrap64 (a * d) + wrap64 (b * c)))])) := by
  go_enter Tryd.func28, Tryd.ntmps28
  go_wp2
  go_returns
  exact ⟨rfl, by go_grown⟩
set_option maxHeartbeats 1000000 in
theorem stimes (a b c d : Int) (w : World) : Calls Tryd.prog 7 #[.agg #[.int .i64 a, .int .i64 b], .agg #[.int .i64 c, .int .i64 d]] w (Ret w (.tuple #[.agg #[.int .i64 (timesX a b c d), .int .i64 (timesY a b c d)], .bool (timesB a b c d)])) := by
  have t0 := ((TN.new (B := 0) (W := w) (Nat.zero_le _) (.int .i64 a) (.int .i64 b) 25).alloc (.cells #[.int .i64 c, .int .i64 d] 25)).alloc (.cells #[.int .i64 0, .int .i64 0] 25)
  have t1 := (TN.mk' (B := 0) (g := w.heap.size + 1) (W := w.alloc (.cells #[.int .i64 a, .int .i64 b] 25)) (by simp) (Nat.zero_le _) (.int .i64 c) (.int .i64 d) 25).alloc (.cells #[.int .i64 0, .int .i64 0] 25)
  have t2 := TN.mk' (B := 0) (g := w.heap.size + 2) (W := (w.alloc (.cells #[.int .i64 a, .int .i64 b] 25)).alloc (.cells #[.int .i64 c, .int .i64 d] 25)) (by simp) (Nat.zero_le _) (.int .i64 0) (.int .i64 0) 25
  have hB := belowa (belowa (belowa (Below.refl w.heap.size w) (.cells #[.int .i64 a, .int .i64 b] 25)) (.cells #[.int .i64 c, .int .i64 d] 25)) (.cells #[.int .i64 0, .int .i64 0] 25)
  have h2 : w.heap.size ≤ w.heap.size + 2 := by omega
  cases hg : good a b with
  | true =>
    cases hg2 : good c d with
    | true =>
      have e1 : timesX a b c d = gx (wrap64 (wrap64 (a * c) - wrap64 (b * d))) (wrap64 (wrap64 (a * d) + wrap64 (b * c))) := by simp [timesX, hg, hg2]
      have e2 : timesY a b c d = gy (wrap64 (wrap64 (a * c) - wrap64 (b * d))) (wrap64 (wrap64 (a * d) + wrap64 (b * c))) := by simp [timesY, hg, hg2]
      have e3 : timesB a b c d = good (wrap64 (wrap64 (a * c) - wrap64 (b * d))) (wrap64 (wrap64 (a * d) + wrap64 (b * c))) := by simp [timesB, hg, hg2]
      rw [e1, e2, e3]
      clear e1 e2 e3
      go_enter Tryd.func7, Tryd.ntmps7
      go_wp2_with fail
      refine (sgood a b _).mono ?_
      rintro e w1 ⟨rfl, hb⟩
      rw [hg]
      have hB1 := joins hB hb
      have t0' := t0.step hb
      have ⟨_, _, _, _, _, _⟩ := t0'
      have t1' := t1.step hb
      have ⟨_, _, _, _, _, _⟩ := t1'
      have t2' := t2.step hb
      clear hb hB t0 t1 t2 hg
      go_wp2_with fail
      refine (sgood c d _).mono ?_
      rintro e w2 ⟨rfl, hb⟩
      rw [hg2]
      have hB2 := joins hB1 hb
      have t0 := t0'.step hb
      have ⟨_, _, _, _, _, _⟩ := t0
      have t1 := t1'.step hb
      have ⟨_, _, _, _, _, _⟩ := t1
      have t2 := t2'.step hb
      clear hb hB1 t0' t1' t2' hg2
      have HV := Lib.hid (svalid (wrap64 (wrap64 (a * c) - wrap64 (b * d))) (wrap64 (wrap64 (a * d) + wrap64 (b * c))))
      go_wp2_with fail
      refine (phTimes_w a b c d _).mono ?_
      rintro e w4 ⟨rfl, hb⟩
      have hB2 := joins hB2 hb
      have t2 := t2.step hb
      clear hb
      go_wp2_with fail
      refine (HV.out _).mono ?_
      rintro e w3 ⟨rfl, hb⟩
      obtain ⟨X, hX⟩ : ∃ X, X = gx (wrap64 (wrap64 (a * c) - wrap64 (b * d))) (wrap64 (wrap64 (a * d) + wrap64 (b * c))) := ⟨_, rfl⟩
      obtain ⟨Y, hY⟩ : ∃ Y, Y = gy (wrap64 (wrap64 (a * c) - wrap64 (b * d))) (wrap64 (wrap64 (a * d) + wrap64 (b * c))) := ⟨_, rfl⟩
      rw [← hX, ← hY]
      have HX := Lib.hid hX
      have HY := Lib.hid hY
      clear hX hY
      have hB3 := joins hB2 hb
      have ht := t2.step hb
      have HT := Lib.hid ht
      have ⟨_, _, _, _, _, _⟩ := ht
      clear ht hb hB2 t2
      go_wp2_with fail
      (try simp only [Exit.inBlock, Exit.then])
      obtain ⟨d0, d1, d2⟩ := HT.out.ret h2 hB3 (.int .i64 X) (.int .i64 Y)
      refine bodyPost_ret (by simp [results, Tryd.results7, go_sem, d0, d1]; try rfl) rfl ?_
      exact ⟨by rw [HX.out, HY.out], d2⟩
    | false =>
      have e1 : timesX a b c d = 0 := by simp [timesX, hg2]
      have e2 : timesY a b c d = 0 := by simp [timesY, hg2]
      have e3 : timesB a b c d = false := by simp [timesB, hg2]
      rw [e1, e2, e3]
      clear e1 e2 e3
      go_enter Tryd.func7, Tryd.ntmps7
      go_wp2_with fail
      refine (sgood a b _).mono ?_
      rintro e w1 ⟨rfl, hb⟩
      rw [hg]
      have hB1 := joins hB hb
      have t1' := t1.step hb
      have ⟨_, _, _, _, _, _⟩ := t1'
      have t2' := t2.step hb
      clear hb hB t0 t1 t2 hg
      go_wp2_with fail
      refine (sgood c d _).mono ?_
      rintro e w2 ⟨rfl, hb⟩
      rw [hg2]
      have hB2 := joins hB1 hb
      have ht := t2'.step hb
      have HT := Lib.hid ht
      have ⟨_, _, _, _, _, _⟩ := ht
      clear ht hb hB1 t1' t2' hg2
      go_wp2_with fail
      (try simp only [Exit.inBlock, Exit.then])
      obtain ⟨d0, d1, d2⟩ := HT.out.ret h2 hB2 (.int .i64 0) (.int .i64 0)
      refine bodyPost_ret (by simp [results, Tryd.results7, go_sem, d0, d1]; try rfl) rfl ?_
      exact ⟨rfl, d2⟩
  | false =>
    have e1 : timesX a b c d = 0 := by simp [timesX, hg]
    have e2 : timesY a b c d = 0 := by simp [timesY, hg]
    have e3 : timesB a b c d = false := by simp [timesB, hg]
    rw [e1, e2, e3]
    clear e1 e2 e3
    go_enter Tryd.func7, Tryd.ntmps7
    go_wp2_with fail
    refine (sgood a b _).mono ?_
    rintro e w1 ⟨rfl, hb⟩
    rw [hg]
    have hB1 := joins hB hb
    have ht := t2.step hb
    have HT := Lib.hid ht
    have ⟨_, _, _, _, _, _⟩ := ht
    clear ht hb hB t0 t1 t2 hg
    go_wp2_with fail
    (try simp only [Exit.inBlock, Exit.then])
    obtain ⟨d0, d1, d2⟩ := HT.out.ret h2 hB1 (.int .i64 0) (.int .i64 0)
    refine bodyPost_ret (by simp [results, Tryd.results7, go_sem, d0, d1]; try rfl) rfl ?_
    exact ⟨rfl, d2⟩
end Go.Proofs.YtgjdaeaiheibbabDoor
