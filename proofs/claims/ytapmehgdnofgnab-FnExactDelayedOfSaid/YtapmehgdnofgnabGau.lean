/- Which numbers are Gaussian ones; sums and products: the model's and the program's. -/
import Derived.Test.YtapmehgdnofgnabBox
import Derived.Test.YtapmehgdnofgnabKit
namespace Go.Proofs.Ytapmehgdnofgnab
set_option maxRecDepth 100000
open Go.RowKit

def good (a b : Int) : Bool := decide ((-1000000 ≤ a ∧ a ≤ 1000000) ∧ (-1000000 ≤ b ∧ b ≤ 1000000))
def gx (a b : Int) : Int := if good a b then a else 0
def gy (a b : Int) : Int := if good a b then b else 0
set_option maxHeartbeats 400000 in
theorem igood (a b : Int) (w : World) : Calls Try.prog 60 #[.agg #[.int .i64 a, .int .i64 b]] w (Ret w (.bool (good a b))) := by
  go_enter Try.func60, Try.ntmps60
  go_wp2
  all_goals
    go_ret
    exact ⟨ret_bool (by simp only [good]; simp; first | omega | simp_all), by go_grown⟩
set_option maxHeartbeats 400000 in
theorem sgood (a b : Int) (w : World) : Calls Try.prog 55 #[.agg #[.int .i64 a, .int .i64 b]] w (Ret w (.bool (good a b))) := by
  go_enter Try.func55, Try.ntmps55
  go_wp2
  all_goals
    go_ret
    exact ⟨ret_bool (by simp only [good]; simp; first | omega | simp_all), by go_grown⟩

theorem gx_in {a b : Int} (h : good a b = true) : gx a b = a := if_pos h
theorem gy_in {a b : Int} (h : good a b = true) : gy a b = b := if_pos h
theorem gx_out {a b : Int} (h : good a b = false) : gx a b = 0 := if_neg (by rw [h]; exact Bool.false_ne_true)
theorem gy_out {a b : Int} (h : good a b = false) : gy a b = 0 := if_neg (by rw [h]; exact Bool.false_ne_true)

set_option maxHeartbeats 1000000 in
theorem ivalid (x y : Int) (w : World) : Calls Try.prog 78 #[.agg #[.int .i64 x, .int .i64 y]] w (Ret w (.tuple #[.agg #[.int .i64 (gx x y), .int .i64 (gy x y)], .bool (good x y)])) := by
  have t0 := (TN.new (B := 0) (W := w) (Nat.zero_le _) (.int .i64 x) (.int .i64 y) 26).alloc (.cells #[.int .i64 0, .int .i64 0] 26)
  have t1 := TN.mk' (B := 0) (g := w.heap.size + 1) (W := w.alloc (.cells #[.int .i64 x, .int .i64 y] 26)) (by simp) (Nat.zero_le _) (.int .i64 0) (.int .i64 0) 26
  have hB := belowa (belowa (Below.refl w.heap.size w) (.cells #[.int .i64 x, .int .i64 y] 26)) (.cells #[.int .i64 0, .int .i64 0] 26)
  cases hg : good x y with
  | true =>
    rw [gx_in hg, gy_in hg]
    go_enter Try.func78, Try.ntmps78
    go_wp2_with fail
    refine (igood x y _).mono ?_
    rintro e w1 ⟨rfl, hb⟩
    rw [hg]
    have hB1 := joins hB hb
    have ⟨_, _, _, _, _, _⟩ := t0.step hb
    have ht := t1.step hb
    have HT := Lib.hid ht
    have ⟨_, _, _, _, _, _⟩ := ht
    clear ht hb hB t0 t1 hg
    go_wp2_with fail
    (try simp only [Exit.inBlock, Exit.then])
    obtain ⟨d0, d1, d2⟩ := HT.out.ret (Nat.le_succ _) hB1 (.int .i64 x) (.int .i64 y)
    refine bodyPost_ret (by simp [results, Try.results78, go_sem, d0, d1]; try rfl) rfl ?_
    exact ⟨rfl, d2⟩
  | false =>
    rw [gx_out hg, gy_out hg]
    go_enter Try.func78, Try.ntmps78
    go_wp2_with fail
    refine (igood x y _).mono ?_
    rintro e w1 ⟨rfl, hb⟩
    rw [hg]
    have hB1 := joins hB hb
    have ht := t1.step hb
    have HT := Lib.hid ht
    have ⟨_, _, _, _, _, _⟩ := ht
    clear ht hb hB t0 t1 hg
    go_wp2_with fail
    (try simp only [Exit.inBlock, Exit.then])
    obtain ⟨d0, d1, d2⟩ := HT.out.ret (Nat.le_succ _) hB1 (.int .i64 0) (.int .i64 0)
    refine bodyPost_ret (by simp [results, Try.results78, go_sem, d0, d1]; try rfl) rfl ?_
    exact ⟨rfl, d2⟩
set_option maxHeartbeats 1000000 in
theorem svalid (x y : Int) (w : World) : Calls Try.prog 37 #[.agg #[.int .i64 x, .int .i64 y]] w (Ret w (.tuple #[.agg #[.int .i64 (gx x y), .int .i64 (gy x y)], .bool (good x y)])) := by
  have t0 := (TN.new (B := 0) (W := w) (Nat.zero_le _) (.int .i64 x) (.int .i64 y) 26).alloc (.cells #[.int .i64 0, .int .i64 0] 26)
  have t1 := TN.mk' (B := 0) (g := w.heap.size + 1) (W := w.alloc (.cells #[.int .i64 x, .int .i64 y] 26)) (by simp) (Nat.zero_le _) (.int .i64 0) (.int .i64 0) 26
  have hB := belowa (belowa (Below.refl w.heap.size w) (.cells #[.int .i64 x, .int .i64 y] 26)) (.cells #[.int .i64 0, .int .i64 0] 26)
  cases hg : good x y with
  | true =>
    rw [gx_in hg, gy_in hg]
    go_enter Try.func37, Try.ntmps37
    go_wp2_with fail
    refine (sgood x y _).mono ?_
    rintro e w1 ⟨rfl, hb⟩
    rw [hg]
    have hB1 := joins hB hb
    have ⟨_, _, _, _, _, _⟩ := t0.step hb
    have ht := t1.step hb
    have HT := Lib.hid ht
    have ⟨_, _, _, _, _, _⟩ := ht
    clear ht hb hB t0 t1 hg
    go_wp2_with fail
    (try simp only [Exit.inBlock, Exit.then])
    obtain ⟨d0, d1, d2⟩ := HT.out.ret (Nat.le_succ _) hB1 (.int .i64 x) (.int .i64 y)
    refine bodyPost_ret (by simp [results, Try.results37, go_sem, d0, d1]; try rfl) rfl ?_
    exact ⟨rfl, d2⟩
  | false =>
    rw [gx_out hg, gy_out hg]
    go_enter Try.func37, Try.ntmps37
    go_wp2_with fail
    refine (sgood x y _).mono ?_
    rintro e w1 ⟨rfl, hb⟩
    rw [hg]
    have hB1 := joins hB hb
    have ht := t1.step hb
    have HT := Lib.hid ht
    have ⟨_, _, _, _, _, _⟩ := ht
    clear ht hb hB t0 t1 hg
    go_wp2_with fail
    (try simp only [Exit.inBlock, Exit.then])
    obtain ⟨d0, d1, d2⟩ := HT.out.ret (Nat.le_succ _) hB1 (.int .i64 0) (.int .i64 0)
    refine bodyPost_ret (by simp [results, Try.results37, go_sem, d0, d1]; try rfl) rfl ?_
    exact ⟨rfl, d2⟩

def plusX (a b c d : Int) : Int := if good a b && good c d then gx (wrap64 (a + c)) (wrap64 (b + d)) else 0
def plusY (a b c d : Int) : Int := if good a b && good c d then gy (wrap64 (a + c)) (wrap64 (b + d)) else 0
def plusB (a b c d : Int) : Bool := (good a b && good c d) && good (wrap64 (a + c)) (wrap64 (b + d))
set_option maxHeartbeats 1000000 in
theorem phPlus_w (a b c d : Int) (w : World) : Calls Try.prog 65 #[.agg #[.int .i64 a, .int .i64 b], .agg #[.int .i64 c, .int .i64 d]] w (Ret w (.agg #[.int .i64 (wrap64 (a + c)), .int .i64 (wrap64 (b + d))])) := by
  go_enter Try.func65, Try.ntmps65
  go_wp2
  go_returns
  exact ⟨rfl, by go_grown⟩
def timesX (a b c d : Int) : Int := if good a b && good c d then gx (wrap64 (wrap64 (a * c) - wrap64 (b * d))) (wrap64 (wrap64 (a * d) + wrap64 (b * c))) else 0
def timesY (a b c d : Int) : Int := if good a b && good c d then gy (wrap64 (wrap64 (a * c) - wrap64 (b * d))) (wrap64 (wrap64 (a * d) + wrap64 (b * c))) else 0
def timesB (a b c d : Int) : Bool := (good a b && good c d) && good (wrap64 (wrap64 (a * c) - wrap64 (b * d))) (wrap64 (wrap64 (a * d) + wrap64 (b * c)))
set_option maxHeartbeats 1000000 in
theorem phTimes_w (a b c d : Int) (w : World) : Calls Try.prog 57 #[.agg #[.int .i64 a, .int .i64 b], .agg #[.int .i64 c, .int .i64 d]] w (Ret w (.agg #[.int .i64 (wrap64 (wrap64 (a * c) - wrap64 (b * d))), .int .i64 (wrap64 (wrap64 (a * d) + wrap64 (b * c)))])) := by
  go_enter Try.func57, Try.ntmps57
  go_wp2
  go_returns
  exact ⟨rfl, by go_grown⟩
end Go.Proofs.Ytapmehgdnofgnab
