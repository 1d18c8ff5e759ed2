/- ConjugateGauss, NormOf, IsGauss: the model's and the program's. -/
import Derived.Test.YtgjdaeaiheibbabDoorGau
namespace Go.Proofs.YtgjdaeaiheibbabDoor
set_option maxRecDepth 100000
open Go.RowKit

def cnX (a b : Int) : Int := if good a b then a else 0
def cnY (a b : Int) : Int := if good a b then -b else 0
def nmV (a b : Int) : Int := if good a b then a * a + b * b else 0
theorem good_parts {a b : Int} (h : good a b = true) : (-1000000 ≤ a ∧ a ≤ 1000000) ∧ -1000000 ≤ b ∧ b ≤ 1000000 := by simpa [good] using h
theorem sq_le (x : Int) (h : -1000000 ≤ x ∧ x ≤ 1000000) : 0 ≤ x * x ∧ x * x ≤ 1000000000000 := by
  have h1 : x.natAbs * x.natAbs ≤ 1000000 * 1000000 := Nat.mul_le_mul (by omega) (by omega)
  rw [← Int.natAbs_mul] at h1
  have h2 : 0 ≤ x * x := by
    rcases Int.le_total 0 x with h3 | h3
    · exact Int.mul_nonneg h3 h3
    · exact Int.mul_nonneg_of_nonpos_of_nonpos h3 h3
  omega
set_option maxHeartbeats 1000000 in
theorem phBarS (X Y : Int) (h2 : -1000000 ≤ Y ∧ Y ≤ 1000000) (w : World) : Calls Tryd.prog 40 #[.agg #[.int .i64 X, .int .i64 Y]] w (Ret w (.agg #[.int .i64 X, .int .i64 (-Y)])) := by
  obtain ⟨h21, h22⟩ := h2
  go_enter Tryd.func40, Tryd.ntmps40
  go_wp2
  go_returns
  exact ⟨rfl, by go_grown⟩
set_option maxHeartbeats 1000000 in
theorem phNormS (a b : Int) (p : -1000000 ≤ a ∧ a ≤ 1000000) (q : -1000000 ≤ b ∧ b ≤ 1000000) (w : World) : Calls Tryd.prog 39 #[.agg #[.int .i64 a, .int .i64 b]] w (Ret w (.int .i64 (a * a + b * b))) := by
  have s1 := sq_le a p
  have s2 := sq_le b q
  obtain ⟨A, hA⟩ : ∃ A, A = a * a := ⟨_, rfl⟩
  obtain ⟨C, hC⟩ : ∃ A, A = b * b := ⟨_, rfl⟩
  rw [← hA, ← hC]
  rw [← hA] at s1
  rw [← hC] at s2
  have wA : wrap64 (a * a) = A := by rw [← hA]; exact IntWalk.wrap64_in A ⟨by omega, by omega⟩
  have wC : wrap64 (b * b) = C := by rw [← hC]; exact IntWalk.wrap64_in C ⟨by omega, by omega⟩
  have wS : wrap64 (A + C) = A + C := IntWalk.wrap64_in _ ⟨by omega, by omega⟩
  clear p q s1 s2 hA hC
  go_enter Tryd.func39, Tryd.ntmps39
  go_wp2
  go_returns
  exact ⟨ret_int wS, by go_grown⟩
set_option maxHeartbeats 2000000 in
theorem iconj (a b : Int) (w : World) : Calls Tryd.prog 11 #[.agg #[.int .i64 a, .int .i64 b]] w (Ret w (.tuple #[.agg #[.int .i64 (cnX a b), .int .i64 (cnY a b)], .bool (good a b)])) := by
  have T0 := (TN.new (B := 0) (W := w) (Nat.zero_le _) (.int .i64 a) (.int .i64 b) 25).alloc (.cells #[.int .i64 0, .int .i64 0] 25)
  have T1 := TN.mk' (B := 0) (g := w.heap.size + 1) (W := w.alloc (.cells #[.int .i64 a, .int .i64 b] 25)) (by simp) (Nat.zero_le _) (.int .i64 0) (.int .i64 0) 25
  have B0 := Lib.hid (belowa (belowa (Below.refl w.heap.size w) (.cells #[.int .i64 a, .int .i64 b] 25)) (.cells #[.int .i64 0, .int .i64 0] 25))
  have HG := Lib.hid (fun w => igood a b w)
  have k0 := T0.n0
  have k1 := T0.n1
  unfold cnX cnY
  cases hg : good a b with
  | true =>
    obtain ⟨⟨p1, p2⟩, p3, p4⟩ := good_parts hg
    rw [hg] at HG
    rw [if_pos rfl, if_pos rfl]
    clear hg
    go_enter Tryd.func11, Tryd.ntmps11
    go_wp2_with fail
    refine (HG.out _).mono ?_
    rintro e w1 ⟨rfl, hb⟩
    have B1 := Lib.hid (joins B0.out hb)
    have U0 := T0.step hb
    have U1 := T1.step hb
    have k0 := U0.n0
    have k1 := U0.n1
    have t0 := U1.n0
    have t1 := U1.n1
    have t2 := U1.m0
    have t3 := U1.m1
    have HT := Lib.hid U1
    clear hb U0 U1 T0 T1
    go_wp2
    obtain ⟨d0, d1, d2⟩ := HT.out.ret (Nat.le_succ _) B1.out (.int .i64 a) (.int .i64 (-b))
    have d0' := (World.cell?_setCell_other (w1.setCell ⟨w.heap.size + 1, 0, none⟩ (.int .i64 a)) ⟨w.heap.size + 1, 1, none⟩ ⟨w.heap.size + 1, 0, none⟩ (.int .i64 (-b)) (by simp)).trans d0
    refine bodyPost_ret (by simp [results, Tryd.results11, go_sem, d0', d1]; try rfl) rfl ?_
    exact ⟨rfl, d2⟩
  | false =>
    rw [hg] at HG
    rw [if_neg Bool.false_ne_true, if_neg Bool.false_ne_true]
    clear hg
    go_enter Tryd.func11, Tryd.ntmps11
    go_wp2_with fail
    refine (HG.out _).mono ?_
    rintro e w1 ⟨rfl, hb⟩
    have B1 := Lib.hid (joins B0.out hb)
    have U1 := T1.step hb
    have t0 := U1.n0
    have t1 := U1.n1
    have t2 := U1.m0
    have t3 := U1.m1
    have HT := Lib.hid U1
    clear hb U1 T0 T1
    go_wp2
    obtain ⟨d0, d1, d2⟩ := HT.out.ret (Nat.le_succ _) B1.out (.int .i64 0) (.int .i64 0)
    have d0' := (World.cell?_setCell_other (w1.setCell ⟨w.heap.size + 1, 0, none⟩ (.int .i64 0)) ⟨w.heap.size + 1, 1, none⟩ ⟨w.heap.size + 1, 0, none⟩ (.int .i64 0) (by simp)).trans d0
    refine bodyPost_ret (by simp [results, Tryd.results11, go_sem, d0', d1]; try rfl) rfl ?_
    exact ⟨rfl, d2⟩
set_option maxHeartbeats 2000000 in
theorem sconj (a b : Int) (w : World) : Calls Tryd.prog 21 #[.agg #[.int .i64 a, .int .i64 b]] w (Ret w (.tuple #[.agg #[.int .i64 (cnX a b), .int .i64 (cnY a b)], .bool (good a b)])) := by
  have T0 := (TN.new (B := 0) (W := w) (Nat.zero_le _) (.int .i64 a) (.int .i64 b) 25).alloc (.cells #[.int .i64 0, .int .i64 0] 25)
  have T1 := TN.mk' (B := 0) (g := w.heap.size + 1) (W := w.alloc (.cells #[.int .i64 a, .int .i64 b] 25)) (by simp) (Nat.zero_le _) (.int .i64 0) (.int .i64 0) 25
  have B0 := Lib.hid (belowa (belowa (Below.refl w.heap.size w) (.cells #[.int .i64 a, .int .i64 b] 25)) (.cells #[.int .i64 0, .int .i64 0] 25))
  have HG := Lib.hid (fun w => sgood a b w)
  have k0 := T0.n0
  have k1 := T0.n1
  unfold cnX cnY
  cases hg : good a b with
  | true =>
    obtain ⟨⟨p1, p2⟩, p3, p4⟩ := good_parts hg
    rw [hg] at HG
    rw [if_pos rfl, if_pos rfl]
    clear hg
    go_enter Tryd.func21, Tryd.ntmps21
    go_wp2_with fail
    refine (HG.out _).mono ?_
    rintro e w1 ⟨rfl, hb⟩
    have B1 := Lib.hid (joins B0.out hb)
    have U0 := T0.step hb
    have U1 := T1.step hb
    have k0 := U0.n0
    have k1 := U0.n1
    have t0 := U1.n0
    have t1 := U1.n1
    have t2 := U1.m0
    have t3 := U1.m1
    have HT := Lib.hid U1
    clear hb U0 U1 T0 T1
    go_wp2_with fail
    refine (phBarS a b ⟨p3, p4⟩ _).mono ?_
    rintro e w2 ⟨rfl, hb2⟩
    have B2 := Lib.hid (joins B1.out hb2)
    have V1 := HT.out.step hb2
    have t0 := V1.n0
    have t1 := V1.n1
    have t2 := V1.m0
    have t3 := V1.m1
    have HT2 := Lib.hid V1
    clear hb2 V1
    go_wp2_with fail
    obtain ⟨d0, d1, d2⟩ := HT2.out.ret (Nat.le_succ _) B2.out (.int .i64 a) (.int .i64 (-b))
    have d0' := (World.cell?_setCell_other (w2.setCell ⟨w.heap.size + 1, 0, none⟩ (.int .i64 a)) ⟨w.heap.size + 1, 1, none⟩ ⟨w.heap.size + 1, 0, none⟩ (.int .i64 (-b)) (by simp)).trans d0
    refine bodyPost_ret (by simp [results, Tryd.results21, go_sem, d0', d1]; try rfl) rfl ?_
    exact ⟨rfl, d2⟩
  | false =>
    rw [hg] at HG
    rw [if_neg Bool.false_ne_true, if_neg Bool.false_ne_true]
    clear hg
    go_enter Tryd.func21, Tryd.ntmps21
    go_wp2_with fail
    refine (HG.out _).mono ?_
    rintro e w1 ⟨rfl, hb⟩
    have B1 := Lib.hid (joins B0.out hb)
    have U1 := T1.step hb
    have t0 := U1.n0
    have t1 := U1.n1
    have t2 := U1.m0
    have t3 := U1.m1
    have HT := Lib.hid U1
    clear hb U1 T0 T1
    go_wp2
    obtain ⟨d0, d1, d2⟩ := HT.out.ret (Nat.le_succ _) B1.out (.int .i64 0) (.int .i64 0)
    have d0' := (World.cell?_setCell_other (w1.setCell ⟨w.heap.size + 1, 0, none⟩ (.int .i64 0)) ⟨w.heap.size + 1, 1, none⟩ ⟨w.heap.size + 1, 0, none⟩ (.int .i64 0) (by simp)).trans d0
    refine bodyPost_ret (by simp [results, Tryd.results21, go_sem, d0', d1]; try rfl) rfl ?_
    exact ⟨rfl, d2⟩
set_option maxHeartbeats 2000000 in
theorem inorm (a b : Int) (w : World) : Calls Tryd.prog 12 #[.agg #[.int .i64 a, .int .i64 b]] w (Ret w (.tuple #[.int .i64 (nmV a b), .bool (good a b)])) := by
  have k0 := cell_new0 w (.int .i64 a) (.int .i64 b) 25
  have k1 := cell_new1 w (.int .i64 a) (.int .i64 b) 25
  have B0 := Lib.hid (belowa (Below.refl w.heap.size w) (.cells #[.int .i64 a, .int .i64 b] 25))
  have HG := Lib.hid (fun w => igood a b w)
  unfold nmV
  cases hg : good a b with
  | true =>
    obtain ⟨p, q⟩ := good_parts hg
    have s1 := sq_le a p
    have s2 := sq_le b q
    obtain ⟨A, hA⟩ : ∃ A, A = a * a := ⟨_, rfl⟩
    obtain ⟨C, hC⟩ : ∃ A, A = b * b := ⟨_, rfl⟩
    rw [hg] at HG
    rw [if_pos rfl, ← hA, ← hC]
    rw [← hA] at s1
    rw [← hC] at s2
    have wA : wrap64 (a * a) = A := by rw [← hA]; exact IntWalk.wrap64_in A ⟨by omega, by omega⟩
    have wC : wrap64 (b * b) = C := by rw [← hC]; exact IntWalk.wrap64_in C ⟨by omega, by omega⟩
    have wS : wrap64 (A + C) = A + C := IntWalk.wrap64_in _ ⟨by omega, by omega⟩
    clear hg p q s1 s2 hA hC
    go_enter Tryd.func12, Tryd.ntmps12
    go_wp2_with fail
    refine (HG.out _).mono ?_
    rintro e w1 ⟨rfl, hb⟩
    have B1 := Lib.hid (joins B0.out hb)
    have k0 := keepc hb k0
    have k1 := keepc hb k1
    clear hb
    go_wp2
    (try rw [wS])
    go_returns
    exact ⟨rfl, B1.out⟩
  | false =>
    rw [hg] at HG
    rw [if_neg Bool.false_ne_true]
    clear hg
    go_enter Tryd.func12, Tryd.ntmps12
    go_wp2_with fail
    refine (HG.out _).mono ?_
    rintro e w1 ⟨rfl, hb⟩
    have B1 := Lib.hid (joins B0.out hb)
    clear hb
    go_wp2
    go_returns
    exact ⟨rfl, B1.out⟩
set_option maxHeartbeats 2000000 in
theorem snorm (a b : Int) (w : World) : Calls Tryd.prog 20 #[.agg #[.int .i64 a, .int .i64 b]] w (Ret w (.tuple #[.int .i64 (nmV a b), .bool (good a b)])) := by
  have k0 := cell_new0 w (.int .i64 a) (.int .i64 b) 25
  have k1 := cell_new1 w (.int .i64 a) (.int .i64 b) 25
  have B0 := Lib.hid (belowa (Below.refl w.heap.size w) (.cells #[.int .i64 a, .int .i64 b] 25))
  have HG := Lib.hid (fun w => sgood a b w)
  unfold nmV
  cases hg : good a b with
  | true =>
    obtain ⟨p, q⟩ := good_parts hg
    rw [hg] at HG
    rw [if_pos rfl]
    have HP := Lib.hid (fun w => phNormS a b p q w)
    obtain ⟨Z, hZ⟩ : ∃ Z, Z = a * a + b * b := ⟨_, rfl⟩
    rw [← hZ] at HP ⊢
    clear hg p q hZ
    go_enter Tryd.func20, Tryd.ntmps20
    go_wp2_with fail
    refine (HG.out _).mono ?_
    rintro e w1 ⟨rfl, hb⟩
    have B1 := Lib.hid (joins B0.out hb)
    have k0 := keepc hb k0
    have k1 := keepc hb k1
    clear hb
    go_wp2_with fail
    refine (HP.out _).mono ?_
    rintro e w2 ⟨rfl, hb⟩
    have B2 := Lib.hid (joins B1.out hb)
    clear hb
    go_wp2_with fail
    go_returns
    exact ⟨rfl, B2.out⟩
  | false =>
    rw [hg] at HG
    rw [if_neg Bool.false_ne_true]
    clear hg
    go_enter Tryd.func20, Tryd.ntmps20
    go_wp2_with fail
    refine (HG.out _).mono ?_
    rintro e w1 ⟨rfl, hb⟩
    have B1 := Lib.hid (joins B0.out hb)
    clear hb
    go_wp2
    go_returns
    exact ⟨rfl, B1.out⟩
set_option maxHeartbeats 1000000 in
theorem sisGauss (a b : Int) (w : World) : Calls Tryd.prog 22 #[.agg #[.int .i64 a, .int .i64 b]] w (Ret w (.bool (good a b))) := by
  have k0 := cell_new0 w (.int .i64 a) (.int .i64 b) 25
  have k1 := cell_new1 w (.int .i64 a) (.int .i64 b) 25
  have B0 := Lib.hid (belowa (Below.refl w.heap.size w) (.cells #[.int .i64 a, .int .i64 b] 25))
  have HG := Lib.hid (fun w => sgood a b w)
  obtain ⟨q, hq⟩ : ∃ q, q = good a b := ⟨_, rfl⟩
  rw [← hq] at HG ⊢
  clear hq
  go_enter Tryd.func22, Tryd.ntmps22
  go_wp2_with fail
  refine (HG.out _).mono ?_
  rintro e w1 ⟨rfl, hb⟩
  have B1 := Lib.hid (joins B0.out hb)
  clear hb
  go_wp2_with fail
  go_returns
  exact ⟨rfl, B1.out⟩
end Go.Proofs.YtgjdaeaiheibbabDoor
