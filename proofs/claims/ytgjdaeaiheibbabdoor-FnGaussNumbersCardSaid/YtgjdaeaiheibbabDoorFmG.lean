/- What the laws of several functions need of sums and products of Gaussian numbers. -/
import Derived.Test.YtgjdaeaiheibbabDoorGcn
import Derived.Test.YtgjdaeaiheibbabDoorPv
namespace Go.Proofs.YtgjdaeaiheibbabDoor
set_option maxRecDepth 100000
open Go.RowKit

theorem prodG_le (x y : Int) (hx : -1000000 ≤ x ∧ x ≤ 1000000) (hy : -1000000 ≤ y ∧ y ≤ 1000000) : -1000000000000 ≤ x * y ∧ x * y ≤ 1000000000000 := by
  have h : x.natAbs * y.natAbs ≤ 1000000 * 1000000 := Nat.mul_le_mul (by omega) (by omega)
  rw [← Int.natAbs_mul] at h
  omega
theorem times_plain {a b c d : Int} (h1 : good a b = true) (h2 : good c d = true) :
    wrap64 (wrap64 (a * c) - wrap64 (b * d)) = a * c - b * d ∧ wrap64 (wrap64 (a * d) + wrap64 (b * c)) = a * d + b * c := by
  obtain ⟨ha, hb⟩ := good_parts h1
  obtain ⟨hc, hd⟩ := good_parts h2
  have p1 := prodG_le a c ha hc
  have p2 := prodG_le b d hb hd
  have p3 := prodG_le a d ha hd
  have p4 := prodG_le b c hb hc
  rw [IntWalk.wrap64_in (a * c) ⟨by omega, by omega⟩, IntWalk.wrap64_in (b * d) ⟨by omega, by omega⟩, IntWalk.wrap64_in (a * d) ⟨by omega, by omega⟩, IntWalk.wrap64_in (b * c) ⟨by omega, by omega⟩]
  exact ⟨IntWalk.wrap64_in _ ⟨by omega, by omega⟩, IntWalk.wrap64_in _ ⟨by omega, by omega⟩⟩
theorem times_ok {a b c d : Int} (h1 : good a b = true) (h2 : good c d = true) : timesB a b c d = good (a * c - b * d) (a * d + b * c) := by
  obtain ⟨e1, e2⟩ := times_plain h1 h2
  unfold timesB
  rw [h1, h2, e1, e2]
  rfl
theorem times_xy {a b c d : Int} (h1 : good a b = true) (h2 : good c d = true) (h : good (a * c - b * d) (a * d + b * c) = true) : timesX a b c d = a * c - b * d ∧ timesY a b c d = a * d + b * c := by
  obtain ⟨e1, e2⟩ := times_plain h1 h2
  unfold timesX timesY
  rw [h1, h2, e1, e2]
  exact ⟨if_pos h, if_pos h⟩
theorem good_neg (a b : Int) : good a (-b) = good a b := by
  unfold good
  exact decide_eq_decide.2 ⟨fun h => by omega, fun h => by omega⟩
theorem times_turned {a b c d : Int} (h1 : good a b = true) (h2 : good c d = true) (h : timesB a b c d = true) : timesB c d a b = true ∧ timesX c d a b = timesX a b c d ∧ timesY c d a b = timesY a b c d := by
  rw [times_ok h1 h2] at h
  obtain ⟨e1, e2⟩ := times_xy h1 h2 h
  have e3 : c * a - d * b = a * c - b * d := by rw [Int.mul_comm c a, Int.mul_comm d b]
  have e4 : c * b + d * a = a * d + b * c := by rw [Int.mul_comm c b, Int.mul_comm d a]; omega
  have h3 : good (c * a - d * b) (c * b + d * a) = true := by rw [e3, e4]; exact h
  obtain ⟨e5, e6⟩ := times_xy h2 h1 h3
  exact ⟨(times_ok h2 h1).trans h3, by rw [e5, e3, e1], by rw [e6, e4, e2]⟩
theorem times_bars {a b c d : Int} (h1 : good a b = true) (h2 : good c d = true) (h : timesB a b c d = true) : timesB a (-b) c (-d) = true ∧ timesX a (-b) c (-d) = timesX a b c d ∧ timesY a (-b) c (-d) = -(timesY a b c d) := by
  rw [times_ok h1 h2] at h
  obtain ⟨e1, e2⟩ := times_xy h1 h2 h
  have g1 : good a (-b) = true := (good_neg a b).trans h1
  have g2 : good c (-d) = true := (good_neg c d).trans h2
  have e3 : a * c - -b * -d = a * c - b * d := by rw [Int.neg_mul_neg]
  have e4 : a * -d + -b * c = -(a * d + b * c) := by rw [Int.mul_neg, Int.neg_mul]; omega
  have h3 : good (a * c - -b * -d) (a * -d + -b * c) = true := by rw [e3, e4, good_neg]; exact h
  obtain ⟨e5, e6⟩ := times_xy g1 g2 h3
  exact ⟨(times_ok g1 g2).trans h3, by rw [e5, e3, e1], by rw [e6, e4, e2]⟩
theorem times_norm {a b c d : Int} (h1 : good a b = true) (h2 : good c d = true) (h : timesB a b c d = true) : good (timesX a b c d) (timesY a b c d) = true ∧ nmV (timesX a b c d) (timesY a b c d) = nmV a b * nmV c d ∧ 0 ≤ nmV a b * nmV c d ∧ nmV a b * nmV c d ≤ 2000000000000 := by
  rw [times_ok h1 h2] at h
  obtain ⟨e1, e2⟩ := times_xy h1 h2 h
  have e3 : nmV (timesX a b c d) (timesY a b c d) = nmV a b * nmV c d := by
    rw [e1, e2]
    unfold nmV
    rw [if_pos h, if_pos h1, if_pos h2]
    simp only [Int.sub_mul, Int.mul_sub, Int.add_mul, Int.mul_add]
    have q1 : a * c * (a * c) = a * a * (c * c) := by rw [Int.mul_assoc, Int.mul_left_comm c a c, ← Int.mul_assoc]
    have q2 : b * d * (b * d) = b * b * (d * d) := by rw [Int.mul_assoc, Int.mul_left_comm d b d, ← Int.mul_assoc]
    have q3 : a * d * (a * d) = a * a * (d * d) := by rw [Int.mul_assoc, Int.mul_left_comm d a d, ← Int.mul_assoc]
    have q4 : b * c * (b * c) = b * b * (c * c) := by rw [Int.mul_assoc, Int.mul_left_comm c b c, ← Int.mul_assoc]
    have q5 : b * d * (a * c) = a * c * (b * d) := Int.mul_comm _ _
    have q6 : b * c * (a * d) = a * d * (b * c) := Int.mul_comm _ _
    have q7 : a * d * (b * c) = a * c * (b * d) := by rw [Int.mul_assoc, Int.mul_assoc, Int.mul_left_comm d b c, Int.mul_left_comm c b d, Int.mul_comm d c]
    rw [q1, q2, q3, q4, q5, q6, q7]
    omega
  have hg : good (timesX a b c d) (timesY a b c d) = true := by rw [e1, e2]; exact h
  obtain ⟨p, q⟩ := good_parts hg
  have s1 := sq_le _ p
  have s2 := sq_le _ q
  refine ⟨hg, e3, ?_, ?_⟩ <;> rw [← e3] <;> unfold nmV <;> rw [if_pos hg] <;> omega
theorem times_own {a b : Int} (h1 : good a b = true) (h : timesB a b a (-b) = true) : timesX a b a (-b) = nmV a b ∧ timesY a b a (-b) = 0 := by
  have g1 : good a (-b) = true := (good_neg a b).trans h1
  rw [times_ok h1 g1] at h
  obtain ⟨e1, e2⟩ := times_xy h1 g1 h
  rw [e1, e2]
  unfold nmV
  rw [if_pos h1]
  exact ⟨by rw [Int.mul_neg]; omega, by rw [Int.mul_neg, Int.mul_comm b a]; omega⟩
theorem vxy_next (j : Nat) (h : j ≤ 2) : vx (j : Int) * 0 - vy (j : Int) * 1 = vx ((j + 1 : Nat) : Int) ∧ vx (j : Int) * 1 + vy (j : Int) * 0 = vy ((j + 1 : Nat) : Int) := by
  have : j = 0 ∨ j = 1 ∨ j = 2 := by omega
  rcases this with rfl | rfl | rfl <;> decide
theorem vxy_small9 (j : Nat) : (-1 ≤ vx (j : Int) ∧ vx (j : Int) ≤ 1) ∧ -1 ≤ vy (j : Int) ∧ vy (j : Int) ≤ 1 := by
  unfold vx vy
  constructor <;> (split <;> (try split) <;> omega)
end Go.Proofs.YtgjdaeaiheibbabDoor
