/- Duals of sequences: plain mathematics. -/
import Derived.Test.YtoehehaeanepmaaQsM
namespace Go.Proofs.Ytoehehaeanepmaa

set_option maxRecDepth 100000
def rtN (n : Nat) : Int := if n = 4 then 2 else if n = 16 then 4 else 1
def duHit (r x y : Int) (k : Nat) : Bool := decide (r * vx (k : Int) = x) && decide (r * vy (k : Int) = y)
/-- None of the first k phases serves. -/
def duNo (r x y : Int) : Nat → Bool
  | 0 => true
  | k + 1 => duNo r x y k && !duHit r x y k
def duK (r x y : Int) : Nat := if duHit r x y 0 then 0 else if duHit r x y 1 then 1 else if duHit r x y 2 then 2 else if duHit r x y 3 then 3 else 4
theorem duK_hit {r x y : Int} {k : Nat} (hk : k < 4) (h : duNo r x y k = true) (h2 : duHit r x y k = true) : duK r x y = k := by
  have h3 : k = 0 ∨ k = 1 ∨ k = 2 ∨ k = 3 := by omega
  rcases h3 with rfl | rfl | rfl | rfl <;> simp_all [duK, duNo]
theorem duK_none {r x y : Int} (h : duNo r x y 4 = true) : duK r x y = 4 := by simp_all [duK, duNo]
theorem duK_le (r x y : Int) : duK r x y ≤ 4 := by unfold duK; repeat' split
                                                   all_goals omega
theorem duNo_next {r x y : Int} {k : Nat} (h : duNo r x y k = true) (h2 : duHit r x y k = false) : duNo r x y (k + 1) = true := by simp [duNo, h, h2]
/-- The phase at a place of the dual; 4 for none. -/
def duP (s : List Int) (p : Nat) : Nat := duK (rtN s.length) (drX 1 (vlL s) s.length p) (drY 1 (vlL s) s.length p)
def duTo (s : List Int) (k : Nat) : Bool := (List.range k).all (fun p => decide (duP s p < 4))
def duB (s : List Int) : Bool := duTo s s.length
def duOk (s : List Int) : Bool := sqTf s && duB s
def duL (s : List Int) : List Int := gen s.length (fun p => (duP s p : Int))
def duA (s : List Int) : List Int := if duOk s then duL s else []
theorem duTo_succ (s : List Int) (k : Nat) : duTo s (k + 1) = (duTo s k && decide (duP s k < 4)) := by
  unfold duTo; rw [List.range_succ, List.all_append]; simp
theorem du_no {s : List Int} {k : Nat} (hk : k < s.length) (h : ¬ duP s k < 4) : duB s = false := by
  unfold duB duTo
  rw [List.all_eq_false]
  exact ⟨k, List.mem_range.2 hk, by simpa using h⟩
theorem duA_len (s : List Int) : (duA s).length ≤ 1048576 := by
  unfold duA
  split
  · rename_i h
    unfold duOk at h
    have := sqTf_len (Bool.and_eq_true_iff.1 h).1
    unfold duL
    rw [gen_length]; omega
  · simp
theorem rtN_in {n : Nat} (h : tfSz n = true) : rtN n = 1 ∨ rtN n = 2 ∨ rtN n = 4 := by
  rcases tfSz_cases h with rfl | rfl | rfl <;> simp [rtN]
end Go.Proofs.Ytoehehaeanepmaa
