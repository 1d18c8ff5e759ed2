/- Perfect arrays: plain mathematics. -/
import Derived.Test.YtjoepdflbbcliabAaM
namespace Go.Proofs.Ytjoepdflbbcliab

set_option maxRecDepth 100000
def pwZ (m : List (List Int)) (u v : Nat) : Bool := decide (aaS vx m u v m.length = 0) && decide (aaS vy m u v m.length = 0)
def pwRow (m : List (List Int)) (u : Nat) : Nat → Bool
  | 0 => true
  | v + 1 => pwRow m u v && (decide (u + v = 0) || pwZ m u v)
def pwTo (m : List (List Int)) : Nat → Bool
  | 0 => true
  | u + 1 => pwTo m u && pwRow m u (colsOf m)
def pwB (m : List (List Int)) : Bool := pwTo m m.length
def pwA (m : List (List Int)) : Bool := if arOk m then pwB m else false
theorem pwTo_down (m : List (List Int)) {n : Nat} : ∀ d, pwTo m (n + d) = true → pwTo m n = true
  | 0, h => h
  | d + 1, h => pwTo_down m d (Bool.and_eq_true_iff.1 (show (pwTo m (n + d) && pwRow m (n + d) (colsOf m)) = true from h)).1
theorem pwRow_down (m : List (List Int)) (u : Nat) {n : Nat} : ∀ d, pwRow m u (n + d) = true → pwRow m u n = true
  | 0, h => h
  | d + 1, h => pwRow_down m u d (Bool.and_eq_true_iff.1 (show (pwRow m u (n + d) && (decide (u + (n + d) = 0) || pwZ m u (n + d))) = true from h)).1
theorem pw_row {m : List (List Int)} (h : pwB m = true) {u : Nat} (hu : u < m.length) : pwRow m u (colsOf m) = true := by
  obtain ⟨d, hd⟩ : ∃ d, m.length = u + 1 + d := ⟨m.length - (u + 1), by omega⟩
  unfold pwB at h
  rw [hd] at h
  exact (Bool.and_eq_true_iff.1 (show (pwTo m u && pwRow m u (colsOf m)) = true from pwTo_down m d h)).2
theorem pw_at {m : List (List Int)} (h : pwB m = true) {u v : Nat} (hu : u < m.length) (hv : v < colsOf m) (huv : ¬ u + v = 0) : pwZ m u v = true := by
  have h1 := pw_row h hu
  obtain ⟨d, hd⟩ : ∃ d, colsOf m = v + 1 + d := ⟨colsOf m - (v + 1), by omega⟩
  rw [hd] at h1
  have := (Bool.and_eq_true_iff.1 (show (pwRow m u v && (decide (u + v = 0) || pwZ m u v)) = true from pwRow_down m u d h1)).2
  rwa [decide_eq_false huv, Bool.false_or] at this
theorem pw_no {m : List (List Int)} {u v : Nat} (hu : u < m.length) (hv : v < colsOf m) (huv : ¬ u + v = 0) (h : pwZ m u v = false) : pwB m = false := by
  cases hb : pwB m with
  | false => rfl
  | true => rw [pw_at hb hu hv huv] at h; cases h
theorem pwRow_next {m : List (List Int)} {u v : Nat} (h : pwRow m u v = true) (hz : u + v = 0 ∨ pwZ m u v = true) : pwRow m u (v + 1) = true := by
  show (pwRow m u v && (decide (u + v = 0) || pwZ m u v)) = true
  rw [h]
  rcases hz with hz | hz
  · rw [decide_eq_true hz]; rfl
  · rw [hz]; simp
theorem pwTo_next {m : List (List Int)} {u : Nat} (h : pwTo m u = true) (hr : pwRow m u (colsOf m) = true) : pwTo m (u + 1) = true := by
  show (pwTo m u && pwRow m u (colsOf m)) = true
  rw [h, hr]; rfl
end Go.Proofs.Ytjoepdflbbcliab
