/- Perfect sequences, plainly. -/
import Derived.Test.YtcagiecgbjnefabCors
namespace Go.Proofs.Ytcagiecgbjnefab

set_option maxRecDepth 100000
def pfZ (l : List Int) (u : Nat) : Bool := decide (peS vx l l (u : Int) = 0) && decide (peS vy l l (u : Int) = 0)
/-- All own correlations below k, but that at 0, are 0. -/
def pfTo (l : List Int) : Nat → Bool
  | 0 => true
  | k + 1 => pfTo l k && (decide (k = 0) || pfZ l k)
def pfB (l : List Int) : Bool := decide (1 ≤ l.length) && pfTo l l.length
theorem pfTo_down (l : List Int) {n : Nat} : ∀ d, pfTo l (n + d) = true → pfTo l n = true
  | 0, h => h
  | d + 1, h => pfTo_down l d (Bool.and_eq_true_iff.1 (show (pfTo l (n + d) && (decide (n + d = 0) || pfZ l (n + d))) = true from h)).1
theorem pfTo_no (l : List Int) {k : Nat} (hk : 1 ≤ k) (hl : k < l.length) (h : pfZ l k = false) : pfB l = false := by
  cases hp : pfTo l l.length with
  | false => unfold pfB; rw [hp, Bool.and_false]
  | true =>
    exfalso
    obtain ⟨d, hd⟩ : ∃ d, l.length = k + 1 + d := ⟨l.length - (k + 1), by omega⟩
    rw [hd] at hp
    have := (Bool.and_eq_true_iff.1 (show (pfTo l k && (decide (k = 0) || pfZ l k)) = true from pfTo_down l d hp)).2
    rw [h, decide_eq_false (by omega)] at this
    cases this
theorem pfTo_next (l : List Int) {k : Nat} (h : pfTo l k = true) (hz : pfZ l k = true) : pfTo l (k + 1) = true := by
  show (pfTo l k && (decide (k = 0) || pfZ l k)) = true
  rw [h, hz]; simp
theorem pfTo_one (l : List Int) : pfTo l 1 = true := by simp [pfTo]
def pfOk (l : List Int) : Bool := if isSeq l then pfB l else false
end Go.Proofs.Ytcagiecgbjnefab
