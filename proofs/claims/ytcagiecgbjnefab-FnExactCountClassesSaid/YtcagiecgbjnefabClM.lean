/- Moves of sequences: plain. -/
import Derived.Test.YtcagiecgbjnefabGoJ
import Derived.Test.YtcagiecgbjnefabRank
import Derived.Test.YtcagiecgbjnefabClC
namespace Go.Proofs.Ytcagiecgbjnefab

set_option maxRecDepth 100000
def cjQ (c : Int) (l : List Int) : List Int := if c = 1 then barG l else l
def bkC (d : Int) (l : List Int) : List Int := if d = 1 then backG l else l
/-- What the move a b c d makes of a sequence, and what makes it again of that. -/
def clT (a b c d : Int) (l : List Int) : List Int := turnG (climbG (bkC d (cjQ c l)) b) a
def clU (a b c d : Int) (l : List Int) : List Int := cjQ c (bkC d (climbG (turnG l (-a)) (-b)))
def clOk : List Int → Bool
  | [a, b, c, d] => (inB a 0 3 && inB b 0 3) && (inB c 0 1 && inB d 0 1)
  | _ => false
def clWith (f : Int → Int → Int → Int → List Int) : List Int → List Int
  | [a, b, c, d] => f a b c d
  | _ => []
theorem clOk_four {m : List Int} (h : clOk m = true) : ∃ a b c d, m = [a, b, c, d] ∧ (0 ≤ a ∧ a ≤ 3) ∧ (0 ≤ b ∧ b ≤ 3) ∧ (0 ≤ c ∧ c ≤ 1) ∧ (0 ≤ d ∧ d ≤ 1) := by
  match m, h with
  | [a, b, c, d], h =>
    unfold clOk inB at h
    simp only [Bool.and_eq_true, decide_eq_true_eq] at h
    exact ⟨a, b, c, d, rfl, by omega, by omega, by omega, by omega⟩
theorem clOk_is (m : List Int) : clOk m = (decide (m.length = 4) && (allIn (m.take 2) 0 3 && allIn (m.drop 2) 0 1)) := by
  match m with
  | [] => rfl
  | [_] => rfl
  | [_, _] => rfl
  | [_, _, _] => rfl
  | [a, b, c, d] => simp [clOk, allIn]
  | _ :: _ :: _ :: _ :: _ :: r =>
    have h : decide ((r.length + 1 + 1 + 1 + 1 + 1) = 4) = false := decide_eq_false (by omega)
    simp only [clOk, List.length_cons, h, Bool.false_and]
theorem cjQ_seq (c : Int) (l : List Int) (h : isSeq l = true) : isSeq (cjQ c l) = true := by unfold cjQ; split <;> first | exact barG_seq l h | exact h
theorem bkC_seq (d : Int) (l : List Int) (h : isSeq l = true) : isSeq (bkC d l) = true := by unfold bkC; split <;> first | exact backG_seq l h | exact h
theorem climb_seq (l : List Int) (k : Int) (h : isSeq l = true) : isSeq (climbG l k) = true := gen_seq _ _ (isSeq_len h) (fun i _ => by omega)
theorem cjQ_len (c : Int) (l : List Int) : (cjQ c l).length = l.length := by unfold cjQ; split <;> first | exact gen_length _ _ | rfl
theorem bkC_len (d : Int) (l : List Int) : (bkC d l).length = l.length := by unfold bkC; split <;> first | exact gen_length _ _ | rfl
theorem clT_seq (a b c d : Int) (l : List Int) (h : isSeq l = true) : isSeq (clT a b c d l) = true := turnG_seq _ _ (climb_seq _ _ (bkC_seq _ _ (cjQ_seq _ _ h)))
theorem clU_seq (a b c d : Int) (l : List Int) (h : isSeq l = true) : isSeq (clU a b c d l) = true := cjQ_seq _ _ (bkC_seq _ _ (climb_seq _ _ (turnG_seq _ _ h)))
theorem clT_len (a b c d : Int) (l : List Int) : (clT a b c d l).length = l.length := by unfold clT; rw [turnG_length, climbG_length, bkC_len, cjQ_len]
theorem clU_len (a b c d : Int) (l : List Int) : (clU a b c d l).length = l.length := by unfold clU; rw [cjQ_len, bkC_len, climbG_length, turnG_length]
theorem climbG_mod (l : List Int) (k : Int) : climbG l (k % 4) = climbG l k := by
  unfold climbG
  refine gen_ext (fun i _ => ?_)
  rw [Int.add_emod, Int.add_emod (l.getD i 0), Int.mul_emod, Int.emod_emod, ← Int.mul_emod]

def amOk (l m : List Int) : Bool := ranked l && clOk m
def amF (l m : List Int) : List Int := if amOk l m then clWith (fun a b c d => clT a b c d l) m else []
def ubF (l m : List Int) : List Int := if amOk l m then clWith (fun a b c d => clU a b c d l) m else []
theorem ranked_seq {l : List Int} (h : ranked l = true) : isSeq l = true ∧ l.length ≤ 15 := by
  unfold ranked at h
  simpa using h
theorem clWith_len (f : Int → Int → Int → Int → List Int) (l m : List Int) (h : ∀ a b c d, (f a b c d).length = l.length) : (clWith f m).length ≤ l.length := by
  unfold clWith
  split
  · rw [h]; exact Nat.le_refl _
  · exact Nat.zero_le _
theorem amF_len (l m : List Int) : (amF l m).length ≤ 1048576 := by
  unfold amF
  split
  · rename_i h
    have h1 := (ranked_seq (Bool.and_eq_true_iff.1 h).1).2
    have := clWith_len (fun a b c d => clT a b c d l) l m (fun a b c d => clT_len a b c d l)
    omega
  · exact Nat.zero_le _
theorem ubF_len (l m : List Int) : (ubF l m).length ≤ 1048576 := by
  unfold ubF
  split
  · rename_i h
    have h1 := (ranked_seq (Bool.and_eq_true_iff.1 h).1).2
    have := clWith_len (fun a b c d => clU a b c d l) l m (fun a b c d => clU_len a b c d l)
    omega
  · exact Nat.zero_le _

/-- The move at an index. -/
def mvI (x : Nat) : List Int := [((x : Int) / 16), ((x : Int) / 4 % 4), ((x : Int) / 2 % 2), ((x : Int) % 2)]
/-- What the move at an index makes of a sequence. -/
def clX (x : Nat) (l : List Int) : List Int := clT ((x : Int) / 16) ((x : Int) / 4 % 4) ((x : Int) / 2 % 2) ((x : Int) % 2) l
theorem clX_seq (x : Nat) (l : List Int) (h : isSeq l = true) : isSeq (clX x l) = true := clT_seq _ _ _ _ _ h
theorem clX_len (x : Nat) (l : List Int) : (clX x l).length = l.length := clT_len _ _ _ _ _
/-- The moves below k that make t of l. -/
def mbX (l t : List Int) (k : Nat) : List Nat := (List.range k).filter (fun x => decide (clX x l = t))
theorem mbX_succ (l t : List Int) (k : Nat) : mbX l t (k + 1) = mbX l t k ++ if clX k l = t then [k] else [] := by
  unfold mbX
  rw [List.range_succ, List.filter_append]
  by_cases h : clX k l = t <;> simp [h]
theorem mbX_le (l t : List Int) (k : Nat) : (mbX l t k).length ≤ k := by
  unfold mbX
  have := List.length_filter_le (fun x => decide (clX x l = t)) (List.range k)
  simpa using this
theorem mbX_lt (l t : List Int) (k x : Nat) (h : x ∈ mbX l t k) : x < k := by
  unfold mbX at h
  have := (List.mem_filter.1 h).1
  simpa using this
def bothR (l t : List Int) : Bool := ranked l && ranked t
def mbOk (l t : List Int) : Bool := bothR l t && !(mbX l t 64).isEmpty
def mbF (l t : List Int) : List Int := if mbOk l t then mvI ((mbX l t 64).headD 0) else []
theorem mvI_len (x : Nat) : (mvI x).length = 4 := rfl
theorem mbF_len (l t : List Int) : (mbF l t).length ≤ 1048576 := by
  unfold mbF; split
  · rw [mvI_len]; omega
  · exact Nat.zero_le _
def kpF (l : List Int) : List (List Int) := if ranked l then (mbX l l 64).map mvI else []
end Go.Proofs.Ytcagiecgbjnefab
