/- Pairs made of pairs: plain mathematics. -/
import Derived.Test.YtcagiecgbjnefabGoM
import Derived.Test.YtcagiecgbjnefabMov
namespace Go.Proofs.Ytcagiecgbjnefab

set_option maxRecDepth 100000
theorem gen_seq (n : Nat) (g : Nat → Int) (hn : n ≤ 32) (hg : ∀ i, i < n → 0 ≤ g i ∧ g i ≤ 3) : isSeq (gen n g) = true := by
  refine isSeq_of (by rw [gen_length]; exact hn) ?_
  unfold allIn gen
  rw [List.all_eq_true]
  intro z hz
  simp only [List.mem_map, List.mem_range] at hz
  obtain ⟨i, hi, rfl⟩ := hz
  have := hg i hi
  simp [inB]; omega
theorem turnG_seq (l : List Int) (k : Int) (h : isSeq l = true) : isSeq (turnG l k) = true := gen_seq _ _ (isSeq_len h) (fun i _ => by omega)
theorem barG_seq (l : List Int) (h : isSeq l = true) : isSeq (barG l) = true := gen_seq _ _ (isSeq_len h) (fun i _ => by omega)
theorem backG_seq (l : List Int) (h : isSeq l = true) : isSeq (backG l) = true := gen_seq _ _ (isSeq_len h) (fun i hi => allIn_getD (isSeq_all h) _ (by omega))
theorem turnG_length (l : List Int) (k : Int) : (turnG l k).length = l.length := gen_length _ _
theorem barG_length (l : List Int) : (barG l).length = l.length := gen_length _ _
theorem backG_length (l : List Int) : (backG l).length = l.length := gen_length _ _
theorem climbG_length (l : List Int) (k : Int) : (climbG l k).length = l.length := gen_length _ _
theorem cat_seq (l m : List Int) (hl : isSeq l = true) (hm : isSeq m = true) : isSeq (l ++ m) = decide (l.length + m.length ≤ 32) := by
  have h1 := isSeq_all hl
  have h2 := isSeq_all hm
  unfold allIn at h1 h2
  simp only [isSeq, allIn, List.all_append, h1, h2, List.length_append, Bool.and_self, Bool.and_true]
theorem weaveG_seq (l m : List Int) (hs : isSeq l = true) (ht : isSeq m = true) (hlm : l.length = m.length) : isSeq (weaveG l m) = decide (2 * l.length ≤ 32) := by
  have hall : allIn (weaveG l m) 0 3 = true := by
    unfold allIn weaveG gen
    rw [List.all_eq_true]
    intro z hz
    simp only [List.mem_map, List.mem_range] at hz
    obtain ⟨i, hi, rfl⟩ := hz
    have a1 := allIn_getD (isSeq_all hs) (i / 2) (by omega)
    have a2 := allIn_getD (isSeq_all ht) (i / 2) (by omega)
    by_cases hp : i % 2 = 0
    · simp only [if_pos hp, inB, decide_eq_true a1.1, decide_eq_true a1.2, Bool.and_self]
    · simp only [if_neg hp, inB, decide_eq_true a2.1, decide_eq_true a2.2, Bool.and_self]
  unfold isSeq
  rw [hall, Bool.and_true, weaveG_length]
/-- A list, if it is one. -/
def iff (c : Bool) (l : List Int) : List Int := if c then l else []
theorem iff_yes {c : Bool} (l : List Int) (h : c = true) : iff c l = l := by rw [h]; rfl
theorem iff_no {c : Bool} (l : List Int) (h : c = false) : iff c l = [] := by rw [h]; rfl
theorem iff_len (c : Bool) (l : List Int) (h : c = true → l.length ≤ 1048576) : (iff c l).length ≤ 1048576 := by
  cases c with
  | true => exact h rfl
  | false => simp [iff]
def mvOk (a b : List Int) (k : Int) : Bool := goOk a b && inB k 0 3
def jpOk (a b : List Int) (k : Int) : Bool := mvOk a b k && decide (2 * a.length ≤ 32)
def jp (a b : List Int) (k : Int) : List Int := iff (jpOk a b k) (a ++ turnG b k)
def jq (a b : List Int) (k : Int) : List Int := iff (jpOk a b k) (a ++ turnG b (k + 2))
def ipOk (a b : List Int) : Bool := goOk a b && decide (2 * a.length ≤ 32)
def ip (a b : List Int) : List Int := iff (ipOk a b) (weaveG a b)
def iq (a b : List Int) : List Int := iff (ipOk a b) (weaveG a (turnG b 2))
def mtp (a b : List Int) : List Int := iff (goOk a b) (backG (barG b))
def mtq (a b : List Int) : List Int := iff (goOk a b) (turnG (backG (barG a)) 2)
def mvp (a b : List Int) (k : Int) : List Int := iff (mvOk a b k) (climbG a k)
def mvq (a b : List Int) (k : Int) : List Int := iff (mvOk a b k) (climbG b k)
def foOk (a b c d : List Int) : Bool := goOk a b && goOk c d && decide (a.length = c.length)
def jmOk (a b c d : List Int) : Bool := foOk a b c d && decide (2 * a.length ≤ 32)
def jmp (a b c d : List Int) : List Int := iff (jmOk a b c d) (a ++ c)
def jmq (a b c d : List Int) : List Int := iff (jmOk a b c d) (b ++ d)
theorem mvOk_parts {a b : List Int} {k : Int} (h : mvOk a b k = true) : goOk a b = true ∧ 0 ≤ k ∧ k ≤ 3 := by
  simp [mvOk, inB] at h
  exact ⟨h.1, h.2.1, h.2.2⟩
theorem foOk_parts {a b c d : List Int} (h : foOk a b c d = true) : goOk a b = true ∧ goOk c d = true ∧ a.length = c.length := by
  simp [foOk] at h
  exact ⟨h.1.1, h.1.2, h.2⟩
theorem goOk_len {a b : List Int} (h : goOk a b = true) : a.length ≤ 32 ∧ b.length ≤ 32 := by
  obtain ⟨ha, hb, hab, h1⟩ := goOk_parts h
  exact ⟨isSeq_len ha, isSeq_len hb⟩
theorem jp_len (a b : List Int) (k : Int) : (jp a b k).length ≤ 1048576 := iff_len _ _ fun h => by
  have := goOk_len (mvOk_parts (by simp [jpOk] at h; exact h.1)).1
  rw [List.length_append, turnG_length]; omega
theorem jq_len (a b : List Int) (k : Int) : (jq a b k).length ≤ 1048576 := iff_len _ _ fun h => by
  have := goOk_len (mvOk_parts (by simp [jpOk] at h; exact h.1)).1
  rw [List.length_append, turnG_length]; omega
theorem ip_len (a b : List Int) : (ip a b).length ≤ 1048576 := iff_len _ _ fun h => by
  have := goOk_len (show goOk a b = true by simp [ipOk] at h; exact h.1)
  rw [weaveG_length]; omega
theorem iq_len (a b : List Int) : (iq a b).length ≤ 1048576 := iff_len _ _ fun h => by
  have := goOk_len (show goOk a b = true by simp [ipOk] at h; exact h.1)
  rw [weaveG_length]; omega
theorem mtp_len (a b : List Int) : (mtp a b).length ≤ 1048576 := iff_len _ _ fun h => by
  have := goOk_len h
  rw [backG_length, barG_length]; omega
theorem mtq_len (a b : List Int) : (mtq a b).length ≤ 1048576 := iff_len _ _ fun h => by
  have := goOk_len h
  rw [turnG_length, backG_length, barG_length]; omega
theorem mvp_len (a b : List Int) (k : Int) : (mvp a b k).length ≤ 1048576 := iff_len _ _ fun h => by
  have := goOk_len (mvOk_parts h).1
  rw [climbG_length]; omega
theorem mvq_len (a b : List Int) (k : Int) : (mvq a b k).length ≤ 1048576 := iff_len _ _ fun h => by
  have := goOk_len (mvOk_parts h).1
  rw [climbG_length]; omega
theorem jmp_len (a b c d : List Int) : (jmp a b c d).length ≤ 1048576 := iff_len _ _ fun h => by
  have h := foOk_parts (show foOk a b c d = true by simp [jmOk] at h; exact h.1)
  have := goOk_len h.1
  have := goOk_len h.2.1
  rw [List.length_append]; omega
theorem jmq_len (a b c d : List Int) : (jmq a b c d).length ≤ 1048576 := iff_len _ _ fun h => by
  have h := foOk_parts (show foOk a b c d = true by simp [jmOk] at h; exact h.1)
  have := goOk_len h.1
  have := goOk_len h.2.1
  rw [List.length_append]; omega
end Go.Proofs.Ytcagiecgbjnefab
