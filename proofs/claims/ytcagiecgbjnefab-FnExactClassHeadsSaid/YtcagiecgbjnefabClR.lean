/- Orbits in the order of ranks: plain. -/
import Derived.Test.YtcagiecgbjnefabClN
namespace Go.Proofs.Ytcagiecgbjnefab
set_option maxRecDepth 100000
open Go.RowKit

/-- The rank, digit by digit. -/
def rk : List Int → Int
  | [] => 0
  | a :: x => a * 4 ^ x.length + rk x
theorem rank_fold (l : List Int) : ∀ c : Int, l.foldl (fun n k => 4 * n + k) c = c * 4 ^ l.length + rk l := by
  induction l with
  | nil => intro c; simp [rk]
  | cons a x ih =>
    intro c
    simp only [List.foldl_cons, List.length_cons, rk]
    rw [ih, Int.pow_succ, Int.add_mul, Int.mul_comm 4 c, Int.mul_assoc, Int.mul_comm 4 (4 ^ x.length)]
    omega
theorem rank_rk (l : List Int) : rankF l = rk l := by
  unfold rankF
  rw [rank_fold, Int.zero_mul, Int.zero_add]
def dig (l : List Int) : Prop := ∀ x ∈ l, 0 ≤ x ∧ x ≤ 3
theorem dig_seq {l : List Int} (h : isSeq l = true) : dig l := by
  intro x hx
  obtain ⟨i, hi, rfl⟩ := List.getElem_of_mem hx
  have := allIn_getD (isSeq_all h) i hi
  simpa [List.getD, hi] using this
theorem rk_in (l : List Int) (h : dig l) : 0 ≤ rk l ∧ rk l < 4 ^ l.length := by
  induction l with
  | nil => simp [rk]
  | cons a x ih =>
    obtain ⟨i1, i2⟩ := ih (fun y hy => h y (by simp [hy]))
    obtain ⟨a1, a2⟩ := h a (by simp)
    simp only [rk, List.length_cons, Int.pow_succ]
    have hp : (0 : Int) ≤ 4 ^ x.length := Int.le_trans i1 (Int.le_of_lt i2)
    obtain ⟨P, hP⟩ : ∃ P : Int, P = 4 ^ x.length := ⟨_, rfl⟩
    rw [← hP] at i2 hp ⊢
    rcases (show a = 0 ∨ a = 1 ∨ a = 2 ∨ a = 3 by omega) with rfl | rfl | rfl | rfl <;> omega
/-- Compared by the first place where they differ. -/
def cmpI : List Int → List Int → Int
  | a :: x, b :: y => if a < b then -1 else if b < a then 1 else cmpI x y
  | _, _ => 0
theorem cmpI_rk : ∀ x y : List Int, x.length = y.length → dig x → dig y → (cmpI x y < 0 ↔ rk x < rk y)
  | [], [], _, _, _ => by simp [cmpI, rk]
  | a :: x, b :: y, hl, hx, hy => by
    have hl' : x.length = y.length := by simpa using hl
    have ih := cmpI_rk x y hl' (fun z hz => hx z (by simp [hz])) (fun z hz => hy z (by simp [hz]))
    obtain ⟨x1, x2⟩ := rk_in x (fun z hz => hx z (by simp [hz]))
    obtain ⟨y1, y2⟩ := rk_in y (fun z hz => hy z (by simp [hz]))
    obtain ⟨a1, a2⟩ := hx a (by simp)
    obtain ⟨b1, b2⟩ := hy b (by simp)
    simp only [cmpI, rk]
    rw [hl'] at x2 ⊢
    obtain ⟨P, hP⟩ : ∃ P : Int, P = 4 ^ y.length := ⟨_, rfl⟩
    rw [← hP] at x2 y2 ⊢
    by_cases h1 : a < b
    · rw [if_pos h1]
      rcases (show (a = 0 ∧ (b = 1 ∨ b = 2 ∨ b = 3)) ∨ (a = 1 ∧ (b = 2 ∨ b = 3)) ∨ (a = 2 ∧ b = 3) by omega) with ⟨rfl, rfl | rfl | rfl⟩ | ⟨rfl, rfl | rfl⟩ | ⟨rfl, rfl⟩ <;> omega
    · rw [if_neg h1]
      by_cases h2 : b < a
      · rw [if_pos h2]
        rcases (show (b = 0 ∧ (a = 1 ∨ a = 2 ∨ a = 3)) ∨ (b = 1 ∧ (a = 2 ∨ a = 3)) ∨ (b = 2 ∧ a = 3) by omega) with ⟨rfl, rfl | rfl | rfl⟩ | ⟨rfl, rfl | rfl⟩ | ⟨rfl, rfl⟩ <;> omega
      · rw [if_neg h2]
        obtain rfl : a = b := by omega
        omega
theorem rk_inj : ∀ x y : List Int, x.length = y.length → dig x → dig y → rk x = rk y → x = y
  | [], [], _, _, _, _ => rfl
  | a :: x, b :: y, hl, hx, hy, h => by
    have hl' : x.length = y.length := by simpa using hl
    obtain ⟨x1, x2⟩ := rk_in x (fun z hz => hx z (by simp [hz]))
    obtain ⟨y1, y2⟩ := rk_in y (fun z hz => hy z (by simp [hz]))
    obtain ⟨a1, a2⟩ := hx a (by simp)
    obtain ⟨b1, b2⟩ := hy b (by simp)
    have ih := rk_inj x y hl' (fun z hz => hx z (by simp [hz])) (fun z hz => hy z (by simp [hz]))
    simp only [rk] at h
    rw [hl'] at x2 h
    obtain ⟨P, hP⟩ : ∃ P : Int, P = 4 ^ y.length := ⟨_, rfl⟩
    rw [← hP] at x2 y2 h
    have hab : a = b := by
      rcases (show a = 0 ∨ a = 1 ∨ a = 2 ∨ a = 3 by omega) with rfl | rfl | rfl | rfl <;> rcases (show b = 0 ∨ b = 1 ∨ b = 2 ∨ b = 3 by omega) with rfl | rfl | rfl | rfl <;> omega
    subst hab
    rw [ih (by omega)]
theorem cmpI_pad : ∀ x y z : List Int, x.length = y.length → cmpI (x ++ z) (y ++ z) = cmpI x y
  | [], [], z, _ => by
    induction z with
    | nil => rfl
    | cons a z ih => simpa [cmpI] using ih
  | a :: x, b :: y, z, h => by
    simp only [List.cons_append, cmpI]
    rw [cmpI_pad x y z (by simpa using h)]
/-- Two lists of different ranks, rising, of the same members are one. -/
theorem rise_eq : ∀ L1 L2 : List (List Int), L1.Pairwise (fun a b => rk a < rk b) → L2.Pairwise (fun a b => rk a < rk b) → (∀ x, x ∈ L1 ↔ x ∈ L2) → L1 = L2
  | [], [], _, _, _ => rfl
  | [], b :: L2, _, _, h => absurd ((h b).2 (by simp)) (by simp)
  | a :: L1, [], _, _, h => absurd ((h a).1 (by simp)) (by simp)
  | a :: L1, b :: L2, h1, h2, h => by
    obtain ⟨a1, a2⟩ := List.pairwise_cons.1 h1
    obtain ⟨b1, b2⟩ := List.pairwise_cons.1 h2
    have hab : a = b := by
      rcases List.mem_cons.1 ((h a).1 (by simp)) with e | e
      · exact e
      · rcases List.mem_cons.1 ((h b).2 (by simp)) with e2 | e2
        · exact e2.symm
        · have := a1 b e2; have := b1 a e; omega
    subst hab
    congr 1
    refine rise_eq L1 L2 a2 b2 (fun x => ⟨fun hx => ?_, fun hx => ?_⟩)
    · rcases List.mem_cons.1 ((h x).1 (by simp [hx])) with e | e
      · subst e; have := a1 x hx; omega
      · exact e
    · rcases List.mem_cons.1 ((h x).2 (by simp [hx])) with e | e
      · subst e; have := b1 x hx; omega
      · exact e
/-- A sequence laid into a list that rises, unless its rank is there. -/
def insK (t : List Int) : List (List Int) → List (List Int)
  | [] => [t]
  | a :: L => if rk a < rk t then a :: insK t L else if rk a = rk t then a :: L else t :: a :: L
/-- How many are below. -/
def cntK (r : Int) : List (List Int) → Nat
  | [] => 0
  | a :: L => if rk a < r then cntK r L + 1 else 0
theorem cntK_le (r : Int) (L : List (List Int)) : cntK r L ≤ L.length := by
  induction L with
  | nil => simp [cntK]
  | cons a L ih => simp only [cntK, List.length_cons]; split <;> omega
theorem insK_yes (t : List Int) : ∀ L : List (List Int), cntK (rk t) L < L.length → rk (L.getD (cntK (rk t) L) []) = rk t → insK t L = L
  | [], h, _ => absurd h (Nat.not_lt_zero _)
  | a :: L, h, h2 => by
    have hc : cntK (rk t) (a :: L) = if rk a < rk t then cntK (rk t) L + 1 else 0 := rfl
    simp only [insK]
    by_cases h1 : rk a < rk t
    · rw [if_pos h1] at hc ⊢
      rw [hc] at h h2
      rw [insK_yes t L (by simpa using h) (by simpa using h2)]
    · rw [if_neg h1] at hc ⊢
      rw [hc] at h2
      rw [if_pos (by simpa using h2)]
theorem insK_no (t : List Int) : ∀ L : List (List Int), (cntK (rk t) L < L.length → rk (L.getD (cntK (rk t) L) []) ≠ rk t) → insK t L = L.take (cntK (rk t) L) ++ t :: L.drop (cntK (rk t) L)
  | [], _ => rfl
  | a :: L, h => by
    have hc : cntK (rk t) (a :: L) = if rk a < rk t then cntK (rk t) L + 1 else 0 := rfl
    simp only [insK]
    by_cases h1 : rk a < rk t
    · rw [if_pos h1] at hc ⊢
      rw [hc] at h ⊢
      rw [insK_no t L (fun h3 => by have := h (by simpa using h3); simpa using this)]
      rfl
    · rw [if_neg h1] at hc ⊢
      rw [hc] at h ⊢
      rw [if_neg (by have := h (by simp); simpa using this)]
      rfl
theorem cntK_is (r : Int) (L : List (List Int)) (j : Nat) (hj : j ≤ L.length) (hlo : ∀ i, i < j → rk (L.getD i []) < r) (hhi : j < L.length → ¬ rk (L.getD j []) < r) : cntK r L = j := by
  induction L generalizing j with
  | nil => simp at hj; simp [cntK, hj]
  | cons a L ih =>
    simp only [cntK]
    cases j with
    | zero =>
      have := hhi (by simp)
      rw [if_neg (by simpa using this)]
    | succ j =>
      have := hlo 0 (by omega)
      rw [if_pos (by simpa using this)]
      rw [ih j (by simpa using hj) (fun i hi => by have := hlo (i + 1) (by omega); simpa using this) (fun h => by have := hhi (by simpa using h); simpa using this)]
theorem insK_mem (t : List Int) (n : Nat) (ht : t.length = n ∧ dig t) (x : List Int) : ∀ L : List (List Int), (∀ y ∈ L, y.length = n ∧ dig y) → (x ∈ insK t L ↔ x = t ∨ x ∈ L)
  | [], _ => by simp [insK]
  | a :: L, hL => by
    simp only [insK]
    split
    · rw [List.mem_cons, insK_mem t n ht x L (fun y hy => hL y (by simp [hy])), List.mem_cons]
      constructor
      · rintro (h | h | h) <;> simp [h]
      · rintro (h | h | h) <;> simp [h]
    · split
      · rename_i h2
        have : a = t := rk_inj a t (by rw [(hL a (by simp)).1, ht.1]) (hL a (by simp)).2 ht.2 h2
        subst this
        simp
      · simp
theorem insK_up (t : List Int) (n : Nat) (ht : t.length = n ∧ dig t) : ∀ L : List (List Int), (∀ y ∈ L, y.length = n ∧ dig y) → L.Pairwise (fun a b => rk a < rk b) → (insK t L).Pairwise (fun a b => rk a < rk b)
  | [], _, _ => by simp [insK]
  | a :: L, hL, hp => by
    obtain ⟨h1, h2⟩ := List.pairwise_cons.1 hp
    simp only [insK]
    split
    · rename_i h
      refine List.pairwise_cons.2 ⟨fun b hb => ?_, insK_up t n ht L (fun y hy => hL y (by simp [hy])) h2⟩
      rcases (insK_mem t n ht b L (fun y hy => hL y (by simp [hy]))).1 hb with rfl | e
      · exact h
      · exact h1 b e
    · split
      · exact hp
      · rename_i h3 h4
        refine List.pairwise_cons.2 ⟨fun b hb => ?_, hp⟩
        rcases List.mem_cons.1 hb with rfl | e
        · omega
        · have := h1 b e; omega
/-- What the first k moves make of a sequence, in the order of ranks. -/
def orL (l : List Int) : Nat → List (List Int)
  | 0 => []
  | k + 1 => insK (clX k l) (orL l k)
theorem orL_all (l : List Int) (hs : isSeq l = true) : ∀ k, (∀ y ∈ orL l k, y.length = l.length ∧ isSeq y = true) ∧ (∀ x, x ∈ orL l k ↔ ∃ i, i < k ∧ x = clX i l) ∧ (orL l k).Pairwise (fun a b => rk a < rk b)
  | 0 => ⟨by simp [orL], by simp [orL], by simp [orL]⟩
  | k + 1 => by
    obtain ⟨h1, h2, h3⟩ := orL_all l hs k
    have ht : (clX k l).length = l.length ∧ dig (clX k l) := ⟨clX_len k l, dig_seq (clX_seq k l hs)⟩
    have hL : ∀ y ∈ orL l k, y.length = l.length ∧ dig y := fun y hy => ⟨(h1 y hy).1, dig_seq (h1 y hy).2⟩
    have hm : ∀ x, x ∈ orL l (k + 1) ↔ ∃ i, i < k + 1 ∧ x = clX i l := fun x => by
      show x ∈ insK (clX k l) (orL l k) ↔ _
      rw [insK_mem _ l.length ht x _ hL, h2]
      constructor
      · rintro (rfl | ⟨i, hi, rfl⟩)
        · exact ⟨k, by omega, rfl⟩
        · exact ⟨i, by omega, rfl⟩
      · rintro ⟨i, hi, rfl⟩
        rcases Nat.lt_succ_iff_lt_or_eq.1 hi with h | h
        · exact Or.inr ⟨i, h, rfl⟩
        · exact Or.inl (by rw [h])
    refine ⟨fun y hy => ?_, hm, insK_up _ l.length ht _ hL h3⟩
    obtain ⟨i, hi, rfl⟩ := (hm y).1 hy
    exact ⟨clX_len i l, clX_seq i l hs⟩
theorem insK_len (t : List Int) (L : List (List Int)) : (insK t L).length ≤ L.length + 1 := by
  induction L with
  | nil => simp [insK]
  | cons a L ih => simp only [insK, List.length_cons]; split <;> (try split) <;> simp only [List.length_cons] <;> omega
theorem insK_pos (t : List Int) (L : List (List Int)) : 0 < (insK t L).length := by
  cases L with
  | nil => simp [insK]
  | cons a L => simp only [insK]; split <;> (try split) <;> simp
theorem orL_len (l : List Int) : ∀ k, (orL l k).length ≤ k
  | 0 => Nat.zero_le _
  | k + 1 => by have h1 := orL_len l k; have h2 := insK_len (clX k l) (orL l k); simp only [orL]; omega
theorem orL_pos (l : List Int) (k : Nat) : 0 < (orL l (k + 1)).length := insK_pos _ _
def orF (l : List Int) : List (List Int) := if ranked l then orL l 64 else []
def lsF9 (l : List Int) : List Int := if ranked l then (orL l 64).getD 0 [] else []
def eqF9 (l t : List Int) : Bool := bothR l t && (decide (l.length = t.length) && decide ((orL l 64).getD 0 [] = (orL t 64).getD 0 []))
theorem least_in (l : List Int) (hs : isSeq l = true) : isSeq ((orL l 64).getD 0 []) = true ∧ ((orL l 64).getD 0 []).length = l.length := by
  have h := orL_pos l 63
  have hm : (orL l 64).getD 0 [] ∈ orL l 64 := by
    rw [getD_at _ _ h]; exact List.getElem_mem h
  exact ⟨((orL_all l hs 64).1 _ hm).2, ((orL_all l hs 64).1 _ hm).1⟩
theorem tot_le_all (L : List (List Int)) (n : Nat) (h : ∀ y ∈ L, y.length ≤ n) : tot L ≤ L.length * n := by
  induction L with
  | nil => simp [tot]
  | cons a L ih =>
    have h1 := ih (fun y hy => h y (by simp [hy]))
    have h2 := h a (by simp)
    simp only [tot, List.length_cons, Nat.add_mul, Nat.one_mul]; omega
theorem orF_tot (l : List Int) : tot (orF l) ≤ 1048576 := by
  unfold orF; split
  · rename_i h
    obtain ⟨hs, h15⟩ := ranked_seq h
    have h1 := tot_le_all (orL l 64) 15 (fun y hy => by rw [((orL_all l hs 64).1 y hy).1]; exact h15)
    have h2 := orL_len l 64
    omega
  · exact Nat.zero_le _
theorem lsF9_len (l : List Int) : (lsF9 l).length ≤ 1048576 := by
  unfold lsF9; split
  · rename_i h
    obtain ⟨hs, h15⟩ := ranked_seq h
    rw [(least_in l hs).2]; omega
  · exact Nat.zero_le _
end Go.Proofs.Ytcagiecgbjnefab
