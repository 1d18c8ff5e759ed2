/- Moves of sequences: one after another is one, and each can be undone: plain. The heads of the classes: plain. -/
import Derived.Test.YtcagiecgbjnefabClR
namespace Go.Proofs.Ytcagiecgbjnefab
set_option maxRecDepth 100000
section

def sgE (c x : Int) : Int := if c = 1 then -x else x
def sgJ (d : Int) (n i : Nat) : Nat := if d = 1 then n - 1 - i else i
theorem cjQ_at (c : Int) (l : List Int) (i : Nat) (hi : i < l.length) : (cjQ c l).getD i 0 % 4 = sgE c (l.getD i 0) % 4 := by
  unfold cjQ sgE
  split
  · unfold barG; rw [gen_getD _ _ _ hi, Int.emod_emod]
  · rfl
theorem bkC_at (d : Int) (l : List Int) (i : Nat) (hi : i < l.length) : (bkC d l).getD i 0 = l.getD (sgJ d l.length i) 0 := by
  unfold bkC sgJ
  split
  · unfold backG; rw [gen_getD _ _ _ hi]
  · rfl
theorem sgJ_lt {d : Int} {n i : Nat} (hi : i < n) : sgJ d n i < n := by unfold sgJ; split <;> omega
theorem clT_is (a b c d : Int) (l : List Int) : clT a b c d l = gen l.length (fun i => (sgE c (l.getD (sgJ d l.length i) 0) + b * i + a) % 4) := by
  unfold clT turnG
  rw [climbG_length, bkC_len, cjQ_len]
  refine gen_ext (fun i hi => ?_)
  unfold climbG
  rw [gen_getD _ _ _ (by rw [bkC_len, cjQ_len]; exact hi), bkC_at d _ i (by rw [cjQ_len]; exact hi), cjQ_len]
  have h := cjQ_at c l (sgJ d l.length i) (sgJ_lt hi)
  generalize (cjQ c l).getD (sgJ d l.length i) 0 = x at h ⊢
  generalize sgE c (l.getD (sgJ d l.length i) 0) = y at h ⊢
  generalize b * (i : Int) = z
  omega
theorem clT_zero (l : List Int) (h : isSeq l = true) : clT 0 0 0 0 l = l := by
  rw [clT_is]
  apply List.ext_getElem
  · rw [gen_length]
  · intro i h1 h2
    have h3 := gen_getElem? l.length (fun i => (sgE 0 (l.getD (sgJ 0 l.length i) 0) + 0 * i + 0) % 4) i h2
    rw [List.getElem?_eq_getElem h1] at h3
    injection h3 with h4
    rw [h4]
    have h5 := dig_seq h _ (List.getElem_mem h2)
    have h6 : sgE 0 (l.getD (sgJ 0 l.length i) 0) = l[i] := by
      unfold sgE sgJ
      rw [if_neg (by omega), if_neg (by omega)]
      simp [List.getD, h2]
    rw [h6]
    omega
/-- Turns and climbs count modulo 4. -/
theorem clT_mod (a b c d : Int) (l : List Int) : clT (a % 4) (b % 4) c d l = clT a b c d l := by
  rw [clT_is, clT_is]
  refine gen_ext (fun i _ => ?_)
  have h : ((b % 4) * (i : Int)) % 4 = (b * i) % 4 := by rw [Int.mul_emod, Int.emod_emod, ← Int.mul_emod]
  generalize (b % 4) * (i : Int) = x at h ⊢
  generalize b * (i : Int) = y at h ⊢
  omega
def bit (x : Int) : Prop := x = 0 ∨ x = 1
theorem clT_after0 (a b c d a' b' c' : Int) (hc : bit c) (hc' : bit c') (l : List Int) :
    clT a' b' c' 0 (clT a b c d l) = clT (sgE c' a + a') (sgE c' b + b') ((c + c') % 2) d l := by
  rw [clT_is a' b' c' 0, clT_len, clT_is (sgE c' a + a')]
  refine gen_ext (fun i hi => ?_)
  have e : sgJ 0 l.length i = i := rfl
  rw [e, clT_is a b c d, gen_getD _ _ _ hi]
  generalize l.getD (sgJ d l.length i) 0 = x
  rw [Int.add_mul]
  have hz : sgE c' b * (i : Int) = sgE c' (b * i) := by unfold sgE; split <;> simp [Int.neg_mul]
  rw [hz]
  generalize b * (i : Int) = y
  generalize b' * (i : Int) = z
  rcases hc with rfl | rfl <;> rcases hc' with rfl | rfl <;> simp [sgE] <;> omega
theorem clT_after1 (a b c d a' b' c' : Int) (hc : bit c) (hc' : bit c') (hd : bit d) (l : List Int) :
    clT a' b' c' 1 (clT a b c d l) = clT (sgE c' (b * ((l.length : Int) - 1) + a) + a') (-sgE c' b + b') ((c + c') % 2) (1 - d) l := by
  rw [clT_is a' b' c' 1, clT_len, clT_is (sgE c' _ + a')]
  refine gen_ext (fun i hi => ?_)
  have e : sgJ 1 l.length i = l.length - 1 - i := rfl
  have hi' : l.length - 1 - i < l.length := by omega
  rw [e, clT_is a b c d, gen_getD _ _ _ hi']
  have e2 : sgJ d l.length (l.length - 1 - i) = sgJ (1 - d) l.length i := by
    unfold sgJ
    rcases hd with rfl | rfl
    · rw [if_neg (by omega), if_pos (by omega)]
    · rw [if_pos rfl, if_neg (by omega)]; omega
  rw [e2]
  generalize l.getD (sgJ (1 - d) l.length i) 0 = x
  have e3 : ((l.length - 1 - i : Nat) : Int) = ((l.length : Int) - 1) - i := by omega
  rw [e3, Int.mul_sub, Int.add_mul]
  have hz : -sgE c' b * (i : Int) = -sgE c' (b * i) := by unfold sgE; split <;> simp [Int.neg_mul]
  rw [hz]
  generalize b * ((l.length : Int) - 1) = u
  generalize b * (i : Int) = y
  generalize b' * (i : Int) = z
  rcases hc with rfl | rfl <;> rcases hc' with rfl | rfl <;> simp [sgE] <;> omega
/-- Every move has its number. -/
theorem clX_any (a b c d : Int) (hc : bit c) (hd : bit d) : ∃ k, k < 64 ∧ ∀ l, clX k l = clT a b c d l := by
  refine ⟨(16 * (a % 4) + 4 * (b % 4) + 2 * c + d).toNat, ?_, fun l => ?_⟩
  · rcases hc with rfl | rfl <;> rcases hd with rfl | rfl <;> omega
  · unfold clX
    rw [← clT_mod a b]
    have h : (((16 * (a % 4) + 4 * (b % 4) + 2 * c + d).toNat : Nat) : Int) = 16 * (a % 4) + 4 * (b % 4) + 2 * c + d := by
      rcases hc with rfl | rfl <;> rcases hd with rfl | rfl <;> omega
    rw [h]
    have h1 : (16 * (a % 4) + 4 * (b % 4) + 2 * c + d) / 16 = a % 4 := by rcases hc with rfl | rfl <;> rcases hd with rfl | rfl <;> omega
    have h2 : (16 * (a % 4) + 4 * (b % 4) + 2 * c + d) / 4 % 4 = b % 4 := by rcases hc with rfl | rfl <;> rcases hd with rfl | rfl <;> omega
    have h3 : (16 * (a % 4) + 4 * (b % 4) + 2 * c + d) / 2 % 2 = c := by rcases hc with rfl | rfl <;> rcases hd with rfl | rfl <;> omega
    have h4 : (16 * (a % 4) + 4 * (b % 4) + 2 * c + d) % 2 = d := by rcases hc with rfl | rfl <;> rcases hd with rfl | rfl <;> omega
    rw [h1, h2, h3, h4]
theorem bitX (k : Nat) : bit ((k : Int) / 2 % 2) ∧ bit ((k : Int) % 2) := by unfold bit; omega
theorem bit_add (c c' : Int) : bit ((c + c') % 2) := by unfold bit; omega
theorem bit_sub {d : Int} (h : bit d) : bit (1 - d) := by unfold bit at *; omega
theorem clX_after (i j : Nat) (l : List Int) : ∃ k, k < 64 ∧ clX j (clX i l) = clX k l := by
  unfold clX
  rcases (bitX j).2 with h | h
  · rw [h, clT_after0 _ _ _ _ _ _ _ (bitX i).1 (bitX j).1]
    obtain ⟨k, hk, e⟩ := clX_any (sgE ((j : Int) / 2 % 2) ((i : Int) / 16) + (j : Int) / 16) (sgE ((j : Int) / 2 % 2) ((i : Int) / 4 % 4) + (j : Int) / 4 % 4) (((i : Int) / 2 % 2 + (j : Int) / 2 % 2) % 2) ((i : Int) % 2) (bit_add _ _) (bitX i).2
    exact ⟨k, hk, (e l).symm⟩
  · rw [h, clT_after1 _ _ _ _ _ _ _ (bitX i).1 (bitX j).1 (bitX i).2]
    obtain ⟨k, hk, e⟩ := clX_any (sgE ((j : Int) / 2 % 2) ((i : Int) / 4 % 4 * ((l.length : Int) - 1) + (i : Int) / 16) + (j : Int) / 16) (-sgE ((j : Int) / 2 % 2) ((i : Int) / 4 % 4) + (j : Int) / 4 % 4) (((i : Int) / 2 % 2 + (j : Int) / 2 % 2) % 2) (1 - (i : Int) % 2) (bit_add _ _) (bit_sub (bitX i).2)
    exact ⟨k, hk, (e l).symm⟩
theorem clX_undo (i : Nat) (l : List Int) (hs : isSeq l = true) : ∃ k, k < 64 ∧ clX k (clX i l) = l := by
  have hc := (bitX i).1
  have hd := (bitX i).2
  generalize hA : (i : Int) / 16 = A
  generalize hB : (i : Int) / 4 % 4 = B
  have e0 : clX i l = clT A B ((i : Int) / 2 % 2) ((i : Int) % 2) l := by unfold clX; rw [hA, hB]
  rw [e0]
  generalize (i : Int) / 2 % 2 = C at hc ⊢
  generalize (i : Int) % 2 = D at hd ⊢
  have hcc : (C + C) % 2 = 0 := by omega
  rcases hd with rfl | rfl
  · obtain ⟨k, hk, e⟩ := clX_any (-sgE C A) (-sgE C B) C 0 hc (Or.inl rfl)
    refine ⟨k, hk, ?_⟩
    rw [e, clT_after0 _ _ _ _ _ _ _ hc hc, hcc, Int.add_right_neg, Int.add_right_neg]
    exact clT_zero l hs
  · obtain ⟨k, hk, e⟩ := clX_any (-sgE C (B * ((l.length : Int) - 1) + A)) (sgE C B) C 1 hc (Or.inr rfl)
    refine ⟨k, hk, ?_⟩
    rw [e, clT_after1 _ _ _ _ _ _ _ hc hc (Or.inr rfl), hcc, Int.add_right_neg, Int.add_left_neg]
    exact clT_zero l hs
/-- Two sequences are of one class. -/
def eqv (l t : List Int) : Prop := ∃ i, i < 64 ∧ t = clX i l
theorem eqv.refl (l : List Int) (hs : isSeq l = true) : eqv l l := ⟨0, by omega, (by show l = clT _ _ _ _ l; exact (clT_zero l hs).symm)⟩
theorem eqv.symm {l t : List Int} (h : eqv l t) (hs : isSeq l = true) : eqv t l := by
  obtain ⟨i, -, rfl⟩ := h
  obtain ⟨k, hk, e⟩ := clX_undo i l hs
  exact ⟨k, hk, e.symm⟩
theorem eqv.trans {l t u : List Int} (h : eqv l t) (h' : eqv t u) : eqv l u := by
  obtain ⟨i, -, rfl⟩ := h
  obtain ⟨j, -, rfl⟩ := h'
  obtain ⟨k, hk, e⟩ := clX_after i j l
  exact ⟨k, hk, e⟩
theorem eqv.seq {l t : List Int} (h : eqv l t) (hs : isSeq l = true) : isSeq t = true ∧ t.length = l.length := by
  obtain ⟨i, -, rfl⟩ := h
  exact ⟨clX_seq i l hs, clX_len i l⟩
/-- The sequence of a class with the least rank. -/
def leX (l : List Int) : List Int := (orL l 64).getD 0 []
theorem leX_eqv (l : List Int) (hs : isSeq l = true) : eqv l (leX l) := by
  have h := orL_pos l 63
  have hm : leX l ∈ orL l 64 := by unfold leX; rw [getD_at _ _ h]; exact List.getElem_mem h
  exact ((orL_all l hs 64).2.1 _).1 hm
theorem leX_same {l t : List Int} (hs : isSeq l = true) (h : eqv l t) : leX t = leX l := by
  have ht := (h.seq hs).1
  have e : orL t 64 = orL l 64 := rise_eq _ _ (orL_all t ht 64).2.2 (orL_all l hs 64).2.2 (fun x => by
    rw [(orL_all t ht 64).2.1, (orL_all l hs 64).2.1]
    exact ⟨fun h' => h.trans h', fun h' => (h.symm hs).trans h'⟩)
  unfold leX
  rw [e]
theorem leX_iff {l t : List Int} (hs : isSeq l = true) (ht : isSeq t = true) : eqv l t ↔ leX t = leX l :=
  ⟨leX_same hs, fun e => (leX_eqv l hs).trans (e ▸ (leX_eqv t ht).symm ht)⟩
theorem leX_leX (l : List Int) (hs : isSeq l = true) : leX (leX l) = leX l := leX_same hs (leX_eqv l hs)
end
section

theorem rk_low (k : Nat) : ∀ n, rk (lowD (k : Int) n) = ((k % 4 ^ n : Nat) : Int)
  | 0 => by simp [lowD, rk, Nat.mod_one]
  | n + 1 => by
    show (((k : Int) / 4 ^ n) % 4) * 4 ^ (lowD (k : Int) n).length + rk (lowD (k : Int) n) = _
    rw [rk_low k n, lowD_length, Nat.pow_succ, Nat.mod_mul]
    have e : ((4 : Int) ^ n) = ((4 ^ n : Nat) : Int) := by simp
    rw [e]
    generalize 4 ^ n = P
    have e2 : (k : Int) / (P : Int) % 4 = ((k / P % 4 : Nat) : Int) := by simp
    rw [e2]
    generalize k / P % 4 = q
    generalize k % P = r
    rw [Int.natCast_add, Int.natCast_mul, Int.mul_comm (q : Int)]
    omega
theorem sq_low {s : List Int} {n : Nat} (hn : n ≤ 15) (h : isSeq s = true) (hl : s.length = n) : ∃ k, k < pow4' n ∧ s = lowD (k : Int) n := by
  have hi := rk_in s (dig_seq h)
  rw [hl] at hi
  have e : ((4 : Int) ^ n) = ((4 ^ n : Nat) : Int) := by simp
  rw [e] at hi
  have hk : (rk s).toNat < 4 ^ n := by omega
  refine ⟨(rk s).toNat, hk, rk_inj _ _ (by rw [hl, lowD_length]) (dig_seq h) (dig_seq (low_seq _ n hn)) ?_⟩
  rw [rk_low, Nat.mod_eq_of_lt hk]
  omega
/-- The heads among the sequences with the first k ranks. -/
def hdX (n : Nat) : Nat → List (List Int)
  | 0 => []
  | k + 1 => hdX n k ++ if leX (lowD (k : Int) n) = lowD (k : Int) n then [lowD (k : Int) n] else []
theorem hdX_len (n : Nat) : ∀ k, (hdX n k).length ≤ k
  | 0 => Nat.le_refl _
  | k + 1 => by
    have := hdX_len n k
    simp only [hdX, List.length_append]
    split <;> simp <;> omega
theorem hdX_mem (n : Nat) (x : List Int) : ∀ k, x ∈ hdX n k ↔ ∃ i, i < k ∧ x = lowD ((i : Nat) : Int) n ∧ leX x = x
  | 0 => by simp [hdX]
  | k + 1 => by
    simp only [hdX, List.mem_append, hdX_mem n x k]
    constructor
    · rintro (⟨i, hi, rfl, he⟩ | h)
      · exact ⟨i, by omega, rfl, he⟩
      · split at h
        · rename_i he
          obtain rfl := List.mem_singleton.1 h
          exact ⟨k, by omega, rfl, he⟩
        · cases h
    · rintro ⟨i, hi, rfl, he⟩
      rcases Nat.lt_succ_iff_lt_or_eq.1 hi with h | rfl
      · exact Or.inl ⟨i, h, rfl, he⟩
      · exact Or.inr (by rw [if_pos he]; exact List.mem_singleton.2 rfl)
theorem hdX_up (n : Nat) : ∀ k, k ≤ 4 ^ n → (hdX n k).Pairwise (fun a b => rk a < rk b)
  | 0, _ => List.Pairwise.nil
  | k + 1, hk => by
    simp only [hdX]
    refine List.pairwise_append.2 ⟨hdX_up n k (by omega), ?_, fun a ha b hb => ?_⟩
    · split
      · exact List.pairwise_singleton _ _
      · exact List.Pairwise.nil
    · obtain ⟨i, hi, rfl, -⟩ := (hdX_mem n a k).1 ha
      split at hb
      · obtain rfl := List.mem_singleton.1 hb
        rw [rk_low, rk_low, Nat.mod_eq_of_lt (by omega), Nat.mod_eq_of_lt (by omega)]
        omega
      · cases hb
def hdA (n : Nat) : List (List Int) := hdX n (pow4' n)
theorem hdA_mem (n : Nat) (hn : n ≤ 15) (x : List Int) : x ∈ hdA n ↔ (isSeq x = true ∧ x.length = n) ∧ leX x = x := by
  unfold hdA
  rw [hdX_mem]
  constructor
  · rintro ⟨i, hi, rfl, he⟩
    exact ⟨⟨low_seq _ n hn, lowD_length _ _⟩, he⟩
  · rintro ⟨⟨h1, h2⟩, he⟩
    obtain ⟨k, hk, e⟩ := sq_low hn h1 h2
    exact ⟨k, hk, e, he⟩
theorem hdA_up (n : Nat) : (hdA n).Pairwise (fun a b => rk a < rk b) := hdX_up n _ (Nat.le_refl _)
theorem hdA_pos (n : Nat) (hn : n ≤ 15) : 0 < (hdA n).length := by
  have h := low_seq 0 n hn
  have h1 := leX_eqv _ h
  have h2 := h1.seq h
  exact List.length_pos_of_mem ((hdA_mem n hn (leX (lowD 0 n))).2 ⟨⟨h2.1, by rw [h2.2, lowD_length]⟩, leX_leX _ h⟩)
def hcV (n : Int) : Int := if inB n 0 5 then ((hdA n.toNat).length : Nat) else 0
def hdF (n : Int) : List (List Int) := if inB n 0 4 then hdA n.toNat else []
def heF (n : Int) : List Int := if inB n 0 4 then (hdA n.toNat).map sideE else []
theorem hdA_len (n : Nat) (hn : n ≤ 5) : (hdA n).length ≤ 1024 := by
  have h := hdX_len n (pow4' n)
  have h2 : pow4' n ≤ 4 ^ 5 := Nat.pow_le_pow_right (by omega) hn
  unfold hdA
  omega
theorem hdF_tot (n : Int) : tot (hdF n) ≤ 1048576 := by
  unfold hdF
  split
  · rename_i h
    have h1 : 0 ≤ n ∧ n ≤ 4 := by unfold inB at h; simpa using h
    have h2 := tot_le_all (hdA n.toNat) n.toNat (fun y hy => by rw [((hdA_mem n.toNat (by omega) y).1 hy).1.2]; exact Nat.le_refl _)
    have h3 := hdA_len n.toNat (by omega)
    have h4 : (hdA n.toNat).length * n.toNat ≤ 1024 * 4 := Nat.mul_le_mul h3 (by omega)
    omega
  · simp [tot]
theorem heF_len (n : Int) : (heF n).length ≤ 1048576 := by
  unfold heF
  split
  · rename_i h
    have h1 : 0 ≤ n ∧ n ≤ 4 := by unfold inB at h; simpa using h
    have h3 := hdA_len n.toNat (by omega)
    rw [List.length_map]
    omega
  · simp
end
end Go.Proofs.Ytcagiecgbjnefab
