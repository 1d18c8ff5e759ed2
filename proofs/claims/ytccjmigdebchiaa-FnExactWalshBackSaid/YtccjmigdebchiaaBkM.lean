/- Transforms undone, plainly: both ways the numbers come back so many times; lists divided. -/
import Derived.Test.YtccjmigdebchiaaWaM
namespace Go.Proofs.Ytccjmigdebchiaa

set_option maxRecDepth 100000
def sP (g : Nat → Int × Int) (k : Nat) : Int × Int := (sumN (fun i => (g i).1) k, sumN (fun i => (g i).2) k)
theorem sP_ext {f g : Nat → Int × Int} {n : Nat} (h : ∀ i, i < n → f i = g i) : sP f n = sP g n :=
  Prod.ext (sumN_congr' (fun i hi => by rw [h i hi])) (sumN_congr' (fun i hi => by rw [h i hi]))
theorem stF_sP (w b s : Nat) (Z : Nat → Int × Int) (c p : Nat) (hp : p < b * s) : stF w b s Z (c * (b * s) + p) = sP (fun d => dtT ((w * (p / s * d) % 4 : Nat) : Int) (Z (c * (b * s) + (p % s + d * s)))) b := stF_at w b s Z c p hp
/-- A block of a transform speaks of a block alone. -/
theorem tr_local (w b : Nat) : ∀ (k : Nat) (Z Y : Nat → Int × Int) (c c' q : Nat), q < b ^ k → (∀ i, i < b ^ k → Z (c * b ^ k + i) = Y (c' * b ^ k + i)) → trF w b k Z (c * b ^ k + q) = trF w b k Y (c' * b ^ k + q)
  | 0, Z, Y, c, c', q, hq, h => h q hq
  | k + 1, Z, Y, c, c', q, hq, h => by
    have ih := tr_local w b k
    obtain ⟨s, hs⟩ : ∃ s, s = b ^ k := ⟨_, rfl⟩
    have e : b ^ (k + 1) = b * s := by rw [hs, Nat.pow_succ']
    rw [e] at hq h ⊢
    rw [← hs] at ih
    have hs0 : 0 < s := Nat.pos_of_ne_zero (fun h0 => by rw [h0] at hq; omega)
    show stF w b (b ^ k) (trF w b k Z) _ = stF w b (b ^ k) (trF w b k Y) _
    rw [← hs, stF_sP _ _ _ _ _ _ hq, stF_sP _ _ _ _ _ _ hq]
    refine sP_ext (fun d hd => ?_)
    have i1 : ∀ (c r : Nat), c * (b * s) + (r + d * s) = (c * b + d) * s + r := fun c r => by rw [Nat.add_mul, Nat.mul_assoc]; omega
    rw [i1, i1, ih Z Y (c * b + d) (c' * b + d) (q % s) (Nat.mod_lt _ hs0) (fun i hi => ?_)]
    have := h (i + d * s) (by
      have h2 : (d + 1) * s ≤ b * s := Nat.mul_le_mul_right _ (by omega)
      rw [Nat.add_mul] at h2
      omega)
    rw [i1, i1] at this
    exact this
theorem tr_top (w b k : Nat) (Z : Nat → Int × Int) (d q : Nat) (hd : d < b) (hq : q < b ^ k) : trF w b (k + 1) Z (d * b ^ k + q) = sP (fun e => dtT ((w * (d * e) % 4 : Nat) : Int) (trF w b k Z (e * b ^ k + q))) b := by
  obtain ⟨s, hs⟩ : ∃ s, s = b ^ k := ⟨_, rfl⟩
  rw [← hs] at hq ⊢
  have hlt : d * s + q < b * s := by
    have h2 : (d + 1) * s ≤ b * s := Nat.mul_le_mul_right _ (by omega)
    rw [Nat.add_mul] at h2
    omega
  have h := stF_sP w b s (trF w b k Z) 0 (d * s + q) hlt
  have e1 : (d * s + q) / s = d := by rw [Nat.mul_comm, Nat.mul_add_div (by omega), Nat.div_eq_of_lt hq, Nat.add_zero]
  have e2 : (d * s + q) % s = q := by rw [Nat.mul_comm, Nat.mul_add_mod, Nat.mod_eq_of_lt hq]
  rw [e1, e2, Nat.zero_mul, Nat.zero_add] at h
  show stF w b (b ^ k) (trF w b k Z) _ = _
  rw [← hs, h]
  exact sP_ext (fun e _ => by rw [Nat.zero_add, Nat.add_comm])
theorem sumN_plus (f g : Nat → Int) : ∀ n, sumN (fun i => f i + g i) n = sumN f n + sumN g n
  | 0 => rfl
  | n + 1 => by simp only [sumN]; rw [sumN_plus f g n]; omega
theorem sumN_turn (g : Nat → Nat → Int) (n : Nat) : ∀ m, sumN (fun i => sumN (fun j => g i j) n) m = sumN (fun j => sumN (fun i => g i j) m) n
  | 0 => by
    have : ∀ n, sumN (fun _ => (0 : Int)) n = 0 := fun n => by induction n with
      | zero => rfl
      | succ n ih => simp only [sumN]; rw [ih]; rfl
    exact (this n).symm
  | m + 1 => by simp only [sumN]; rw [sumN_turn g n m, ← sumN_plus]
theorem dtT_sP (k : Int) (g : Nat → Int × Int) (n : Nat) : dtT k (sP g n) = sP (fun i => dtT k (g i)) n := dtT_sum k (fun i => (g i).1) (fun i => (g i).2) n
theorem sP_turn (g : Nat → Nat → Int × Int) (n m : Nat) : sP (fun i => sP (fun j => g i j) n) m = sP (fun j => sP (fun i => g i j) m) n :=
  Prod.ext (sumN_turn (fun i j => (g i j).1) n m) (sumN_turn (fun i j => (g i j).2) n m)
theorem dtT_swap (a b : Int) (ha : 0 ≤ a ∧ a ≤ 3) (hb : 0 ≤ b ∧ b ≤ 3) (z : Int × Int) : dtT a (dtT b z) = dtT b (dtT a z) := by
  rw [dtT_comp a b ha hb, dtT_comp b a hb ha, Int.add_comm]
theorem tr_lin (w b m : Nat) (a : Nat → Int) (ha : ∀ f, 0 ≤ a f ∧ a f ≤ 3) (Y : Nat → Nat → Int × Int) : ∀ (k q : Nat), trF w b k (fun i => sP (fun f => dtT (a f) (Y f i)) m) q = sP (fun f => dtT (a f) (trF w b k (Y f) q)) m
  | 0, _ => rfl
  | k + 1, q => by
    have ih : trF w b k (fun i => sP (fun f => dtT (a f) (Y f i)) m) = fun q => sP (fun f => dtT (a f) (trF w b k (Y f) q)) m := funext (tr_lin w b m a ha Y k)
    show stF w b (b ^ k) (trF w b k _) q = sP (fun f => dtT (a f) (stF w b (b ^ k) (trF w b k (Y f)) q)) m
    rw [ih]
    have e : ∀ Z : Nat → Int × Int, stF w b (b ^ k) Z q = sP (fun d => dtT ((w * (q % (b * b ^ k) / b ^ k * d) % 4 : Nat) : Int) (Z (q / (b * b ^ k) * (b * b ^ k) + (q % (b * b ^ k) % b ^ k + d * b ^ k)))) b := fun Z => rfl
    rw [e]
    simp only [dtT_sP]
    rw [sP_turn]
    refine sP_ext (fun f _ => ?_)
    rw [e, dtT_sP]
    refine sP_ext (fun d _ => ?_)
    exact dtT_swap _ _ (by omega) (ha f) _
def scP (c : Int) (z : Int × Int) : Int × Int := (c * z.1, c * z.2)
theorem dtT_sc (k c : Int) (z : Int × Int) : dtT k (scP c z) = scP c (dtT k z) := by
  unfold dtT scP
  ext <;> dsimp only
  · rw [Int.mul_sub, Int.mul_left_comm, Int.mul_left_comm c (vy k)]
  · rw [Int.mul_add, Int.mul_left_comm, Int.mul_left_comm c (vy k)]
theorem sumN_sc (c : Int) (g : Nat → Int) : ∀ n, sumN (fun i => c * g i) n = c * sumN g n
  | 0 => (Int.mul_zero c).symm
  | n + 1 => by simp only [sumN]; rw [sumN_sc c g n, Int.mul_add]
theorem sP_sc (c : Int) (g : Nat → Int × Int) (n : Nat) : sP (fun i => scP c (g i)) n = scP c (sP g n) :=
  Prod.ext (sumN_sc c (fun i => (g i).1) n) (sumN_sc c (fun i => (g i).2) n)
theorem tr_sc (w b : Nat) (c : Int) (Z : Nat → Int × Int) : ∀ (k q : Nat), trF w b k (fun i => scP c (Z i)) q = scP c (trF w b k Z q)
  | 0, _ => rfl
  | k + 1, q => by
    have ih : trF w b k (fun i => scP c (Z i)) = fun q => scP c (trF w b k Z q) := funext (tr_sc w b c Z k)
    have e : ∀ Z : Nat → Int × Int, stF w b (b ^ k) Z q = sP (fun d => dtT ((w * (q % (b * b ^ k) / b ^ k * d) % 4 : Nat) : Int) (Z (q / (b * b ^ k) * (b * b ^ k) + (q % (b * b ^ k) % b ^ k + d * b ^ k)))) b := fun Z => rfl
    show stF w b (b ^ k) (trF w b k _) q = scP c (stF w b (b ^ k) (trF w b k Z) q)
    rw [ih, e, e, ← sP_sc]
    exact sP_ext (fun d _ => dtT_sc _ _ _)
/-- The waves of two kinds undo each other. -/
def Undo (w o b : Nat) : Prop := (w = 3 ∧ o = 1 ∧ b = 4) ∨ (w = 1 ∧ o = 3 ∧ b = 4) ∨ (w = 2 ∧ o = 2 ∧ b = 2)
theorem orth {w o b : Nat} (h : Undo w o b) (X : Nat → Int × Int) (d : Nat) (hd : d < b) : sP (fun e => dtT ((w * (d * e) % 4 : Nat) : Int) (sP (fun f => dtT ((o * (e * f) % 4 : Nat) : Int) (X f)) b)) b = scP b (X d) := by
  rcases h with ⟨rfl, rfl, rfl⟩ | ⟨rfl, rfl, rfl⟩ | ⟨rfl, rfl, rfl⟩
  · rcases (show d = 0 ∨ d = 1 ∨ d = 2 ∨ d = 3 by omega) with rfl | rfl | rfl | rfl <;>
      (simp [sP, sumN, dtT, vx, vy, scP]; omega)
  · rcases (show d = 0 ∨ d = 1 ∨ d = 2 ∨ d = 3 by omega) with rfl | rfl | rfl | rfl <;>
      (simp [sP, sumN, dtT, vx, vy, scP]; omega)
  · rcases (show d = 0 ∨ d = 1 by omega) with rfl | rfl <;>
      (simp [sP, sumN, dtT, vx, vy, scP]; omega)
theorem scP_scP (a b : Int) (z : Int × Int) : scP a (scP b z) = scP (a * b) z := by
  unfold scP; rw [Int.mul_assoc, Int.mul_assoc]
theorem tr_inv {w o b : Nat} (h : Undo w o b) : ∀ (k : Nat) (Z : Nat → Int × Int) (q : Nat), q < b ^ k → trF w b k (trF o b k Z) q = scP ((b ^ k : Nat) : Int) (Z q)
  | 0, Z, q, _ => by
    show Z q = scP ((1 : Nat) : Int) (Z q)
    unfold scP
    rw [Int.natCast_one, Int.one_mul, Int.one_mul]
  | k + 1, Z, q, hq => by
    have ih := tr_inv h k
    have hb : 0 < b := by rcases h with ⟨_, _, rfl⟩ | ⟨_, _, rfl⟩ | ⟨_, _, rfl⟩ <;> omega
    have hs0 : 0 < b ^ k := Nat.pow_pos hb
    have hdd : q / b ^ k < b := Nat.div_lt_of_lt_mul (by rw [Nat.mul_comm, ← Nat.pow_succ']; exact hq)
    have hr := Nat.mod_lt q hs0
    have hq2 : q = q / b ^ k * b ^ k + q % b ^ k := by have := Nat.div_add_mod q (b ^ k); rw [Nat.mul_comm] at this; exact this.symm
    obtain ⟨d, hd⟩ : ∃ d, d = q / b ^ k := ⟨_, rfl⟩
    obtain ⟨r, hrr⟩ : ∃ d, d = q % b ^ k := ⟨_, rfl⟩
    rw [← hd] at hdd hq2
    rw [← hrr] at hr hq2
    rw [hq2, tr_top w b k _ d r hdd hr]
    have inner : ∀ e, e < b → trF w b k (trF o b (k + 1) Z) (e * b ^ k + r) = sP (fun f => dtT ((o * (e * f) % 4 : Nat) : Int) (scP ((b ^ k : Nat) : Int) (Z (f * b ^ k + r)))) b := by
      intro e he
      have h1 := tr_local w b k (trF o b (k + 1) Z) (fun p => sP (fun f => dtT ((o * (e * f) % 4 : Nat) : Int) (trF o b k (fun i => Z (f * b ^ k + i)) p)) b) e 0 r hr (fun i hi => by
        rw [tr_top o b k Z e i he hi]
        refine sP_ext (fun f _ => ?_)
        have h2 := tr_local o b k Z (fun i => Z (f * b ^ k + i)) f 0 i hi (fun j _ => by rw [Nat.zero_mul, Nat.zero_add])
        rw [h2])
      rw [h1, tr_lin w b b (fun f => ((o * (e * f) % 4 : Nat) : Int)) (fun f => by omega) (fun f => trF o b k (fun i => Z (f * b ^ k + i)))]
      refine sP_ext (fun f _ => ?_)
      rw [Nat.zero_mul, Nat.zero_add, ih _ r hr]
    rw [sP_ext (fun e he => by rw [inner e he]), orth h (fun f => scP ((b ^ k : Nat) : Int) (Z (f * b ^ k + r))) d hdd, scP_scP]
    rw [Nat.pow_succ', Int.natCast_mul]
/-- The numbers divided make the transform just if each could be divided. -/
theorem tr_back {w o b K : Nat} (h : Undo w o b) (Z D : Nat → Int × Int) : (∀ i, i < b ^ K → trF w b K D i = Z i) ↔ (∀ i, i < b ^ K → trF o b K Z i = scP ((b ^ K : Nat) : Int) (D i)) := by
  have h' : Undo o w b := by
    rcases h with ⟨rfl, rfl, rfl⟩ | ⟨rfl, rfl, rfl⟩ | ⟨rfl, rfl, rfl⟩
    · exact Or.inr (Or.inl ⟨rfl, rfl, rfl⟩)
    · exact Or.inl ⟨rfl, rfl, rfl⟩
    · exact Or.inr (Or.inr ⟨rfl, rfl, rfl⟩)
  have hloc : ∀ (w : Nat) (Z Y : Nat → Int × Int) (q : Nat), q < b ^ K → (∀ i, i < b ^ K → Z i = Y i) → trF w b K Z q = trF w b K Y q := fun w Z Y q hq hh => by
    have := tr_local w b K Z Y 0 0 q hq (fun i hi => by rw [Nat.zero_mul, Nat.zero_add]; exact hh i hi)
    rwa [Nat.zero_mul, Nat.zero_add] at this
  constructor
  · intro hD i hi
    rw [← tr_inv h' K D i hi]
    exact hloc o Z _ i hi (fun j hj => (hD j hj).symm)
  · intro hD i hi
    have hb : 0 < b := by rcases h with ⟨_, _, rfl⟩ | ⟨_, _, rfl⟩ | ⟨_, _, rfl⟩ <;> omega
    have e1 := tr_inv h K Z i hi
    rw [hloc w _ (fun i => scP ((b ^ K : Nat) : Int) (D i)) i hi hD, tr_sc] at e1
    have hp : ((b ^ K : Nat) : Int) ≠ 0 := by have := Nat.pow_pos (n := K) hb; omega
    unfold scP at e1
    have e2 := congrArg Prod.fst e1
    have e3 := congrArg Prod.snd e1
    exact Prod.ext (Int.eq_of_mul_eq_mul_left hp e2) (Int.eq_of_mul_eq_mul_left hp e3)

/-! ### lists divided -/
def dvP (n x y : Int) : Bool := decide (x.tmod n = 0) && decide (y.tmod n = 0)
def shTo (n : Int) (L : List (Int × Int)) (k : Nat) : Bool := (List.range k).all (fun i => dvP n (gre L i) (gim L i))
def shL (n : Int) (L : List (Int × Int)) : List (Int × Int) := genG L.length (fun i => (gre L i).tdiv n) (fun i => (gim L i).tdiv n)
def shOk (n : Int) (L : List (Int × Int)) : Bool := shTo n L L.length && goodL (shL n L)
def shA (n : Int) (L : List (Int × Int)) : List (Int × Int) := if shOk n L then shL n L else []
theorem shTo_succ (n : Int) (L : List (Int × Int)) (k : Nat) : shTo n L (k + 1) = (shTo n L k && dvP n (gre L k) (gim L k)) := by
  unfold shTo; rw [List.range_succ, List.all_append]; simp
theorem sh_no {n : Int} {L : List (Int × Int)} {k : Nat} (hk : k < L.length) (h : dvP n (gre L k) (gim L k) = false) : shTo n L L.length = false := by
  unfold shTo
  rw [List.all_eq_false]
  exact ⟨k, List.mem_range.2 hk, by simpa using h⟩
theorem shA_len (n : Int) (L : List (Int × Int)) (h : L.length ≤ 1048576) : (shA n L).length ≤ 1048576 := by
  unfold shA
  split
  · unfold shL; rw [genG_length]; exact h
  · simp
def tbOk (l : List (Int × Int)) : Bool := tfOk l && shOk l.length (drL (-1) l)
def tbA (l : List (Int × Int)) : List (Int × Int) := if tbOk l then shL l.length (drL (-1) l) else []
def wbOk (l : List (Int × Int)) : Bool := waOk0 l && shOk l.length (waL l)
def wbA (l : List (Int × Int)) : List (Int × Int) := if wbOk l then shL l.length (waL l) else []
theorem tbA_len (l : List (Int × Int)) : (tbA l).length ≤ 1048576 := by
  unfold tbA
  cases h : tbOk l with
  | false => simp
  | true =>
    unfold tbOk at h
    have := tfOk_len (Bool.and_eq_true_iff.1 h).1
    rw [if_pos rfl]
    unfold shL
    rw [genG_length, drL_len]
    omega
theorem wbA_len (l : List (Int × Int)) : (wbA l).length ≤ 1048576 := by
  unfold wbA
  cases h : wbOk l with
  | false => simp
  | true =>
    unfold wbOk waOk0 at h
    have := wa_cases (Bool.and_eq_true_iff.1 (Bool.and_eq_true_iff.1 h).1).1
    rw [if_pos rfl]
    unfold shL waL
    rw [genG_length, genG_length]
    omega
end Go.Proofs.Ytccjmigdebchiaa
