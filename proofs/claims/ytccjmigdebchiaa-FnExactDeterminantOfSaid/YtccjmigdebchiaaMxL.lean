/- Cells written one after the other, row by row and column by column: plain. -/
import Derived.Test.YtccjmigdebchiaaMx
namespace Go.Proofs.Ytccjmigdebchiaa

set_option maxRecDepth 100000
/-- Row by row: the cells up to the one at a, b of a square of side n are F's, the others G's. -/
def pgR (n a b : Nat) (F G : Nat → Nat × Nat) : Nat → Nat × Nat := fun c => if (c / 8 < a ∨ (c / 8 = a ∧ c % 8 < b)) ∧ c / 8 < n ∧ c % 8 < n then F c else G c
/-- Column by column. -/
def pgC (n a b : Nat) (F G : Nat → Nat × Nat) : Nat → Nat × Nat := fun c => if (c % 8 < a ∨ (c % 8 = a ∧ c / 8 < b)) ∧ c / 8 < n ∧ c % 8 < n then F c else G c
def sqV (n : Nat) (F G : Nat → Nat × Nat) : Nat → Nat × Nat := fun c => if c / 8 < n ∧ c % 8 < n then F c else G c
theorem pgR_start (n : Nat) (F G : Nat → Nat × Nat) : pgR n 0 0 F G = G := by
  funext c; unfold pgR; rw [if_neg (by omega)]
theorem pgC_start (n : Nat) (F G : Nat → Nat × Nat) : pgC n 0 0 F G = G := by
  funext c; unfold pgC; rw [if_neg (by omega)]
theorem pgR_end (n : Nat) (F G : Nat → Nat × Nat) : pgR n n 0 F G = sqV n F G := by
  funext c; unfold pgR sqV
  by_cases h : c / 8 < n ∧ c % 8 < n
  · rw [if_pos h, if_pos ⟨by omega, h⟩]
  · rw [if_neg h, if_neg (fun e => h e.2)]
theorem pgC_end (n : Nat) (F G : Nat → Nat × Nat) : pgC n n 0 F G = sqV n F G := by
  funext c; unfold pgC sqV
  by_cases h : c / 8 < n ∧ c % 8 < n
  · rw [if_pos h, if_pos ⟨by omega, h⟩]
  · rw [if_neg h, if_neg (fun e => h e.2)]
theorem pgR_row (n a : Nat) (F G : Nat → Nat × Nat) : pgR n a n F G = pgR n (a + 1) 0 F G := by
  funext c; unfold pgR
  by_cases h : (c / 8 < a ∨ (c / 8 = a ∧ c % 8 < n)) ∧ c / 8 < n ∧ c % 8 < n
  · rw [if_pos h, if_pos (by omega)]
  · rw [if_neg h, if_neg (by omega)]
theorem pgC_row (n a : Nat) (F G : Nat → Nat × Nat) : pgC n a n F G = pgC n (a + 1) 0 F G := by
  funext c; unfold pgC
  by_cases h : (c % 8 < a ∨ (c % 8 = a ∧ c / 8 < n)) ∧ c / 8 < n ∧ c % 8 < n
  · rw [if_pos h, if_pos (by omega)]
  · rw [if_neg h, if_neg (by omega)]
theorem pgR_step (n a b : Nat) (F G : Nat → Nat × Nat) (h8 : n ≤ 8) (ha : a < n) (hb : b < n) : up (pgR n a b F G) (a * 8 + b) (F (a * 8 + b)) = pgR n a (b + 1) F G := by
  funext c; unfold up pgR
  by_cases e : c = a * 8 + b
  · subst e; rw [if_pos rfl, if_pos (by omega)]
  · rw [if_neg e]
    by_cases h : (c / 8 < a ∨ (c / 8 = a ∧ c % 8 < b)) ∧ c / 8 < n ∧ c % 8 < n
    · rw [if_pos h, if_pos (by omega)]
    · rw [if_neg h, if_neg (by omega)]
theorem pgC_step (n a b : Nat) (F G : Nat → Nat × Nat) (h8 : n ≤ 8) (ha : a < n) (hb : b < n) : up (pgC n a b F G) (b * 8 + a) (F (b * 8 + a)) = pgC n a (b + 1) F G := by
  funext c; unfold up pgC
  by_cases e : c = b * 8 + a
  · subst e; rw [if_pos rfl, if_pos (by omega)]
  · rw [if_neg e]
    by_cases h : (c % 8 < a ∨ (c % 8 = a ∧ c / 8 < b)) ∧ c / 8 < n ∧ c % 8 < n
    · rw [if_pos h, if_pos (by omega)]
    · rw [if_neg h, if_neg (by omega)]
theorem pgR_at (n a b : Nat) (F G : Nat → Nat × Nat) (h8 : n ≤ 8) (hb : b < n) : pgR n a b F G (a * 8 + b) = G (a * 8 + b) := by
  unfold pgR; rw [if_neg (by omega)]
theorem pgC_at (n a b : Nat) (F G : Nat → Nat × Nat) (h8 : n ≤ 8) (ha : a < n) : pgC n a b F G (b * 8 + a) = G (b * 8 + a) := by
  unfold pgC; rw [if_neg (by omega)]
/-- What such a square stands for. -/
theorem sq_MxR {n : Nat} {F : Nat → Nat × Nat} {M : Nat → Nat → Int} (h8 : n ≤ 8) (h : ∀ i j, i < n → j < n → isV (F (i * 8 + j)) (M i j)) : MxR (sqV n F V0) n M := by
  refine ⟨h8, fun i j hi hj => ?_, fun i j hi hj hn => ?_⟩
  · unfold sqV; rw [if_pos (by omega)]; exact h i j hi hj
  · unfold sqV; rw [if_neg (by omega)]; rfl
theorem sq_MxR_same {n : Nat} {F V : Nat → Nat × Nat} {M N : Nat → Nat → Int} (hV : MxR V n N) (h : ∀ i j, i < n → j < n → isV (F (i * 8 + j)) (M i j)) : MxR (sqV n F V) n M := by
  have h8 := hV.1
  refine ⟨h8, fun i j hi hj => ?_, fun i j hi hj hn => ?_⟩
  · unfold sqV; rw [if_pos (by omega)]; exact h i j hi hj
  · unfold sqV; rw [if_neg (by omega)]; exact hV.2.2 i j hi hj hn

/-- The cells of a row, of a column, up to one are F's. -/
def pg1 (i j : Nat) (F G : Nat → Nat × Nat) : Nat → Nat × Nat := fun c => if c / 8 = i ∧ c % 8 < j then F c else G c
def pg2 (i j : Nat) (F G : Nat → Nat × Nat) : Nat → Nat × Nat := fun c => if c % 8 = i ∧ c / 8 < j then F c else G c
theorem pg1_start (i : Nat) (F G : Nat → Nat × Nat) : pg1 i 0 F G = G := by funext c; unfold pg1; rw [if_neg (by omega)]
theorem pg2_start (i : Nat) (F G : Nat → Nat × Nat) : pg2 i 0 F G = G := by funext c; unfold pg2; rw [if_neg (by omega)]
theorem pg1_step (i j : Nat) (F G : Nat → Nat × Nat) (hj : j < 8) : up (pg1 i j F G) (i * 8 + j) (F (i * 8 + j)) = pg1 i (j + 1) F G := by
  funext c; unfold up pg1
  by_cases e : c = i * 8 + j
  · subst e; rw [if_pos rfl, if_pos (by omega)]
  · rw [if_neg e]
    by_cases h : c / 8 = i ∧ c % 8 < j
    · rw [if_pos h, if_pos (by omega)]
    · rw [if_neg h, if_neg (by omega)]
theorem pg2_step (i j : Nat) (F G : Nat → Nat × Nat) (hi : i < 8) : up (pg2 i j F G) (j * 8 + i) (F (j * 8 + i)) = pg2 i (j + 1) F G := by
  funext c; unfold up pg2
  by_cases e : c = j * 8 + i
  · subst e; rw [if_pos rfl, if_pos (by omega)]
  · rw [if_neg e]
    by_cases h : c % 8 = i ∧ c / 8 < j
    · rw [if_pos h, if_pos (by omega)]
    · rw [if_neg h, if_neg (by omega)]
theorem pg1_at (i j : Nat) (F G : Nat → Nat × Nat) : pg1 i j F G (i * 8 + j) = G (i * 8 + j) := by unfold pg1; rw [if_neg (by omega)]
theorem pg2_at (i j : Nat) (F G : Nat → Nat × Nat) : pg2 i j F G (j * 8 + i) = G (j * 8 + i) := by unfold pg2; rw [if_neg (by omega)]
theorem pg1_MxR {V : Nat → Nat × Nat} {n i : Nat} {k : Int} {x : Nat × Nat} {M : Nat → Nat → Int} (hV : MxR V n M) (hi : i < n) (hx : isV x k) : MxR (pg1 i n (fun c => mulB (V c) x) V) n (fun a b => if a = i then (M a b + k) % 4 else M a b) := by
  have h8 := hV.1
  refine ⟨h8, fun a b ha hb => ?_, fun a b ha hb hn => ?_⟩
  · unfold pg1
    dsimp only
    by_cases e : a = i
    · rw [if_pos e, if_pos (by omega)]; exact (isV_mul (hV.2.1 a b ha hb) hx).2
    · rw [if_neg e, if_neg (by omega)]; exact hV.2.1 a b ha hb
  · unfold pg1
    rw [if_neg (by omega)]; exact hV.2.2 a b ha hb hn
theorem pg2_MxR {V : Nat → Nat × Nat} {n i : Nat} {k : Int} {x : Nat × Nat} {M : Nat → Nat → Int} (hV : MxR V n M) (hi : i < n) (hx : isV x k) : MxR (pg2 i n (fun c => mulB (V c) x) V) n (fun a b => if b = i then (M a b + k) % 4 else M a b) := by
  have h8 := hV.1
  refine ⟨h8, fun a b ha hb => ?_, fun a b ha hb hn => ?_⟩
  · unfold pg2
    dsimp only
    by_cases e : b = i
    · rw [if_pos e, if_pos (by omega)]; exact (isV_mul (hV.2.1 a b ha hb) hx).2
    · rw [if_neg e, if_neg (by omega)]; exact hV.2.1 a b ha hb
  · unfold pg2
    rw [if_neg (by omega)]; exact hV.2.2 a b ha hb hn

end Go.Proofs.Ytccjmigdebchiaa
