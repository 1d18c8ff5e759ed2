/- Hadamard matrices by the table of inner products: plain. -/
import Derived.Test.YtccjmigdebchiaaTq
import Derived.Test.YtccjmigdebchiaaMaF
import Derived.Test.YtccjmigdebchiaaMaG
namespace Go.Proofs.Ytccjmigdebchiaa

set_option maxRecDepth 100000
theorem inS_ip {m : List (List Int)} (hm : maOk m = true) (f : Int → Int) (i j : Nat) (hi : i < m.length) (hj : j < m.length) : inS f m i j = ipS f (atM m i) (atM m j) m.length := by
  have h8 := maOk_le hm
  rw [ipS_n f _ _ _ h8]
  unfold inS apS
  rw [maOk_sq hm j hj]
  refine sumN_ext _ _ _ (fun k hk => ?_)
  rw [apT_in f _ _ 0 k k (by omega) (by rw [maOk_sq hm i hi]; exact hk)]
  rfl
theorem vx_back (a b : Int) : vx ((a - b) % 4) = vx ((b - a) % 4) := by
  have h : (a - b) % 4 = 0 ∨ (a - b) % 4 = 1 ∨ (a - b) % 4 = 2 ∨ (a - b) % 4 = 3 := by omega
  rcases h with h | h | h | h
  · rw [h, show (b - a) % 4 = 0 by omega]
  · rw [h, show (b - a) % 4 = 3 by omega]; rfl
  · rw [h, show (b - a) % 4 = 2 by omega]
  · rw [h, show (b - a) % 4 = 1 by omega]; rfl
theorem vy_back (a b : Int) : vy ((a - b) % 4) = -vy ((b - a) % 4) := by
  have h : (a - b) % 4 = 0 ∨ (a - b) % 4 = 1 ∨ (a - b) % 4 = 2 ∨ (a - b) % 4 = 3 := by omega
  rcases h with h | h | h | h
  · rw [h, show (b - a) % 4 = 0 by omega]; rfl
  · rw [h, show (b - a) % 4 = 3 by omega]; rfl
  · rw [h, show (b - a) % 4 = 2 by omega]; rfl
  · rw [h, show (b - a) % 4 = 1 by omega]; rfl
theorem sumN_minus (g h : Nat → Int) (e : ∀ i, g i = -h i) : ∀ n, sumN g n = -sumN h n
  | 0 => rfl
  | n + 1 => by simp only [sumN]; rw [sumN_minus g h e n, e n]; omega
theorem ip_backx (a b : Nat → Int) (n : Nat) (h : n ≤ 8) : ipS vx a b n = ipS vx b a n := by
  rw [ipS_n _ _ _ _ h, ipS_n _ _ _ _ h]
  exact sumN_ext _ _ _ (fun i _ => vx_back _ _)
theorem ip_backy (a b : Nat → Int) (n : Nat) (h : n ≤ 8) : ipS vy a b n = -ipS vy b a n := by
  rw [ipS_n _ _ _ _ h, ipS_n _ _ _ _ h]
  exact sumN_minus _ _ (fun i => vy_back _ _) n
theorem sumN_one (g : Nat → Int) (c : Int) (e : ∀ i, g i = c) : ∀ n : Nat, sumN g n = c * n
  | 0 => by simp [sumN]
  | n + 1 => by simp only [sumN]; rw [sumN_one g c e n, e n]; push_cast; rw [Int.mul_add]; omega
theorem ip_selfx (a : Nat → Int) (n : Nat) (h : n ≤ 8) : ipS vx a a n = n := by
  rw [ipS_n _ _ _ _ h, sumN_one _ 1 (fun i => by rw [Int.sub_self]; rfl)]; omega
theorem ip_selfy (a : Nat → Int) (n : Nat) (h : n ≤ 8) : ipS vy a a n = 0 := by
  rw [ipS_n _ _ _ _ h, sumN_one _ 0 (fun i => by rw [Int.sub_self]; rfl)]; omega
theorem frP_none (p : Nat → Bool) : ∀ d j, frP p j d = none ↔ ∀ k, j ≤ k → k < j + d → p k = false
  | 0, j => by simp [frP]; intro k h1 h2; omega
  | d + 1, j => by
    simp only [frP]
    cases hp : p j with
    | true =>
      simp only [if_true]
      constructor
      · intro h; cases h
      · intro h; have := h j (Nat.le_refl _) (by omega); rw [hp] at this; cases this
    | false =>
      simp only [Bool.false_eq_true, if_false]
      rw [frP_none p d (j + 1)]
      constructor
      · intro h k h1 h2
        by_cases e : k = j
        · rw [e, hp]
        · exact h k (by omega) (by omega)
      · intro h k h1 h2; exact h k (by omega) (by omega)
theorem foL_nil (m : List (List Int)) : ∀ d i, i + d = m.length → (foL m i d = [] ↔ ∀ a b, i ≤ a → a < b → b < m.length → badP m a b = false)
  | 0, i, h => by
    simp only [foL, true_iff]
    intro a b h1 h2 h3; omega
  | d + 1, i, h => by
    simp only [foL]
    cases hf : frP (badP m i) (i + 1) (m.length - (i + 1)) with
    | some k =>
      simp only [List.cons_ne_nil, false_iff]
      intro hall
      have : frP (badP m i) (i + 1) (m.length - (i + 1)) = none := (frP_none _ _ _).2 (fun k h1 h2 => hall i k (Nat.le_refl _) (by omega) (by omega))
      rw [hf] at this; cases this
    | none =>
      simp only []
      rw [foL_nil m d (i + 1) (by omega)]
      have h0 := (frP_none _ _ _).1 hf
      constructor
      · intro hall a b h1 h2 h3
        by_cases e : a = i
        · rw [e]; exact h0 b (by omega) (by omega)
        · exact hall a b (by omega) h2 h3
      · intro hall a b h1 h2 h3; exact hall a b (by omega) h2 h3
theorem haB_iff (m : List (List Int)) : haB m = true ↔ ∀ a b, a < b → b < m.length → badP m a b = false := by
  unfold haB
  rw [decide_eq_true_iff, List.length_eq_zero_iff]
  unfold fpL
  rw [foL_nil m m.length 0 (by omega)]
  constructor
  · intro h a b h1 h2; exact h a b (Nat.zero_le _) h1 h2
  · intro h a b _ h1 h2; exact h a b h1 h2
/-- The table of a Hadamard matrix, up to the row j. -/
def dgV (n j : Nat) : Nat → Nat × Nat := fun c => if c / 8 = c % 8 ∧ c / 8 < j then (f32of (n : Int), 0) else (0, 0)
theorem dgV_start (n : Nat) : dgV n 0 = V0 := by funext c; unfold dgV; rw [if_neg (by omega)]; rfl
theorem dgV_step (n j : Nat) (hj : j < 8) : up (dgV n j) (j * 8 + j) (f32of (n : Int), 0) = dgV n (j + 1) := by
  funext c; unfold up dgV
  by_cases e : c = j * 8 + j
  · subst e; rw [if_pos rfl, if_pos (by omega)]
  · rw [if_neg e]
    by_cases h : c / 8 = c % 8 ∧ c / 8 < j
    · rw [if_pos h, if_pos (by omega)]
    · rw [if_neg h, if_neg (by omega)]
theorem tab_ha {m : List (List Int)} (hm : maOk m = true) :
    ((List.range 8).all (fun i => (List.range 8).all (fun c => eqC (sqV m.length (inV (atM m) m.length) V0 (i * 8 + c)) (dgV m.length m.length (i * 8 + c))))) = haB m := by
  have h8 := maOk_le hm
  have hcell : ∀ i c, i < 8 → c < 8 → (eqC (sqV m.length (inV (atM m) m.length) V0 (i * 8 + c)) (dgV m.length m.length (i * 8 + c)) = true ↔
      (i < m.length → c < m.length → ipS vx (atM m i) (atM m c) m.length = (if i = c then (m.length : Int) else 0) ∧ ipS vy (atM m i) (atM m c) m.length = 0)) := fun i c hi hc => by
    unfold sqV dgV
    rw [show (i * 8 + c) / 8 = i by omega, show (i * 8 + c) % 8 = c by omega]
    by_cases h : i < m.length ∧ c < m.length
    · rw [if_pos h]
      unfold inV
      rw [show (i * 8 + c) / 8 = i by omega, show (i * 8 + c) % 8 = c by omega]
      have bx := ipS_small vx vx_one (atM m i) (atM m c) m.length 8 (Nat.le_refl _)
      have by' := ipS_small vy vy_one (atM m i) (atM m c) m.length 8 (Nat.le_refl _)
      have e0 : (0 : Nat) = f32of 0 := rfl
      have key : ∀ z : Int, -16 ≤ z ∧ z ≤ 16 → (eqC (f32of (ipS vx (atM m i) (atM m c) m.length), f32of (ipS vy (atM m i) (atM m c) m.length)) (f32of z, f32of 0) = true ↔ ipS vx (atM m i) (atM m c) m.length = z ∧ ipS vy (atM m i) (atM m c) m.length = 0) := fun z hz => by
        unfold eqC
        rw [f32_same _ _ (by unfold ipS; omega) hz, f32_same _ _ (by unfold ipS; omega) (by omega)]
        simp
      by_cases e : i = c
      · rw [if_pos ⟨e, h.1⟩, if_pos e]
        have := key m.length (by omega)
        rw [← e0] at this
        rw [this]
        exact ⟨fun h2 _ _ => h2, fun h2 => h2 h.1 h.2⟩
      · rw [if_neg (fun h2 => e h2.1), if_neg e]
        have := key 0 (by omega)
        rw [← e0] at this
        rw [this]
        exact ⟨fun h2 _ _ => h2, fun h2 => h2 h.1 h.2⟩
    · rw [if_neg h]
      have e1 : (if i = c ∧ i < m.length then (f32of (m.length : Int), 0) else ((0, 0) : Nat × Nat)) = (0, 0) := if_neg (fun h2 => h ⟨h2.2, by omega⟩)
      rw [e1]
      constructor
      · intro _ h1 h2; exact absurd ⟨h1, h2⟩ h
      · intro _; show eqC (0, 0) (0, 0) = true; decide +kernel
  rw [Bool.eq_iff_iff, haB_iff]
  simp only [List.all_eq_true, List.mem_range]
  have hbad : ∀ a b, a < m.length → b < m.length → (badP m a b = false ↔ ipS vx (atM m a) (atM m b) m.length = 0 ∧ ipS vy (atM m a) (atM m b) m.length = 0) := fun a b ha hb => by
    unfold badP
    rw [inS_ip hm vx a b ha hb, inS_ip hm vy a b ha hb]
    simp
  constructor
  · intro h a b hab hb
    have := (hcell a b (by omega) (by omega)).1 (h a (by omega) b (by omega)) (by omega) hb
    rw [if_neg (by omega)] at this
    exact (hbad a b (by omega) hb).2 this
  · intro h i hi c hc
    refine (hcell i c hi hc).2 (fun h1 h2 => ?_)
    by_cases e : i = c
    · subst e; rw [if_pos rfl]; exact ⟨ip_selfx _ _ h8, ip_selfy _ _ h8⟩
    · rw [if_neg e]
      rcases Nat.lt_or_gt_of_ne e with hlt | hgt
      · exact (hbad i c h1 h2).1 (h i c hlt h2)
      · have := (hbad c i h2 h1).1 (h c i hgt h1)
        rw [ip_backx _ _ _ h8, ip_backy _ _ _ h8, this.1, this.2]
        exact ⟨rfl, rfl⟩
end Go.Proofs.Ytccjmigdebchiaa
