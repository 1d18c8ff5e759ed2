/- Transforms as sums, plainly: the same as by steps. -/
import Derived.Test.YtoehehaeanepmaaTrM
import Derived.Test.YtoehehaeanepmaaCvM
namespace Go.Proofs.Ytoehehaeanepmaa

set_option maxRecDepth 100000
theorem mulX_dtT (k x y : Int) : mulX x y (vx k) (vy k) = (dtT k (x, y)).1 := by unfold mulX dtT; dsimp only; rw [Int.mul_comm x, Int.mul_comm y]
theorem mulY_dtT (k x y : Int) : mulY x y (vx k) (vy k) = (dtT k (x, y)).2 := by unfold mulY dtT; dsimp only; rw [Int.mul_comm x, Int.mul_comm y, Int.add_comm]
def drT (sg : Int) (l : List (Int × Int)) (p x : Nat) : Int × Int := dtT ((-sg * (wvP p x : Int)) % 4) (gre l x, gim l x)
def drX (sg : Int) (l : List (Int × Int)) (j p : Nat) : Int := sumN (fun x => (drT sg l p x).1) j
def drY (sg : Int) (l : List (Int × Int)) (j p : Nat) : Int := sumN (fun x => (drT sg l p x).2) j
def drL (sg : Int) (l : List (Int × Int)) : List (Int × Int) := genG l.length (drX sg l l.length) (drY sg l l.length)
theorem drT_le {l : List (Int × Int)} {n : Nat} (h : ∀ i, i < n → (-1000000 ≤ gre l i ∧ gre l i ≤ 1000000) ∧ (-1000000 ≤ gim l i ∧ gim l i ≤ 1000000)) (sg : Int) (p x : Nat) (hx : x < n) :
    (-1000000 ≤ (drT sg l p x).1 ∧ (drT sg l p x).1 ≤ 1000000) ∧ (-1000000 ≤ (drT sg l p x).2 ∧ (drT sg l p x).2 ≤ 1000000) :=
  dtT_small _ _ 1000000 (h x hx).1 (h x hx).2 (by omega)
theorem drX_le {l : List (Int × Int)} {n : Nat} (hn : n ≤ 16) (h : ∀ i, i < n → (-1000000 ≤ gre l i ∧ gre l i ≤ 1000000) ∧ (-1000000 ≤ gim l i ∧ gim l i ≤ 1000000)) (sg : Int) (p j : Nat) (hj : j ≤ n) :
    (-16000000 ≤ drX sg l j p ∧ drX sg l j p ≤ 16000000) ∧ (-16000000 ≤ drY sg l j p ∧ drY sg l j p ≤ 16000000) := by
  have h1 := sumN_upto (fun x => (drT sg l p x).1) 1000000 n (fun x hx => (drT_le h sg p x hx).1) j hj
  have h2 := sumN_upto (fun x => (drT sg l p x).2) 1000000 n (fun x hx => (drT_le h sg p x hx).2) j hj
  have e1 : drX sg l j p = sumN (fun x => (drT sg l p x).1) j := rfl
  have e2 : drY sg l j p = sumN (fun x => (drT sg l p x).2) j := rfl
  rw [e1, e2]
  omega

/-! ### steps make the sums -/
theorem sumN_congr' {f g : Nat → Int} : ∀ {n : Nat}, (∀ i, i < n → f i = g i) → sumN f n = sumN g n
  | 0, _ => rfl
  | n + 1, h => by simp only [sumN]; rw [sumN_congr' (fun i hi => h i (by omega)), h n (by omega)]
theorem dtT_add (k : Int) (a b c d : Int) : dtT k (a + c, b + d) = ((dtT k (a, b)).1 + (dtT k (c, d)).1, (dtT k (a, b)).2 + (dtT k (c, d)).2) := by
  unfold dtT; simp only [Int.mul_add]; ext <;> dsimp only <;> omega
theorem dtT_sum (k : Int) (f g : Nat → Int) : ∀ n, dtT k (sumN f n, sumN g n) = (sumN (fun i => (dtT k (f i, g i)).1) n, sumN (fun i => (dtT k (f i, g i)).2) n)
  | 0 => by unfold dtT; simp [sumN]
  | n + 1 => by simp only [sumN]; rw [dtT_add, dtT_sum k f g n]
theorem dtT_comp (a b : Int) (ha : 0 ≤ a ∧ a ≤ 3) (hb : 0 ≤ b ∧ b ≤ 3) (z : Int × Int) : dtT a (dtT b z) = dtT ((a + b) % 4) z := by
  obtain ⟨x, y⟩ := z
  rcases (show a = 0 ∨ a = 1 ∨ a = 2 ∨ a = 3 by omega) with rfl | rfl | rfl | rfl <;> rcases (show b = 0 ∨ b = 1 ∨ b = 2 ∨ b = 3 by omega) with rfl | rfl | rfl | rfl
  all_goals
    simp only [dtT, vx, vy]
    ext <;> simp
theorem sum16 (g : Nat → Int) : sumN g 16 = sumN (fun a => sumN (fun b => g (4 * a + b)) 4) 4 := by
  simp [sumN]; omega
theorem step4 (wv : Nat) (Z : Nat → Int × Int) (c q : Nat) (hq : q < 4) : stF wv 4 1 Z (4 * c + q) = (sumN (fun d => (dtT ((wv * (q * d) % 4 : Nat) : Int) (Z (4 * c + d))).1) 4, sumN (fun d => (dtT ((wv * (q * d) % 4 : Nat) : Int) (Z (4 * c + d))).2) 4) := by
  have h := stF_at wv 4 1 Z c q (by omega)
  rw [show c * (4 * 1) = 4 * c by omega] at h
  rw [h]
  unfold btX btY btT
  simp only [Nat.div_one, Nat.mod_one, Nat.mul_one, Nat.zero_add]
theorem dr_exp (wv : Nat) (sg : Int) (h : (wv = 3 ∧ sg = 1) ∨ (wv = 1 ∧ sg = -1)) (p d1 d0 : Nat) (hp : p < 16) (h1 : d1 < 4) (h0 : d0 < 4) :
    ((((wv * (p / 4 * d1) % 4 : Nat) : Int) + ((wv * (p % 4 * d0) % 4 : Nat) : Int)) % 4) = (-sg * (wvP p (4 * d1 + d0) : Int)) % 4 := by
  have key : ∀ p, p < 16 → ∀ d1, d1 < 4 → ∀ d0, d0 < 4 → ((((3 * (p / 4 * d1) % 4 : Nat) : Int) + ((3 * (p % 4 * d0) % 4 : Nat) : Int)) % 4) = (-1 * (wvP p (4 * d1 + d0) : Int)) % 4 ∧
    ((((1 * (p / 4 * d1) % 4 : Nat) : Int) + ((1 * (p % 4 * d0) % 4 : Nat) : Int)) % 4) = (- -1 * (wvP p (4 * d1 + d0) : Int)) % 4 := by decide +kernel
  rcases h with ⟨rfl, rfl⟩ | ⟨rfl, rfl⟩
  · exact (key p hp d1 h1 d0 h0).1
  · exact (key p hp d1 h1 d0 h0).2
theorem tr_dr16 (wv : Nat) (sg : Int) (h : (wv = 3 ∧ sg = 1) ∨ (wv = 1 ∧ sg = -1)) (l : List (Int × Int)) (p : Nat) (hp : p < 16) :
    stF wv 4 4 (stF wv 4 1 (fun i => (gre l i, gim l i))) p = (drX sg l 16 p, drY sg l 16 p) := by
  have hs := stF_at wv 4 4 (stF wv 4 1 (fun i => (gre l i, gim l i))) 0 p (by omega)
  rw [show 0 * (4 * 4) + p = p by omega] at hs
  rw [hs]
  have key : ∀ d, d < 4 → btT wv 4 (fun i => stF wv 4 1 (fun i => (gre l i, gim l i)) (0 * (4 * 4) + i)) p d = (sumN (fun e => (drT sg l p (4 * d + e)).1) 4, sumN (fun e => (drT sg l p (4 * d + e)).2) 4) := by
    intro d hd
    unfold btT
    dsimp only
    rw [show 0 * (4 * 4) + (p % 4 + d * 4) = 4 * d + p % 4 by omega, step4 wv _ d (p % 4) (by omega), dtT_sum]
    have e : ∀ i, i < 4 → dtT ((wv * (p / 4 * d) % 4 : Nat) : Int) ((dtT ((wv * (p % 4 * i) % 4 : Nat) : Int) (gre l (4 * d + i), gim l (4 * d + i))).1, (dtT ((wv * (p % 4 * i) % 4 : Nat) : Int) (gre l (4 * d + i), gim l (4 * d + i))).2) = drT sg l p (4 * d + i) := by
      intro i hi
      have := dtT_comp ((wv * (p / 4 * d) % 4 : Nat) : Int) ((wv * (p % 4 * i) % 4 : Nat) : Int) (by omega) (by omega) (gre l (4 * d + i), gim l (4 * d + i))
      rw [dr_exp wv sg h p d i hp hd hi] at this
      exact this
    exact Prod.ext (sumN_congr' (fun i hi => by rw [e i hi])) (sumN_congr' (fun i hi => by rw [e i hi]))
  have e1 : drX sg l 16 p = sumN (fun a => sumN (fun b => (drT sg l p (4 * a + b)).1) 4) 4 := sum16 _
  have e2 : drY sg l 16 p = sumN (fun a => sumN (fun b => (drT sg l p (4 * a + b)).2) 4) 4 := sum16 _
  rw [e1, e2]
  exact Prod.ext (sumN_congr' (fun d hd => by rw [key d hd])) (sumN_congr' (fun d hd => by rw [key d hd]))
theorem tr_dr4 (wv : Nat) (sg : Int) (h : (wv = 3 ∧ sg = 1) ∨ (wv = 1 ∧ sg = -1)) (l : List (Int × Int)) (p : Nat) (hp : p < 4) :
    stF wv 4 1 (fun i => (gre l i, gim l i)) p = (drX sg l 4 p, drY sg l 4 p) := by
  have hs := step4 wv (fun i => (gre l i, gim l i)) 0 p hp
  rw [show 4 * 0 + p = p by omega] at hs
  rw [hs]
  have e : ∀ i, i < 4 → dtT ((wv * (p * i) % 4 : Nat) : Int) (gre l (4 * 0 + i), gim l (4 * 0 + i)) = drT sg l p i := by
    intro i hi
    have := dr_exp wv sg h p 0 i (by omega) (by omega) hi
    rw [show wv * (p / 4 * 0) % 4 = 0 by simp, show p % 4 = p by omega, show 4 * 0 + i = i by omega] at this
    unfold drT
    rw [← this, show 4 * 0 + i = i by omega]
    congr 1
    omega
  exact Prod.ext (sumN_congr' (fun d hd => by rw [e d hd])) (sumN_congr' (fun d hd => by rw [e d hd]))
theorem tr_dr1 (sg : Int) (l : List (Int × Int)) (p : Nat) (hp : p < 1) : (gre l p, gim l p) = (drX sg l 1 p, drY sg l 1 p) := by
  obtain rfl : p = 0 := by omega
  have e : drT sg l 0 0 = (gre l 0, gim l 0) := by
    unfold drT
    rw [show (wvP 0 0 : Int) = 0 from rfl, Int.mul_zero]
    unfold dtT; simp [vx, vy]
  have e1 : drX sg l 1 0 = 0 + (drT sg l 0 0).1 := rfl
  have e2 : drY sg l 1 0 = 0 + (drT sg l 0 0).2 := rfl
  rw [e1, e2, e, Int.zero_add, Int.zero_add]
/-- How many digits n places have. -/
def dgW (n : Nat) : Nat := if n = 1 then 0 else if n = 4 then 1 else 2
theorem dg_pow {n : Nat} (h : tfSz n = true) : n = 4 ^ dgW n := by
  rcases tfSz_cases h with rfl | rfl | rfl <;> decide
theorem tr_dr (wv : Nat) (sg : Int) (h : (wv = 3 ∧ sg = 1) ∨ (wv = 1 ∧ sg = -1)) (l : List (Int × Int)) (hz : tfSz l.length = true) (p : Nat) (hp : p < l.length) :
    trF wv 4 (dgW l.length) (fun i => (gre l i, gim l i)) p = (drX sg l l.length p, drY sg l l.length p) := by
  rcases tfSz_cases hz with e | e | e <;> rw [e] at hp ⊢
  · exact tr_dr1 sg l p hp
  · exact tr_dr4 wv sg h l p hp
  · exact tr_dr16 wv sg h l p hp
end Go.Proofs.Ytoehehaeanepmaa
