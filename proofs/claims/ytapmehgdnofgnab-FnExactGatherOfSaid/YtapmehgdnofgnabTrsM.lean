/- Transforms by steps, plainly. Transforms as sums, plainly: the same as by steps. What TransformOf, TransformBack and the others answer, plainly. Walsh's transform, plainly. Transforms undone, plainly: both ways the numbers come back so many times; lists divided. -/
import Derived.Test.YtapmehgdnofgnabFxA
import Derived.Test.YtapmehgdnofgnabCvM
import Derived.Test.YtapmehgdnofgnabSg
namespace Go.Proofs.Ytapmehgdnofgnab
set_option maxRecDepth 100000
section

/-- The term d of a butterfly at the place p of a cut, for the weight s. -/
def btT (w s : Nat) (Z : Nat → Int × Int) (p d : Nat) : Int × Int := dtT ((w * (p / s * d) % 4 : Nat) : Int) (Z (p % s + d * s))
def btX (w s : Nat) (Z : Nat → Int × Int) (p k : Nat) : Int := sumN (fun d => (btT w s Z p d).1) k
def btY (w s : Nat) (Z : Nat → Int × Int) (p k : Nat) : Int := sumN (fun d => (btT w s Z p d).2) k
theorem btX_succ (w s : Nat) (Z : Nat → Int × Int) (p k : Nat) : btX w s Z p (k + 1) = btX w s Z p k + (btT w s Z p k).1 := rfl
theorem btY_succ (w s : Nat) (Z : Nat → Int × Int) (p k : Nat) : btY w s Z p (k + 1) = btY w s Z p k + (btT w s Z p k).2 := rfl
/-- Parts up to M. -/
def upTo (Z : Nat → Int × Int) (n : Nat) (M : Int) : Prop := ∀ i, i < n → (-M ≤ (Z i).1 ∧ (Z i).1 ≤ M) ∧ (-M ≤ (Z i).2 ∧ (Z i).2 ≤ M)
theorem bt_index (s b p d : Nat) (hs : 0 < s) (hd : d < b) : p % s + d * s < b * s := by
  have h1 := Nat.mod_lt p hs
  have h2 : (d + 1) * s ≤ b * s := Nat.mul_le_mul_right _ (by omega)
  rw [Nat.add_mul] at h2
  omega
theorem bt_part (s d p : Nat) (hs : 0 < s) : (p % s + d * s) / s = d := by
  rw [Nat.add_mul_div_right _ _ hs, Nat.div_eq_of_lt (Nat.mod_lt p hs), Nat.zero_add]
theorem btT_le {w s b : Nat} {Z : Nat → Int × Int} {M : Int} (hs : 0 < s) (h : upTo Z (b * s) M) (p d : Nat) (hd : d < b) : (-M ≤ (btT w s Z p d).1 ∧ (btT w s Z p d).1 ≤ M) ∧ (-M ≤ (btT w s Z p d).2 ∧ (btT w s Z p d).2 ≤ M) := by
  have hz := h _ (bt_index s b p d hs hd)
  exact dtT_small _ _ M hz.1 hz.2 (by omega)
theorem bt_le {w s b : Nat} {Z : Nat → Int × Int} {M : Int} (hs : 0 < s) (h : upTo Z (b * s) M) (p k : Nat) (hk : k ≤ b) : (-((k : Int) * M) ≤ btX w s Z p k ∧ btX w s Z p k ≤ (k : Int) * M) ∧ (-((k : Int) * M) ≤ btY w s Z p k ∧ btY w s Z p k ≤ (k : Int) * M) :=
  ⟨sumN_upto _ M b (fun d hd => (btT_le hs h p d hd).1) k hk, sumN_upto _ M b (fun d hd => (btT_le hs h p d hd).2) k hk⟩
/-- A step at the weight s. -/
def stF (w b s : Nat) (Z : Nat → Int × Int) : Nat → Int × Int := fun p =>
  (btX w s (fun i => Z (p / (b * s) * (b * s) + i)) (p % (b * s)) b, btY w s (fun i => Z (p / (b * s) * (b * s) + i)) (p % (b * s)) b)
theorem stF_at (w b s : Nat) (Z : Nat → Int × Int) (c p : Nat) (hp : p < b * s) : stF w b s Z (c * (b * s) + p) = (btX w s (fun i => Z (c * (b * s) + i)) p b, btY w s (fun i => Z (c * (b * s) + i)) p b) := by
  have hpos : 0 < b * s := by omega
  have h1 : (c * (b * s) + p) / (b * s) = c := by rw [Nat.mul_comm, Nat.mul_add_div hpos, Nat.div_eq_of_lt hp, Nat.add_zero]
  have h2 : (c * (b * s) + p) % (b * s) = p := by rw [Nat.mul_comm, Nat.mul_add_mod, Nat.mod_eq_of_lt hp]
  unfold stF
  rw [h1, h2]
/-- The first k steps, of weights 1, b, b² .. -/
def trF (w b : Nat) : Nat → (Nat → Int × Int) → Nat → Int × Int
  | 0, Z => Z
  | k + 1, Z => stF w b (b ^ k) (trF w b k Z)
theorem upTo_part {Z : Nat → Int × Int} {n : Nat} {M : Int} (h : upTo Z n M) (c m : Nat) (hc : c + m ≤ n) : upTo (fun i => Z (c + i)) m M := fun i hi => h (c + i) (by omega)
theorem stF_le {w b s n : Nat} {Z : Nat → Int × Int} {M : Int} (hs : 0 < b * s) (hn : n % (b * s) = 0) (h : upTo Z n M) : upTo (stF w b s Z) n ((b : Int) * M) := by
  intro p hp
  have hs2 : 0 < s := Nat.pos_of_mul_pos_left hs
  have hc : p / (b * s) * (b * s) + b * s ≤ n := by
    have h1 : p / (b * s) < n / (b * s) := by
      obtain ⟨q, hq⟩ : ∃ q, n = b * s * q := ⟨n / (b * s), by have := Nat.div_add_mod n (b * s); omega⟩
      subst hq
      rw [Nat.mul_div_cancel_left q hs]
      exact Nat.div_lt_of_lt_mul hp
    have h2 : (p / (b * s) + 1) * (b * s) ≤ n / (b * s) * (b * s) := Nat.mul_le_mul_right _ (by omega)
    have h3 : n / (b * s) * (b * s) ≤ n := Nat.div_mul_le_self _ _
    rw [Nat.add_mul] at h2
    omega
  exact bt_le hs2 (upTo_part h _ _ hc) (p % (b * s)) b (Nat.le_refl _)
end
section

theorem mulX_dtT (k x y : Int) : mulX x y (vx k) (vy k) = (dtT k (x, y)).1 := by unfold mulX dtT; dsimp only; rw [Int.mul_comm x, Int.mul_comm y]
theorem mulY_dtT (k x y : Int) : mulY x y (vx k) (vy k) = (dtT k (x, y)).2 := by unfold mulY dtT; dsimp only; rw [Int.mul_comm x, Int.mul_comm y, Int.add_comm]
def drT (sg : Int) (l : List (Int × Int)) (p x : Nat) : Int × Int := dtT ((-sg * (wvP p x : Int)) % 4) (gre l x, gim l x)
def drX (sg : Int) (l : List (Int × Int)) (j p : Nat) : Int := sumN (fun x => (drT sg l p x).1) j
def drY (sg : Int) (l : List (Int × Int)) (j p : Nat) : Int := sumN (fun x => (drT sg l p x).2) j
def drL (sg : Int) (l : List (Int × Int)) : List (Int × Int) := genG l.length (drX sg l l.length) (drY sg l l.length)
theorem drT_le {l : List (Int × Int)} {n : Nat} (h : ∀ i, i < n → (-1000000 ≤ gre l i ∧ gre l i ≤ 1000000) ∧ (-1000000 ≤ gim l i ∧ gim l i ≤ 1000000)) (sg : Int) (p x : Nat) (hx : x < n) :
    (-1000000 ≤ (drT sg l p x).1 ∧ (drT sg l p x).1 ≤ 1000000) ∧ (-1000000 ≤ (drT sg l p x).2 ∧ (drT sg l p x).2 ≤ 1000000) :=
  dtT_small _ _ 1000000 (h x hx).1 (h x hx).2 (by omega)
theorem drX_le {l : List (Int × Int)} {n : Nat} (hn : n ≤ 16) (h : ∀ i, i < n → (-1000000 ≤ gre l i ∧ gre l i ≤ 1000000) ∧ (-1000000 ≤ gim l i ∧ gim l i ≤ 1000000)) (sg : Int) (p j : Nat) (hj : j ≤ n) :
    (-16000000 ≤ drX sg l j p ∧ drX sg l j p ≤ 16000000) ∧ (-16000000 ≤ drY sg l j p ∧ drY sg l j p ≤ 16000000) := by
  have h1 := sumN_upto (fun x => (drT sg l p x).1) 1000000 n (fun x hx => (drT_le h sg p x hx).1) j hj
  have h2 := sumN_upto (fun x => (drT sg l p x).2) 1000000 n (fun x hx => (drT_le h sg p x hx).2) j hj
  have e1 : drX sg l j p = sumN (fun x => (drT sg l p x).1) j := rfl
  have e2 : drY sg l j p = sumN (fun x => (drT sg l p x).2) j := rfl
  rw [e1, e2]
  omega

/-! ### steps make the sums -/
theorem sumN_congr' {f g : Nat → Int} : ∀ {n : Nat}, (∀ i, i < n → f i = g i) → sumN f n = sumN g n
  | 0, _ => rfl
  | n + 1, h => by simp only [sumN]; rw [sumN_congr' (fun i hi => h i (by omega)), h n (by omega)]
theorem dtT_add (k : Int) (a b c d : Int) : dtT k (a + c, b + d) = ((dtT k (a, b)).1 + (dtT k (c, d)).1, (dtT k (a, b)).2 + (dtT k (c, d)).2) := by
  unfold dtT; simp only [Int.mul_add]; ext <;> dsimp only <;> omega
theorem dtT_sum (k : Int) (f g : Nat → Int) : ∀ n, dtT k (sumN f n, sumN g n) = (sumN (fun i => (dtT k (f i, g i)).1) n, sumN (fun i => (dtT k (f i, g i)).2) n)
  | 0 => by unfold dtT; simp [sumN]
  | n + 1 => by simp only [sumN]; rw [dtT_add, dtT_sum k f g n]
theorem dtT_comp (a b : Int) (ha : 0 ≤ a ∧ a ≤ 3) (hb : 0 ≤ b ∧ b ≤ 3) (z : Int × Int) : dtT a (dtT b z) = dtT ((a + b) % 4) z := by
  obtain ⟨x, y⟩ := z
  rcases (show a = 0 ∨ a = 1 ∨ a = 2 ∨ a = 3 by omega) with rfl | rfl | rfl | rfl <;> rcases (show b = 0 ∨ b = 1 ∨ b = 2 ∨ b = 3 by omega) with rfl | rfl | rfl | rfl
  all_goals
    simp only [dtT, vx, vy]
    ext <;> simp
theorem sum16 (g : Nat → Int) : sumN g 16 = sumN (fun a => sumN (fun b => g (4 * a + b)) 4) 4 := by
  simp [sumN]; omega
theorem step4 (wv : Nat) (Z : Nat → Int × Int) (c q : Nat) (hq : q < 4) : stF wv 4 1 Z (4 * c + q) = (sumN (fun d => (dtT ((wv * (q * d) % 4 : Nat) : Int) (Z (4 * c + d))).1) 4, sumN (fun d => (dtT ((wv * (q * d) % 4 : Nat) : Int) (Z (4 * c + d))).2) 4) := by
  have h := stF_at wv 4 1 Z c q (by omega)
  rw [show c * (4 * 1) = 4 * c by omega] at h
  rw [h]
  unfold btX btY btT
  simp only [Nat.div_one, Nat.mod_one, Nat.mul_one, Nat.zero_add]
theorem dr_exp (wv : Nat) (sg : Int) (h : (wv = 3 ∧ sg = 1) ∨ (wv = 1 ∧ sg = -1)) (p d1 d0 : Nat) (hp : p < 16) (h1 : d1 < 4) (h0 : d0 < 4) :
    ((((wv * (p / 4 * d1) % 4 : Nat) : Int) + ((wv * (p % 4 * d0) % 4 : Nat) : Int)) % 4) = (-sg * (wvP p (4 * d1 + d0) : Int)) % 4 := by
  have key : ∀ p, p < 16 → ∀ d1, d1 < 4 → ∀ d0, d0 < 4 → ((((3 * (p / 4 * d1) % 4 : Nat) : Int) + ((3 * (p % 4 * d0) % 4 : Nat) : Int)) % 4) = (-1 * (wvP p (4 * d1 + d0) : Int)) % 4 ∧
    ((((1 * (p / 4 * d1) % 4 : Nat) : Int) + ((1 * (p % 4 * d0) % 4 : Nat) : Int)) % 4) = (- -1 * (wvP p (4 * d1 + d0) : Int)) % 4 := by decide +kernel
  rcases h with ⟨rfl, rfl⟩ | ⟨rfl, rfl⟩
  · exact (key p hp d1 h1 d0 h0).1
  · exact (key p hp d1 h1 d0 h0).2
theorem tr_dr16 (wv : Nat) (sg : Int) (h : (wv = 3 ∧ sg = 1) ∨ (wv = 1 ∧ sg = -1)) (l : List (Int × Int)) (p : Nat) (hp : p < 16) :
    stF wv 4 4 (stF wv 4 1 (fun i => (gre l i, gim l i))) p = (drX sg l 16 p, drY sg l 16 p) := by
  have hs := stF_at wv 4 4 (stF wv 4 1 (fun i => (gre l i, gim l i))) 0 p (by omega)
  rw [show 0 * (4 * 4) + p = p by omega] at hs
  rw [hs]
  have key : ∀ d, d < 4 → btT wv 4 (fun i => stF wv 4 1 (fun i => (gre l i, gim l i)) (0 * (4 * 4) + i)) p d = (sumN (fun e => (drT sg l p (4 * d + e)).1) 4, sumN (fun e => (drT sg l p (4 * d + e)).2) 4) := by
    intro d hd
    unfold btT
    dsimp only
    rw [show 0 * (4 * 4) + (p % 4 + d * 4) = 4 * d + p % 4 by omega, step4 wv _ d (p % 4) (by omega), dtT_sum]
    have e : ∀ i, i < 4 → dtT ((wv * (p / 4 * d) % 4 : Nat) : Int) ((dtT ((wv * (p % 4 * i) % 4 : Nat) : Int) (gre l (4 * d + i), gim l (4 * d + i))).1, (dtT ((wv * (p % 4 * i) % 4 : Nat) : Int) (gre l (4 * d + i), gim l (4 * d + i))).2) = drT sg l p (4 * d + i) := by
      intro i hi
      have := dtT_comp ((wv * (p / 4 * d) % 4 : Nat) : Int) ((wv * (p % 4 * i) % 4 : Nat) : Int) (by omega) (by omega) (gre l (4 * d + i), gim l (4 * d + i))
      rw [dr_exp wv sg h p d i hp hd hi] at this
      exact this
    exact Prod.ext (sumN_congr' (fun i hi => by rw [e i hi])) (sumN_congr' (fun i hi => by rw [e i hi]))
  have e1 : drX sg l 16 p = sumN (fun a => sumN (fun b => (drT sg l p (4 * a + b)).1) 4) 4 := sum16 _
  have e2 : drY sg l 16 p = sumN (fun a => sumN (fun b => (drT sg l p (4 * a + b)).2) 4) 4 := sum16 _
  rw [e1, e2]
  exact Prod.ext (sumN_congr' (fun d hd => by rw [key d hd])) (sumN_congr' (fun d hd => by rw [key d hd]))
theorem tr_dr4 (wv : Nat) (sg : Int) (h : (wv = 3 ∧ sg = 1) ∨ (wv = 1 ∧ sg = -1)) (l : List (Int × Int)) (p : Nat) (hp : p < 4) :
    stF wv 4 1 (fun i => (gre l i, gim l i)) p = (drX sg l 4 p, drY sg l 4 p) := by
  have hs := step4 wv (fun i => (gre l i, gim l i)) 0 p hp
  rw [show 4 * 0 + p = p by omega] at hs
  rw [hs]
  have e : ∀ i, i < 4 → dtT ((wv * (p * i) % 4 : Nat) : Int) (gre l (4 * 0 + i), gim l (4 * 0 + i)) = drT sg l p i := by
    intro i hi
    have := dr_exp wv sg h p 0 i (by omega) (by omega) hi
    rw [show wv * (p / 4 * 0) % 4 = 0 by simp, show p % 4 = p by omega, show 4 * 0 + i = i by omega] at this
    unfold drT
    rw [← this, show 4 * 0 + i = i by omega]
    congr 1
    omega
  exact Prod.ext (sumN_congr' (fun d hd => by rw [e d hd])) (sumN_congr' (fun d hd => by rw [e d hd]))
theorem tr_dr1 (sg : Int) (l : List (Int × Int)) (p : Nat) (hp : p < 1) : (gre l p, gim l p) = (drX sg l 1 p, drY sg l 1 p) := by
  obtain rfl : p = 0 := by omega
  have e : drT sg l 0 0 = (gre l 0, gim l 0) := by
    unfold drT
    rw [show (wvP 0 0 : Int) = 0 from rfl, Int.mul_zero]
    unfold dtT; simp [vx, vy]
  have e1 : drX sg l 1 0 = 0 + (drT sg l 0 0).1 := rfl
  have e2 : drY sg l 1 0 = 0 + (drT sg l 0 0).2 := rfl
  rw [e1, e2, e, Int.zero_add, Int.zero_add]
/-- How many digits n places have. -/
def dgW (n : Nat) : Nat := if n = 1 then 0 else if n = 4 then 1 else 2
theorem dg_pow {n : Nat} (h : tfSz n = true) : n = 4 ^ dgW n := by
  rcases tfSz_cases h with rfl | rfl | rfl <;> decide
theorem tr_dr (wv : Nat) (sg : Int) (h : (wv = 3 ∧ sg = 1) ∨ (wv = 1 ∧ sg = -1)) (l : List (Int × Int)) (hz : tfSz l.length = true) (p : Nat) (hp : p < l.length) :
    trF wv 4 (dgW l.length) (fun i => (gre l i, gim l i)) p = (drX sg l l.length p, drY sg l l.length p) := by
  rcases tfSz_cases hz with e | e | e <;> rw [e] at hp ⊢
  · exact tr_dr1 sg l p hp
  · exact tr_dr4 wv sg h l p hp
  · exact tr_dr16 wv sg h l p hp
end
section

def toOk (l : List (Int × Int)) : Bool := tfOk l && goodL (drL 1 l)
def toA (l : List (Int × Int)) : List (Int × Int) := if toOk l then drL 1 l else []
theorem drL_len (sg : Int) (l : List (Int × Int)) : (drL sg l).length = l.length := genG_length _ _ _
theorem toA_len (l : List (Int × Int)) : (toA l).length ≤ 1048576 := by
  unfold toA
  cases h : toOk l with
  | false => simp
  | true =>
    unfold toOk at h
    have := tfOk_len (Bool.and_eq_true_iff.1 h).1
    rw [if_pos rfl, drL_len]
    omega
end
section

def waOk0 (l : List (Int × Int)) : Bool := waZ l.length && goodL l
def lgW (n : Nat) : Nat := n.log2
theorem wa_cases {n : Nat} (h : waZ n = true) : n = 1 ∨ n = 2 ∨ n = 4 ∨ n = 8 ∨ n = 16 ∨ n = 32 := by
  have := of_decide_eq_true h
  omega
theorem wa_pow {n : Nat} (h : waZ n = true) : n = 2 ^ lgW n := by
  rcases wa_cases h with rfl | rfl | rfl | rfl | rfl | rfl <;> decide
def wZ (l : List (Int × Int)) : Nat → Int × Int := fun i => (gre l i, gim l i)
def waL (l : List (Int × Int)) : List (Int × Int) := genG l.length (fun i => (trF 2 2 (lgW l.length) (wZ l) i).1) (fun i => (trF 2 2 (lgW l.length) (wZ l) i).2)
def wfOk (l : List (Int × Int)) : Bool := waOk0 l && goodL (waL l)
def wfA (l : List (Int × Int)) : List (Int × Int) := if wfOk l then waL l else []
theorem wfA_len (l : List (Int × Int)) : (wfA l).length ≤ 1048576 := by
  unfold wfA
  cases h : wfOk l with
  | false => simp
  | true =>
    unfold wfOk waOk0 at h
    have := wa_cases (Bool.and_eq_true_iff.1 (Bool.and_eq_true_iff.1 h).1).1
    rw [if_pos rfl]
    unfold waL
    rw [genG_length]
    omega
/-- n & (n - 1), as the program's numbers are. -/
def andV (n : Int) : Int := bits .and .i64 n (n - 1)
theorem andV_zero (n : Nat) (h1 : 1 ≤ n) (h2 : n ≤ 32) : decide (andV n = 0) = waZ n := by
  have h : ∀ n : Nat, n < 33 → 1 ≤ n → decide (andV n = 0) = waZ n := by decide +kernel
  exact h n (by omega) h1
/-- What a step makes of two numbers. -/
theorem w_low (s : Nat) (Z : Nat → Int × Int) (c q : Nat) (hq : q < s) : stF 2 2 s Z (c * (2 * s) + q) = ((Z (c * (2 * s) + q)).1 + (Z (c * (2 * s) + q + s)).1, (Z (c * (2 * s) + q)).2 + (Z (c * (2 * s) + q + s)).2) := by
  rw [stF_at 2 2 s Z c q (by omega)]
  have e0 : q / s = 0 := Nat.div_eq_of_lt hq
  have e1 : q % s = q := Nat.mod_eq_of_lt hq
  unfold btX btY btT
  simp [sumN, e0, e1, dtT, vx, vy, Nat.add_assoc]
theorem w_high (s : Nat) (Z : Nat → Int × Int) (c q : Nat) (hq : q < s) : stF 2 2 s Z (c * (2 * s) + q + s) = ((Z (c * (2 * s) + q)).1 + -(Z (c * (2 * s) + q + s)).1, (Z (c * (2 * s) + q)).2 + -(Z (c * (2 * s) + q + s)).2) := by
  rw [show c * (2 * s) + q + s = c * (2 * s) + (q + s) by omega, stF_at 2 2 s Z c (q + s) (by omega)]
  have e0 : (q + s) / s = 1 := by rw [Nat.add_div_right _ (by omega), Nat.div_eq_of_lt hq]
  have e1 : (q + s) % s = q := by rw [Nat.add_mod_right, Nat.mod_eq_of_lt hq]
  unfold btX btY btT
  simp [sumN, e0, e1, dtT, vx, vy]
end
section

def sP (g : Nat → Int × Int) (k : Nat) : Int × Int := (sumN (fun i => (g i).1) k, sumN (fun i => (g i).2) k)
theorem sP_ext {f g : Nat → Int × Int} {n : Nat} (h : ∀ i, i < n → f i = g i) : sP f n = sP g n :=
  Prod.ext (sumN_congr' (fun i hi => by rw [h i hi])) (sumN_congr' (fun i hi => by rw [h i hi]))
theorem stF_sP (w b s : Nat) (Z : Nat → Int × Int) (c p : Nat) (hp : p < b * s) : stF w b s Z (c * (b * s) + p) = sP (fun d => dtT ((w * (p / s * d) % 4 : Nat) : Int) (Z (c * (b * s) + (p % s + d * s)))) b := stF_at w b s Z c p hp
/-- A block of a transform speaks of a block alone. -/
theorem tr_local (w b : Nat) : ∀ (k : Nat) (Z Y : Nat → Int × Int) (c c' q : Nat), q < b ^ k → (∀ i, i < b ^ k → Z (c * b ^ k + i) = Y (c' * b ^ k + i)) → trF w b k Z (c * b ^ k + q) = trF w b k Y (c' * b ^ k + q)
  | 0, Z, Y, c, c', q, hq, h => h q hq
  | k + 1, Z, Y, c, c', q, hq, h => by
    have ih := tr_local w b k
    obtain ⟨s, hs⟩ : ∃ s, s = b ^ k := ⟨_, rfl⟩
    have e : b ^ (k + 1) = b * s := by rw [hs, Nat.pow_succ']
    rw [e] at hq h ⊢
    rw [← hs] at ih
    have hs0 : 0 < s := Nat.pos_of_ne_zero (fun h0 => by rw [h0] at hq; omega)
    show stF w b (b ^ k) (trF w b k Z) _ = stF w b (b ^ k) (trF w b k Y) _
    rw [← hs, stF_sP _ _ _ _ _ _ hq, stF_sP _ _ _ _ _ _ hq]
    refine sP_ext (fun d hd => ?_)
    have i1 : ∀ (c r : Nat), c * (b * s) + (r + d * s) = (c * b + d) * s + r := fun c r => by rw [Nat.add_mul, Nat.mul_assoc]; omega
    rw [i1, i1, ih Z Y (c * b + d) (c' * b + d) (q % s) (Nat.mod_lt _ hs0) (fun i hi => ?_)]
    have := h (i + d * s) (by
      have h2 : (d + 1) * s ≤ b * s := Nat.mul_le_mul_right _ (by omega)
      rw [Nat.add_mul] at h2
      omega)
    rw [i1, i1] at this
    exact this
theorem tr_top (w b k : Nat) (Z : Nat → Int × Int) (d q : Nat) (hd : d < b) (hq : q < b ^ k) : trF w b (k + 1) Z (d * b ^ k + q) = sP (fun e => dtT ((w * (d * e) % 4 : Nat) : Int) (trF w b k Z (e * b ^ k + q))) b := by
  obtain ⟨s, hs⟩ : ∃ s, s = b ^ k := ⟨_, rfl⟩
  rw [← hs] at hq ⊢
  have hlt : d * s + q < b * s := by
    have h2 : (d + 1) * s ≤ b * s := Nat.mul_le_mul_right _ (by omega)
    rw [Nat.add_mul] at h2
    omega
  have h := stF_sP w b s (trF w b k Z) 0 (d * s + q) hlt
  have e1 : (d * s + q) / s = d := by rw [Nat.mul_comm, Nat.mul_add_div (by omega), Nat.div_eq_of_lt hq, Nat.add_zero]
  have e2 : (d * s + q) % s = q := by rw [Nat.mul_comm, Nat.mul_add_mod, Nat.mod_eq_of_lt hq]
  rw [e1, e2, Nat.zero_mul, Nat.zero_add] at h
  show stF w b (b ^ k) (trF w b k Z) _ = _
  rw [← hs, h]
  exact sP_ext (fun e _ => by rw [Nat.zero_add, Nat.add_comm])
theorem sumN_plus (f g : Nat → Int) : ∀ n, sumN (fun i => f i + g i) n = sumN f n + sumN g n
  | 0 => rfl
  | n + 1 => by simp only [sumN]; rw [sumN_plus f g n]; omega
theorem sumN_turn (g : Nat → Nat → Int) (n : Nat) : ∀ m, sumN (fun i => sumN (fun j => g i j) n) m = sumN (fun j => sumN (fun i => g i j) m) n
  | 0 => by
    have : ∀ n, sumN (fun _ => (0 : Int)) n = 0 := fun n => by induction n with
      | zero => rfl
      | succ n ih => simp only [sumN]; rw [ih]; rfl
    exact (this n).symm
  | m + 1 => by simp only [sumN]; rw [sumN_turn g n m, ← sumN_plus]
theorem dtT_sP (k : Int) (g : Nat → Int × Int) (n : Nat) : dtT k (sP g n) = sP (fun i => dtT k (g i)) n := dtT_sum k (fun i => (g i).1) (fun i => (g i).2) n
theorem sP_turn (g : Nat → Nat → Int × Int) (n m : Nat) : sP (fun i => sP (fun j => g i j) n) m = sP (fun j => sP (fun i => g i j) m) n :=
  Prod.ext (sumN_turn (fun i j => (g i j).1) n m) (sumN_turn (fun i j => (g i j).2) n m)
theorem dtT_swap (a b : Int) (ha : 0 ≤ a ∧ a ≤ 3) (hb : 0 ≤ b ∧ b ≤ 3) (z : Int × Int) : dtT a (dtT b z) = dtT b (dtT a z) := by
  rw [dtT_comp a b ha hb, dtT_comp b a hb ha, Int.add_comm]
theorem tr_lin (w b m : Nat) (a : Nat → Int) (ha : ∀ f, 0 ≤ a f ∧ a f ≤ 3) (Y : Nat → Nat → Int × Int) : ∀ (k q : Nat), trF w b k (fun i => sP (fun f => dtT (a f) (Y f i)) m) q = sP (fun f => dtT (a f) (trF w b k (Y f) q)) m
  | 0, _ => rfl
  | k + 1, q => by
    have ih : trF w b k (fun i => sP (fun f => dtT (a f) (Y f i)) m) = fun q => sP (fun f => dtT (a f) (trF w b k (Y f) q)) m := funext (tr_lin w b m a ha Y k)
    show stF w b (b ^ k) (trF w b k _) q = sP (fun f => dtT (a f) (stF w b (b ^ k) (trF w b k (Y f)) q)) m
    rw [ih]
    have e : ∀ Z : Nat → Int × Int, stF w b (b ^ k) Z q = sP (fun d => dtT ((w * (q % (b * b ^ k) / b ^ k * d) % 4 : Nat) : Int) (Z (q / (b * b ^ k) * (b * b ^ k) + (q % (b * b ^ k) % b ^ k + d * b ^ k)))) b := fun Z => rfl
    rw [e]
    simp only [dtT_sP]
    rw [sP_turn]
    refine sP_ext (fun f _ => ?_)
    rw [e, dtT_sP]
    refine sP_ext (fun d _ => ?_)
    exact dtT_swap _ _ (by omega) (ha f) _
def scP (c : Int) (z : Int × Int) : Int × Int := (c * z.1, c * z.2)
theorem dtT_sc (k c : Int) (z : Int × Int) : dtT k (scP c z) = scP c (dtT k z) := by
  unfold dtT scP
  ext <;> dsimp only
  · rw [Int.mul_sub, Int.mul_left_comm, Int.mul_left_comm c (vy k)]
  · rw [Int.mul_add, Int.mul_left_comm, Int.mul_left_comm c (vy k)]
theorem sumN_sc (c : Int) (g : Nat → Int) : ∀ n, sumN (fun i => c * g i) n = c * sumN g n
  | 0 => (Int.mul_zero c).symm
  | n + 1 => by simp only [sumN]; rw [sumN_sc c g n, Int.mul_add]
theorem sP_sc (c : Int) (g : Nat → Int × Int) (n : Nat) : sP (fun i => scP c (g i)) n = scP c (sP g n) :=
  Prod.ext (sumN_sc c (fun i => (g i).1) n) (sumN_sc c (fun i => (g i).2) n)
theorem tr_sc (w b : Nat) (c : Int) (Z : Nat → Int × Int) : ∀ (k q : Nat), trF w b k (fun i => scP c (Z i)) q = scP c (trF w b k Z q)
  | 0, _ => rfl
  | k + 1, q => by
    have ih : trF w b k (fun i => scP c (Z i)) = fun q => scP c (trF w b k Z q) := funext (tr_sc w b c Z k)
    have e : ∀ Z : Nat → Int × Int, stF w b (b ^ k) Z q = sP (fun d => dtT ((w * (q % (b * b ^ k) / b ^ k * d) % 4 : Nat) : Int) (Z (q / (b * b ^ k) * (b * b ^ k) + (q % (b * b ^ k) % b ^ k + d * b ^ k)))) b := fun Z => rfl
    show stF w b (b ^ k) (trF w b k _) q = scP c (stF w b (b ^ k) (trF w b k Z) q)
    rw [ih, e, e, ← sP_sc]
    exact sP_ext (fun d _ => dtT_sc _ _ _)
/-- The waves of two kinds undo each other. -/
def Undo (w o b : Nat) : Prop := (w = 3 ∧ o = 1 ∧ b = 4) ∨ (w = 1 ∧ o = 3 ∧ b = 4) ∨ (w = 2 ∧ o = 2 ∧ b = 2)
theorem orth {w o b : Nat} (h : Undo w o b) (X : Nat → Int × Int) (d : Nat) (hd : d < b) : sP (fun e => dtT ((w * (d * e) % 4 : Nat) : Int) (sP (fun f => dtT ((o * (e * f) % 4 : Nat) : Int) (X f)) b)) b = scP b (X d) := by
  rcases h with ⟨rfl, rfl, rfl⟩ | ⟨rfl, rfl, rfl⟩ | ⟨rfl, rfl, rfl⟩
  · rcases (show d = 0 ∨ d = 1 ∨ d = 2 ∨ d = 3 by omega) with rfl | rfl | rfl | rfl <;>
      (simp [sP, sumN, dtT, vx, vy, scP]; omega)
  · rcases (show d = 0 ∨ d = 1 ∨ d = 2 ∨ d = 3 by omega) with rfl | rfl | rfl | rfl <;>
      (simp [sP, sumN, dtT, vx, vy, scP]; omega)
  · rcases (show d = 0 ∨ d = 1 by omega) with rfl | rfl <;>
      (simp [sP, sumN, dtT, vx, vy, scP]; omega)
theorem scP_scP (a b : Int) (z : Int × Int) : scP a (scP b z) = scP (a * b) z := by
  unfold scP; rw [Int.mul_assoc, Int.mul_assoc]
theorem tr_inv {w o b : Nat} (h : Undo w o b) : ∀ (k : Nat) (Z : Nat → Int × Int) (q : Nat), q < b ^ k → trF w b k (trF o b k Z) q = scP ((b ^ k : Nat) : Int) (Z q)
  | 0, Z, q, _ => by
    show Z q = scP ((1 : Nat) : Int) (Z q)
    unfold scP
    rw [Int.natCast_one, Int.one_mul, Int.one_mul]
  | k + 1, Z, q, hq => by
    have ih := tr_inv h k
    have hb : 0 < b := by rcases h with ⟨_, _, rfl⟩ | ⟨_, _, rfl⟩ | ⟨_, _, rfl⟩ <;> omega
    have hs0 : 0 < b ^ k := Nat.pow_pos hb
    have hdd : q / b ^ k < b := Nat.div_lt_of_lt_mul (by rw [Nat.mul_comm, ← Nat.pow_succ']; exact hq)
    have hr := Nat.mod_lt q hs0
    have hq2 : q = q / b ^ k * b ^ k + q % b ^ k := by have := Nat.div_add_mod q (b ^ k); rw [Nat.mul_comm] at this; exact this.symm
    obtain ⟨d, hd⟩ : ∃ d, d = q / b ^ k := ⟨_, rfl⟩
    obtain ⟨r, hrr⟩ : ∃ d, d = q % b ^ k := ⟨_, rfl⟩
    rw [← hd] at hdd hq2
    rw [← hrr] at hr hq2
    rw [hq2, tr_top w b k _ d r hdd hr]
    have inner : ∀ e, e < b → trF w b k (trF o b (k + 1) Z) (e * b ^ k + r) = sP (fun f => dtT ((o * (e * f) % 4 : Nat) : Int) (scP ((b ^ k : Nat) : Int) (Z (f * b ^ k + r)))) b := by
      intro e he
      have h1 := tr_local w b k (trF o b (k + 1) Z) (fun p => sP (fun f => dtT ((o * (e * f) % 4 : Nat) : Int) (trF o b k (fun i => Z (f * b ^ k + i)) p)) b) e 0 r hr (fun i hi => by
        rw [tr_top o b k Z e i he hi]
        refine sP_ext (fun f _ => ?_)
        have h2 := tr_local o b k Z (fun i => Z (f * b ^ k + i)) f 0 i hi (fun j _ => by rw [Nat.zero_mul, Nat.zero_add])
        rw [h2])
      rw [h1, tr_lin w b b (fun f => ((o * (e * f) % 4 : Nat) : Int)) (fun f => by omega) (fun f => trF o b k (fun i => Z (f * b ^ k + i)))]
      refine sP_ext (fun f _ => ?_)
      rw [Nat.zero_mul, Nat.zero_add, ih _ r hr]
    rw [sP_ext (fun e he => by rw [inner e he]), orth h (fun f => scP ((b ^ k : Nat) : Int) (Z (f * b ^ k + r))) d hdd, scP_scP]
    rw [Nat.pow_succ', Int.natCast_mul]
/-- The numbers divided make the transform just if each could be divided. -/
theorem tr_back {w o b K : Nat} (h : Undo w o b) (Z D : Nat → Int × Int) : (∀ i, i < b ^ K → trF w b K D i = Z i) ↔ (∀ i, i < b ^ K → trF o b K Z i = scP ((b ^ K : Nat) : Int) (D i)) := by
  have h' : Undo o w b := by
    rcases h with ⟨rfl, rfl, rfl⟩ | ⟨rfl, rfl, rfl⟩ | ⟨rfl, rfl, rfl⟩
    · exact Or.inr (Or.inl ⟨rfl, rfl, rfl⟩)
    · exact Or.inl ⟨rfl, rfl, rfl⟩
    · exact Or.inr (Or.inr ⟨rfl, rfl, rfl⟩)
  have hloc : ∀ (w : Nat) (Z Y : Nat → Int × Int) (q : Nat), q < b ^ K → (∀ i, i < b ^ K → Z i = Y i) → trF w b K Z q = trF w b K Y q := fun w Z Y q hq hh => by
    have := tr_local w b K Z Y 0 0 q hq (fun i hi => by rw [Nat.zero_mul, Nat.zero_add]; exact hh i hi)
    rwa [Nat.zero_mul, Nat.zero_add] at this
  constructor
  · intro hD i hi
    rw [← tr_inv h' K D i hi]
    exact hloc o Z _ i hi (fun j hj => (hD j hj).symm)
  · intro hD i hi
    have hb : 0 < b := by rcases h with ⟨_, _, rfl⟩ | ⟨_, _, rfl⟩ | ⟨_, _, rfl⟩ <;> omega
    have e1 := tr_inv h K Z i hi
    rw [hloc w _ (fun i => scP ((b ^ K : Nat) : Int) (D i)) i hi hD, tr_sc] at e1
    have hp : ((b ^ K : Nat) : Int) ≠ 0 := by have := Nat.pow_pos (n := K) hb; omega
    unfold scP at e1
    have e2 := congrArg Prod.fst e1
    have e3 := congrArg Prod.snd e1
    exact Prod.ext (Int.eq_of_mul_eq_mul_left hp e2) (Int.eq_of_mul_eq_mul_left hp e3)

/-! ### lists divided -/
def dvP (n x y : Int) : Bool := decide (x.tmod n = 0) && decide (y.tmod n = 0)
def shTo (n : Int) (L : List (Int × Int)) (k : Nat) : Bool := (List.range k).all (fun i => dvP n (gre L i) (gim L i))
def shL (n : Int) (L : List (Int × Int)) : List (Int × Int) := genG L.length (fun i => (gre L i).tdiv n) (fun i => (gim L i).tdiv n)
def shOk (n : Int) (L : List (Int × Int)) : Bool := shTo n L L.length && goodL (shL n L)
def shA (n : Int) (L : List (Int × Int)) : List (Int × Int) := if shOk n L then shL n L else []
theorem shTo_succ (n : Int) (L : List (Int × Int)) (k : Nat) : shTo n L (k + 1) = (shTo n L k && dvP n (gre L k) (gim L k)) := by
  unfold shTo; rw [List.range_succ, List.all_append]; simp
theorem sh_no {n : Int} {L : List (Int × Int)} {k : Nat} (hk : k < L.length) (h : dvP n (gre L k) (gim L k) = false) : shTo n L L.length = false := by
  unfold shTo
  rw [List.all_eq_false]
  exact ⟨k, List.mem_range.2 hk, by simpa using h⟩
theorem shA_len (n : Int) (L : List (Int × Int)) (h : L.length ≤ 1048576) : (shA n L).length ≤ 1048576 := by
  unfold shA
  split
  · unfold shL; rw [genG_length]; exact h
  · simp
def tbOk (l : List (Int × Int)) : Bool := tfOk l && shOk l.length (drL (-1) l)
def tbA (l : List (Int × Int)) : List (Int × Int) := if tbOk l then shL l.length (drL (-1) l) else []
def wbOk (l : List (Int × Int)) : Bool := waOk0 l && shOk l.length (waL l)
def wbA (l : List (Int × Int)) : List (Int × Int) := if wbOk l then shL l.length (waL l) else []
theorem tbA_len (l : List (Int × Int)) : (tbA l).length ≤ 1048576 := by
  unfold tbA
  cases h : tbOk l with
  | false => simp
  | true =>
    unfold tbOk at h
    have := tfOk_len (Bool.and_eq_true_iff.1 h).1
    rw [if_pos rfl]
    unfold shL
    rw [genG_length, drL_len]
    omega
theorem wbA_len (l : List (Int × Int)) : (wbA l).length ≤ 1048576 := by
  unfold wbA
  cases h : wbOk l with
  | false => simp
  | true =>
    unfold wbOk waOk0 at h
    have := wa_cases (Bool.and_eq_true_iff.1 (Bool.and_eq_true_iff.1 h).1).1
    rw [if_pos rfl]
    unfold shL waL
    rw [genG_length, genG_length]
    omega
end
end Go.Proofs.Ytapmehgdnofgnab
